/- BoxChanges: for every room, match, list of numbers and box the law returns true (the rooms with a match more, without some, and with a box more, or the errors, are those of the reference, and nothing of what is handed in is changed or shared), and each argument reads afterwards as before. No condition. -/
import Derived.Test.YtminkpgacomicaaW03
import Derived.Deep.Slices
import Derived.ChangeSame
import Derived.OpenShut
import Derived.ProofKit
import Derived.Test.YtminkpgacomicaaRows
import Derived.WalkKit
import Derived.ChangeOld
import Derived.ShutString
section
set_option linter.unusedVariables false
set_option linter.unusedSimpArgs false
namespace Go.Proofs.Ytminkpgacomicaa
open Go Go.Fw
set_option maxRecDepth 10000
def RefR (F : Rm × Int) (H : List Row) (v : Value) (H' : List Row) : Prop := ∃ p Z, v = tup' F.1 p F.2 ∧ H' = Z ++ H ∧ RmOk Z F.1 p
theorem RmOk.zero (H : List Row) : RmOk H Rz pz := ⟨sleNil, sleNil, sleNil, Nat.zero_le _, Nat.zero_le _, Nat.zero_le _⟩
def ts44 : List TOp := [⟨some 37, [], [], []⟩, ⟨some 38, [], [], []⟩, ⟨some 39, [1], [1], []⟩, ⟨some 40, [], [], []⟩, ⟨some 41, [1, 2, 3], [2, 3], []⟩, ⟨some 42, [0, 1, 2, 3, 4], [0, 4], [0]⟩, ⟨some 43, [], [], []⟩, ⟨some 44, [6], [6], []⟩, ⟨some 45, [0, 1, 2, 3, 4, 5, 6, 7], [5, 7], [5, 7]⟩, ⟨some 46, [], [], []⟩, ⟨some 47, [9], [9], []⟩, ⟨some 48, [], [], []⟩, ⟨some 49, [9, 10, 11], [10, 11], []⟩, ⟨some 50, [0, 1, 2, 3, 4, 5, 6, 7, 8, 9, 10, 11, 12], [8, 12], [8]⟩, ⟨some 51, [0, 1, 2, 3, 4, 5, 6, 7, 8, 9, 10, 11, 12, 13], [], []⟩, ⟨none, [0, 1, 2, 3, 4, 5, 6, 7, 8, 9, 10, 11, 12, 13, 14], [14, 13], [16]⟩, ⟨none, [], [], []⟩]
def val44Mt (b2 b7 : Nat) (R : Rm) (p : Pl) (x : Mt) (k0 : Nat) (k : Nat) (env : Env) : Value :=
  match k with
  | 0 => .slice (some ⟨(env 0).1, 0, none⟩) 0 0
  | 1 => .pointer (some ⟨b2, 4, none⟩)
  | 2 => .slice p.a3 R.mats.length p.c3
  | 3 => .int .i64 k0
  | 4 => .slice p.a3 (R.mats.take k0).length p.c3
  | 5 => .slice (some ⟨(env 5).1, 0, none⟩) (R.mats.take k0).length (env 5).2
  | 6 => .agg (cMt x).toArray
  | 7 => .slice (some ⟨(env 7).1, 0, none⟩) 1 1
  | 8 => .slice (some ⟨(env 8).1, 0, none⟩) ((R.mats.take k0).length + 1) (env 8).2
  | 9 => .pointer (some ⟨b2, 4, none⟩)
  | 10 => .slice p.a3 R.mats.length p.c3
  | 11 => .int .i64 k0
  | 12 => .slice (sfrom p.a3 p.c3 k0 6) (R.mats.drop k0).length (p.c3 - k0)
  | 13 => .slice (some ⟨(env 13).1, 0, none⟩) (insMt x R.mats).length (env 13).2
  | 14 => .pointer (some ⟨b7, 4, none⟩)
  | _ => undef
def rows44Mt (b7 t1 k1 t2 k2 t3 k3 : Nat) (R : Rm) (x : Mt) (k0 : Nat) (k : Nat) (env : Env) : List Row :=
  match k with
  | 0 => [⟨(env 0).1, 0, [], some 30, 0⟩]
  | 5 => [⟨(env 5).1, 0, (R.mats.take k0).flatMap cMt, some 30, (env 5).2 * 6⟩]
  | 7 => [⟨(env 7).1, 0, cMt x, some 30, 1 * 6⟩]
  | 8 => [⟨(env 8).1, 0, (R.mats.take k0).flatMap cMt ++ cMt x, some 30, (env 8).2 * 6⟩]
  | 13 => [⟨(env 13).1, 0, (insMt x R.mats).flatMap cMt, some 30, (env 13).2 * 6⟩]
  | 15 => [⟨b7, 0, cRm (putRm R x) ⟨some ⟨t1, 0, none⟩, k1, some ⟨t2, 0, none⟩, k2, some ⟨(env 13).1, 0, none⟩, (env 13).2⟩, some 26, 5⟩]
  | 16 => [⟨b7, 0, cRm R ⟨some ⟨t1, 0, none⟩, k1, some ⟨t2, 0, none⟩, k2, some ⟨t3, 0, none⟩, k3⟩, some 26, 5⟩]
  | _ => []
theorem loc44Mt (b2 b7 t1 k1 t2 k2 t3 k3 : Nat) (R : Rm) (p : Pl) (x : Mt) (k0 : Nat) : ∀ k env i q9, i ≠ k → (tAt ts44 k).sup.contains i = false → val44Mt b2 b7 R p x k0 k (upd env i q9) = val44Mt b2 b7 R p x k0 k env ∧ rows44Mt b7 t1 k1 t2 k2 t3 k3 R x k0 k (upd env i q9) = rows44Mt b7 t1 k1 t2 k2 t3 k3 R x k0 k env := by
  intro k env i q hk hs
  have hu : ∀ j, j ≠ i → upd env i q j = env j := fun j hj => by unfold upd; rw [if_neg hj]
  match k, hk, hs with
  | 0, hk, hs => exact ⟨by simp only [val44Mt, hu 0 (fun e => hk e.symm)], by simp only [rows44Mt, hu 0 (fun e => hk e.symm)]⟩
  | 1, _, _ => exact ⟨rfl, rfl⟩
  | 2, _, _ => exact ⟨rfl, rfl⟩
  | 3, _, _ => exact ⟨rfl, rfl⟩
  | 4, _, _ => exact ⟨rfl, rfl⟩
  | 5, hk, hs => exact ⟨by simp only [val44Mt, hu 5 (fun e => hk e.symm)], by simp only [rows44Mt, hu 5 (fun e => hk e.symm)]⟩
  | 6, _, _ => exact ⟨rfl, rfl⟩
  | 7, hk, hs => exact ⟨by simp only [val44Mt, hu 7 (fun e => hk e.symm)], by simp only [rows44Mt, hu 7 (fun e => hk e.symm)]⟩
  | 8, hk, hs => exact ⟨by simp only [val44Mt, hu 8 (fun e => hk e.symm)], by simp only [rows44Mt, hu 8 (fun e => hk e.symm)]⟩
  | 9, _, _ => exact ⟨rfl, rfl⟩
  | 10, _, _ => exact ⟨rfl, rfl⟩
  | 11, _, _ => exact ⟨rfl, rfl⟩
  | 12, _, _ => exact ⟨rfl, rfl⟩
  | 13, hk, hs => exact ⟨by simp only [val44Mt, hu 13 (fun e => hk e.symm)], by simp only [rows44Mt, hu 13 (fun e => hk e.symm)]⟩
  | 14, _, _ => exact ⟨rfl, rfl⟩
  | 15, hk, hs => exact ⟨by simp only [val44Mt, hu 13 (by rintro rfl; cases hs)], by simp only [rows44Mt, hu 13 (by rintro rfl; cases hs)]⟩
  | 16, _, _ => exact ⟨rfl, rfl⟩
  | _ + 17, _, _ => exact ⟨rfl, rfl⟩
set_option maxHeartbeats 8000000 in
theorem refputRm_spec (R : Rm) (p : Pl) (x : Mt) (H : List Row) (hR : RmOk H R p) (h1 : R.ages.length ≤ 1000000) (h2 : R.boxes.length ≤ 1000000) (h3 : R.mats.length ≤ 1000000) (hc : R.mats.length ≤ p.c3) : Fc Try.prog 7 [.agg (cRm R p).toArray, .agg (cMt x).toArray] H (RefR (putF R x) H) := by
  have hR3 : ∀ r1 r2 r3, RmOk (r1 :: r2 :: r3 :: H) R p := fun r1 r2 r3 => hR.sub (fun _ h => List.Mem.tail _ (List.Mem.tail _ (List.Mem.tail _ h)))
  have hlen := lenMt R.mats
  have hil := insMt_len x R.mats
  obtain ⟨a1, c1, a2, c2, a3, c3⟩ := p
  dsimp only at hc
  refine Fc.mk (callable Try.call7) Try.func7 rfl Try.ntmps7 rfl ?_; dsimp only [fr]
  refine X.seq rfl ?_; refine X.region rfl (fun K hK => ?_); repeat' (first | (refine XO.op rfl ?_; (first | ((first | refine Xo.ng rfl ?_); (first | (refine Xg.ev (EvF.assign rfl rfl) rfl rfl ?_) | (refine Xg.st (StF.boxAgg rfl rfl) rfl rfl ?_; rintro _ _ ⟨bx, rfl, rfl⟩) | (refine Xg.st (StF.alloc rfl Try.zeroValue26 rfl) rfl rfl ?_; rintro _ _ ⟨bx, rfl, rfl⟩))))) | (refine XO.done rfl ?_; refine hK _ _ ?_; clear hK K))
  rename_i b2 b3
  rename Nat => b4
  repeat' (first | (refine XO.op rfl ?_; (first | ((first | refine Xo.ng rfl ?_); (first | (refine Xg.ev (EvF.build (cs := zR) rfl ArgsP.nil (te rfl) (Places.cons (te rfl) (Places.cons (te rfl) (Places.cons (te rfl) (Places.cons (te rfl) (Places.cons (te rfl) Places.nil))))) Try.zeroValue26 rfl) rfl rfl ?_) | (refine Xg.call (EnF.st rfl (by (repeat (first | exact Args.nil | refine Args.cons rfl ?_)); done)) rfl rfl (room_spec R _ _ (hR3 _ _ _)) ?_; rintro _ H9 ⟨rfl, hH9⟩; subst H9) | (refine Xg.ev (EvF.assign rfl rfl) rfl rfl ?_) | (refine Xg.ev (EvF.cmp rfl rfl rfl rfl) rfl rfl ?_) | (refine Xg.ev (EvF.not rfl rfl) rfl rfl ?_) | (refine Xg.ev (EvF.fieldAddr rfl rfl (te rfl) rfl (te rfl) (by decide)) rfl rfl ?_) | (refine Xg.ev (EvF.lenSlice rfl rfl (te rfl)) rfl rfl ?_) | (refine Xg.ev (EvF.loadV rfl rfl (LoadV.own (te rfl) rfl (List.Mem.tail _ (List.Mem.tail _ (List.Mem.head _))) rfl)) rfl rfl ?_) | (refine Xg.ev (EvF.loadV rfl rfl (LoadV.whole (te rfl) rfl (List.Mem.tail _ (List.Mem.tail _ (List.Mem.head _))) rfl)) rfl rfl ?_) | (refine Xg.st0 (StF.storeAll (i := 0) rfl rfl rfl (te rfl) rfl rfl rfl rfl) rfl ?_; rintro _ _ ⟨rfl, rfl⟩; dsimp only [List.set]))))) | (refine XO.done rfl ?_; refine hK _ _ ?_; clear hK K) | refine X.seq rfl ?_ | refine X.region rfl (fun K hK => ?_) | refine X.block rfl ?_ | refine X.skip rfl ?_ | refine X.ret rfl ?_ | (refine X.ite rfl rfl (fun hc => ?_); (first | (with_reducible refine Xb.case hc (fun h => ?_) (fun h => ?_)) | (with_reducible refine Xb.caseN hc (fun h => ?_) (fun h => ?_))) <;> clear hc))
  · refine ret_two (by first | exact .inr rfl | exact .inl rfl) Try.results7 ⟨_, rfl, LoadV.whole (te rfl) rfl (List.Mem.head _) rfl⟩ rfl (H' := H) (by (repeat (first | exact List.Sublist.refl _ | apply List.Sublist.cons)); done) ?_
    have e : putF R x = (Rz, 10) := by unfold putF; rw [if_neg h]
    unfold RefR; rw [e]
    exact ⟨pz, [], rfl, rfl, RmOk.zero _⟩
  · have hok : roomOk R := by assumption
    refine ret_two (by first | exact .inr rfl | exact .inl rfl) Try.results7 ⟨_, rfl, LoadV.whole (te rfl) rfl (List.Mem.head _) rfl⟩ rfl (H' := H) (by (repeat (first | exact List.Sublist.refl _ | apply List.Sublist.cons)); done) ?_
    have e : putF R x = (Rz, 9) := by unfold putF; rw [if_pos hok, if_pos (by omega)]
    unfold RefR; rw [e]
    exact ⟨pz, [], rfl, rfl, RmOk.zero _⟩
  have hok : roomOk R := by assumption
  have hlim : ¬ 8 ≤ R.mats.length := by
    have := hok.1
    unfold okHead at this
    omega
  refine X.lp rfl (fun q F' H' => ∃ k : Nat, q = R.mats.length - k ∧ k ≤ R.mats.length ∧ (∀ i e, i < k → R.mats[i]? = some e → e.number < x.number) ∧ ⟨b4, 0, zR, some 26, 5⟩ :: ⟨b3, 0, cMt x, some 30, 6⟩ :: ⟨b2, 0, cRm R ⟨a1, c1, a2, c2, a3, c3⟩, some 26, 5⟩ :: H = H' ∧
      F' = [(2, .pointer (some ⟨b2, 0, none⟩)), (3, .pointer (some ⟨b3, 0, none⟩)), (4, .pointer (some ⟨b4, 0, none⟩)), (6, .int .i64 k)])
    R.mats.length [(2, .pointer (some ⟨b2, 0, none⟩)), (3, .pointer (some ⟨b3, 0, none⟩)), (4, .pointer (some ⟨b4, 0, none⟩)), (6, .int .i64 (0 : Nat))] _ (by (repeat (first | exact Sub.nil _ | refine Sub.cons rfl ?_)); done) (by (repeat (first | exact List.Sublist.refl _ | apply List.Sublist.cons_cons | apply List.Sublist.cons)); done) ⟨0, by omega, by omega, fun i _ hi => absurd hi (by omega), rfl, rfl⟩ ?_
  rintro _ _ H2 ⟨k, rfl, hk, hn, hH, rfl⟩
  subst hH
  have hkl : (R.mats.take k).length = k := by rw [List.length_take]; omega
  have hlx : ((R.mats.take k).flatMap cMt ++ cMt x).length = ((R.mats.take k).length + 1) * 6 := by rw [List.length_append, lenMt]; show _ + 6 = _; omega
  by_cases hlt : k < R.mats.length
  · obtain ⟨b, off, e, rfl, he⟩ := hR.mats.elem (i := k) (by omega)
    repeat' (first | refine X.seq rfl ?_)
    refine X.regionD rfl mixed (by kernel_rfl) (fun K hK => ?_)
    repeat' (first | (refine XO.op rfl ?_; (first | ((first | refine Xo.ng rfl ?_); (first | (refine Xg.call (EnF.st rfl (by (repeat (first | exact Args.nil | refine Args.cons rfl ?_)); done)) rfl rfl (twin_spec R _ _ (hR3 _ _ _) h1 h2 h3) ?_; rintro _ _ ⟨t1, k1, t2, k2, t3, k3, rfl, rfl⟩) | (refine Xg.ev (EvF.move rfl rfl) rfl rfl ?_) | (refine Xg.ev (EvF.assign rfl rfl) rfl rfl ?_) | (refine Xg.ev (EvF.add64 rfl rfl rfl (by omega) (by omega)) rfl rfl ?_) | (refine Xg.ev (EvF.loadV rfl rfl (LoadV.whole (te rfl) rfl (List.Mem.tail _ (List.Mem.tail _ (List.Mem.head _))) rfl)) rfl rfl ?_) | (refine Xg.st (StF.alloc rfl Try.zeroValue26 rfl) rfl rfl ?_; rintro _ _ ⟨bx, rfl, rfl⟩) | (refine Xg.st0 (StF.storeAll (i := 0) rfl rfl rfl (te rfl) rfl rfl rfl rfl) rfl ?_; rintro _ _ ⟨rfl, rfl⟩; dsimp only [List.set]))))) | (refine XO.done rfl ?_; refine hK _ _ ?_; clear hK K) | (refine XQ.op rfl ?_; (first | ((first | refine Yo.ng rfl ?_ | (refine Yo.g rfl rfl ?_; with_reducible refine Yw.tt ?_)); (first | (refine Yg.ev (EvF.loadV rfl rfl (LoadV.el1 (hR3 _ _ _).mats he (te rfl) rfl (fun _ hm => hm) rfl)) rfl rfl ?_) | (refine Yg.ev (EvF.move rfl rfl) rfl rfl ?_) | (refine Yg.ev (EvF.pickT rfl rfl rfl) rfl rfl ?_) | (refine Yg.ev (EvF.pickF rfl rfl rfl) rfl rfl ?_) | (refine Yg.ev (EvF.cmp rfl rfl rfl rfl) rfl rfl ?_) | (refine Yg.ev (EvF.fieldAddr rfl rfl (te rfl) rfl (te rfl) (by decide)) rfl rfl ?_) | (refine Yg.ev (EvF.lenSlice rfl rfl (te rfl)) rfl rfl ?_) | (refine Yg.ev (EvF.indexSlice rfl rfl rfl (te rfl) (te rfl) (by omega) (by omega)) rfl rfl ?_) | (refine Yg.ev (EvF.loadV rfl rfl (LoadV.own (te rfl) rfl (List.Mem.tail _ (List.Mem.head _)) rfl)) rfl rfl ?_) | (refine Yg.ev (EvF.loadV rfl rfl (LoadV.own (te rfl) rfl (List.Mem.tail _ (List.Mem.tail _ (List.Mem.head _))) rfl)) rfl rfl ?_))) | (refine Yo.g rfl rfl ?_; (first | (with_reducible refine Yw.ft rfl rfl ?_) | (with_reducible refine Yw.case (fun h => ?_) (fun h => ?_) <;> simp only [h, decide_true, decide_false, Bool.not_true, Bool.not_false, and_self, and_true, true_and, and_false, false_and]))))) | (refine XQ.done rfl ?_; refine hK _ ?_; clear hK K) | refine X.seq rfl ?_ | refine X.region rfl (fun K hK => ?_) | refine X.block rfl ?_ | (refine X.brk rfl ?_; repeat (first | refine blockX_hit rfl ?_ | refine blockX_miss (by decide) ?_)) | refine X.skip rfl ?_ | (refine X.ite rfl rfl (fun hc => ?_); (first | (with_reducible refine Xb.f hc ?_) | (with_reducible refine Xb.case hc (fun h => ?_) (fun h => ?_))) <;> clear hc))
    any_goals (exfalso; omega)
    · refine ⟨_, [(2, .pointer (some ⟨b2, 0, none⟩)), (3, .pointer (some ⟨b3, 0, none⟩)), (4, .pointer (some ⟨b4, 0, none⟩)), (6, .int .i64 (k + 1 : Nat))], _, (by (repeat (first | exact Sub.nil _ | refine Sub.cons rfl ?_)); done), (by (repeat (first | exact List.Sublist.refl _ | apply List.Sublist.cons_cons | apply List.Sublist.cons)); done), ⟨k + 1, rfl, by omega, (fun i e' hi he' => ?_), rfl, rfl⟩, by omega⟩
      rcases Nat.lt_or_ge i k with h9 | h9
      · exact hn i e' h9 he'
      · obtain rfl : i = k := by omega
        rw [he] at he'; cases he'; assumption
    have hins := insMt_at x R.mats k hk hn (fun e' he' => by rw [he] at he'; cases he'; assumption)
    have hnl : (R.mats.take k).length + 1 + (R.mats.drop k).length = (insMt x R.mats).length := by rw [hil, List.length_take, List.length_drop]; omega
    have hfl : (R.mats.take k).flatMap cMt ++ cMt x ++ (R.mats.drop k).flatMap cMt = (insMt x R.mats).flatMap cMt := by rw [hins]; simp [List.flatMap_append]
    rename Nat => b7
    refine X.regionOb ts44 [2, 3, 4, 6, 7] [(2, .pointer (some ⟨b2, 0, none⟩)), (3, .pointer (some ⟨b3, 0, none⟩)), (4, .pointer (some ⟨b4, 0, none⟩)), (6, .int .i64 k), (7, .pointer (some ⟨b7, 0, none⟩))] (val44Mt b2 b7 R ⟨a1, c1, a2, c2, some ⟨b, off, none⟩, c3⟩ x k) (rows44Mt b7 t1 k1 t2 k2 t3 k3 R x k) (fun _ => (0, 0))
      (rAges R t1 k1 :: rBoxes R t2 k2 :: rMats R t3 k3 :: ⟨b4, 0, zR, some 26, 5⟩ :: ⟨b3, 0, cMt x, some 30, 6⟩ :: ⟨b2, 0, cRm R ⟨a1, c1, a2, c2, some ⟨b, off, none⟩, c3⟩, some 26, 5⟩ :: H) rfl mixed (by (repeat (first | exact Sub.nil _ | refine Sub.cons rfl ?_)); done) rfl (by kernel_rfl) (loc44Mt b2 b7 t1 k1 t2 k2 t3 k3 R _ x k) (List.Sublist.refl _) ?_ ?_
    · repeat' (first | exact AllF.done rfl | (refine AllF.step rfl ?_ ?_; · (first | fail | ((first | refine Ob.ng rfl ?_); (first | exact ObK.pure (fun env R hR => by exact ⟨_, EvF.move rfl rfl, rfl⟩) rfl (fun _ => rfl) | exact ObK.pure (fun env R hR => by exact ⟨_, EvF.fieldAddr rfl rfl (te rfl) rfl (te rfl) (by decide), rfl⟩) rfl (fun _ => rfl) | (exact fun env S hS => (StF.buildNil rfl el24).op.mono (fun v H' ⟨b, hv, hH⟩ => ⟨(b, 0), fun _ => hv, by rw [hH]; exact List.Perm.refl _⟩)) | (exact ObK.pure (fun env S hS => ⟨_, EvF.loadV rfl rfl (LoadV.own (te rfl) rfl (hS _ (List.Mem.tail _ (List.Mem.tail _ (List.Mem.tail _ (List.Mem.tail _ (List.Mem.tail _ (List.Mem.head _))))))) rfl), rfl⟩) rfl (fun _ => rfl)) | (exact ObK.pure (fun env S hS => ⟨_, EvF.loadV rfl rfl (LoadV.whole (te rfl) rfl (hS _ (List.Mem.tail _ (List.Mem.tail _ (List.Mem.tail _ (List.Mem.tail _ (List.Mem.head _)))))) rfl), rfl⟩) rfl (fun _ => rfl)) | (exact ObK.pure (fun env S hS => ⟨_, EvF.sliceTo (hh := k) rfl rfl (te rfl) (te rfl) rfl (by dsimp only; omega), by show Value.slice _ k _ = Value.slice _ (R.mats.take k).length _; rw [hkl]⟩) rfl (fun _ => rfl)) | (exact ObK.pure (fun env S hS => ⟨_, EvF.sliceFrom (lo := k) rfl rfl (te rfl) (te rfl) rfl hk hc, by show Value.slice _ (R.mats.length - k) _ = Value.slice _ (R.mats.drop k).length _; rw [List.length_drop]⟩) rfl (fun _ => rfl)) | (exact fun env S hS => (StF.buildOne rfl el24 rfl rfl rfl (by decide) (by decide)).op.mono (fun v H' ⟨b, hv, hH⟩ => ⟨(b, 0), fun _ => hv, by rw [hH]; exact List.Perm.refl _⟩)) | (exact fun env S hS => (StF.appendSl (i := 0) (l := R.mats.take k) rfl el24 rfl rfl rfl (sleTake (hR.mats.sub (fun r hr => List.mem_append_right _ (hS r (List.Mem.tail _ (List.Mem.tail _ (List.Mem.tail _ (List.Mem.tail _ (List.Mem.tail _ (List.Mem.tail _ hr))))))))) k) (fun e _ => one_mt e) rfl (by decide) (by omega)).op.mono (fun v H' ⟨b, c, hv, hH⟩ => ⟨(b, c), fun _ => by rw [hv, Nat.zero_add]; rfl, by rw [hH]; exact List.Perm.refl _⟩)) | (exact fun env S hS => (StF.appendOwn (i := 0) rfl el24 rfl rfl rfl (lenMt _) rfl (Rd.own (List.Mem.tail _ (List.Mem.head _))) rfl (by omega)).op.drop (fun v H' ⟨b, c, hv, hH⟩ => ⟨_, by rw [hH]; exact List.Sublist.cons_cons _ (List.Sublist.cons _ (List.Sublist.refl _)), (b, c), fun _ => hv, List.Perm.refl _⟩)) | (exact fun env S hS => (StF.appendSl (i := 0) (l := R.mats.drop k) rfl el24 rfl rfl rfl (sleFrom (hR.mats.sub (fun r hr => List.mem_append_right _ (hS r (List.Mem.tail _ (List.Mem.tail _ (List.Mem.tail _ (List.Mem.tail _ (List.Mem.tail _ (List.Mem.tail _ hr))))))))) hc k) (fun e _ => one_mt e) hlx (by decide) (by omega)).op.mono (fun v H' ⟨b, c, hv, hH⟩ => ⟨(b, c), fun _ => by rw [hv, hnl]; rfl, by rw [hH, hfl]; exact List.Perm.refl _⟩)) | (exact fun env S hS => (StF.storeOne (i := 0) rfl rfl rfl rfl (te rfl) rfl rfl (Nat.le_of_ble_eq_true rfl)).op.mono (fun v H' ⟨hv, hH⟩ => ⟨(0, 0), fun h => absurd rfl h, by rw [hH]; exact List.Perm.refl _⟩)))))))
    · intro env t ha hv
      refine ⟨_, ha, ?_⟩
      show X _ _ _ _ (⟨(env 13).1, 0, (insMt x R.mats).flatMap cMt, some 30, (env 13).2 * 6⟩ :: ⟨b7, 0, cRm (putRm R x) ⟨some ⟨t1, 0, none⟩, k1, some ⟨t2, 0, none⟩, k2, some ⟨(env 13).1, 0, none⟩, (env 13).2⟩, some 26, 5⟩ :: rAges R t1 k1 :: rBoxes R t2 k2 :: rMats R t3 k3 :: ⟨b4, 0, zR, some 26, 5⟩ :: ⟨b3, 0, cMt x, some 30, 6⟩ :: ⟨b2, 0, cRm R ⟨a1, c1, a2, c2, some ⟨b, off, none⟩, c3⟩, some 26, 5⟩ :: H) _
      repeat' (first | (refine XO.op rfl ?_; (first | ((first | refine Xo.ng rfl ?_); (first | (refine Xg.call (EnF.st rfl (by (repeat (first | exact Args.nil | refine Args.cons rfl ?_)); done)) rfl rfl (room_spec (putRm R x) ⟨some ⟨t1, 0, none⟩, k1, some ⟨t2, 0, none⟩, k2, some ⟨(env 13).1, 0, none⟩, (env 13).2⟩ _ ⟨ownSl (fun _ => rfl) (List.Mem.tail _ (List.Mem.tail _ (List.Mem.head _))), ownSl (fun _ => rfl) (List.Mem.tail _ (List.Mem.tail _ (List.Mem.tail _ (List.Mem.head _)))), ownSl (fun _ => rfl) (List.Mem.head _), hR.l1, hR.l2, (by show (insMt x R.mats).length ≤ _ ; omega)⟩) ?_; rintro _ H9 ⟨rfl, hH9⟩; subst H9) | (refine Xg.ev (EvF.build (cs := zR) rfl ArgsP.nil (te rfl) (Places.cons (te rfl) (Places.cons (te rfl) (Places.cons (te rfl) (Places.cons (te rfl) (Places.cons (te rfl) Places.nil))))) Try.zeroValue26 rfl) rfl rfl ?_) | (refine Xg.ev (EvF.assign rfl rfl) rfl rfl ?_) | (refine Xg.ev (EvF.not rfl rfl) rfl rfl ?_) | (refine Xg.ev (EvF.loadV rfl rfl (LoadV.whole (te rfl) rfl (List.Mem.tail _ (List.Mem.head _)) rfl)) rfl rfl ?_) | (refine Xg.st0 (StF.storeAll (i := 5) rfl rfl rfl (te rfl) rfl rfl rfl rfl) rfl ?_; rintro _ _ ⟨rfl, rfl⟩; dsimp only [List.set]))))) | (refine XO.done rfl ?_; refine hK _ _ ?_; clear hK K) | refine X.seq rfl ?_ | refine X.region rfl (fun K hK => ?_) | refine X.skip rfl ?_ | refine X.ret rfl ?_ | (refine X.ite rfl rfl (fun hc => ?_); (first | (with_reducible refine Xb.caseN hc (fun h => ?_) (fun h => ?_))) <;> clear hc))
      · refine ret_two (by first | exact .inr rfl | exact .inl rfl) Try.results7 ⟨_, rfl, LoadV.whole (te rfl) rfl (List.Mem.tail _ (List.Mem.tail _ (List.Mem.tail _ (List.Mem.tail _ (List.Mem.tail _ (List.Mem.head _)))))) rfl⟩ rfl (H' := H) (by (repeat (first | exact List.Sublist.refl _ | apply List.Sublist.cons)); done) ?_
        have e : putF R x = (Rz, 12) := by unfold putF; rw [if_pos hok, if_neg hlim, if_neg (by assumption)]
        unfold RefR; rw [e]
        exact ⟨pz, [], rfl, rfl, RmOk.zero _⟩
      · refine ret_two (by first | exact .inr rfl | exact .inl rfl) Try.results7 ⟨_, rfl, LoadV.whole (te rfl) rfl (List.Mem.tail _ (List.Mem.tail _ (List.Mem.tail _ (List.Mem.tail _ (List.Mem.tail _ (List.Mem.head _)))))) rfl⟩ rfl (H' := [⟨(env 13).1, 0, (insMt x R.mats).flatMap cMt, some 30, (env 13).2 * 6⟩, rAges R t1 k1, rBoxes R t2 k2, rMats R t3 k3] ++ H) (by (repeat (first | exact List.Sublist.refl _ | apply List.Sublist.cons_cons | apply List.Sublist.cons)); done) ?_
        have e : putF R x = (putRm R x, 0) := by unfold putF; rw [if_pos hok, if_neg hlim, if_pos (by assumption)]
        unfold RefR; rw [e]
        exact ⟨⟨some ⟨t1, 0, none⟩, k1, some ⟨t2, 0, none⟩, k2, some ⟨(env 13).1, 0, none⟩, (env 13).2⟩, _, rfl, rfl, ⟨ownSl (fun _ => rfl) (List.Mem.tail _ (List.Mem.head _)), ownSl (fun _ => rfl) (List.Mem.tail _ (List.Mem.tail _ (List.Mem.head _))), ownSl (fun _ => rfl) (List.Mem.head _), hR.l1, hR.l2, (by show (insMt x R.mats).length ≤ _ ; omega)⟩⟩
  · repeat' (first | refine X.seq rfl ?_)
    refine X.regionD rfl mixed (by kernel_rfl) (fun K hK => ?_)
    repeat' (first | (refine XO.op rfl ?_; (first | ((first | refine Xo.ng rfl ?_); (first | (refine Xg.call (EnF.st rfl (by (repeat (first | exact Args.nil | refine Args.cons rfl ?_)); done)) rfl rfl (twin_spec R _ _ (hR3 _ _ _) h1 h2 h3) ?_; rintro _ _ ⟨t1, k1, t2, k2, t3, k3, rfl, rfl⟩) | (refine Xg.ev (EvF.loadV rfl rfl (LoadV.whole (te rfl) rfl (List.Mem.tail _ (List.Mem.tail _ (List.Mem.head _))) rfl)) rfl rfl ?_) | (refine Xg.st (StF.alloc rfl Try.zeroValue26 rfl) rfl rfl ?_; rintro _ _ ⟨bx, rfl, rfl⟩) | (refine Xg.st0 (StF.storeAll (i := 0) rfl rfl rfl (te rfl) rfl rfl rfl rfl) rfl ?_; rintro _ _ ⟨rfl, rfl⟩; dsimp only [List.set]))))) | (refine XO.done rfl ?_; refine hK _ _ ?_; clear hK K) | (refine XQ.op rfl ?_; (first | ((first | refine Yo.ng rfl ?_ | (refine Yo.g rfl rfl ?_; with_reducible refine Yw.tt ?_)); (first | (refine Yg.ev (EvF.move rfl rfl) rfl rfl ?_) | (refine Yg.ev (EvF.pickF rfl rfl rfl) rfl rfl ?_) | (refine Yg.ev (EvF.cmp rfl rfl rfl rfl) rfl rfl ?_) | (refine Yg.ev (EvF.fieldAddr rfl rfl (te rfl) rfl (te rfl) (by decide)) rfl rfl ?_) | (refine Yg.ev (EvF.lenSlice rfl rfl (te rfl)) rfl rfl ?_) | (refine Yg.ev (EvF.loadV rfl rfl (LoadV.own (te rfl) rfl (List.Mem.tail _ (List.Mem.tail _ (List.Mem.head _))) rfl)) rfl rfl ?_))) | (refine Yo.g rfl rfl ?_; (first | (with_reducible refine Yw.ft rfl rfl ?_) | (with_reducible refine Yw.case (fun h => ?_) (fun h => ?_) <;> simp only [h, decide_true, decide_false, Bool.not_true, Bool.not_false, and_self, and_true, true_and, and_false, false_and]) | (with_reducible refine Yw.caseB (fun h => ?_) (fun h => ?_) <;> simp only [h, decide_true, decide_false, Bool.not_true, Bool.not_false, and_self, and_true, true_and, and_false, false_and]))))) | (refine XQ.done rfl ?_; refine hK _ ?_; clear hK K) | refine X.seq rfl ?_ | refine X.region rfl (fun K hK => ?_) | (refine X.brk rfl ?_; repeat (first | refine blockX_hit rfl ?_ | refine blockX_miss (by decide) ?_)) | (refine X.ite rfl rfl (fun hc => ?_); (first | (with_reducible refine Xb.f hc ?_)) <;> clear hc))
    any_goals (exfalso; omega)
    have hins := insMt_at x R.mats k hk hn (fun e' he' => by rw [List.getElem?_eq_none (by omega)] at he'; cases he')
    have hnl : (R.mats.take k).length + 1 + (R.mats.drop k).length = (insMt x R.mats).length := by rw [hil, List.length_take, List.length_drop]; omega
    have hfl : (R.mats.take k).flatMap cMt ++ cMt x ++ (R.mats.drop k).flatMap cMt = (insMt x R.mats).flatMap cMt := by rw [hins]; simp [List.flatMap_append]
    rename Nat => b7
    refine X.regionOb ts44 [2, 3, 4, 6, 7] [(2, .pointer (some ⟨b2, 0, none⟩)), (3, .pointer (some ⟨b3, 0, none⟩)), (4, .pointer (some ⟨b4, 0, none⟩)), (6, .int .i64 k), (7, .pointer (some ⟨b7, 0, none⟩))] (val44Mt b2 b7 R ⟨a1, c1, a2, c2, a3, c3⟩ x k) (rows44Mt b7 t1 k1 t2 k2 t3 k3 R x k) (fun _ => (0, 0))
      (rAges R t1 k1 :: rBoxes R t2 k2 :: rMats R t3 k3 :: ⟨b4, 0, zR, some 26, 5⟩ :: ⟨b3, 0, cMt x, some 30, 6⟩ :: ⟨b2, 0, cRm R ⟨a1, c1, a2, c2, a3, c3⟩, some 26, 5⟩ :: H) rfl mixed (by (repeat (first | exact Sub.nil _ | refine Sub.cons rfl ?_)); done) rfl (by kernel_rfl) (loc44Mt b2 b7 t1 k1 t2 k2 t3 k3 R _ x k) (List.Sublist.refl _) ?_ ?_
    · repeat' (first | exact AllF.done rfl | (refine AllF.step rfl ?_ ?_; · (first | fail | ((first | refine Ob.ng rfl ?_); (first | exact ObK.pure (fun env R hR => by exact ⟨_, EvF.move rfl rfl, rfl⟩) rfl (fun _ => rfl) | exact ObK.pure (fun env R hR => by exact ⟨_, EvF.fieldAddr rfl rfl (te rfl) rfl (te rfl) (by decide), rfl⟩) rfl (fun _ => rfl) | (exact fun env S hS => (StF.buildNil rfl el24).op.mono (fun v H' ⟨b, hv, hH⟩ => ⟨(b, 0), fun _ => hv, by rw [hH]; exact List.Perm.refl _⟩)) | (exact ObK.pure (fun env S hS => ⟨_, EvF.loadV rfl rfl (LoadV.own (te rfl) rfl (hS _ (List.Mem.tail _ (List.Mem.tail _ (List.Mem.tail _ (List.Mem.tail _ (List.Mem.tail _ (List.Mem.head _))))))) rfl), rfl⟩) rfl (fun _ => rfl)) | (exact ObK.pure (fun env S hS => ⟨_, EvF.loadV rfl rfl (LoadV.whole (te rfl) rfl (hS _ (List.Mem.tail _ (List.Mem.tail _ (List.Mem.tail _ (List.Mem.tail _ (List.Mem.head _)))))) rfl), rfl⟩) rfl (fun _ => rfl)) | (exact ObK.pure (fun env S hS => ⟨_, EvF.sliceTo (hh := k) rfl rfl (te rfl) (te rfl) rfl (by dsimp only; omega), by show Value.slice _ k _ = Value.slice _ (R.mats.take k).length _; rw [hkl]⟩) rfl (fun _ => rfl)) | (exact ObK.pure (fun env S hS => ⟨_, EvF.sliceFrom (lo := k) rfl rfl (te rfl) (te rfl) rfl hk hc, by show Value.slice _ (R.mats.length - k) _ = Value.slice _ (R.mats.drop k).length _; rw [List.length_drop]⟩) rfl (fun _ => rfl)) | (exact fun env S hS => (StF.buildOne rfl el24 rfl rfl rfl (by decide) (by decide)).op.mono (fun v H' ⟨b, hv, hH⟩ => ⟨(b, 0), fun _ => hv, by rw [hH]; exact List.Perm.refl _⟩)) | (exact fun env S hS => (StF.appendSl (i := 0) (l := R.mats.take k) rfl el24 rfl rfl rfl (sleTake (hR.mats.sub (fun r hr => List.mem_append_right _ (hS r (List.Mem.tail _ (List.Mem.tail _ (List.Mem.tail _ (List.Mem.tail _ (List.Mem.tail _ (List.Mem.tail _ hr))))))))) k) (fun e _ => one_mt e) rfl (by decide) (by omega)).op.mono (fun v H' ⟨b, c, hv, hH⟩ => ⟨(b, c), fun _ => by rw [hv, Nat.zero_add]; rfl, by rw [hH]; exact List.Perm.refl _⟩)) | (exact fun env S hS => (StF.appendOwn (i := 0) rfl el24 rfl rfl rfl (lenMt _) rfl (Rd.own (List.Mem.tail _ (List.Mem.head _))) rfl (by omega)).op.drop (fun v H' ⟨b, c, hv, hH⟩ => ⟨_, by rw [hH]; exact List.Sublist.cons_cons _ (List.Sublist.cons _ (List.Sublist.refl _)), (b, c), fun _ => hv, List.Perm.refl _⟩)) | (exact fun env S hS => (StF.appendSl (i := 0) (l := R.mats.drop k) rfl el24 rfl rfl rfl (sleFrom (hR.mats.sub (fun r hr => List.mem_append_right _ (hS r (List.Mem.tail _ (List.Mem.tail _ (List.Mem.tail _ (List.Mem.tail _ (List.Mem.tail _ (List.Mem.tail _ hr))))))))) hc k) (fun e _ => one_mt e) hlx (by decide) (by omega)).op.mono (fun v H' ⟨b, c, hv, hH⟩ => ⟨(b, c), fun _ => by rw [hv, hnl]; rfl, by rw [hH, hfl]; exact List.Perm.refl _⟩)) | (exact fun env S hS => (StF.storeOne (i := 0) rfl rfl rfl rfl (te rfl) rfl rfl (Nat.le_of_ble_eq_true rfl)).op.mono (fun v H' ⟨hv, hH⟩ => ⟨(0, 0), fun h => absurd rfl h, by rw [hH]; exact List.Perm.refl _⟩)))))))
    · intro env t ha hv
      refine ⟨_, ha, ?_⟩
      show X _ _ _ _ (⟨(env 13).1, 0, (insMt x R.mats).flatMap cMt, some 30, (env 13).2 * 6⟩ :: ⟨b7, 0, cRm (putRm R x) ⟨some ⟨t1, 0, none⟩, k1, some ⟨t2, 0, none⟩, k2, some ⟨(env 13).1, 0, none⟩, (env 13).2⟩, some 26, 5⟩ :: rAges R t1 k1 :: rBoxes R t2 k2 :: rMats R t3 k3 :: ⟨b4, 0, zR, some 26, 5⟩ :: ⟨b3, 0, cMt x, some 30, 6⟩ :: ⟨b2, 0, cRm R ⟨a1, c1, a2, c2, a3, c3⟩, some 26, 5⟩ :: H) _
      repeat' (first | (refine XO.op rfl ?_; (first | ((first | refine Xo.ng rfl ?_); (first | (refine Xg.call (EnF.st rfl (by (repeat (first | exact Args.nil | refine Args.cons rfl ?_)); done)) rfl rfl (room_spec (putRm R x) ⟨some ⟨t1, 0, none⟩, k1, some ⟨t2, 0, none⟩, k2, some ⟨(env 13).1, 0, none⟩, (env 13).2⟩ _ ⟨ownSl (fun _ => rfl) (List.Mem.tail _ (List.Mem.tail _ (List.Mem.head _))), ownSl (fun _ => rfl) (List.Mem.tail _ (List.Mem.tail _ (List.Mem.tail _ (List.Mem.head _)))), ownSl (fun _ => rfl) (List.Mem.head _), hR.l1, hR.l2, (by show (insMt x R.mats).length ≤ _ ; omega)⟩) ?_; rintro _ H9 ⟨rfl, hH9⟩; subst H9) | (refine Xg.ev (EvF.build (cs := zR) rfl ArgsP.nil (te rfl) (Places.cons (te rfl) (Places.cons (te rfl) (Places.cons (te rfl) (Places.cons (te rfl) (Places.cons (te rfl) Places.nil))))) Try.zeroValue26 rfl) rfl rfl ?_) | (refine Xg.ev (EvF.assign rfl rfl) rfl rfl ?_) | (refine Xg.ev (EvF.not rfl rfl) rfl rfl ?_) | (refine Xg.ev (EvF.loadV rfl rfl (LoadV.whole (te rfl) rfl (List.Mem.tail _ (List.Mem.head _)) rfl)) rfl rfl ?_) | (refine Xg.st0 (StF.storeAll (i := 5) rfl rfl rfl (te rfl) rfl rfl rfl rfl) rfl ?_; rintro _ _ ⟨rfl, rfl⟩; dsimp only [List.set]))))) | (refine XO.done rfl ?_; refine hK _ _ ?_; clear hK K) | refine X.seq rfl ?_ | refine X.region rfl (fun K hK => ?_) | refine X.skip rfl ?_ | refine X.ret rfl ?_ | (refine X.ite rfl rfl (fun hc => ?_); (first | (with_reducible refine Xb.caseN hc (fun h => ?_) (fun h => ?_))) <;> clear hc))
      · refine ret_two (by first | exact .inr rfl | exact .inl rfl) Try.results7 ⟨_, rfl, LoadV.whole (te rfl) rfl (List.Mem.tail _ (List.Mem.tail _ (List.Mem.tail _ (List.Mem.tail _ (List.Mem.tail _ (List.Mem.head _)))))) rfl⟩ rfl (H' := H) (by (repeat (first | exact List.Sublist.refl _ | apply List.Sublist.cons)); done) ?_
        have e : putF R x = (Rz, 12) := by unfold putF; rw [if_pos hok, if_neg hlim, if_neg (by assumption)]
        unfold RefR; rw [e]
        exact ⟨pz, [], rfl, rfl, RmOk.zero _⟩
      · refine ret_two (by first | exact .inr rfl | exact .inl rfl) Try.results7 ⟨_, rfl, LoadV.whole (te rfl) rfl (List.Mem.tail _ (List.Mem.tail _ (List.Mem.tail _ (List.Mem.tail _ (List.Mem.tail _ (List.Mem.head _)))))) rfl⟩ rfl (H' := [⟨(env 13).1, 0, (insMt x R.mats).flatMap cMt, some 30, (env 13).2 * 6⟩, rAges R t1 k1, rBoxes R t2 k2, rMats R t3 k3] ++ H) (by (repeat (first | exact List.Sublist.refl _ | apply List.Sublist.cons_cons | apply List.Sublist.cons)); done) ?_
        have e : putF R x = (putRm R x, 0) := by unfold putF; rw [if_pos hok, if_neg hlim, if_pos (by assumption)]
        unfold RefR; rw [e]
        exact ⟨⟨some ⟨t1, 0, none⟩, k1, some ⟨t2, 0, none⟩, k2, some ⟨(env 13).1, 0, none⟩, (env 13).2⟩, _, rfl, rfl, ⟨ownSl (fun _ => rfl) (List.Mem.tail _ (List.Mem.head _)), ownSl (fun _ => rfl) (List.Mem.tail _ (List.Mem.tail _ (List.Mem.head _))), ownSl (fun _ => rfl) (List.Mem.head _), hR.l1, hR.l2, (by show (insMt x R.mats).length ≤ _ ; omega)⟩⟩
def val44Bx (b2 b7 : Nat) (R : Rm) (p : Pl) (x : Bx) (k0 : Nat) (k : Nat) (env : Env) : Value :=
  match k with
  | 0 => .slice (some ⟨(env 0).1, 0, none⟩) 0 0
  | 1 => .pointer (some ⟨b2, 3, none⟩)
  | 2 => .slice p.a2 R.boxes.length p.c2
  | 3 => .int .i64 k0
  | 4 => .slice p.a2 (R.boxes.take k0).length p.c2
  | 5 => .slice (some ⟨(env 5).1, 0, none⟩) (R.boxes.take k0).length (env 5).2
  | 6 => .agg (cBx x).toArray
  | 7 => .slice (some ⟨(env 7).1, 0, none⟩) 1 1
  | 8 => .slice (some ⟨(env 8).1, 0, none⟩) ((R.boxes.take k0).length + 1) (env 8).2
  | 9 => .pointer (some ⟨b2, 3, none⟩)
  | 10 => .slice p.a2 R.boxes.length p.c2
  | 11 => .int .i64 k0
  | 12 => .slice (sfrom p.a2 p.c2 k0 2) (R.boxes.drop k0).length (p.c2 - k0)
  | 13 => .slice (some ⟨(env 13).1, 0, none⟩) (insBx x R.boxes).length (env 13).2
  | 14 => .pointer (some ⟨b7, 3, none⟩)
  | _ => undef
def rows44Bx (b7 t1 k1 t2 k2 t3 k3 : Nat) (R : Rm) (x : Bx) (k0 : Nat) (k : Nat) (env : Env) : List Row :=
  match k with
  | 0 => [⟨(env 0).1, 0, [], some 33, 0⟩]
  | 5 => [⟨(env 5).1, 0, (R.boxes.take k0).flatMap cBx, some 33, (env 5).2 * 2⟩]
  | 7 => [⟨(env 7).1, 0, cBx x, some 33, 1 * 2⟩]
  | 8 => [⟨(env 8).1, 0, (R.boxes.take k0).flatMap cBx ++ cBx x, some 33, (env 8).2 * 2⟩]
  | 13 => [⟨(env 13).1, 0, (insBx x R.boxes).flatMap cBx, some 33, (env 13).2 * 2⟩]
  | 15 => [⟨b7, 0, cRm (addRm R x) ⟨some ⟨t1, 0, none⟩, k1, some ⟨(env 13).1, 0, none⟩, (env 13).2, some ⟨t3, 0, none⟩, k3⟩, some 26, 5⟩]
  | 16 => [⟨b7, 0, cRm R ⟨some ⟨t1, 0, none⟩, k1, some ⟨t2, 0, none⟩, k2, some ⟨t3, 0, none⟩, k3⟩, some 26, 5⟩]
  | _ => []
theorem loc44Bx (b2 b7 t1 k1 t2 k2 t3 k3 : Nat) (R : Rm) (p : Pl) (x : Bx) (k0 : Nat) : ∀ k env i q9, i ≠ k → (tAt ts44 k).sup.contains i = false → val44Bx b2 b7 R p x k0 k (upd env i q9) = val44Bx b2 b7 R p x k0 k env ∧ rows44Bx b7 t1 k1 t2 k2 t3 k3 R x k0 k (upd env i q9) = rows44Bx b7 t1 k1 t2 k2 t3 k3 R x k0 k env := by
  intro k env i q hk hs
  have hu : ∀ j, j ≠ i → upd env i q j = env j := fun j hj => by unfold upd; rw [if_neg hj]
  match k, hk, hs with
  | 0, hk, hs => exact ⟨by simp only [val44Bx, hu 0 (fun e => hk e.symm)], by simp only [rows44Bx, hu 0 (fun e => hk e.symm)]⟩
  | 1, _, _ => exact ⟨rfl, rfl⟩
  | 2, _, _ => exact ⟨rfl, rfl⟩
  | 3, _, _ => exact ⟨rfl, rfl⟩
  | 4, _, _ => exact ⟨rfl, rfl⟩
  | 5, hk, hs => exact ⟨by simp only [val44Bx, hu 5 (fun e => hk e.symm)], by simp only [rows44Bx, hu 5 (fun e => hk e.symm)]⟩
  | 6, _, _ => exact ⟨rfl, rfl⟩
  | 7, hk, hs => exact ⟨by simp only [val44Bx, hu 7 (fun e => hk e.symm)], by simp only [rows44Bx, hu 7 (fun e => hk e.symm)]⟩
  | 8, hk, hs => exact ⟨by simp only [val44Bx, hu 8 (fun e => hk e.symm)], by simp only [rows44Bx, hu 8 (fun e => hk e.symm)]⟩
  | 9, _, _ => exact ⟨rfl, rfl⟩
  | 10, _, _ => exact ⟨rfl, rfl⟩
  | 11, _, _ => exact ⟨rfl, rfl⟩
  | 12, _, _ => exact ⟨rfl, rfl⟩
  | 13, hk, hs => exact ⟨by simp only [val44Bx, hu 13 (fun e => hk e.symm)], by simp only [rows44Bx, hu 13 (fun e => hk e.symm)]⟩
  | 14, _, _ => exact ⟨rfl, rfl⟩
  | 15, hk, hs => exact ⟨by simp only [val44Bx, hu 13 (by rintro rfl; cases hs)], by simp only [rows44Bx, hu 13 (by rintro rfl; cases hs)]⟩
  | 16, _, _ => exact ⟨rfl, rfl⟩
  | _ + 17, _, _ => exact ⟨rfl, rfl⟩
set_option maxHeartbeats 8000000 in
theorem refaddRm_spec (R : Rm) (p : Pl) (x : Bx) (H : List Row) (hR : RmOk H R p) (h1 : R.ages.length ≤ 1000000) (h2 : R.boxes.length ≤ 1000000) (h3 : R.mats.length ≤ 1000000) (hc : R.boxes.length ≤ p.c2) : Fc Try.prog 11 [.agg (cRm R p).toArray, .agg (cBx x).toArray] H (RefR (addF R x) H) := by
  have hR3 : ∀ r1 r2 r3, RmOk (r1 :: r2 :: r3 :: H) R p := fun r1 r2 r3 => hR.sub (fun _ h => List.Mem.tail _ (List.Mem.tail _ (List.Mem.tail _ h)))
  have hlen := lenBx R.boxes
  have hil := insBx_len x R.boxes
  obtain ⟨a1, c1, a2, c2, a3, c3⟩ := p
  dsimp only at hc
  refine Fc.mk (callable Try.call11) Try.func11 rfl Try.ntmps11 rfl ?_; dsimp only [fr]
  refine X.seq rfl ?_; refine X.region rfl (fun K hK => ?_); repeat' (first | (refine XO.op rfl ?_; (first | ((first | refine Xo.ng rfl ?_); (first | (refine Xg.ev (EvF.assign rfl rfl) rfl rfl ?_) | (refine Xg.st (StF.boxAgg rfl rfl) rfl rfl ?_; rintro _ _ ⟨bx, rfl, rfl⟩) | (refine Xg.st (StF.alloc rfl Try.zeroValue26 rfl) rfl rfl ?_; rintro _ _ ⟨bx, rfl, rfl⟩))))) | (refine XO.done rfl ?_; refine hK _ _ ?_; clear hK K))
  rename_i b2 b3
  rename Nat => b4
  repeat' (first | (refine XO.op rfl ?_; (first | ((first | refine Xo.ng rfl ?_); (first | (refine Xg.ev (EvF.build (cs := zR) rfl ArgsP.nil (te rfl) (Places.cons (te rfl) (Places.cons (te rfl) (Places.cons (te rfl) (Places.cons (te rfl) (Places.cons (te rfl) Places.nil))))) Try.zeroValue26 rfl) rfl rfl ?_) | (refine Xg.call (EnF.st rfl (by (repeat (first | exact Args.nil | refine Args.cons rfl ?_)); done)) rfl rfl (room_spec R _ _ (hR3 _ _ _)) ?_; rintro _ H9 ⟨rfl, hH9⟩; subst H9) | (refine Xg.ev (EvF.assign rfl rfl) rfl rfl ?_) | (refine Xg.ev (EvF.cmp rfl rfl rfl rfl) rfl rfl ?_) | (refine Xg.ev (EvF.not rfl rfl) rfl rfl ?_) | (refine Xg.ev (EvF.fieldAddr rfl rfl (te rfl) rfl (te rfl) (by decide)) rfl rfl ?_) | (refine Xg.ev (EvF.lenSlice rfl rfl (te rfl)) rfl rfl ?_) | (refine Xg.ev (EvF.loadV rfl rfl (LoadV.own (te rfl) rfl (List.Mem.tail _ (List.Mem.tail _ (List.Mem.head _))) rfl)) rfl rfl ?_) | (refine Xg.ev (EvF.loadV rfl rfl (LoadV.whole (te rfl) rfl (List.Mem.tail _ (List.Mem.tail _ (List.Mem.head _))) rfl)) rfl rfl ?_) | (refine Xg.st0 (StF.storeAll (i := 0) rfl rfl rfl (te rfl) rfl rfl rfl rfl) rfl ?_; rintro _ _ ⟨rfl, rfl⟩; dsimp only [List.set]))))) | (refine XO.done rfl ?_; refine hK _ _ ?_; clear hK K) | refine X.seq rfl ?_ | refine X.region rfl (fun K hK => ?_) | refine X.block rfl ?_ | refine X.skip rfl ?_ | refine X.ret rfl ?_ | (refine X.ite rfl rfl (fun hc => ?_); (first | (with_reducible refine Xb.case hc (fun h => ?_) (fun h => ?_)) | (with_reducible refine Xb.caseN hc (fun h => ?_) (fun h => ?_))) <;> clear hc))
  · refine ret_two (by first | exact .inr rfl | exact .inl rfl) Try.results11 ⟨_, rfl, LoadV.whole (te rfl) rfl (List.Mem.head _) rfl⟩ rfl (H' := H) (by (repeat (first | exact List.Sublist.refl _ | apply List.Sublist.cons)); done) ?_
    have e : addF R x = (Rz, 10) := by unfold addF; rw [if_neg h]
    unfold RefR; rw [e]
    exact ⟨pz, [], rfl, rfl, RmOk.zero _⟩
  · have hok : roomOk R := by assumption
    refine ret_two (by first | exact .inr rfl | exact .inl rfl) Try.results11 ⟨_, rfl, LoadV.whole (te rfl) rfl (List.Mem.head _) rfl⟩ rfl (H' := H) (by (repeat (first | exact List.Sublist.refl _ | apply List.Sublist.cons)); done) ?_
    have e : addF R x = (Rz, 9) := by unfold addF; rw [if_pos hok, if_pos (by omega)]
    unfold RefR; rw [e]
    exact ⟨pz, [], rfl, rfl, RmOk.zero _⟩
  have hok : roomOk R := by assumption
  have hlim : ¬ 4 ≤ R.boxes.length := by
    have := hok.1
    unfold okHead at this
    omega
  refine X.lp rfl (fun q F' H' => ∃ k : Nat, q = R.boxes.length - k ∧ k ≤ R.boxes.length ∧ (∀ i e, i < k → R.boxes[i]? = some e → e.id < x.id) ∧ ⟨b4, 0, zR, some 26, 5⟩ :: ⟨b3, 0, cBx x, some 33, 2⟩ :: ⟨b2, 0, cRm R ⟨a1, c1, a2, c2, a3, c3⟩, some 26, 5⟩ :: H = H' ∧
      F' = [(2, .pointer (some ⟨b2, 0, none⟩)), (3, .pointer (some ⟨b3, 0, none⟩)), (4, .pointer (some ⟨b4, 0, none⟩)), (6, .int .i64 k)])
    R.boxes.length [(2, .pointer (some ⟨b2, 0, none⟩)), (3, .pointer (some ⟨b3, 0, none⟩)), (4, .pointer (some ⟨b4, 0, none⟩)), (6, .int .i64 (0 : Nat))] _ (by (repeat (first | exact Sub.nil _ | refine Sub.cons rfl ?_)); done) (by (repeat (first | exact List.Sublist.refl _ | apply List.Sublist.cons_cons | apply List.Sublist.cons)); done) ⟨0, by omega, by omega, fun i _ hi => absurd hi (by omega), rfl, rfl⟩ ?_
  rintro _ _ H2 ⟨k, rfl, hk, hn, hH, rfl⟩
  subst hH
  have hkl : (R.boxes.take k).length = k := by rw [List.length_take]; omega
  have hlx : ((R.boxes.take k).flatMap cBx ++ cBx x).length = ((R.boxes.take k).length + 1) * 2 := by rw [List.length_append, lenBx]; show _ + 2 = _; omega
  by_cases hlt : k < R.boxes.length
  · obtain ⟨b, off, e, rfl, he⟩ := hR.boxes.elem (i := k) (by omega)
    repeat' (first | refine X.seq rfl ?_)
    refine X.regionD rfl mixed (by kernel_rfl) (fun K hK => ?_)
    repeat' (first | (refine XO.op rfl ?_; (first | ((first | refine Xo.ng rfl ?_); (first | (refine Xg.call (EnF.st rfl (by (repeat (first | exact Args.nil | refine Args.cons rfl ?_)); done)) rfl rfl (twin_spec R _ _ (hR3 _ _ _) h1 h2 h3) ?_; rintro _ _ ⟨t1, k1, t2, k2, t3, k3, rfl, rfl⟩) | (refine Xg.ev (EvF.move rfl rfl) rfl rfl ?_) | (refine Xg.ev (EvF.assign rfl rfl) rfl rfl ?_) | (refine Xg.ev (EvF.add64 rfl rfl rfl (by omega) (by omega)) rfl rfl ?_) | (refine Xg.ev (EvF.loadV rfl rfl (LoadV.whole (te rfl) rfl (List.Mem.tail _ (List.Mem.tail _ (List.Mem.head _))) rfl)) rfl rfl ?_) | (refine Xg.st (StF.alloc rfl Try.zeroValue26 rfl) rfl rfl ?_; rintro _ _ ⟨bx, rfl, rfl⟩) | (refine Xg.st0 (StF.storeAll (i := 0) rfl rfl rfl (te rfl) rfl rfl rfl rfl) rfl ?_; rintro _ _ ⟨rfl, rfl⟩; dsimp only [List.set]))))) | (refine XO.done rfl ?_; refine hK _ _ ?_; clear hK K) | (refine XQ.op rfl ?_; (first | ((first | refine Yo.ng rfl ?_ | (refine Yo.g rfl rfl ?_; with_reducible refine Yw.tt ?_)); (first | (refine Yg.ev (EvF.loadV rfl rfl (LoadV.el1 (hR3 _ _ _).boxes he (te rfl) rfl (fun _ hm => hm) rfl)) rfl rfl ?_) | (refine Yg.ev (EvF.move rfl rfl) rfl rfl ?_) | (refine Yg.ev (EvF.pickT rfl rfl rfl) rfl rfl ?_) | (refine Yg.ev (EvF.pickF rfl rfl rfl) rfl rfl ?_) | (refine Yg.ev (EvF.cmp rfl rfl rfl rfl) rfl rfl ?_) | (refine Yg.ev (EvF.fieldAddr rfl rfl (te rfl) rfl (te rfl) (by decide)) rfl rfl ?_) | (refine Yg.ev (EvF.lenSlice rfl rfl (te rfl)) rfl rfl ?_) | (refine Yg.ev (EvF.indexSlice rfl rfl rfl (te rfl) (te rfl) (by omega) (by omega)) rfl rfl ?_) | (refine Yg.ev (EvF.loadV rfl rfl (LoadV.own (te rfl) rfl (List.Mem.tail _ (List.Mem.head _)) rfl)) rfl rfl ?_) | (refine Yg.ev (EvF.loadV rfl rfl (LoadV.own (te rfl) rfl (List.Mem.tail _ (List.Mem.tail _ (List.Mem.head _))) rfl)) rfl rfl ?_))) | (refine Yo.g rfl rfl ?_; (first | (with_reducible refine Yw.ft rfl rfl ?_) | (with_reducible refine Yw.case (fun h => ?_) (fun h => ?_) <;> simp only [h, decide_true, decide_false, Bool.not_true, Bool.not_false, and_self, and_true, true_and, and_false, false_and]))))) | (refine XQ.done rfl ?_; refine hK _ ?_; clear hK K) | refine X.seq rfl ?_ | refine X.region rfl (fun K hK => ?_) | refine X.block rfl ?_ | (refine X.brk rfl ?_; repeat (first | refine blockX_hit rfl ?_ | refine blockX_miss (by decide) ?_)) | refine X.skip rfl ?_ | (refine X.ite rfl rfl (fun hc => ?_); (first | (with_reducible refine Xb.f hc ?_) | (with_reducible refine Xb.case hc (fun h => ?_) (fun h => ?_))) <;> clear hc))
    any_goals (exfalso; omega)
    · refine ⟨_, [(2, .pointer (some ⟨b2, 0, none⟩)), (3, .pointer (some ⟨b3, 0, none⟩)), (4, .pointer (some ⟨b4, 0, none⟩)), (6, .int .i64 (k + 1 : Nat))], _, (by (repeat (first | exact Sub.nil _ | refine Sub.cons rfl ?_)); done), (by (repeat (first | exact List.Sublist.refl _ | apply List.Sublist.cons_cons | apply List.Sublist.cons)); done), ⟨k + 1, rfl, by omega, (fun i e' hi he' => ?_), rfl, rfl⟩, by omega⟩
      rcases Nat.lt_or_ge i k with h9 | h9
      · exact hn i e' h9 he'
      · obtain rfl : i = k := by omega
        rw [he] at he'; cases he'; assumption
    have hins := insBx_at x R.boxes k hk hn (fun e' he' => by rw [he] at he'; cases he'; assumption)
    have hnl : (R.boxes.take k).length + 1 + (R.boxes.drop k).length = (insBx x R.boxes).length := by rw [hil, List.length_take, List.length_drop]; omega
    have hfl : (R.boxes.take k).flatMap cBx ++ cBx x ++ (R.boxes.drop k).flatMap cBx = (insBx x R.boxes).flatMap cBx := by rw [hins]; simp [List.flatMap_append]
    rename Nat => b7
    refine X.regionOb ts44 [2, 3, 4, 6, 7] [(2, .pointer (some ⟨b2, 0, none⟩)), (3, .pointer (some ⟨b3, 0, none⟩)), (4, .pointer (some ⟨b4, 0, none⟩)), (6, .int .i64 k), (7, .pointer (some ⟨b7, 0, none⟩))] (val44Bx b2 b7 R ⟨a1, c1, some ⟨b, off, none⟩, c2, a3, c3⟩ x k) (rows44Bx b7 t1 k1 t2 k2 t3 k3 R x k) (fun _ => (0, 0))
      (rAges R t1 k1 :: rBoxes R t2 k2 :: rMats R t3 k3 :: ⟨b4, 0, zR, some 26, 5⟩ :: ⟨b3, 0, cBx x, some 33, 2⟩ :: ⟨b2, 0, cRm R ⟨a1, c1, some ⟨b, off, none⟩, c2, a3, c3⟩, some 26, 5⟩ :: H) rfl mixed (by (repeat (first | exact Sub.nil _ | refine Sub.cons rfl ?_)); done) rfl (by kernel_rfl) (loc44Bx b2 b7 t1 k1 t2 k2 t3 k3 R _ x k) (List.Sublist.refl _) ?_ ?_
    · repeat' (first | exact AllF.done rfl | (refine AllF.step rfl ?_ ?_; · (first | fail | ((first | refine Ob.ng rfl ?_); (first | exact ObK.pure (fun env R hR => by exact ⟨_, EvF.move rfl rfl, rfl⟩) rfl (fun _ => rfl) | exact ObK.pure (fun env R hR => by exact ⟨_, EvF.fieldAddr rfl rfl (te rfl) rfl (te rfl) (by decide), rfl⟩) rfl (fun _ => rfl) | (exact fun env S hS => (StF.buildNil rfl el23).op.mono (fun v H' ⟨b, hv, hH⟩ => ⟨(b, 0), fun _ => hv, by rw [hH]; exact List.Perm.refl _⟩)) | (exact ObK.pure (fun env S hS => ⟨_, EvF.loadV rfl rfl (LoadV.own (te rfl) rfl (hS _ (List.Mem.tail _ (List.Mem.tail _ (List.Mem.tail _ (List.Mem.tail _ (List.Mem.tail _ (List.Mem.head _))))))) rfl), rfl⟩) rfl (fun _ => rfl)) | (exact ObK.pure (fun env S hS => ⟨_, EvF.loadV rfl rfl (LoadV.whole (te rfl) rfl (hS _ (List.Mem.tail _ (List.Mem.tail _ (List.Mem.tail _ (List.Mem.tail _ (List.Mem.head _)))))) rfl), rfl⟩) rfl (fun _ => rfl)) | (exact ObK.pure (fun env S hS => ⟨_, EvF.sliceTo (hh := k) rfl rfl (te rfl) (te rfl) rfl (by dsimp only; omega), by show Value.slice _ k _ = Value.slice _ (R.boxes.take k).length _; rw [hkl]⟩) rfl (fun _ => rfl)) | (exact ObK.pure (fun env S hS => ⟨_, EvF.sliceFrom (lo := k) rfl rfl (te rfl) (te rfl) rfl hk hc, by show Value.slice _ (R.boxes.length - k) _ = Value.slice _ (R.boxes.drop k).length _; rw [List.length_drop]⟩) rfl (fun _ => rfl)) | (exact fun env S hS => (StF.buildOne rfl el23 rfl rfl rfl (by decide) (by decide)).op.mono (fun v H' ⟨b, hv, hH⟩ => ⟨(b, 0), fun _ => hv, by rw [hH]; exact List.Perm.refl _⟩)) | (exact fun env S hS => (StF.appendSl (i := 0) (l := R.boxes.take k) rfl el23 rfl rfl rfl (sleTake (hR.boxes.sub (fun r hr => List.mem_append_right _ (hS r (List.Mem.tail _ (List.Mem.tail _ (List.Mem.tail _ (List.Mem.tail _ (List.Mem.tail _ (List.Mem.tail _ hr))))))))) k) (fun e _ => one_bx e) rfl (by decide) (by omega)).op.mono (fun v H' ⟨b, c, hv, hH⟩ => ⟨(b, c), fun _ => by rw [hv, Nat.zero_add]; rfl, by rw [hH]; exact List.Perm.refl _⟩)) | (exact fun env S hS => (StF.appendOwn (i := 0) rfl el23 rfl rfl rfl (lenBx _) rfl (Rd.own (List.Mem.tail _ (List.Mem.head _))) rfl (by omega)).op.drop (fun v H' ⟨b, c, hv, hH⟩ => ⟨_, by rw [hH]; exact List.Sublist.cons_cons _ (List.Sublist.cons _ (List.Sublist.refl _)), (b, c), fun _ => hv, List.Perm.refl _⟩)) | (exact fun env S hS => (StF.appendSl (i := 0) (l := R.boxes.drop k) rfl el23 rfl rfl rfl (sleFrom (hR.boxes.sub (fun r hr => List.mem_append_right _ (hS r (List.Mem.tail _ (List.Mem.tail _ (List.Mem.tail _ (List.Mem.tail _ (List.Mem.tail _ (List.Mem.tail _ hr))))))))) hc k) (fun e _ => one_bx e) hlx (by decide) (by omega)).op.mono (fun v H' ⟨b, c, hv, hH⟩ => ⟨(b, c), fun _ => by rw [hv, hnl]; rfl, by rw [hH, hfl]; exact List.Perm.refl _⟩)) | (exact fun env S hS => (StF.storeOne (i := 0) rfl rfl rfl rfl (te rfl) rfl rfl (Nat.le_of_ble_eq_true rfl)).op.mono (fun v H' ⟨hv, hH⟩ => ⟨(0, 0), fun h => absurd rfl h, by rw [hH]; exact List.Perm.refl _⟩)))))))
    · intro env t ha hv
      refine ⟨_, ha, ?_⟩
      show X _ _ _ _ (⟨(env 13).1, 0, (insBx x R.boxes).flatMap cBx, some 33, (env 13).2 * 2⟩ :: ⟨b7, 0, cRm (addRm R x) ⟨some ⟨t1, 0, none⟩, k1, some ⟨(env 13).1, 0, none⟩, (env 13).2, some ⟨t3, 0, none⟩, k3⟩, some 26, 5⟩ :: rAges R t1 k1 :: rBoxes R t2 k2 :: rMats R t3 k3 :: ⟨b4, 0, zR, some 26, 5⟩ :: ⟨b3, 0, cBx x, some 33, 2⟩ :: ⟨b2, 0, cRm R ⟨a1, c1, some ⟨b, off, none⟩, c2, a3, c3⟩, some 26, 5⟩ :: H) _
      repeat' (first | (refine XO.op rfl ?_; (first | ((first | refine Xo.ng rfl ?_); (first | (refine Xg.call (EnF.st rfl (by (repeat (first | exact Args.nil | refine Args.cons rfl ?_)); done)) rfl rfl (room_spec (addRm R x) ⟨some ⟨t1, 0, none⟩, k1, some ⟨(env 13).1, 0, none⟩, (env 13).2, some ⟨t3, 0, none⟩, k3⟩ _ ⟨ownSl (fun _ => rfl) (List.Mem.tail _ (List.Mem.tail _ (List.Mem.head _))), ownSl (fun _ => rfl) (List.Mem.head _), ownSl (fun _ => rfl) (List.Mem.tail _ (List.Mem.tail _ (List.Mem.tail _ (List.Mem.tail _ (List.Mem.head _))))), hR.l1, (by show (insBx x R.boxes).length ≤ _ ; omega), hR.l3⟩) ?_; rintro _ H9 ⟨rfl, hH9⟩; subst H9) | (refine Xg.ev (EvF.build (cs := zR) rfl ArgsP.nil (te rfl) (Places.cons (te rfl) (Places.cons (te rfl) (Places.cons (te rfl) (Places.cons (te rfl) (Places.cons (te rfl) Places.nil))))) Try.zeroValue26 rfl) rfl rfl ?_) | (refine Xg.ev (EvF.assign rfl rfl) rfl rfl ?_) | (refine Xg.ev (EvF.not rfl rfl) rfl rfl ?_) | (refine Xg.ev (EvF.loadV rfl rfl (LoadV.whole (te rfl) rfl (List.Mem.tail _ (List.Mem.head _)) rfl)) rfl rfl ?_) | (refine Xg.st0 (StF.storeAll (i := 5) rfl rfl rfl (te rfl) rfl rfl rfl rfl) rfl ?_; rintro _ _ ⟨rfl, rfl⟩; dsimp only [List.set]))))) | (refine XO.done rfl ?_; refine hK _ _ ?_; clear hK K) | refine X.seq rfl ?_ | refine X.region rfl (fun K hK => ?_) | refine X.skip rfl ?_ | refine X.ret rfl ?_ | (refine X.ite rfl rfl (fun hc => ?_); (first | (with_reducible refine Xb.caseN hc (fun h => ?_) (fun h => ?_))) <;> clear hc))
      · refine ret_two (by first | exact .inr rfl | exact .inl rfl) Try.results11 ⟨_, rfl, LoadV.whole (te rfl) rfl (List.Mem.tail _ (List.Mem.tail _ (List.Mem.tail _ (List.Mem.tail _ (List.Mem.tail _ (List.Mem.head _)))))) rfl⟩ rfl (H' := H) (by (repeat (first | exact List.Sublist.refl _ | apply List.Sublist.cons)); done) ?_
        have e : addF R x = (Rz, 13) := by unfold addF; rw [if_pos hok, if_neg hlim, if_neg (by assumption)]
        unfold RefR; rw [e]
        exact ⟨pz, [], rfl, rfl, RmOk.zero _⟩
      · refine ret_two (by first | exact .inr rfl | exact .inl rfl) Try.results11 ⟨_, rfl, LoadV.whole (te rfl) rfl (List.Mem.tail _ (List.Mem.tail _ (List.Mem.tail _ (List.Mem.tail _ (List.Mem.tail _ (List.Mem.head _)))))) rfl⟩ rfl (H' := [⟨(env 13).1, 0, (insBx x R.boxes).flatMap cBx, some 33, (env 13).2 * 2⟩, rAges R t1 k1, rBoxes R t2 k2, rMats R t3 k3] ++ H) (by (repeat (first | exact List.Sublist.refl _ | apply List.Sublist.cons_cons | apply List.Sublist.cons)); done) ?_
        have e : addF R x = (addRm R x, 0) := by unfold addF; rw [if_pos hok, if_neg hlim, if_pos (by assumption)]
        unfold RefR; rw [e]
        exact ⟨⟨some ⟨t1, 0, none⟩, k1, some ⟨(env 13).1, 0, none⟩, (env 13).2, some ⟨t3, 0, none⟩, k3⟩, _, rfl, rfl, ⟨ownSl (fun _ => rfl) (List.Mem.tail _ (List.Mem.head _)), ownSl (fun _ => rfl) (List.Mem.head _), ownSl (fun _ => rfl) (List.Mem.tail _ (List.Mem.tail _ (List.Mem.tail _ (List.Mem.head _)))), hR.l1, (by show (insBx x R.boxes).length ≤ _ ; omega), hR.l3⟩⟩
  · repeat' (first | refine X.seq rfl ?_)
    refine X.regionD rfl mixed (by kernel_rfl) (fun K hK => ?_)
    repeat' (first | (refine XO.op rfl ?_; (first | ((first | refine Xo.ng rfl ?_); (first | (refine Xg.call (EnF.st rfl (by (repeat (first | exact Args.nil | refine Args.cons rfl ?_)); done)) rfl rfl (twin_spec R _ _ (hR3 _ _ _) h1 h2 h3) ?_; rintro _ _ ⟨t1, k1, t2, k2, t3, k3, rfl, rfl⟩) | (refine Xg.ev (EvF.loadV rfl rfl (LoadV.whole (te rfl) rfl (List.Mem.tail _ (List.Mem.tail _ (List.Mem.head _))) rfl)) rfl rfl ?_) | (refine Xg.st (StF.alloc rfl Try.zeroValue26 rfl) rfl rfl ?_; rintro _ _ ⟨bx, rfl, rfl⟩) | (refine Xg.st0 (StF.storeAll (i := 0) rfl rfl rfl (te rfl) rfl rfl rfl rfl) rfl ?_; rintro _ _ ⟨rfl, rfl⟩; dsimp only [List.set]))))) | (refine XO.done rfl ?_; refine hK _ _ ?_; clear hK K) | (refine XQ.op rfl ?_; (first | ((first | refine Yo.ng rfl ?_ | (refine Yo.g rfl rfl ?_; with_reducible refine Yw.tt ?_)); (first | (refine Yg.ev (EvF.move rfl rfl) rfl rfl ?_) | (refine Yg.ev (EvF.pickF rfl rfl rfl) rfl rfl ?_) | (refine Yg.ev (EvF.cmp rfl rfl rfl rfl) rfl rfl ?_) | (refine Yg.ev (EvF.fieldAddr rfl rfl (te rfl) rfl (te rfl) (by decide)) rfl rfl ?_) | (refine Yg.ev (EvF.lenSlice rfl rfl (te rfl)) rfl rfl ?_) | (refine Yg.ev (EvF.loadV rfl rfl (LoadV.own (te rfl) rfl (List.Mem.tail _ (List.Mem.tail _ (List.Mem.head _))) rfl)) rfl rfl ?_))) | (refine Yo.g rfl rfl ?_; (first | (with_reducible refine Yw.ft rfl rfl ?_) | (with_reducible refine Yw.case (fun h => ?_) (fun h => ?_) <;> simp only [h, decide_true, decide_false, Bool.not_true, Bool.not_false, and_self, and_true, true_and, and_false, false_and]) | (with_reducible refine Yw.caseB (fun h => ?_) (fun h => ?_) <;> simp only [h, decide_true, decide_false, Bool.not_true, Bool.not_false, and_self, and_true, true_and, and_false, false_and]))))) | (refine XQ.done rfl ?_; refine hK _ ?_; clear hK K) | refine X.seq rfl ?_ | refine X.region rfl (fun K hK => ?_) | (refine X.brk rfl ?_; repeat (first | refine blockX_hit rfl ?_ | refine blockX_miss (by decide) ?_)) | (refine X.ite rfl rfl (fun hc => ?_); (first | (with_reducible refine Xb.f hc ?_)) <;> clear hc))
    any_goals (exfalso; omega)
    have hins := insBx_at x R.boxes k hk hn (fun e' he' => by rw [List.getElem?_eq_none (by omega)] at he'; cases he')
    have hnl : (R.boxes.take k).length + 1 + (R.boxes.drop k).length = (insBx x R.boxes).length := by rw [hil, List.length_take, List.length_drop]; omega
    have hfl : (R.boxes.take k).flatMap cBx ++ cBx x ++ (R.boxes.drop k).flatMap cBx = (insBx x R.boxes).flatMap cBx := by rw [hins]; simp [List.flatMap_append]
    rename Nat => b7
    refine X.regionOb ts44 [2, 3, 4, 6, 7] [(2, .pointer (some ⟨b2, 0, none⟩)), (3, .pointer (some ⟨b3, 0, none⟩)), (4, .pointer (some ⟨b4, 0, none⟩)), (6, .int .i64 k), (7, .pointer (some ⟨b7, 0, none⟩))] (val44Bx b2 b7 R ⟨a1, c1, a2, c2, a3, c3⟩ x k) (rows44Bx b7 t1 k1 t2 k2 t3 k3 R x k) (fun _ => (0, 0))
      (rAges R t1 k1 :: rBoxes R t2 k2 :: rMats R t3 k3 :: ⟨b4, 0, zR, some 26, 5⟩ :: ⟨b3, 0, cBx x, some 33, 2⟩ :: ⟨b2, 0, cRm R ⟨a1, c1, a2, c2, a3, c3⟩, some 26, 5⟩ :: H) rfl mixed (by (repeat (first | exact Sub.nil _ | refine Sub.cons rfl ?_)); done) rfl (by kernel_rfl) (loc44Bx b2 b7 t1 k1 t2 k2 t3 k3 R _ x k) (List.Sublist.refl _) ?_ ?_
    · repeat' (first | exact AllF.done rfl | (refine AllF.step rfl ?_ ?_; · (first | fail | ((first | refine Ob.ng rfl ?_); (first | exact ObK.pure (fun env R hR => by exact ⟨_, EvF.move rfl rfl, rfl⟩) rfl (fun _ => rfl) | exact ObK.pure (fun env R hR => by exact ⟨_, EvF.fieldAddr rfl rfl (te rfl) rfl (te rfl) (by decide), rfl⟩) rfl (fun _ => rfl) | (exact fun env S hS => (StF.buildNil rfl el23).op.mono (fun v H' ⟨b, hv, hH⟩ => ⟨(b, 0), fun _ => hv, by rw [hH]; exact List.Perm.refl _⟩)) | (exact ObK.pure (fun env S hS => ⟨_, EvF.loadV rfl rfl (LoadV.own (te rfl) rfl (hS _ (List.Mem.tail _ (List.Mem.tail _ (List.Mem.tail _ (List.Mem.tail _ (List.Mem.tail _ (List.Mem.head _))))))) rfl), rfl⟩) rfl (fun _ => rfl)) | (exact ObK.pure (fun env S hS => ⟨_, EvF.loadV rfl rfl (LoadV.whole (te rfl) rfl (hS _ (List.Mem.tail _ (List.Mem.tail _ (List.Mem.tail _ (List.Mem.tail _ (List.Mem.head _)))))) rfl), rfl⟩) rfl (fun _ => rfl)) | (exact ObK.pure (fun env S hS => ⟨_, EvF.sliceTo (hh := k) rfl rfl (te rfl) (te rfl) rfl (by dsimp only; omega), by show Value.slice _ k _ = Value.slice _ (R.boxes.take k).length _; rw [hkl]⟩) rfl (fun _ => rfl)) | (exact ObK.pure (fun env S hS => ⟨_, EvF.sliceFrom (lo := k) rfl rfl (te rfl) (te rfl) rfl hk hc, by show Value.slice _ (R.boxes.length - k) _ = Value.slice _ (R.boxes.drop k).length _; rw [List.length_drop]⟩) rfl (fun _ => rfl)) | (exact fun env S hS => (StF.buildOne rfl el23 rfl rfl rfl (by decide) (by decide)).op.mono (fun v H' ⟨b, hv, hH⟩ => ⟨(b, 0), fun _ => hv, by rw [hH]; exact List.Perm.refl _⟩)) | (exact fun env S hS => (StF.appendSl (i := 0) (l := R.boxes.take k) rfl el23 rfl rfl rfl (sleTake (hR.boxes.sub (fun r hr => List.mem_append_right _ (hS r (List.Mem.tail _ (List.Mem.tail _ (List.Mem.tail _ (List.Mem.tail _ (List.Mem.tail _ (List.Mem.tail _ hr))))))))) k) (fun e _ => one_bx e) rfl (by decide) (by omega)).op.mono (fun v H' ⟨b, c, hv, hH⟩ => ⟨(b, c), fun _ => by rw [hv, Nat.zero_add]; rfl, by rw [hH]; exact List.Perm.refl _⟩)) | (exact fun env S hS => (StF.appendOwn (i := 0) rfl el23 rfl rfl rfl (lenBx _) rfl (Rd.own (List.Mem.tail _ (List.Mem.head _))) rfl (by omega)).op.drop (fun v H' ⟨b, c, hv, hH⟩ => ⟨_, by rw [hH]; exact List.Sublist.cons_cons _ (List.Sublist.cons _ (List.Sublist.refl _)), (b, c), fun _ => hv, List.Perm.refl _⟩)) | (exact fun env S hS => (StF.appendSl (i := 0) (l := R.boxes.drop k) rfl el23 rfl rfl rfl (sleFrom (hR.boxes.sub (fun r hr => List.mem_append_right _ (hS r (List.Mem.tail _ (List.Mem.tail _ (List.Mem.tail _ (List.Mem.tail _ (List.Mem.tail _ (List.Mem.tail _ hr))))))))) hc k) (fun e _ => one_bx e) hlx (by decide) (by omega)).op.mono (fun v H' ⟨b, c, hv, hH⟩ => ⟨(b, c), fun _ => by rw [hv, hnl]; rfl, by rw [hH, hfl]; exact List.Perm.refl _⟩)) | (exact fun env S hS => (StF.storeOne (i := 0) rfl rfl rfl rfl (te rfl) rfl rfl (Nat.le_of_ble_eq_true rfl)).op.mono (fun v H' ⟨hv, hH⟩ => ⟨(0, 0), fun h => absurd rfl h, by rw [hH]; exact List.Perm.refl _⟩)))))))
    · intro env t ha hv
      refine ⟨_, ha, ?_⟩
      show X _ _ _ _ (⟨(env 13).1, 0, (insBx x R.boxes).flatMap cBx, some 33, (env 13).2 * 2⟩ :: ⟨b7, 0, cRm (addRm R x) ⟨some ⟨t1, 0, none⟩, k1, some ⟨(env 13).1, 0, none⟩, (env 13).2, some ⟨t3, 0, none⟩, k3⟩, some 26, 5⟩ :: rAges R t1 k1 :: rBoxes R t2 k2 :: rMats R t3 k3 :: ⟨b4, 0, zR, some 26, 5⟩ :: ⟨b3, 0, cBx x, some 33, 2⟩ :: ⟨b2, 0, cRm R ⟨a1, c1, a2, c2, a3, c3⟩, some 26, 5⟩ :: H) _
      repeat' (first | (refine XO.op rfl ?_; (first | ((first | refine Xo.ng rfl ?_); (first | (refine Xg.call (EnF.st rfl (by (repeat (first | exact Args.nil | refine Args.cons rfl ?_)); done)) rfl rfl (room_spec (addRm R x) ⟨some ⟨t1, 0, none⟩, k1, some ⟨(env 13).1, 0, none⟩, (env 13).2, some ⟨t3, 0, none⟩, k3⟩ _ ⟨ownSl (fun _ => rfl) (List.Mem.tail _ (List.Mem.tail _ (List.Mem.head _))), ownSl (fun _ => rfl) (List.Mem.head _), ownSl (fun _ => rfl) (List.Mem.tail _ (List.Mem.tail _ (List.Mem.tail _ (List.Mem.tail _ (List.Mem.head _))))), hR.l1, (by show (insBx x R.boxes).length ≤ _ ; omega), hR.l3⟩) ?_; rintro _ H9 ⟨rfl, hH9⟩; subst H9) | (refine Xg.ev (EvF.build (cs := zR) rfl ArgsP.nil (te rfl) (Places.cons (te rfl) (Places.cons (te rfl) (Places.cons (te rfl) (Places.cons (te rfl) (Places.cons (te rfl) Places.nil))))) Try.zeroValue26 rfl) rfl rfl ?_) | (refine Xg.ev (EvF.assign rfl rfl) rfl rfl ?_) | (refine Xg.ev (EvF.not rfl rfl) rfl rfl ?_) | (refine Xg.ev (EvF.loadV rfl rfl (LoadV.whole (te rfl) rfl (List.Mem.tail _ (List.Mem.head _)) rfl)) rfl rfl ?_) | (refine Xg.st0 (StF.storeAll (i := 5) rfl rfl rfl (te rfl) rfl rfl rfl rfl) rfl ?_; rintro _ _ ⟨rfl, rfl⟩; dsimp only [List.set]))))) | (refine XO.done rfl ?_; refine hK _ _ ?_; clear hK K) | refine X.seq rfl ?_ | refine X.region rfl (fun K hK => ?_) | refine X.skip rfl ?_ | refine X.ret rfl ?_ | (refine X.ite rfl rfl (fun hc => ?_); (first | (with_reducible refine Xb.caseN hc (fun h => ?_) (fun h => ?_))) <;> clear hc))
      · refine ret_two (by first | exact .inr rfl | exact .inl rfl) Try.results11 ⟨_, rfl, LoadV.whole (te rfl) rfl (List.Mem.tail _ (List.Mem.tail _ (List.Mem.tail _ (List.Mem.tail _ (List.Mem.tail _ (List.Mem.head _)))))) rfl⟩ rfl (H' := H) (by (repeat (first | exact List.Sublist.refl _ | apply List.Sublist.cons)); done) ?_
        have e : addF R x = (Rz, 13) := by unfold addF; rw [if_pos hok, if_neg hlim, if_neg (by assumption)]
        unfold RefR; rw [e]
        exact ⟨pz, [], rfl, rfl, RmOk.zero _⟩
      · refine ret_two (by first | exact .inr rfl | exact .inl rfl) Try.results11 ⟨_, rfl, LoadV.whole (te rfl) rfl (List.Mem.tail _ (List.Mem.tail _ (List.Mem.tail _ (List.Mem.tail _ (List.Mem.tail _ (List.Mem.head _)))))) rfl⟩ rfl (H' := [⟨(env 13).1, 0, (insBx x R.boxes).flatMap cBx, some 33, (env 13).2 * 2⟩, rAges R t1 k1, rBoxes R t2 k2, rMats R t3 k3] ++ H) (by (repeat (first | exact List.Sublist.refl _ | apply List.Sublist.cons_cons | apply List.Sublist.cons)); done) ?_
        have e : addF R x = (addRm R x, 0) := by unfold addF; rw [if_pos hok, if_neg hlim, if_pos (by assumption)]
        unfold RefR; rw [e]
        exact ⟨⟨some ⟨t1, 0, none⟩, k1, some ⟨(env 13).1, 0, none⟩, (env 13).2, some ⟨t3, 0, none⟩, k3⟩, _, rfl, rfl, ⟨ownSl (fun _ => rfl) (List.Mem.tail _ (List.Mem.head _)), ownSl (fun _ => rfl) (List.Mem.head _), ownSl (fun _ => rfl) (List.Mem.tail _ (List.Mem.tail _ (List.Mem.tail _ (List.Mem.head _)))), hR.l1, (by show (insBx x R.boxes).length ≤ _ ; omega), hR.l3⟩⟩
end Go.Proofs.Ytminkpgacomicaa
end
section
set_option linter.unusedVariables false
set_option linter.unusedSimpArgs false
namespace Go.Proofs.Ytminkpgacomicaa
open Go Go.Fw
set_option maxRecDepth 10000
set_option maxHeartbeats 4000000 in
theorem addB_spec (R : Rm) (x : Bx) (d1 : Addr) (c1 : Nat) (d2 : Addr) (c2 : Nat) (d3 : Addr) (c3 : Nat) (H : List Row) (hR : RmOk H R ⟨some d1, c1, some d2, c2, some d3, c3⟩) (h1 : R.ages.length ≤ 1000000) (h2 : R.boxes.length ≤ 1000000) (h3 : R.mats.length ≤ 1000000) :
    Fc Try.prog 10 [.agg (cRm R ⟨some d1, c1, some d2, c2, some d3, c3⟩).toArray, .agg (cBx x).toArray] H (ProgR (addF R x) H) := by
  have hR3 : ∀ r1 r2 r3, RmOk (r1 :: r2 :: r3 :: H) R ⟨some d1, c1, some d2, c2, some d3, c3⟩ := fun r1 r2 r3 => hR.sub (fun _ h => List.Mem.tail _ (List.Mem.tail _ (List.Mem.tail _ h)))
  have hR7 : ∀ r1 r2 r3 r4 r5 r6 r7, SlE (r1 :: r2 :: r3 :: r4 :: r5 :: r6 :: r7 :: H) (some d2) cBx 2 R.boxes := fun r1 r2 r3 r4 r5 r6 r7 => hR.boxes.sub (fun _ h => List.Mem.tail _ (List.Mem.tail _ (List.Mem.tail _ (List.Mem.tail _ (List.Mem.tail _ (List.Mem.tail _ (List.Mem.tail _ h)))))))
  have hil := insBx_len x R.boxes
  have l1 := hR.l1
  have l3 := hR.l3
  refine Fc.mk (callable Try.call10) Try.func10 rfl Try.ntmps10 rfl ?_; dsimp only [fr]
  repeat' (first | (refine XO.op rfl ?_; (first | ((first | refine Xo.ng rfl ?_); (first | (refine Xg.ev (EvF.build (cs := zR) rfl ArgsP.nil (te rfl) (Places.cons (te rfl) (Places.cons (te rfl) (Places.cons (te rfl) (Places.cons (te rfl) (Places.cons (te rfl) Places.nil))))) Try.zeroValue26 rfl) rfl rfl ?_) | (refine Xg.call (EnF.st rfl (by (repeat (first | exact Args.nil | refine Args.cons rfl ?_)); done)) rfl rfl (check_spec R _ _ (hR3 _ _ _)) ?_; rintro _ H9 ⟨⟨hr, rfl⟩ | ⟨hr, rfl⟩, hH9⟩ <;> subst H9) | (refine Xg.call (EnF.st rfl (by (repeat (first | exact Args.nil | refine Args.cons rfl ?_)); done)) rfl rfl (check_spec (addRm R x) ⟨some ⟨t1, 0, none⟩, k1, some ⟨bi, 0, none⟩, ki, some ⟨t3, 0, none⟩, k3⟩ _ ⟨ownSl (fun _ => rfl) (List.Mem.tail _ (List.Mem.tail _ (List.Mem.head _))), ownSl (fun _ => rfl) (List.Mem.head _), ownSl (fun _ => rfl) (List.Mem.tail _ (List.Mem.tail _ (List.Mem.tail _ (List.Mem.tail _ (List.Mem.head _))))), l1, (by show (insBx x R.boxes).length ≤ _; omega), l3⟩) ?_; rintro _ H9 ⟨⟨hr', rfl⟩ | ⟨hr', rfl⟩, hH9⟩ <;> subst H9) | (refine Xg.call (EnF.st rfl (by (repeat (first | exact Args.nil | refine Args.cons rfl ?_)); done)) rfl rfl (copied_spec R d1 c1 d2 c2 d3 c3 _ (hR3 _ _ _) h1 h2 h3) ?_; rintro _ _ ⟨t1, k1, t2, k2, t3, k3, rfl, rfl⟩) | (refine Xg.call (EnF.st rfl (by (repeat (first | exact Args.nil | refine Args.cons rfl ?_)); done)) rfl rfl (put_specBx R.boxes x d2 c2 _ (hR7 _ _ _ _ _ _ _) h2) ?_; rintro _ _ ⟨bi, ki, rfl, rfl⟩) | (refine Xg.ev (EvF.move rfl rfl) rfl rfl ?_) | (refine Xg.ev (EvF.assign rfl rfl) rfl rfl ?_) | (refine Xg.ev (EvF.cmp rfl rfl rfl rfl) rfl rfl ?_) | (refine Xg.ev (EvF.fieldAddr rfl rfl (te rfl) rfl (te rfl) (by decide)) rfl rfl ?_) | (refine Xg.ev (EvF.lenSlice rfl rfl (te rfl)) rfl rfl ?_) | (refine Xg.ev (EvF.loadV rfl rfl (LoadV.own (te rfl) rfl (List.Mem.tail _ (List.Mem.tail _ (List.Mem.head _))) rfl)) rfl rfl ?_) | (refine Xg.ev (EvF.loadV rfl rfl (LoadV.own (te rfl) rfl (List.Mem.tail _ (List.Mem.tail _ (List.Mem.tail _ (List.Mem.tail _ (List.Mem.tail _ (List.Mem.tail _ (List.Mem.head _))))))) rfl)) rfl rfl ?_) | (refine Xg.ev (EvF.loadV rfl rfl (LoadV.whole (te rfl) rfl (List.Mem.tail _ (List.Mem.head _)) rfl)) rfl rfl ?_) | (refine Xg.ev (EvF.loadV rfl rfl (LoadV.whole (te rfl) rfl (List.Mem.tail _ (List.Mem.tail _ (List.Mem.head _))) rfl)) rfl rfl ?_) | (refine Xg.ev (EvF.loadV rfl rfl (LoadV.whole (te rfl) rfl (List.Mem.tail _ (List.Mem.tail _ (List.Mem.tail _ (List.Mem.tail _ (List.Mem.tail _ (List.Mem.head _)))))) rfl)) rfl rfl ?_) | (refine Xg.st (StF.boxAgg rfl rfl) rfl rfl ?_; rintro _ _ ⟨bx, rfl, rfl⟩) | (refine Xg.st (StF.alloc rfl Try.zeroValue26 rfl) rfl rfl ?_; rintro _ _ ⟨bx, rfl, rfl⟩) | (refine Xg.st0 (StF.storeAll (i := 0) rfl rfl rfl (te rfl) rfl rfl rfl rfl) rfl ?_; rintro _ _ ⟨rfl, rfl⟩; dsimp only [List.set]) | (refine Xg.st0 (StF.storeOne (i := 1) rfl rfl rfl rfl (te rfl) rfl rfl (Nat.le_of_ble_eq_true rfl)) rfl ?_; rintro _ _ ⟨rfl, rfl⟩; dsimp only [List.set]) | (refine Xg.st0 (StF.storeAll (i := 5) rfl rfl rfl (te rfl) rfl rfl rfl rfl) rfl ?_; rintro _ _ ⟨rfl, rfl⟩; dsimp only [List.set]))))) | (refine XO.done rfl ?_; refine hK _ _ ?_; clear hK K) | refine X.seq rfl ?_ | refine X.region rfl (fun K hK => ?_) | refine X.skip rfl ?_ | refine X.ret rfl ?_ | (refine X.ite rfl rfl (fun hc => ?_); (first | (with_reducible refine Xb.case hc (fun h => ?_) (fun h => ?_)) | (with_reducible refine Xb.caseN hc (fun h => ?_) (fun h => ?_))) <;> clear hc))
  any_goals (exfalso; omega)
  · refine ret_two (by first | exact .inr rfl | exact .inl rfl) Try.results10 ⟨_, rfl, LoadV.whole (te rfl) rfl (List.Mem.head _) rfl⟩ rfl (H' := H) (by (repeat (first | exact List.Sublist.refl _ | apply List.Sublist.cons)); done) ?_
    have e : addF R x = (Rz, 9) := by unfold addF; rw [if_pos hr, if_pos (by omega)]
    unfold ProgR; rw [e]
    exact ⟨pz, [], rfl, rfl, .inl ⟨rfl, rfl, rfl⟩⟩
  · refine ret_two (by first | exact .inr rfl | exact .inl rfl) Try.results10 ⟨_, rfl, LoadV.whole (te rfl) rfl (List.Mem.tail _ (List.Mem.tail _ (List.Mem.tail _ (List.Mem.tail _ (List.Mem.tail _ (List.Mem.head _)))))) rfl⟩ rfl (H' := [rBoxes (addRm R x) bi ki, rAges R t1 k1, rMats R t3 k3] ++ H) (by (repeat (first | exact List.Sublist.refl _ | apply List.Sublist.cons_cons | apply List.Sublist.cons)); done) ?_
    have e : addF R x = (addRm R x, 0) := by unfold addF; rw [if_pos hr, if_neg (by omega), if_pos hr']
    unfold ProgR; rw [e]
    exact ⟨_, _, rfl, rfl, .inr ⟨t1, k1, bi, ki, t3, k3, rfl, List.Perm.swap _ _ _⟩⟩
  · refine ret_two (by first | exact .inr rfl | exact .inl rfl) Try.results10 ⟨_, rfl, LoadV.whole (te rfl) rfl (List.Mem.tail _ (List.Mem.tail _ (List.Mem.tail _ (List.Mem.tail _ (List.Mem.tail _ (List.Mem.head _)))))) rfl⟩ rfl (H' := H) (by (repeat (first | exact List.Sublist.refl _ | apply List.Sublist.cons)); done) ?_
    have e : addF R x = (Rz, 13) := by unfold addF; rw [if_pos hr, if_neg (by omega), if_neg hr']
    unfold ProgR; rw [e]
    exact ⟨pz, [], rfl, rfl, .inl ⟨rfl, rfl, rfl⟩⟩
  · refine ret_two (by first | exact .inr rfl | exact .inl rfl) Try.results10 ⟨_, rfl, LoadV.whole (te rfl) rfl (List.Mem.head _) rfl⟩ rfl (H' := H) (by (repeat (first | exact List.Sublist.refl _ | apply List.Sublist.cons)); done) ?_
    have e : addF R x = (Rz, 10) := by unfold addF; rw [if_neg hr]
    unfold ProgR; rw [e]
    exact ⟨pz, [], rfl, rfl, .inl ⟨rfl, rfl, rfl⟩⟩
set_option maxHeartbeats 4000000 in
theorem strB_spec (R : Rm) (l : List Int) (al : Option Addr) (cl : Nat) (d1 : Addr) (c1 : Nat) (d2 : Addr) (c2 : Nat) (d3 : Addr) (c3 : Nat) (H : List Row) (hR : RmOk H R ⟨some d1, c1, some d2, c2, some d3, c3⟩) (h1 : R.ages.length ≤ 1000000) (h2 : R.boxes.length ≤ 1000000) (h3 : R.mats.length ≤ 1000000) (hl : SlE H al cI 1 l) (hb : l.length ≤ 1000000) :
    Fc Try.prog 8 [.agg (cRm R ⟨some d1, c1, some d2, c2, some d3, c3⟩).toArray, .slice al l.length cl] H (ProgR (strF R l) H) := by
  have hR2 : ∀ r1 r2, RmOk (r1 :: r2 :: H) R ⟨some d1, c1, some d2, c2, some d3, c3⟩ := fun r1 r2 => hR.sub (fun _ h => List.Mem.tail _ (List.Mem.tail _ h))
  have hR3 : ∀ r1 r2 r3, RmOk (r1 :: r2 :: r3 :: H) R ⟨some d1, c1, some d2, c2, some d3, c3⟩ := fun r1 r2 r3 => hR.sub (fun _ h => List.Mem.tail _ (List.Mem.tail _ (List.Mem.tail _ h)))
  have hl2 : ∀ r1 r2, SlE (r1 :: r2 :: H) al cI 1 l := fun r1 r2 => hl.sub (fun _ h => List.Mem.tail _ (List.Mem.tail _ h))
  refine Fc.mk (callable Try.call8) Try.func8 rfl Try.ntmps8 rfl ?_; dsimp only [fr]
  repeat' (first | (refine XO.op rfl ?_; (first | ((first | refine Xo.ng rfl ?_); (first | (refine Xg.ev (EvF.build (cs := zR) rfl ArgsP.nil (te rfl) (Places.cons (te rfl) (Places.cons (te rfl) (Places.cons (te rfl) (Places.cons (te rfl) (Places.cons (te rfl) Places.nil))))) Try.zeroValue26 rfl) rfl rfl ?_) | (refine Xg.call (EnF.st rfl (by (repeat (first | exact Args.nil | refine Args.cons rfl ?_)); done)) rfl rfl (check_spec R _ _ (hR2 _ _)) ?_; rintro _ H9 ⟨⟨hr, rfl⟩ | ⟨hr, rfl⟩, hH9⟩ <;> subst H9) | (refine Xg.call (EnF.st rfl (by (repeat (first | exact Args.nil | refine Args.cons rfl ?_)); done)) rfl rfl (strikeL_spec R.mats d3 c3 l al cl _ (hR2 _ _).mats h3 (hl2 _ _) hb) ?_; rintro _ H9 (⟨hs, rfl, hH9⟩ | ⟨hs, bc, kc, rfl, hH9⟩) <;> subst H9) | (refine Xg.call (EnF.st rfl (by (repeat (first | exact Args.nil | refine Args.cons rfl ?_)); done)) rfl rfl (copied_spec R d1 c1 d2 c2 d3 c3 _ (hR3 _ _ _) h1 h2 h3) ?_; rintro _ _ ⟨t1, k1, t2, k2, t3, k3, rfl, rfl⟩) | (refine Xg.ev (EvF.move rfl rfl) rfl rfl ?_) | (refine Xg.ev (EvF.assign rfl rfl) rfl rfl ?_) | (refine Xg.ev (EvF.cmp rfl rfl rfl rfl) rfl rfl ?_) | (refine Xg.ev (EvF.not rfl rfl) rfl rfl ?_) | (refine Xg.ev (EvF.fieldAddr rfl rfl (te rfl) rfl (te rfl) (by decide)) rfl rfl ?_) | (refine Xg.ev (EvF.loadV rfl rfl (LoadV.own (te rfl) rfl (List.Mem.tail _ (List.Mem.head _)) rfl)) rfl rfl ?_) | (refine Xg.ev (EvF.loadV rfl rfl (LoadV.whole (te rfl) rfl (List.Mem.head _) rfl)) rfl rfl ?_) | (refine Xg.ev (EvF.loadV rfl rfl (LoadV.whole (te rfl) rfl (List.Mem.tail _ (List.Mem.head _)) rfl)) rfl rfl ?_) | (refine Xg.ev (EvF.loadV rfl rfl (LoadV.whole (te rfl) rfl (List.Mem.tail _ (List.Mem.tail _ (List.Mem.head _))) rfl)) rfl rfl ?_) | (refine Xg.ev (EvF.extract rfl rfl rfl) rfl rfl ?_) | (refine Xg.st (StF.boxAgg rfl rfl) rfl rfl ?_; rintro _ _ ⟨bx, rfl, rfl⟩) | (refine Xg.st (StF.alloc rfl Try.zeroValue26 rfl) rfl rfl ?_; rintro _ _ ⟨bx, rfl, rfl⟩) | (refine Xg.st0 (StF.storeOne (i := 0) rfl rfl rfl rfl (te rfl) rfl rfl (Nat.le_of_ble_eq_true rfl)) rfl ?_; rintro _ _ ⟨rfl, rfl⟩; dsimp only [List.set]) | (refine Xg.st0 (StF.storeAll (i := 0) rfl rfl rfl (te rfl) rfl rfl rfl rfl) rfl ?_; rintro _ _ ⟨rfl, rfl⟩; dsimp only [List.set]) | (refine Xg.st0 (StF.storeAll (i := 1) rfl rfl rfl (te rfl) rfl rfl rfl rfl) rfl ?_; rintro _ _ ⟨rfl, rfl⟩; dsimp only [List.set]) | (refine Xg.st0 (StF.storeAll (i := 5) rfl rfl rfl (te rfl) rfl rfl rfl rfl) rfl ?_; rintro _ _ ⟨rfl, rfl⟩; dsimp only [List.set]))))) | (refine XO.done rfl ?_; refine hK _ _ ?_; clear hK K) | refine X.seq rfl ?_ | refine X.region rfl (fun K hK => ?_) | refine X.skip rfl ?_ | refine X.ret rfl ?_ | (refine X.ite rfl rfl (fun hc => ?_); (first | (with_reducible refine Xb.caseN hc (fun h => ?_) (fun h => ?_)) | (with_reducible refine Xb.caseB hc (fun h => ?_) (fun h => ?_))) <;> clear hc))
  any_goals (exfalso; first | omega | (cases h; done))
  · refine ret_two (by first | exact .inr rfl | exact .inl rfl) Try.results8 ⟨_, rfl, LoadV.whole (te rfl) rfl (List.Mem.head _) rfl⟩ rfl (H' := H) (by (repeat (first | exact List.Sublist.refl _ | apply List.Sublist.cons)); done) ?_
    have e : strF R l = (Rz, 12) := by unfold strF; rw [if_pos hr, if_neg hs]
    unfold ProgR; rw [e]
    exact ⟨pz, [], rfl, rfl, .inl ⟨rfl, rfl, rfl⟩⟩
  · refine ret_two (by first | exact .inr rfl | exact .inl rfl) Try.results8 ⟨_, rfl, LoadV.whole (te rfl) rfl (List.Mem.tail _ (List.Mem.tail _ (List.Mem.tail _ (List.Mem.tail _ (List.Mem.tail _ (List.Mem.head _)))))) rfl⟩ rfl (H' := [rAges R t1 k1, rBoxes R t2 k2, rMats (strRm R l) bc kc] ++ H) (by (repeat (first | exact List.Sublist.refl _ | apply List.Sublist.cons_cons | apply List.Sublist.cons)); done) ?_
    have e : strF R l = (strRm R l, 0) := by unfold strF; rw [if_pos hr, if_pos hs]
    unfold ProgR; rw [e]
    exact ⟨_, _, rfl, rfl, .inr ⟨t1, k1, t2, k2, bc, kc, rfl, List.Perm.refl _⟩⟩
  · refine ret_two (by first | exact .inr rfl | exact .inl rfl) Try.results8 ⟨_, rfl, LoadV.whole (te rfl) rfl (List.Mem.head _) rfl⟩ rfl (H' := H) (by (repeat (first | exact List.Sublist.refl _ | apply List.Sublist.cons)); done) ?_
    have e : strF R l = (Rz, 10) := by unfold strF; rw [if_neg hr]
    unfold ProgR; rw [e]
    exact ⟨pz, [], rfl, rfl, .inl ⟨rfl, rfl, rfl⟩⟩
end Go.Proofs.Ytminkpgacomicaa
end
section
set_option linter.unusedVariables false
set_option linter.unusedSimpArgs false
namespace Go.Proofs.Ytminkpgacomicaa
open Go Go.Fw
set_option maxRecDepth 10000
theorem rises_nodup : ∀ (l : List Int) (p : Int), rises p l → l.Nodup
  | [], _, _ => List.nodup_nil
  | n :: t, p, h => List.nodup_cons.2 ⟨fun hm => by have := rises_mem t n n h.2 hm; omega, rises_nodup t n h.2⟩
theorem filter_perm {A B : List Int} (hA : A.Nodup) (hB : B.Nodup) : (A.filter (fun a => decide (a ∈ B))).Perm (B.filter (fun b => decide (b ∈ A))) := by
  refine (List.perm_ext_iff_of_nodup (hA.sublist List.filter_sublist) (hB.sublist List.filter_sublist)).2 (fun a => ?_)
  simp only [List.mem_filter, decide_eq_true_eq]
  exact And.comm
theorem filter_split {α : Type} (p : α → Bool) : ∀ l : List α, (l.filter (fun a => !p a)).length + (l.filter p).length = l.length
  | [] => rfl
  | a :: l => by
    have := filter_split p l
    by_cases h : p a = true <;> simp [h] <;> omega
theorem all_in {A B : List Int} (hA : A.Nodup) (hB : B.Nodup) : (A.filter (fun a => !decide (a ∈ B))).length + B.length = A.length ↔ ∀ b ∈ B, b ∈ A := by
  have h1 := filter_split (fun a => decide (a ∈ B)) A
  have h2 := (filter_perm hA hB).length_eq
  have h3 : (B.filter (fun b => decide (b ∈ A))).length ≤ B.length := List.length_filter_le _ _
  constructor
  · intro h b hb
    have h4 : (B.filter (fun b => decide (b ∈ A))).length = B.length := by omega
    have h5 := List.length_filter_eq_length_iff.1 h4 b hb
    exact of_decide_eq_true h5
  · intro h
    have h4 : B.filter (fun b => decide (b ∈ A)) = B := List.filter_eq_self.2 (fun b hb => decide_eq_true (h b hb))
    rw [h4] at h2
    omega
theorem sOk_mem (ns : List Int) : ∀ (l : List Int) (p : Option Int), sOk ns p l → ∀ n ∈ l, n ∈ ns
  | [], _, _, _, h => absurd h List.not_mem_nil
  | m :: t, p, h, n, hn => by
    rcases List.mem_cons.1 hn with rfl | hn
    · exact h.1
    · exact sOk_mem ns t (some m) h.2.2 n hn
theorem sOk_rises (ns : List Int) : ∀ (l : List Int) (p : Int), sOk ns (some p) l → rises p l
  | [], _, _ => trivial
  | m :: t, p, h => ⟨h.2.1 p rfl, sOk_rises ns t m h.2.2⟩
theorem rises_sOk (ns : List Int) : ∀ (l : List Int) (p : Int), rises p l → (∀ n ∈ l, n ∈ ns) → sOk ns (some p) l
  | [], _, _, _ => trivial
  | m :: t, p, h, hm => ⟨hm m List.mem_cons_self, fun q hq => by cases hq; exact h.1, rises_sOk ns t m h.2 (fun n hn => hm n (List.mem_cons_of_mem _ hn))⟩
theorem lastOf_mem : ∀ (l : List Int) (p : Int), lastOf p l = p ∨ lastOf p l ∈ l
  | [], _ => .inl rfl
  | n :: t, p => by
    right
    rcases lastOf_mem t n with h | h
    · simp only [lastOf]; rw [h]; exact List.mem_cons_self
    · exact List.mem_cons_of_mem _ h
theorem lastOf_ge : ∀ (l : List Int) (p n : Int), rises p l → n ∈ l → n ≤ lastOf p l
  | [], _, _, _, h => absurd h List.not_mem_nil
  | m :: t, p, n, h, hn => by
    rcases List.mem_cons.1 hn with rfl | hn
    · exact rises_le t _ h.2
    · exact lastOf_ge t m n h.2 hn
theorem left_len (ms : List Mt) (l : List Int) : (leftMt ms l).length = ((ms.map (·.number)).filter (fun n => !decide (n ∈ l))).length := by
  unfold leftMt
  rw [List.filter_map, List.length_map]
  rfl
theorem str_iff (R : Rm) (l : List Int) (hok : roomOk R) : sOk (R.mats.map (·.number)) none l ↔ strOk R.mats l := by
  obtain ⟨_, _, _, hm⟩ := hok
  obtain ⟨hr, hl9, _⟩ := (okMats_iff R R.mats 0 (by omega)).1 hm
  have hnd := rises_nodup _ _ hr
  unfold strOk risesOk
  rw [left_len, ← List.length_map (f := fun m : Mt => m.number)]
  constructor
  · intro h
    have hin := sOk_mem _ l none h
    have hri : rises 0 l := by
      cases l with
      | nil => trivial
      | cons n t => exact ⟨rises_mem _ _ _ hr (hin n List.mem_cons_self), sOk_rises _ t n h.2.2⟩
    refine ⟨⟨hri, ?_⟩, (all_in hnd (rises_nodup _ _ hri)).2 hin⟩
    rcases lastOf_mem l 0 with h0 | h0
    · omega
    · have := lastOf_ge _ _ _ hr (hin _ h0)
      omega
  · rintro ⟨⟨hri, _⟩, hc⟩
    have hin := (all_in hnd (rises_nodup _ _ hri)).1 hc
    cases l with
    | nil => trivial
    | cons n t => exact ⟨hin n List.mem_cons_self, (fun q hq => by cases hq), rises_sOk _ t n hri.2 (fun m hm => hin m (List.mem_cons_of_mem _ hm))⟩
theorem struck_eq (R : Rm) (l : List Int) : struck R l = strRm R l := by
  unfold struck strRm wout leftMt
  rw [List.take_length]
  congr 1
  exact List.filter_congr (fun m _ => by simp)
theorem refStr_spec (R : Rm) (p : Pl) (l : List Int) (a : Option Addr) (c : Nat) (H : List Row) (hR : RmOk H R p) (hl : SlE H a cI 1 l) (hb : l.length ≤ 1000000) (h1 : R.ages.length ≤ 1000000) (h2 : R.boxes.length ≤ 1000000) (h3 : R.mats.length ≤ 1000000) :
    Fc Try.prog 9 [.agg (cRm R p).toArray, .slice a l.length c] H (RefR (strF R l) H) := by
  refine (strike_spec R p l a c H hR hl hb h1 h2 h3).mono (fun v H' h => ?_)
  unfold RefR
  rcases h with ⟨hr, rfl, rfl⟩ | ⟨hr, hs, rfl, rfl⟩ | ⟨hr, hs, t1, k1, t2, k2, ao, co, Z, rfl, rfl, hz⟩
  · have e : strF R l = (Rz, 10) := by unfold strF; rw [if_neg hr]
    rw [e]
    exact ⟨pz, [], rfl, rfl, RmOk.zero _⟩
  · have e : strF R l = (Rz, 12) := by unfold strF; rw [if_pos hr, if_neg (fun q => hs ((str_iff R l hr).2 q))]
    rw [e]
    exact ⟨pz, [], rfl, rfl, RmOk.zero _⟩
  · have e : strF R l = (strRm R l, 0) := by unfold strF; rw [if_pos hr, if_pos ((str_iff R l hr).1 hs)]
    have hle : (leftMt R.mats l).length ≤ R.mats.length := List.length_filter_le _ _
    rw [e, struck_eq] at *
    rcases hz with ⟨rfl, rfl, rfl, hm⟩ | ⟨t3, rfl, rfl⟩
    · refine ⟨_, [rAges R t1 k1, rBoxes R t2 k2], rfl, rfl, ⟨ownSl (fun _ => rfl) (List.Mem.head _), ownSl (fun _ => rfl) (List.Mem.tail _ (List.Mem.head _)), ?_, hR.l1, hR.l2, by show (leftMt R.mats l).length ≤ _; omega⟩⟩
      rw [hm]; exact sleNil
    · exact ⟨_, [rMats (strRm R l) t3 co, rAges R t1 k1, rBoxes R t2 k2], rfl, rfl, ⟨ownSl (fun _ => rfl) (List.Mem.tail _ (List.Mem.head _)), ownSl (fun _ => rfl) (List.Mem.tail _ (List.Mem.tail _ (List.Mem.head _))), ownSl (fun _ => rfl) (List.Mem.head _), hR.l1, hR.l2, by show (leftMt R.mats l).length ≤ _; omega⟩⟩
end Go.Proofs.Ytminkpgacomicaa
end
section
set_option linter.unusedVariables false
set_option linter.unusedSimpArgs false
namespace Go.Proofs.Ytminkpgacomicaa
open Go Go.Fw
set_option maxRecDepth 10000
set_option maxHeartbeats 4000000 in
theorem spoil_spec (R : Rm) (t1 k1 t2 k2 t3 k3 : Nat) (H : List Row) (l1 : R.ages.length ≤ 9223372036854775807) (l2 : R.boxes.length ≤ 9223372036854775807) (l3 : R.mats.length ≤ 9223372036854775807) :
    Fc Try.prog 13 [.agg (cRm R ⟨some ⟨t1, 0, none⟩, k1, some ⟨t2, 0, none⟩, k2, some ⟨t3, 0, none⟩, k3⟩).toArray] (rAges R t1 k1 :: rBoxes R t2 k2 :: rMats R t3 k3 :: H) (fun v H' => v = .tuple #[] ∧ H' = H) := by
  have hc1 : (R.ages.flatMap cSp).length = R.ages.length * 2 := flat_len (fun _ _ => rfl)
  have hc2 := lenBx R.boxes
  have hc3 := lenMt R.mats
  unfold rAges rBoxes rMats
  generalize R.ages.flatMap cSp = cs1 at hc1 ⊢
  generalize R.boxes.flatMap cBx = cs2 at hc2 ⊢
  generalize R.mats.flatMap cMt = cs3 at hc3 ⊢
  refine Fc.mk (callable Try.call13) Try.func13 rfl Try.ntmps13 rfl ?_; dsimp only [fr]
  refine X.seq rfl ?_; refine X.region rfl (fun K hK => ?_); repeat' (first | (refine XO.op rfl ?_; (first | ((first | refine Xo.ng rfl ?_); (first | (refine Xg.st (StF.boxAgg rfl rfl) rfl rfl ?_; rintro _ _ ⟨bx, rfl, rfl⟩))))) | (refine XO.done rfl ?_; refine hK _ _ ?_; clear hK K))
  rename Nat => b1
  repeat' (first | (refine XO.op rfl ?_; (first | ((first | refine Xo.ng rfl ?_); (first | (refine Xg.ev (EvF.move rfl rfl) rfl rfl ?_) | (refine Xg.ev (EvF.assign rfl rfl) rfl rfl ?_) | (refine Xg.ev (EvF.cmp rfl rfl rfl rfl) rfl rfl ?_) | (refine Xg.ev (EvF.fieldAddr rfl rfl (te rfl) rfl (te rfl) (by decide)) rfl rfl ?_) | (refine Xg.ev (EvF.lenSlice rfl rfl (te rfl)) rfl rfl ?_) | (refine Xg.ev (EvF.loadV rfl rfl (LoadV.own (te rfl) rfl (List.Mem.head _) rfl)) rfl rfl ?_))))) | (refine XO.done rfl ?_; refine hK _ _ ?_; clear hK K) | refine X.seq rfl ?_ | refine X.region rfl (fun K hK => ?_) | refine X.block rfl ?_ | (refine X.brk rfl ?_; repeat (first | refine blockX_hit rfl ?_ | refine blockX_miss (by decide) ?_)) | refine X.skip rfl ?_ | (refine X.ite rfl rfl (fun hc => ?_); (first | (with_reducible refine Xb.case hc (fun h => ?_) (fun h => ?_))) <;> clear hc))
  refine X.lp rfl (fun q F' H' => ∃ (k : Nat) (ds1 : List Value), q = R.ages.length - k ∧ k ≤ R.ages.length ∧ ds1.length = R.ages.length * 2 ∧ ⟨b1, 0, cRm R ⟨some ⟨t1, 0, none⟩, k1, some ⟨t2, 0, none⟩, k2, some ⟨t3, 0, none⟩, k3⟩, some 26, 5⟩ :: ⟨t1, 0, ds1, some 28, k1 * 2⟩ :: ⟨t2, 0, cs2, some 33, k2 * 2⟩ :: ⟨t3, 0, cs3, some 30, k3 * 6⟩ :: H = H' ∧ F' = [(1, .pointer (some ⟨b1, 0, none⟩)), (7, .int .i64 R.ages.length), (8, .int .i64 k)])
    R.ages.length [(1, .pointer (some ⟨b1, 0, none⟩)), (7, .int .i64 R.ages.length), (8, .int .i64 (0 : Nat))] _ (by (repeat (first | exact Sub.nil _ | refine Sub.cons rfl ?_)); done) (List.Sublist.refl _) ⟨0, cs1, rfl, Nat.zero_le _, hc1, rfl, rfl⟩ ?_
  rintro _ _ H2 ⟨k, ds1, rfl, hk, hds1, hH, rfl⟩
  subst hH
  repeat' (first | (refine XO.op rfl ?_; (first | ((first | refine Xo.ng rfl ?_); (first | (refine Xg.st0 (StF.storeOne (i := 1) rfl rfl rfl rfl (te rfl) rfl rfl (by rw [hds1]; show 0 + k * 2 + 1 < _; omega)) rfl ?_; rintro _ _ ⟨rfl, rfl⟩; dsimp only [List.set]) | (refine Xg.ev (EvF.move rfl rfl) rfl rfl ?_) | (refine Xg.ev (EvF.assign rfl rfl) rfl rfl ?_) | (refine Xg.ev (EvF.cmp rfl rfl rfl rfl) rfl rfl ?_) | (refine Xg.ev (EvF.add64 rfl rfl rfl (by omega) (by omega)) rfl rfl ?_) | (refine Xg.ev (EvF.fieldAddr rfl rfl (te rfl) rfl (te rfl) (by decide)) rfl rfl ?_) | (refine Xg.ev (EvF.lenSlice rfl rfl (te rfl)) rfl rfl ?_) | (refine Xg.ev (EvF.indexSlice rfl rfl rfl (te rfl) (te rfl) (by omega) (by omega)) rfl rfl ?_) | (refine Xg.ev (EvF.loadV rfl rfl (LoadV.own (te rfl) rfl (List.Mem.head _) rfl)) rfl rfl ?_))))) | (refine XO.done rfl ?_; refine hK _ _ ?_; clear hK K) | refine X.seq rfl ?_ | refine X.region rfl (fun K hK => ?_) | refine X.block rfl ?_ | (refine X.brk rfl ?_; repeat (first | refine blockX_hit rfl ?_ | refine blockX_miss (by decide) ?_)) | refine X.skip rfl ?_ | (refine X.ite rfl rfl (fun hc => ?_); (first | (with_reducible refine Xb.case hc (fun h => ?_) (fun h => ?_))) <;> clear hc))
  · exact ⟨_, [(1, .pointer (some ⟨b1, 0, none⟩)), (7, .int .i64 R.ages.length), (8, .int .i64 (k + 1 : Nat))], _, (by (repeat (first | exact Sub.nil _ | refine Sub.cons rfl ?_)); done), List.Sublist.refl _, ⟨k + 1, _, rfl, by omega, by rw [List.length_set]; exact hds1, rfl, rfl⟩, by omega⟩
  clear h hk
  refine X.lp rfl (fun q F' H' => ∃ (k : Nat) (ds2 : List Value), q = R.boxes.length - k ∧ k ≤ R.boxes.length ∧ ds2.length = R.boxes.length * 2 ∧ ⟨b1, 0, cRm R ⟨some ⟨t1, 0, none⟩, k1, some ⟨t2, 0, none⟩, k2, some ⟨t3, 0, none⟩, k3⟩, some 26, 5⟩ :: ⟨t1, 0, ds1, some 28, k1 * 2⟩ :: ⟨t2, 0, ds2, some 33, k2 * 2⟩ :: ⟨t3, 0, cs3, some 30, k3 * 6⟩ :: H = H' ∧ F' = [(1, .pointer (some ⟨b1, 0, none⟩)), (19, .int .i64 R.boxes.length), (20, .int .i64 k)])
    R.boxes.length [(1, .pointer (some ⟨b1, 0, none⟩)), (19, .int .i64 R.boxes.length), (20, .int .i64 (0 : Nat))] _ (by (repeat (first | exact Sub.nil _ | refine Sub.cons rfl ?_)); done) (List.Sublist.refl _) ⟨0, cs2, rfl, Nat.zero_le _, hc2, rfl, rfl⟩ ?_
  rintro _ _ H2 ⟨k, ds2, rfl, hk, hds2, hH, rfl⟩
  subst hH
  repeat' (first | (refine XO.op rfl ?_; (first | ((first | refine Xo.ng rfl ?_); (first | (refine Xg.st0 (StF.storeOne (i := 2) rfl rfl rfl rfl (te rfl) rfl rfl (by rw [hds2]; show 0 + k * 2 + 0 < _; omega)) rfl ?_; rintro _ _ ⟨rfl, rfl⟩; dsimp only [List.set]) | (refine Xg.ev (EvF.move rfl rfl) rfl rfl ?_) | (refine Xg.ev (EvF.assign rfl rfl) rfl rfl ?_) | (refine Xg.ev (EvF.cmp rfl rfl rfl rfl) rfl rfl ?_) | (refine Xg.ev (EvF.add64 rfl rfl rfl (by omega) (by omega)) rfl rfl ?_) | (refine Xg.ev (EvF.fieldAddr rfl rfl (te rfl) rfl (te rfl) (by decide)) rfl rfl ?_) | (refine Xg.ev (EvF.lenSlice rfl rfl (te rfl)) rfl rfl ?_) | (refine Xg.ev (EvF.indexSlice rfl rfl rfl (te rfl) (te rfl) (by omega) (by omega)) rfl rfl ?_) | (refine Xg.ev (EvF.loadV rfl rfl (LoadV.own (te rfl) rfl (List.Mem.head _) rfl)) rfl rfl ?_))))) | (refine XO.done rfl ?_; refine hK _ _ ?_; clear hK K) | refine X.seq rfl ?_ | refine X.region rfl (fun K hK => ?_) | refine X.block rfl ?_ | (refine X.brk rfl ?_; repeat (first | refine blockX_hit rfl ?_ | refine blockX_miss (by decide) ?_)) | refine X.skip rfl ?_ | (refine X.ite rfl rfl (fun hc => ?_); (first | (with_reducible refine Xb.case hc (fun h => ?_) (fun h => ?_))) <;> clear hc))
  · exact ⟨_, [(1, .pointer (some ⟨b1, 0, none⟩)), (19, .int .i64 R.boxes.length), (20, .int .i64 (k + 1 : Nat))], _, (by (repeat (first | exact Sub.nil _ | refine Sub.cons rfl ?_)); done), List.Sublist.refl _, ⟨k + 1, _, rfl, by omega, by rw [List.length_set]; exact hds2, rfl, rfl⟩, by omega⟩
  clear h hk
  refine X.lp rfl (fun q F' H' => ∃ (k : Nat) (ds3 : List Value), q = R.mats.length - k ∧ k ≤ R.mats.length ∧ ds3.length = R.mats.length * 6 ∧ ⟨b1, 0, cRm R ⟨some ⟨t1, 0, none⟩, k1, some ⟨t2, 0, none⟩, k2, some ⟨t3, 0, none⟩, k3⟩, some 26, 5⟩ :: ⟨t1, 0, ds1, some 28, k1 * 2⟩ :: ⟨t2, 0, ds2, some 33, k2 * 2⟩ :: ⟨t3, 0, ds3, some 30, k3 * 6⟩ :: H = H' ∧ F' = [(1, .pointer (some ⟨b1, 0, none⟩)), (31, .int .i64 R.mats.length), (32, .int .i64 k)])
    R.mats.length [(1, .pointer (some ⟨b1, 0, none⟩)), (31, .int .i64 R.mats.length), (32, .int .i64 (0 : Nat))] _ (by (repeat (first | exact Sub.nil _ | refine Sub.cons rfl ?_)); done) (List.Sublist.refl _) ⟨0, cs3, rfl, Nat.zero_le _, hc3, rfl, rfl⟩ ?_
  rintro _ _ H2 ⟨k, ds3, rfl, hk, hds3, hH, rfl⟩
  subst hH
  repeat' (first | (refine XO.op rfl ?_; (first | ((first | refine Xo.ng rfl ?_); (first | (refine Xg.st0 (StF.storeOne (i := 3) rfl rfl rfl rfl (te rfl) rfl rfl (by rw [hds3]; show 0 + k * 6 + 2 < _; omega)) rfl ?_; rintro _ _ ⟨rfl, rfl⟩; dsimp only [List.set]) | (refine Xg.ev (EvF.move rfl rfl) rfl rfl ?_) | (refine Xg.ev (EvF.assign rfl rfl) rfl rfl ?_) | (refine Xg.ev (EvF.cmp rfl rfl rfl rfl) rfl rfl ?_) | (refine Xg.ev (EvF.add64 rfl rfl rfl (by omega) (by omega)) rfl rfl ?_) | (refine Xg.ev (EvF.fieldAddr rfl rfl (te rfl) rfl (te rfl) (by decide)) rfl rfl ?_) | (refine Xg.ev (EvF.indexSlice rfl rfl rfl (te rfl) (te rfl) (by omega) (by omega)) rfl rfl ?_) | (refine Xg.ev (EvF.loadV rfl rfl (LoadV.own (te rfl) rfl (List.Mem.head _) rfl)) rfl rfl ?_))))) | (refine XO.done rfl ?_; refine hK _ _ ?_; clear hK K) | refine X.seq rfl ?_ | refine X.region rfl (fun K hK => ?_) | refine X.block rfl ?_ | (refine X.brk rfl ?_; repeat (first | refine blockX_hit rfl ?_ | refine blockX_miss (by decide) ?_)) | refine X.skip rfl ?_ | (refine X.ite rfl rfl (fun hc => ?_); (first | (with_reducible refine Xb.case hc (fun h => ?_) (fun h => ?_))) <;> clear hc))
  · exact ⟨_, [(1, .pointer (some ⟨b1, 0, none⟩)), (31, .int .i64 R.mats.length), (32, .int .i64 (k + 1 : Nat))], _, (by (repeat (first | exact Sub.nil _ | refine Sub.cons rfl ?_)); done), List.Sublist.refl _, ⟨k + 1, _, rfl, by omega, by rw [List.length_set]; exact hds3, rfl, rfl⟩, by omega⟩
  exact ret_none (by first | exact .inr rfl | exact .inl rfl) Try.results13 (H' := H) (by (repeat (first | exact List.Sublist.refl _ | apply List.Sublist.cons)); done) ⟨rfl, rfl⟩
set_option maxHeartbeats 4000000 in
theorem spoil0_spec (H : List Row) : Fc Try.prog 13 [.agg (cRm Rz pz).toArray] H (fun v H' => v = .tuple #[] ∧ H' = H) := by
  refine Fc.mk (callable Try.call13) Try.func13 rfl Try.ntmps13 rfl ?_; dsimp only [fr]
  refine X.seq rfl ?_; refine X.region rfl (fun K hK => ?_); repeat' (first | (refine XO.op rfl ?_; (first | ((first | refine Xo.ng rfl ?_); (first | (refine Xg.st (StF.boxAgg rfl rfl) rfl rfl ?_; rintro _ _ ⟨bx, rfl, rfl⟩))))) | (refine XO.done rfl ?_; refine hK _ _ ?_; clear hK K))
  rename Nat => b1
  repeat' (first | (refine XO.op rfl ?_; (first | ((first | refine Xo.ng rfl ?_); (first | (refine Xg.ev (EvF.move rfl rfl) rfl rfl ?_) | (refine Xg.ev (EvF.assign rfl rfl) rfl rfl ?_) | (refine Xg.ev (EvF.cmp rfl rfl rfl rfl) rfl rfl ?_) | (refine Xg.ev (EvF.fieldAddr rfl rfl (te rfl) rfl (te rfl) (by decide)) rfl rfl ?_) | (refine Xg.ev (EvF.lenSlice rfl rfl (te rfl)) rfl rfl ?_) | (refine Xg.ev (EvF.loadV rfl rfl (LoadV.own (te rfl) rfl (List.Mem.head _) rfl)) rfl rfl ?_))))) | (refine XO.done rfl ?_; refine hK _ _ ?_; clear hK K) | refine X.seq rfl ?_ | refine X.region rfl (fun K hK => ?_) | refine X.block rfl ?_ | (refine X.brk rfl ?_; repeat (first | refine blockX_hit rfl ?_ | refine blockX_miss (by decide) ?_)) | refine X.skip rfl ?_ | (refine X.ite rfl rfl (fun hc => ?_); (first | (with_reducible refine Xb.case hc (fun h => ?_) (fun h => ?_))) <;> clear hc))
  refine X.lp rfl (fun q F' H' => ⟨b1, 0, cRm Rz pz, some 26, 5⟩ :: H = H' ∧ F' = [(1, .pointer (some ⟨b1, 0, none⟩)), (7, .int .i64 (0 : Nat)), (8, .int .i64 (0 : Nat))]) 0 [(1, .pointer (some ⟨b1, 0, none⟩)), (7, .int .i64 (0 : Nat)), (8, .int .i64 (0 : Nat))] _ (by (repeat (first | exact Sub.nil _ | refine Sub.cons rfl ?_)); done) (List.Sublist.refl _) ⟨rfl, rfl⟩ ?_
  rintro _ _ H2 ⟨hH, rfl⟩
  subst hH
  repeat' (first | (refine XO.op rfl ?_; (first | ((first | refine Xo.ng rfl ?_); (first | (refine Xg.ev (EvF.move rfl rfl) rfl rfl ?_) | (refine Xg.ev (EvF.assign rfl rfl) rfl rfl ?_) | (refine Xg.ev (EvF.cmp rfl rfl rfl rfl) rfl rfl ?_) | (refine Xg.ev (EvF.fieldAddr rfl rfl (te rfl) rfl (te rfl) (by decide)) rfl rfl ?_) | (refine Xg.ev (EvF.lenSlice rfl rfl (te rfl)) rfl rfl ?_) | (refine Xg.ev (EvF.loadV rfl rfl (LoadV.own (te rfl) rfl (List.Mem.head _) rfl)) rfl rfl ?_))))) | (refine XO.done rfl ?_; refine hK _ _ ?_; clear hK K) | refine X.seq rfl ?_ | refine X.region rfl (fun K hK => ?_) | refine X.block rfl ?_ | (refine X.brk rfl ?_; repeat (first | refine blockX_hit rfl ?_ | refine blockX_miss (by decide) ?_)) | refine X.skip rfl ?_ | (refine X.ite rfl rfl (fun hc => ?_); (first | (with_reducible refine Xb.case hc (fun h => ?_) (fun h => ?_))) <;> clear hc))
  any_goals (exfalso; omega)
  refine X.lp rfl (fun q F' H' => ⟨b1, 0, cRm Rz pz, some 26, 5⟩ :: H = H' ∧ F' = [(1, .pointer (some ⟨b1, 0, none⟩)), (19, .int .i64 (0 : Nat)), (20, .int .i64 (0 : Nat))]) 0 [(1, .pointer (some ⟨b1, 0, none⟩)), (19, .int .i64 (0 : Nat)), (20, .int .i64 (0 : Nat))] _ (by (repeat (first | exact Sub.nil _ | refine Sub.cons rfl ?_)); done) (List.Sublist.refl _) ⟨rfl, rfl⟩ ?_
  rintro _ _ H2 ⟨hH, rfl⟩
  subst hH
  repeat' (first | (refine XO.op rfl ?_; (first | ((first | refine Xo.ng rfl ?_); (first | (refine Xg.ev (EvF.move rfl rfl) rfl rfl ?_) | (refine Xg.ev (EvF.assign rfl rfl) rfl rfl ?_) | (refine Xg.ev (EvF.cmp rfl rfl rfl rfl) rfl rfl ?_) | (refine Xg.ev (EvF.fieldAddr rfl rfl (te rfl) rfl (te rfl) (by decide)) rfl rfl ?_) | (refine Xg.ev (EvF.lenSlice rfl rfl (te rfl)) rfl rfl ?_) | (refine Xg.ev (EvF.loadV rfl rfl (LoadV.own (te rfl) rfl (List.Mem.head _) rfl)) rfl rfl ?_))))) | (refine XO.done rfl ?_; refine hK _ _ ?_; clear hK K) | refine X.seq rfl ?_ | refine X.region rfl (fun K hK => ?_) | refine X.block rfl ?_ | (refine X.brk rfl ?_; repeat (first | refine blockX_hit rfl ?_ | refine blockX_miss (by decide) ?_)) | refine X.skip rfl ?_ | (refine X.ite rfl rfl (fun hc => ?_); (first | (with_reducible refine Xb.case hc (fun h => ?_) (fun h => ?_))) <;> clear hc))
  any_goals (exfalso; omega)
  refine X.lp rfl (fun q F' H' => ⟨b1, 0, cRm Rz pz, some 26, 5⟩ :: H = H' ∧ F' = [(1, .pointer (some ⟨b1, 0, none⟩)), (31, .int .i64 (0 : Nat)), (32, .int .i64 (0 : Nat))]) 0 [(1, .pointer (some ⟨b1, 0, none⟩)), (31, .int .i64 (0 : Nat)), (32, .int .i64 (0 : Nat))] _ (by (repeat (first | exact Sub.nil _ | refine Sub.cons rfl ?_)); done) (List.Sublist.refl _) ⟨rfl, rfl⟩ ?_
  rintro _ _ H2 ⟨hH, rfl⟩
  subst hH
  repeat' (first | (refine XO.op rfl ?_; (first | ((first | refine Xo.ng rfl ?_); (first | (refine Xg.ev (EvF.move rfl rfl) rfl rfl ?_) | (refine Xg.ev (EvF.assign rfl rfl) rfl rfl ?_) | (refine Xg.ev (EvF.cmp rfl rfl rfl rfl) rfl rfl ?_) | (refine Xg.ev (EvF.fieldAddr rfl rfl (te rfl) rfl (te rfl) (by decide)) rfl rfl ?_) | (refine Xg.ev (EvF.lenSlice rfl rfl (te rfl)) rfl rfl ?_) | (refine Xg.ev (EvF.loadV rfl rfl (LoadV.own (te rfl) rfl (List.Mem.head _) rfl)) rfl rfl ?_))))) | (refine XO.done rfl ?_; refine hK _ _ ?_; clear hK K) | refine X.seq rfl ?_ | refine X.region rfl (fun K hK => ?_) | refine X.block rfl ?_ | (refine X.brk rfl ?_; repeat (first | refine blockX_hit rfl ?_ | refine blockX_miss (by decide) ?_)) | refine X.skip rfl ?_ | (refine X.ite rfl rfl (fun hc => ?_); (first | (with_reducible refine Xb.case hc (fun h => ?_) (fun h => ?_))) <;> clear hc))
  any_goals (exfalso; omega)
  exact ret_none (by first | exact .inr rfl | exact .inl rfl) Try.results13 (H' := H) (by (repeat (first | exact List.Sublist.refl _ | apply List.Sublist.cons)); done) ⟨rfl, rfl⟩
end Go.Proofs.Ytminkpgacomicaa
end
section
set_option linter.unusedVariables false
set_option linter.unusedSimpArgs false
namespace Go.Fw
open Go Go.RowKit
theorem Fc.perm {P : Program} {f : FuncId} {args : List Value} {H H' : List Row} {R : Value → List Row → Prop} (h : Fc P f args H R) (hp : H.Perm H') : Fc P f args H' R := by
  unfold Fc at *
  exact ⟨h.1, fun B w0 w hS => h.2 B w0 w (hS.perm hp)⟩
theorem XO.permH {P : Program} {n : Nat} {ops : Array Oper} {i : Nat} {F : FS} {H H' : List Row} {N : FS → List Row → Prop} (hp : H'.Perm H) (k : XO P n ops i F H' N) : XO P n ops i F H N := by
  unfold XO WO at *
  intro t ha ρ ds B w0 w hS
  exact k t ha ρ ds B w0 w (hS.perm hp)
theorem XO.weakH {P : Program} {n : Nat} {ops : Array Oper} {i : Nat} {F : FS} {H H' : List Row} {N : FS → List Row → Prop} (hp : H'.Sublist H) (k : XO P n ops i F H' N) : XO P n ops i F H N := by
  unfold XO WO at *
  intro t ha ρ ds B w0 w hS
  exact k t ha ρ ds B w0 w (hS.sub hp)
theorem permq {α : Type} (a b c d : α) (T : List α) : (d :: b :: a :: c :: T).Perm (a :: b :: c :: d :: T) :=
  (List.Perm.swap b d _).trans ((List.Perm.cons b (List.Perm.swap a d _)).trans ((List.Perm.swap a b _).trans (List.Perm.cons a (List.Perm.cons b (List.Perm.swap c d T)))))
theorem perm1 {α : Type} (V A Z T : List α) : (Z ++ (V ++ (A ++ T))).Perm (V ++ (A ++ (Z ++ T))) :=
  ((List.perm_append_comm_assoc Z V (A ++ T))).trans (List.Perm.append_left V (List.perm_append_comm_assoc Z A T))
theorem perm2 {α : Type} (V A B Z T : List α) : (Z ++ (V ++ (A ++ (B ++ T)))).Perm (V ++ (A ++ (B ++ (Z ++ T)))) :=
  ((List.perm_append_comm_assoc Z V (A ++ (B ++ T)))).trans (List.Perm.append_left V (perm1 A B Z T))
theorem EvF.cmpSelf {P : Program} {n : Nat} {H : List Row} {F : FS} {o : Oper} {T T' : TypeId} {x y : Operand} {k : IntKind} {p : Int} (h : o.op = .binOp .eql T x y T') (hx : evF F x = some (.int k p)) (hy : evF F y = some (.int k p)) : EvF P n H F o (.bool true) := by
  have := EvF.cmp (P := P) (n := n) (H := H) h hx hy rfl
  rwa [decide_eq_true rfl] at this
end Go.Fw
namespace Go.Proofs.Ytminkpgacomicaa
open Go Go.Fw
set_option maxRecDepth 10000
theorem OwnRm.ok {Z : List Row} {R : Rm} {p : Pl} (h : OwnRm Z R p) (h1 : R.ages.length ≤ 9223372036854775807) (h2 : R.boxes.length ≤ 9223372036854775807) (h3 : R.mats.length ≤ 9223372036854775807) : RmOk Z R p := by
  rcases h with ⟨rfl, rfl, rfl⟩ | ⟨t1, k1, t2, k2, t3, k3, rfl, hp⟩
  · exact RmOk.zero _
  · exact ⟨ownSl (fun _ => rfl) (hp.mem_iff.2 (List.Mem.head _)), ownSl (fun _ => rfl) (hp.mem_iff.2 (List.Mem.tail _ (List.Mem.head _))), ownSl (fun _ => rfl) (hp.mem_iff.2 (List.Mem.tail _ (List.Mem.tail _ (List.Mem.head _)))), h1, h2, h3⟩
theorem spoilOwn {Z : List Row} {R : Rm} {p : Pl} (h : OwnRm Z R p) (h1 : R.ages.length ≤ 9223372036854775807) (h2 : R.boxes.length ≤ 9223372036854775807) (h3 : R.mats.length ≤ 9223372036854775807) (H : List Row) : Fc Try.prog 13 [.agg (cRm R p).toArray] (Z ++ H) (fun v H' => v = .tuple #[] ∧ H' = H) := by
  rcases h with ⟨rfl, rfl, rfl⟩ | ⟨t1, k1, t2, k2, t3, k3, rfl, hp⟩
  · exact spoil0_spec H
  · exact (spoil_spec R t1 k1 t2 k2 t3 k3 H h1 h2 h3).perm (List.Perm.append_right H hp.symm)
theorem same_self (R : Rm) (p q : Pl) (H : List Row) (hR : RmOk H R p) (hS : RmOk H R q) : Fc Try.prog 12 [.agg (cRm R p).toArray, .agg (cRm R q).toArray] H (fun v H' => v = .bool true ∧ H' = H) :=
  (same_spec R R p q H hR hS).mono (fun v H' ⟨h1, h2⟩ => ⟨by rw [h1, decide_eq_true rfl], h2⟩)
theorem sameInts_self (l : List Int) (a a' : Option Addr) (c c' : Nat) (H : List Row) (hl : SlE H a cI 1 l) (hm : SlE H a' cI 1 l) (hb : l.length ≤ 9223372036854775807) : Fc Try.prog 14 [.slice a l.length c, .slice a' l.length c'] H (fun v H' => v = .bool true ∧ H' = H) :=
  (sameInts_spec l l a a' c c' H hl hm hb).mono (fun v H' ⟨h1, h2⟩ => ⟨by rw [h1, decide_eq_true rfl], h2⟩)
theorem len_put (R : Rm) (x : Mt) (h1 : R.ages.length ≤ 1000) (h2 : R.boxes.length ≤ 1000) (h3 : R.mats.length ≤ 1000) : (putF R x).1.ages.length ≤ 1001 ∧ (putF R x).1.boxes.length ≤ 1001 ∧ (putF R x).1.mats.length ≤ 1001 := by
  have := insMt_len x R.mats
  unfold putF putRm
  split
  · split
    · simp [Rz]
    · split
      · dsimp only; omega
      · simp [Rz]
  · simp [Rz]
theorem len_add (R : Rm) (x : Bx) (h1 : R.ages.length ≤ 1000) (h2 : R.boxes.length ≤ 1000) (h3 : R.mats.length ≤ 1000) : (addF R x).1.ages.length ≤ 1001 ∧ (addF R x).1.boxes.length ≤ 1001 ∧ (addF R x).1.mats.length ≤ 1001 := by
  have := insBx_len x R.boxes
  unfold addF addRm
  split
  · split
    · simp [Rz]
    · split
      · dsimp only; omega
      · simp [Rz]
  · simp [Rz]
theorem len_str (R : Rm) (l : List Int) (h1 : R.ages.length ≤ 1000) (h2 : R.boxes.length ≤ 1000) (h3 : R.mats.length ≤ 1000) : (strF R l).1.ages.length ≤ 1001 ∧ (strF R l).1.boxes.length ≤ 1001 ∧ (strF R l).1.mats.length ≤ 1001 := by
  have : (leftMt R.mats l).length ≤ R.mats.length := List.length_filter_le _ _
  unfold strF strRm
  split
  · split
    · dsimp only; omega
    · simp [Rz]
  · simp [Rz]
set_option maxHeartbeats 8000000 in
theorem boxChanges_spec (R : Rm) (p : Pl) (x : Mt) (l : List Int) (al : Option Addr) (cl : Nat) (y : Bx) (H : List Row) (hR : RmOk H R p) (hl : SlE H al cI 1 l) (hc2 : R.boxes.length ≤ p.c2) (hc3 : R.mats.length ≤ p.c3) :
    Fc Try.prog 3 [.agg (cRm R p).toArray, .agg (cMt x).toArray, .slice al l.length cl, .agg (cBx y).toArray] H (fun v _ => v = .bool true) := by
  have hR3 : ∀ r1 r2 r3, RmOk (r1 :: r2 :: r3 :: H) R p := fun r1 r2 r3 => hR.sub (fun _ h => List.Mem.tail _ (List.Mem.tail _ (List.Mem.tail _ h)))
  have hl8 : ∀ r1 r2 r3 r4 r5 r6 r7, SlE (r1 :: r2 :: r3 :: r4 :: r5 :: r6 :: r7 :: H) al cI 1 l := fun r1 r2 r3 r4 r5 r6 r7 => hl.sub (fun _ h => List.Mem.tail _ (List.Mem.tail _ (List.Mem.tail _ (List.Mem.tail _ (List.Mem.tail _ (List.Mem.tail _ (List.Mem.tail _ h)))))))
  refine Fc.mk (callable Try.call3) Try.func3 rfl Try.ntmps3 rfl ?_; dsimp only [fr]
  refine X.seq rfl ?_; refine X.region rfl (fun K hK => ?_); repeat' (first | (refine XO.op rfl ?_; (first | ((first | refine Xo.ng rfl ?_); (first | (refine Xg.ev (EvF.assign rfl rfl) rfl rfl ?_) | (refine Xg.st (StF.boxAgg rfl rfl) rfl rfl ?_; rintro _ _ ⟨bx, rfl, rfl⟩))))) | (refine XO.done rfl ?_; refine hK _ _ ?_; clear hK K))
  rename_i b4 b5
  rename Nat => b7
  repeat' (first | (refine XO.op rfl ?_; (first | ((first | refine Xo.ng rfl ?_ | (refine Xo.g rfl rfl ?_; with_reducible refine Xw.ff ?_)); (first | (refine Xg.call (EnF.st rfl (by (repeat (first | exact Args.nil | refine Args.cons rfl ?_)); done)) rfl rfl (great_spec R p _) ?_; rintro _ H9 ⟨rfl, hH9⟩; subst H9) | (refine Xg.ev (EvF.move rfl rfl) rfl rfl ?_) | (refine Xg.ev (EvF.assign rfl rfl) rfl rfl ?_) | (refine Xg.ev (EvF.pickT rfl rfl rfl) rfl rfl ?_) | (refine Xg.ev (EvF.pickF rfl rfl rfl) rfl rfl ?_) | (refine Xg.ev (EvF.cmp rfl rfl rfl rfl) rfl rfl ?_) | (refine Xg.ev (EvF.lenSlice rfl rfl (te rfl)) rfl rfl ?_) | (refine Xg.ev (EvF.loadV rfl rfl (LoadV.whole (te rfl) rfl (List.Mem.tail _ (List.Mem.tail _ (List.Mem.head _))) rfl)) rfl rfl ?_))) | (refine Xo.g rfl rfl ?_; (first | (with_reducible refine Xw.tf rfl rfl ?_) | (with_reducible refine Xw.case (fun h => ?_) (fun h => ?_) <;> simp only [h, decide_true, decide_false, Bool.not_true, Bool.not_false, and_self, and_true, true_and, and_false, false_and]))))) | (refine XO.done rfl ?_; refine hK _ _ ?_; clear hK K) | refine X.seq rfl ?_ | refine X.region rfl (fun K hK => ?_) | refine X.skip rfl ?_ | refine X.ret rfl ?_ | (refine X.ite rfl rfl (fun hc => ?_); (first | (with_reducible refine Xb.t hc ?_) | (with_reducible refine Xb.case hc (fun h => ?_) (fun h => ?_))) <;> clear hc))
  · exact ret_one (by first | exact .inr rfl | exact .inl rfl) Try.results3 rfl (List.Sublist.refl _) rfl
  · exact ret_one (by first | exact .inr rfl | exact .inl rfl) Try.results3 rfl (List.Sublist.refl _) rfl
  have hg : ¬ great R := by assumption
  have h1 : R.ages.length ≤ 1000 := by unfold great at hg; omega
  have h2 : R.boxes.length ≤ 1000 := by unfold great at hg; omega
  have h3 : R.mats.length ≤ 1000 := by unfold great at hg; omega
  have h4 : l.length ≤ 1000 := by omega
  obtain ⟨q1, q2, q3⟩ := len_put R x h1 h2 h3
  obtain ⟨q4, q5, q6⟩ := len_str R l h1 h2 h3
  obtain ⟨q7, q8, q9⟩ := len_add R y h1 h2 h3
  repeat' (first | (refine XO.op rfl ?_; (first | ((first | refine Xo.ng rfl ?_); (first | (refine Xg.call (EnF.st rfl (by (repeat (first | exact Args.nil | refine Args.cons rfl ?_)); done)) rfl rfl (twin_spec R _ _ (hR3 _ _ _) (by omega) (by omega) (by omega)) ?_; rintro _ _ ⟨t1, k1, t2, k2, t3, k3, rfl, rfl⟩) | (refine Xg.st (StF.buildNil rfl el55) rfl rfl ?_; rintro _ _ ⟨bz, rfl, rfl⟩) | (refine Xg.st (StF.appendSl (i := 0) rfl el55 rfl rfl rfl (hl8 _ _ _ _ _ _ _) (fun e _ => one_i e) rfl (by decide) (by omega)) rfl rfl ?_; rintro _ _ ⟨bm, km, rfl, rfl⟩; dsimp only [List.eraseIdx]; simp only [Nat.zero_add, List.nil_append]) | (refine Xg.ev (EvF.move rfl rfl) rfl rfl ?_) | (refine Xg.ev (EvF.assign rfl rfl) rfl rfl ?_) | (refine Xg.ev (EvF.loadV rfl rfl (LoadV.whole (te rfl) rfl (List.Mem.head _) rfl)) rfl rfl ?_) | (refine Xg.ev (EvF.loadV rfl rfl (LoadV.whole (te rfl) rfl (List.Mem.tail _ (List.Mem.tail _ (List.Mem.tail _ (List.Mem.tail _ (List.Mem.tail _ (List.Mem.tail _ (List.Mem.head _))))))) rfl)) rfl rfl ?_) | (refine Xg.st (StF.alloc rfl Try.zeroValue26 rfl) rfl rfl ?_; rintro _ _ ⟨bx, rfl, rfl⟩) | (refine Xg.st0 (StF.storeAll (i := 0) rfl rfl rfl (te rfl) rfl rfl rfl rfl) rfl ?_; rintro _ _ ⟨rfl, rfl⟩; dsimp only [List.set]))))) | (refine XO.done rfl ?_; refine hK _ _ ?_; clear hK K) | refine X.seq rfl ?_ | refine X.region rfl (fun K hK => ?_))
  rename Nat => b9
  obtain ⟨T3, hT3⟩ : ∃ T, T = ⟨bm, 0, l.flatMap cI, some 3, km * 1⟩ :: ⟨t1, 0, R.ages.flatMap cSp, some 28, k1 * 2⟩ :: ⟨t2, 0, R.boxes.flatMap cBx, some 33, k2 * 2⟩ :: ⟨t3, 0, R.mats.flatMap cMt, some 30, k3 * 6⟩ :: H := ⟨_, rfl⟩
  have hRo : RmOk T3 R ⟨some ⟨t1, 0, none⟩, k1, some ⟨t2, 0, none⟩, k2, some ⟨t3, 0, none⟩, k3⟩ := by
    rw [hT3]
    exact ⟨ownSl (fun _ => rfl) (List.Mem.tail _ (List.Mem.head _)), ownSl (fun _ => rfl) (List.Mem.tail _ (List.Mem.tail _ (List.Mem.head _))), ownSl (fun _ => rfl) (List.Mem.tail _ (List.Mem.tail _ (List.Mem.tail _ (List.Mem.head _)))), by omega, by omega, by omega⟩
  have hRr : RmOk T3 R p := by rw [hT3]; exact hR.sub (fun _ h => List.Mem.tail _ (List.Mem.tail _ (List.Mem.tail _ (List.Mem.tail _ h))))
  have hll : SlE T3 al cI 1 l := by rw [hT3]; exact hl.sub (fun _ h => List.Mem.tail _ (List.Mem.tail _ (List.Mem.tail _ (List.Mem.tail _ h))))
  have hlm : SlE T3 (some ⟨bm, 0, none⟩) cI 1 l := by rw [hT3]; exact ownSl (fun _ => rfl) (List.Mem.head _)
  refine XO.permH (H' := ⟨b4, 0, cRm R p, some 26, 5⟩ :: ⟨b7, 0, cBx y, some 33, 2⟩ :: ⟨b9, 0, cRm R ⟨some ⟨t1, 0, none⟩, k1, some ⟨t2, 0, none⟩, k2, some ⟨t3, 0, none⟩, k3⟩, some 26, 5⟩ :: ⟨b5, 0, cMt x, some 30, 6⟩ :: T3) (by rw [hT3]; exact (permq _ _ _ _ _).trans (List.Perm.cons _ (List.perm_append_comm_assoc [_, _, _] [_, _, _, _] H))) ?_
  clear hT3
  repeat' (first | (refine XO.op rfl ?_; (first | ((first | refine Xo.ng rfl ?_); (first | (refine Xg.call (EnF.st rfl (by (repeat (first | exact Args.nil | refine Args.cons rfl ?_)); done)) rfl rfl (putB_spec R x _ _ _ _ _ _ _ (hRo.sub (fun r h => by simp [h])) (by omega) (by omega) (by omega)) ?_; rintro _ _ ⟨pa, Za, rfl, rfl, ha⟩; dsimp only [tup']) | (refine Xg.ev (EvF.move rfl rfl) rfl rfl ?_) | (refine Xg.ev (EvF.assign rfl rfl) rfl rfl ?_) | (refine Xg.ev (EvF.extract rfl rfl rfl) rfl rfl ?_) | (refine Xg.st (StF.alloc rfl Try.zeroValue26 rfl) rfl rfl ?_; rintro _ _ ⟨bx, rfl, rfl⟩) | (refine Xg.st0 (StF.storeAll (i := 0) rfl rfl rfl (te rfl) rfl rfl rfl rfl) rfl ?_; rintro _ _ ⟨rfl, rfl⟩; dsimp only [List.set]))))) | (refine XO.done rfl ?_; refine hK _ _ ?_; clear hK K) | refine X.seq rfl ?_ | refine X.region rfl (fun K hK => ?_))
  rename Nat => b11
  refine XO.permH (H' := ⟨b11, 0, cRm (putF R x).1 pa, some 26, 5⟩ :: ⟨b4, 0, cRm R p, some 26, 5⟩ :: ⟨b7, 0, cBx y, some 33, 2⟩ :: ⟨b9, 0, cRm R ⟨some ⟨t1, 0, none⟩, k1, some ⟨t2, 0, none⟩, k2, some ⟨t3, 0, none⟩, k3⟩, some 26, 5⟩ :: ⟨b5, 0, cMt x, some 30, 6⟩ :: (Za ++ T3)) (List.Perm.cons _ (List.perm_append_comm_assoc [_, _, _, _] Za _)) ?_
  repeat' (first | (refine XO.op rfl ?_; (first | ((first | refine Xo.ng rfl ?_); (first | (refine Xg.call (EnF.st rfl (by (repeat (first | exact Args.nil | refine Args.cons rfl ?_)); done)) rfl rfl (refputRm_spec R p x _ (hRr.sub (fun r h => by simp [h])) (by omega) (by omega) (by omega) hc3) ?_; rintro _ _ ⟨pb, Zb, rfl, rfl, hb⟩; dsimp only [tup']) | (refine Xg.ev (EvF.move rfl rfl) rfl rfl ?_) | (refine Xg.ev (EvF.assign rfl rfl) rfl rfl ?_) | (refine Xg.ev (EvF.loadV rfl rfl (LoadV.whole (te rfl) rfl (List.Mem.tail _ (List.Mem.head _)) rfl)) rfl rfl ?_) | (refine Xg.ev (EvF.loadV rfl rfl (LoadV.whole (te rfl) rfl (List.Mem.tail _ (List.Mem.tail _ (List.Mem.tail _ (List.Mem.tail _ (List.Mem.head _))))) rfl)) rfl rfl ?_) | (refine Xg.ev (EvF.extract rfl rfl rfl) rfl rfl ?_) | (refine Xg.st (StF.alloc rfl Try.zeroValue26 rfl) rfl rfl ?_; rintro _ _ ⟨bx, rfl, rfl⟩) | (refine Xg.st0 (StF.storeAll (i := 0) rfl rfl rfl (te rfl) rfl rfl rfl rfl) rfl ?_; rintro _ _ ⟨rfl, rfl⟩; dsimp only [List.set]))))) | (refine XO.done rfl ?_; refine hK _ _ ?_; clear hK K) | refine X.seq rfl ?_ | refine X.region rfl (fun K hK => ?_))
  rename Nat => b13
  refine XO.permH (H' := ⟨b13, 0, cRm (putF R x).1 pb, some 26, 5⟩ :: ⟨b11, 0, cRm (putF R x).1 pa, some 26, 5⟩ :: ⟨b4, 0, cRm R p, some 26, 5⟩ :: ⟨b7, 0, cBx y, some 33, 2⟩ :: ⟨b9, 0, cRm R ⟨some ⟨t1, 0, none⟩, k1, some ⟨t2, 0, none⟩, k2, some ⟨t3, 0, none⟩, k3⟩, some 26, 5⟩ :: ⟨b5, 0, cMt x, some 30, 6⟩ :: (Zb ++ (Za ++ T3))) (List.Perm.cons _ (List.perm_append_comm_assoc [_, _, _, _, _] Zb _)) ?_
  repeat' (first | (refine XO.op rfl ?_; (first | ((first | refine Xo.ng rfl ?_); (first | (refine Xg.call (EnF.st rfl (by (repeat (first | exact Args.nil | refine Args.cons rfl ?_)); done)) rfl rfl (strB_spec R l _ _ _ _ _ _ _ _ _ (hRo.sub (fun r h => by simp [h])) (by omega) (by omega) (by omega) (hlm.sub (fun r h => by simp [h])) (by omega)) ?_; rintro _ _ ⟨pc, Zc, rfl, rfl, hc⟩; dsimp only [tup']) | (refine Xg.ev (EvF.move rfl rfl) rfl rfl ?_) | (refine Xg.ev (EvF.assign rfl rfl) rfl rfl ?_) | (refine Xg.ev (EvF.loadV rfl rfl (LoadV.whole (te rfl) rfl (List.Mem.tail _ (List.Mem.tail _ (List.Mem.tail _ (List.Mem.tail _ (List.Mem.head _))))) rfl)) rfl rfl ?_) | (refine Xg.ev (EvF.extract rfl rfl rfl) rfl rfl ?_) | (refine Xg.st (StF.alloc rfl Try.zeroValue26 rfl) rfl rfl ?_; rintro _ _ ⟨bx, rfl, rfl⟩) | (refine Xg.st0 (StF.storeAll (i := 0) rfl rfl rfl (te rfl) rfl rfl rfl rfl) rfl ?_; rintro _ _ ⟨rfl, rfl⟩; dsimp only [List.set]))))) | (refine XO.done rfl ?_; refine hK _ _ ?_; clear hK K) | refine X.seq rfl ?_ | refine X.region rfl (fun K hK => ?_))
  rename Nat => b15
  refine XO.permH (H' := ⟨b15, 0, cRm (strF R l).1 pc, some 26, 5⟩ :: ⟨b13, 0, cRm (putF R x).1 pb, some 26, 5⟩ :: ⟨b11, 0, cRm (putF R x).1 pa, some 26, 5⟩ :: ⟨b4, 0, cRm R p, some 26, 5⟩ :: ⟨b7, 0, cBx y, some 33, 2⟩ :: ⟨b9, 0, cRm R ⟨some ⟨t1, 0, none⟩, k1, some ⟨t2, 0, none⟩, k2, some ⟨t3, 0, none⟩, k3⟩, some 26, 5⟩ :: ⟨b5, 0, cMt x, some 30, 6⟩ :: (Zc ++ (Zb ++ (Za ++ T3)))) (List.Perm.cons _ (List.perm_append_comm_assoc [_, _, _, _, _, _] Zc _)) ?_
  repeat' (first | (refine XO.op rfl ?_; (first | ((first | refine Xo.ng rfl ?_); (first | (refine Xg.call (EnF.st rfl (by (repeat (first | exact Args.nil | refine Args.cons rfl ?_)); done)) rfl rfl (refStr_spec R p l _ _ _ (hRr.sub (fun r h => by simp [h])) (hll.sub (fun r h => by simp [h])) (by omega) (by omega) (by omega) (by omega)) ?_; rintro _ _ ⟨pd, Zd, rfl, rfl, hd⟩; dsimp only [tup']) | (refine Xg.ev (EvF.move rfl rfl) rfl rfl ?_) | (refine Xg.ev (EvF.assign rfl rfl) rfl rfl ?_) | (refine Xg.ev (EvF.loadV rfl rfl (LoadV.whole (te rfl) rfl (List.Mem.tail _ (List.Mem.tail _ (List.Mem.tail _ (List.Mem.head _)))) rfl)) rfl rfl ?_) | (refine Xg.ev (EvF.extract rfl rfl rfl) rfl rfl ?_) | (refine Xg.st (StF.alloc rfl Try.zeroValue26 rfl) rfl rfl ?_; rintro _ _ ⟨bx, rfl, rfl⟩) | (refine Xg.st0 (StF.storeAll (i := 0) rfl rfl rfl (te rfl) rfl rfl rfl rfl) rfl ?_; rintro _ _ ⟨rfl, rfl⟩; dsimp only [List.set]))))) | (refine XO.done rfl ?_; refine hK _ _ ?_; clear hK K) | refine X.seq rfl ?_ | refine X.region rfl (fun K hK => ?_))
  rename Nat => b17
  refine XO.permH (H' := ⟨b17, 0, cRm (strF R l).1 pd, some 26, 5⟩ :: ⟨b15, 0, cRm (strF R l).1 pc, some 26, 5⟩ :: ⟨b13, 0, cRm (putF R x).1 pb, some 26, 5⟩ :: ⟨b11, 0, cRm (putF R x).1 pa, some 26, 5⟩ :: ⟨b4, 0, cRm R p, some 26, 5⟩ :: ⟨b7, 0, cBx y, some 33, 2⟩ :: ⟨b9, 0, cRm R ⟨some ⟨t1, 0, none⟩, k1, some ⟨t2, 0, none⟩, k2, some ⟨t3, 0, none⟩, k3⟩, some 26, 5⟩ :: ⟨b5, 0, cMt x, some 30, 6⟩ :: (Zd ++ (Zc ++ (Zb ++ (Za ++ T3))))) (List.Perm.cons _ (List.perm_append_comm_assoc [_, _, _, _, _, _, _] Zd _)) ?_
  repeat' (first | (refine XO.op rfl ?_; (first | ((first | refine Xo.ng rfl ?_); (first | (refine Xg.call (EnF.st rfl (by (repeat (first | exact Args.nil | refine Args.cons rfl ?_)); done)) rfl rfl (addB_spec R y _ _ _ _ _ _ _ (hRo.sub (fun r h => by simp [h])) (by omega) (by omega) (by omega)) ?_; rintro _ _ ⟨pp, Zp, rfl, rfl, hp⟩; dsimp only [tup']) | (refine Xg.ev (EvF.move rfl rfl) rfl rfl ?_) | (refine Xg.ev (EvF.assign rfl rfl) rfl rfl ?_) | (refine Xg.ev (EvF.loadV rfl rfl (LoadV.whole (te rfl) rfl (List.Mem.tail _ (List.Mem.tail _ (List.Mem.tail _ (List.Mem.tail _ (List.Mem.tail _ (List.Mem.head _)))))) rfl)) rfl rfl ?_) | (refine Xg.ev (EvF.loadV rfl rfl (LoadV.whole (te rfl) rfl (List.Mem.tail _ (List.Mem.tail _ (List.Mem.tail _ (List.Mem.tail _ (List.Mem.tail _ (List.Mem.tail _ (List.Mem.head _))))))) rfl)) rfl rfl ?_) | (refine Xg.ev (EvF.extract rfl rfl rfl) rfl rfl ?_) | (refine Xg.st (StF.alloc rfl Try.zeroValue26 rfl) rfl rfl ?_; rintro _ _ ⟨bx, rfl, rfl⟩) | (refine Xg.st0 (StF.storeAll (i := 0) rfl rfl rfl (te rfl) rfl rfl rfl rfl) rfl ?_; rintro _ _ ⟨rfl, rfl⟩; dsimp only [List.set]))))) | (refine XO.done rfl ?_; refine hK _ _ ?_; clear hK K) | refine X.seq rfl ?_ | refine X.region rfl (fun K hK => ?_))
  rename Nat => b19
  refine XO.permH (H' := ⟨b19, 0, cRm (addF R y).1 pp, some 26, 5⟩ :: ⟨b17, 0, cRm (strF R l).1 pd, some 26, 5⟩ :: ⟨b15, 0, cRm (strF R l).1 pc, some 26, 5⟩ :: ⟨b13, 0, cRm (putF R x).1 pb, some 26, 5⟩ :: ⟨b11, 0, cRm (putF R x).1 pa, some 26, 5⟩ :: ⟨b4, 0, cRm R p, some 26, 5⟩ :: ⟨b7, 0, cBx y, some 33, 2⟩ :: ⟨b9, 0, cRm R ⟨some ⟨t1, 0, none⟩, k1, some ⟨t2, 0, none⟩, k2, some ⟨t3, 0, none⟩, k3⟩, some 26, 5⟩ :: ⟨b5, 0, cMt x, some 30, 6⟩ :: (Zp ++ (Zd ++ (Zc ++ (Zb ++ (Za ++ T3)))))) (List.Perm.cons _ (List.perm_append_comm_assoc [_, _, _, _, _, _, _, _] Zp _)) ?_
  repeat' (first | (refine XO.op rfl ?_; (first | ((first | refine Xo.ng rfl ?_); (first | (refine Xg.call (EnF.st rfl (by (repeat (first | exact Args.nil | refine Args.cons rfl ?_)); done)) rfl rfl (refaddRm_spec R p y _ (hRr.sub (fun r h => by simp [h])) (by omega) (by omega) (by omega) hc2) ?_; rintro _ _ ⟨pq, Zq, rfl, rfl, hq⟩; dsimp only [tup']) | (refine Xg.ev (EvF.move rfl rfl) rfl rfl ?_) | (refine Xg.ev (EvF.assign rfl rfl) rfl rfl ?_) | (refine Xg.ev (EvF.loadV rfl rfl (LoadV.whole (te rfl) rfl (List.Mem.tail _ (List.Mem.tail _ (List.Mem.tail _ (List.Mem.tail _ (List.Mem.tail _ (List.Mem.head _)))))) rfl)) rfl rfl ?_) | (refine Xg.ev (EvF.loadV rfl rfl (LoadV.whole (te rfl) rfl (List.Mem.tail _ (List.Mem.tail _ (List.Mem.tail _ (List.Mem.tail _ (List.Mem.tail _ (List.Mem.tail _ (List.Mem.head _))))))) rfl)) rfl rfl ?_) | (refine Xg.ev (EvF.extract rfl rfl rfl) rfl rfl ?_) | (refine Xg.st (StF.alloc rfl Try.zeroValue26 rfl) rfl rfl ?_; rintro _ _ ⟨bx, rfl, rfl⟩) | (refine Xg.st0 (StF.storeAll (i := 0) rfl rfl rfl (te rfl) rfl rfl rfl rfl) rfl ?_; rintro _ _ ⟨rfl, rfl⟩; dsimp only [List.set]))))) | (refine XO.done rfl ?_; refine hK _ _ ?_; clear hK K) | refine X.seq rfl ?_ | refine X.region rfl (fun K hK => ?_))
  rename Nat => b21
  refine XO.permH (H' := ⟨b21, 0, cRm (addF R y).1 pq, some 26, 5⟩ :: ⟨b19, 0, cRm (addF R y).1 pp, some 26, 5⟩ :: ⟨b17, 0, cRm (strF R l).1 pd, some 26, 5⟩ :: ⟨b15, 0, cRm (strF R l).1 pc, some 26, 5⟩ :: ⟨b13, 0, cRm (putF R x).1 pb, some 26, 5⟩ :: ⟨b11, 0, cRm (putF R x).1 pa, some 26, 5⟩ :: ⟨b4, 0, cRm R p, some 26, 5⟩ :: ⟨b7, 0, cBx y, some 33, 2⟩ :: ⟨b9, 0, cRm R ⟨some ⟨t1, 0, none⟩, k1, some ⟨t2, 0, none⟩, k2, some ⟨t3, 0, none⟩, k3⟩, some 26, 5⟩ :: ⟨b5, 0, cMt x, some 30, 6⟩ :: (Zq ++ (Zp ++ (Zd ++ (Zc ++ (Zb ++ (Za ++ T3))))))) (List.Perm.cons _ (List.perm_append_comm_assoc [_, _, _, _, _, _, _, _, _] Zq _)) ?_
  have oa := ha.ok (by omega) (by omega) (by omega)
  have oc := hc.ok (by omega) (by omega) (by omega)
  have op := hp.ok (by omega) (by omega) (by omega)
  have e1 : ∀ S, (∀ r, r ∈ Za ∨ r ∈ Zb → r ∈ S) → Fc Try.prog 12 [.agg (cRm (putF R x).1 pa).toArray, .agg (cRm (putF R x).1 pb).toArray] S (fun v H' => v = .bool true ∧ H' = S) := fun S hS => same_self _ _ _ _ (oa.sub (fun r h => hS r (.inl h))) (hb.sub (fun r h => hS r (.inr h)))
  have e2 : ∀ S, (∀ r, r ∈ Zc ∨ r ∈ Zd → r ∈ S) → Fc Try.prog 12 [.agg (cRm (strF R l).1 pc).toArray, .agg (cRm (strF R l).1 pd).toArray] S (fun v H' => v = .bool true ∧ H' = S) := fun S hS => same_self _ _ _ _ (oc.sub (fun r h => hS r (.inl h))) (hd.sub (fun r h => hS r (.inr h)))
  have e3 : ∀ S, (∀ r, r ∈ Zp ∨ r ∈ Zq → r ∈ S) → Fc Try.prog 12 [.agg (cRm (addF R y).1 pp).toArray, .agg (cRm (addF R y).1 pq).toArray] S (fun v H' => v = .bool true ∧ H' = S) := fun S hS => same_self _ _ _ _ (op.sub (fun r h => hS r (.inl h))) (hq.sub (fun r h => hS r (.inr h)))
  repeat' (first | (refine XO.op rfl ?_; (first | ((first | refine Xo.ng rfl ?_); (first | (refine Xg.ev (EvF.loadV rfl rfl (LoadV.whole (te rfl) rfl (List.Mem.tail _ (List.Mem.tail _ (List.Mem.tail _ (List.Mem.tail _ (List.Mem.head _))))) rfl)) rfl rfl ?_) | (refine Xg.ev (EvF.loadV rfl rfl (LoadV.whole (te rfl) rfl (List.Mem.tail _ (List.Mem.tail _ (List.Mem.tail _ (List.Mem.tail _ (List.Mem.tail _ (List.Mem.head _)))))) rfl)) rfl rfl ?_))))))
  refine XO.op rfl ?_
  refine Xo.ng rfl ?_
  refine Xg.call (EnF.st rfl (Args.cons rfl (Args.cons rfl Args.nil))) rfl rfl (e1 _ (fun r h => by rcases h with h | h <;> simp [h])) ?_
  rintro _ H9 ⟨rfl, hH9⟩
  subst H9
  repeat' (first | (refine XO.op rfl ?_; (first | ((first | refine Xo.ng rfl ?_ | (refine Xo.g rfl rfl ?_; with_reducible refine Xw.tt ?_)); (first | (refine Xg.ev (EvF.cmpSelf rfl rfl rfl) rfl rfl ?_) | (refine Xg.ev (EvF.move rfl rfl) rfl rfl ?_) | (refine Xg.ev (EvF.pickT rfl rfl rfl) rfl rfl ?_) | (refine Xg.ev (EvF.loadV rfl rfl (LoadV.whole (te rfl) rfl (List.Mem.tail _ (List.Mem.tail _ (List.Mem.head _))) rfl)) rfl rfl ?_) | (refine Xg.ev (EvF.loadV rfl rfl (LoadV.whole (te rfl) rfl (List.Mem.tail _ (List.Mem.tail _ (List.Mem.tail _ (List.Mem.head _)))) rfl)) rfl rfl ?_))))))
  refine XO.op rfl ?_
  refine Xo.g rfl rfl ?_
  refine Xw.tt ?_
  refine Xg.call (EnF.st rfl (Args.cons rfl (Args.cons rfl Args.nil))) rfl rfl (e2 _ (fun r h => by rcases h with h | h <;> simp [h])) ?_
  rintro _ H9 ⟨rfl, hH9⟩
  subst H9
  repeat' (first | (refine XO.op rfl ?_; (first | ((first | refine Xo.ng rfl ?_ | (refine Xo.g rfl rfl ?_; with_reducible refine Xw.tt ?_)); (first | (refine Xg.ev (EvF.cmpSelf rfl rfl rfl) rfl rfl ?_) | (refine Xg.ev (EvF.move rfl rfl) rfl rfl ?_) | (refine Xg.ev (EvF.pickT rfl rfl rfl) rfl rfl ?_) | (refine Xg.ev (EvF.loadV rfl rfl (LoadV.whole (te rfl) rfl (List.Mem.head _) rfl)) rfl rfl ?_) | (refine Xg.ev (EvF.loadV rfl rfl (LoadV.whole (te rfl) rfl (List.Mem.tail _ (List.Mem.head _)) rfl)) rfl rfl ?_))))))
  refine XO.op rfl ?_
  refine Xo.g rfl rfl ?_
  refine Xw.tt ?_
  refine Xg.call (EnF.st rfl (Args.cons rfl (Args.cons rfl Args.nil))) rfl rfl (e3 _ (fun r h => by rcases h with h | h <;> simp [h])) ?_
  rintro _ H9 ⟨rfl, hH9⟩
  subst H9
  repeat' (first | (refine XO.op rfl ?_; (first | ((first | refine Xo.ng rfl ?_ | (refine Xo.g rfl rfl ?_; with_reducible refine Xw.tt ?_)); (first | (refine Xg.ev (EvF.cmpSelf rfl rfl rfl) rfl rfl ?_) | (refine Xg.ev (EvF.move rfl rfl) rfl rfl ?_) | (refine Xg.ev (EvF.assign rfl rfl) rfl rfl ?_) | (refine Xg.ev (EvF.pickT rfl rfl rfl) rfl rfl ?_) | (refine Xg.ev (EvF.loadV rfl rfl (LoadV.whole (te rfl) rfl (List.Mem.tail _ (List.Mem.tail _ (List.Mem.tail _ (List.Mem.tail _ (List.Mem.tail _ (List.Mem.head _)))))) rfl)) rfl rfl ?_))))) | (refine XO.done rfl ?_; refine hK _ _ ?_; clear hK K) | refine X.seq rfl ?_ | refine X.region rfl (fun K hK => ?_))
  have s1 : (Zp ++ (Zc ++ (Za ++ T3))).Sublist (Zq ++ (Zp ++ (Zd ++ (Zc ++ (Zb ++ (Za ++ T3)))))) :=
    (List.Sublist.append (List.Sublist.refl Zp) ((List.Sublist.append (List.Sublist.refl Zc) (List.sublist_append_right Zb _)).trans (List.sublist_append_right Zd _))).trans (List.sublist_append_right Zq _)
  refine XO.weakH (H' := ⟨b19, 0, cRm (addF R y).1 pp, some 26, 5⟩ :: ⟨b15, 0, cRm (strF R l).1 pc, some 26, 5⟩ :: ⟨b11, 0, cRm (putF R x).1 pa, some 26, 5⟩ :: ⟨b4, 0, cRm R p, some 26, 5⟩ :: ⟨b9, 0, cRm R ⟨some ⟨t1, 0, none⟩, k1, some ⟨t2, 0, none⟩, k2, some ⟨t3, 0, none⟩, k3⟩, some 26, 5⟩ :: (Zp ++ (Zc ++ (Za ++ T3)))) (List.Sublist.cons _ (List.Sublist.cons_cons _ (List.Sublist.cons _ (List.Sublist.cons_cons _ (List.Sublist.cons _ (List.Sublist.cons_cons _ (List.Sublist.cons_cons _ (List.Sublist.cons _ (List.Sublist.cons_cons _ (List.Sublist.cons _ s1)))))))))) ?_
  refine XO.permH (H' := Za ++ (⟨b19, 0, cRm (addF R y).1 pp, some 26, 5⟩ :: ⟨b15, 0, cRm (strF R l).1 pc, some 26, 5⟩ :: ⟨b11, 0, cRm (putF R x).1 pa, some 26, 5⟩ :: ⟨b4, 0, cRm R p, some 26, 5⟩ :: ⟨b9, 0, cRm R ⟨some ⟨t1, 0, none⟩, k1, some ⟨t2, 0, none⟩, k2, some ⟨t3, 0, none⟩, k3⟩, some 26, 5⟩ :: (Zp ++ (Zc ++ T3)))) (perm2 (α := Row) [⟨b19, 0, cRm (addF R y).1 pp, some 26, 5⟩, ⟨b15, 0, cRm (strF R l).1 pc, some 26, 5⟩, ⟨b11, 0, cRm (putF R x).1 pa, some 26, 5⟩, ⟨b4, 0, cRm R p, some 26, 5⟩, ⟨b9, 0, cRm R ⟨some ⟨t1, 0, none⟩, k1, some ⟨t2, 0, none⟩, k2, some ⟨t3, 0, none⟩, k3⟩, some 26, 5⟩] Zp Zc Za T3) ?_
  repeat' (first | (refine XO.op rfl ?_; (first | ((first | refine Xo.ng rfl ?_); (first | (refine Xg.call (EnF.st rfl (by (repeat (first | exact Args.nil | refine Args.cons rfl ?_)); done)) rfl rfl (spoilOwn ha (by omega) (by omega) (by omega) _) ?_; rintro _ H9 ⟨rfl, hH9⟩; subst H9) | (refine Xg.ev (EvF.loadV rfl rfl (LoadV.whole (te rfl) rfl (List.Mem.tail _ (List.Mem.head _)) rfl)) rfl rfl ?_))))) | (refine XO.done rfl ?_; refine hK _ _ ?_; clear hK K) | refine X.seq rfl ?_ | refine X.region rfl (fun K hK => ?_))
  refine XO.permH (H' := Zc ++ (⟨b19, 0, cRm (addF R y).1 pp, some 26, 5⟩ :: ⟨b15, 0, cRm (strF R l).1 pc, some 26, 5⟩ :: ⟨b11, 0, cRm (putF R x).1 pa, some 26, 5⟩ :: ⟨b4, 0, cRm R p, some 26, 5⟩ :: ⟨b9, 0, cRm R ⟨some ⟨t1, 0, none⟩, k1, some ⟨t2, 0, none⟩, k2, some ⟨t3, 0, none⟩, k3⟩, some 26, 5⟩ :: (Zp ++ T3))) (perm1 (α := Row) [⟨b19, 0, cRm (addF R y).1 pp, some 26, 5⟩, ⟨b15, 0, cRm (strF R l).1 pc, some 26, 5⟩, ⟨b11, 0, cRm (putF R x).1 pa, some 26, 5⟩, ⟨b4, 0, cRm R p, some 26, 5⟩, ⟨b9, 0, cRm R ⟨some ⟨t1, 0, none⟩, k1, some ⟨t2, 0, none⟩, k2, some ⟨t3, 0, none⟩, k3⟩, some 26, 5⟩] Zp Zc T3) ?_
  repeat' (first | (refine XO.op rfl ?_; (first | ((first | refine Xo.ng rfl ?_); (first | (refine Xg.call (EnF.st rfl (by (repeat (first | exact Args.nil | refine Args.cons rfl ?_)); done)) rfl rfl (spoilOwn hc (by omega) (by omega) (by omega) _) ?_; rintro _ H9 ⟨rfl, hH9⟩; subst H9) | (refine Xg.ev (EvF.loadV rfl rfl (LoadV.whole (te rfl) rfl (List.Mem.head _) rfl)) rfl rfl ?_))))) | (refine XO.done rfl ?_; refine hK _ _ ?_; clear hK K) | refine X.seq rfl ?_ | refine X.region rfl (fun K hK => ?_))
  refine XO.permH (H' := Zp ++ (⟨b19, 0, cRm (addF R y).1 pp, some 26, 5⟩ :: ⟨b15, 0, cRm (strF R l).1 pc, some 26, 5⟩ :: ⟨b11, 0, cRm (putF R x).1 pa, some 26, 5⟩ :: ⟨b4, 0, cRm R p, some 26, 5⟩ :: ⟨b9, 0, cRm R ⟨some ⟨t1, 0, none⟩, k1, some ⟨t2, 0, none⟩, k2, some ⟨t3, 0, none⟩, k3⟩, some 26, 5⟩ :: T3)) (List.perm_append_comm_assoc (α := Row) Zp [⟨b19, 0, cRm (addF R y).1 pp, some 26, 5⟩, ⟨b15, 0, cRm (strF R l).1 pc, some 26, 5⟩, ⟨b11, 0, cRm (putF R x).1 pa, some 26, 5⟩, ⟨b4, 0, cRm R p, some 26, 5⟩, ⟨b9, 0, cRm R ⟨some ⟨t1, 0, none⟩, k1, some ⟨t2, 0, none⟩, k2, some ⟨t3, 0, none⟩, k3⟩, some 26, 5⟩] T3) ?_
  repeat' (first | (refine XO.op rfl ?_; (first | ((first | refine Xo.ng rfl ?_ | (refine Xo.g rfl rfl ?_; with_reducible refine Xw.tt ?_)); (first | (refine Xg.call (EnF.st rfl (by (repeat (first | exact Args.nil | refine Args.cons rfl ?_)); done)) rfl rfl (spoilOwn hp (by omega) (by omega) (by omega) _) ?_; rintro _ H9 ⟨rfl, hH9⟩; subst H9) | (refine Xg.call (EnF.st rfl (by (repeat (first | exact Args.nil | refine Args.cons rfl ?_)); done)) rfl rfl (same_self R _ _ _ (hRo.sub (fun r h => by simp [h])) (hRr.sub (fun r h => by simp [h]))) ?_; rintro _ H9 ⟨rfl, hH9⟩; subst H9) | (refine Xg.call (EnF.st rfl (by (repeat (first | exact Args.nil | refine Args.cons rfl ?_)); done)) rfl rfl (sameInts_self l _ _ _ _ _ (hlm.sub (fun r h => by simp [h])) (hll.sub (fun r h => by simp [h])) (by omega)) ?_; rintro _ H9 ⟨rfl, hH9⟩; subst H9) | (refine Xg.ev (EvF.move rfl rfl) rfl rfl ?_) | (refine Xg.ev (EvF.assign rfl rfl) rfl rfl ?_) | (refine Xg.ev (EvF.pickT rfl rfl rfl) rfl rfl ?_) | (refine Xg.ev (EvF.loadV rfl rfl (LoadV.whole (te rfl) rfl (List.Mem.tail _ (List.Mem.tail _ (List.Mem.tail _ (List.Mem.head _)))) rfl)) rfl rfl ?_) | (refine Xg.ev (EvF.loadV rfl rfl (LoadV.whole (te rfl) rfl (List.Mem.tail _ (List.Mem.tail _ (List.Mem.tail _ (List.Mem.tail _ (List.Mem.head _))))) rfl)) rfl rfl ?_))))) | (refine XO.done rfl ?_; refine hK _ _ ?_; clear hK K) | refine X.seq rfl ?_ | refine X.region rfl (fun K hK => ?_) | refine X.ret rfl ?_)
  exact ret_one (by first | exact .inr rfl | exact .inl rfl) Try.results3 rfl (List.Sublist.refl _) rfl
end Go.Proofs.Ytminkpgacomicaa
end
section
set_option linter.unusedVariables false
namespace Go.Fw
open Go Go.RowKit Go.ChangeShapes Go.WideShapes Go.Deep
theorem flat_at {α : Type} {enc : α → List Value} {sz : Nat} : ∀ {l : List α}, (∀ e ∈ l, (enc e).length = sz) → ∀ (i : Nat) (e : α) (j : Nat) (v : Value), l[i]? = some e → (enc e)[j]? = some v → (l.flatMap enc)[i * sz + j]? = some v
  | [], _, i, e, j, v, hi, _ => by simp at hi
  | q :: l, hl, i, e, j, v, hi, hj => by
    rw [List.flatMap_cons, List.getElem?_append]
    have hq := hl q (List.mem_cons_self ..)
    cases i with
    | zero =>
      simp only [List.getElem?_cons_zero, Option.some.injEq] at hi
      subst hi
      rw [if_pos (by have := (List.getElem?_eq_some_iff.1 hj).1; omega)]
      simpa using hj
    | succ i =>
      rw [if_neg (by rw [hq, Nat.add_mul]; omega), hq, show (i + 1) * sz + j - sz = i * sz + j by rw [Nat.add_mul]; omega]
      exact flat_at (fun e he => hl e (List.mem_cons_of_mem _ he)) i e j v (by simpa using hi) hj
section
variable {H : Type} {enc : TypeId × Value → H} {P : Program} {w : World} {base : Nat} {spare : Nat → Bool} {held : Bool}
theorem cellsOf_ti {T : TypeId} {ti : TI} (h : tiOf P T = some ti) : P.cellsOf T = ti.size := by
  obtain ⟨i, d, hi, _, _, hs, _⟩ := ti_spec h
  simp [Program.cellsOf, hi, hs]
theorem trod_st {T : TypeId} {fs : List (Nat × TypeId)} {s y fuel : Nat} {cs : List Value} {x : DataW H × List MemPlace} (hT : tiOf P T = some ⟨.st fs, s, y⟩) (h : DataW.trod enc P w base spare held fuel T cs = some x) :
    cs.length = s ∧ ∀ (i o F : Nat) (ti : TI), fs[i]? = some (o, F) → tiOf P F = some ti → ∃ n x', DataW.trod enc P w base spare held n F ((cs.drop o).take ti.size) = some x' := by
  obtain ⟨fa, hu, hm⟩ := ti_struct hT
  obtain ⟨xs, n, _, _, hl, hxl, hf⟩ := DataW.trod_struct hu h
  refine ⟨by rw [hl, cellsOf_ti hT], fun i o F ti hi hF => ?_⟩
  rw [← hm] at hi
  simp only [List.getElem?_map, Option.map_eq_some_iff] at hi
  obtain ⟨f, h1, h2⟩ := hi
  simp only [Prod.mk.injEq] at h2
  obtain ⟨rfl, rfl⟩ := h2
  have h3 := hf i f (by simpa using h1)
  rw [cellsOf_ti hF] at h3
  have hlt : i < xs.length := by
    have := (List.getElem?_eq_some_iff.1 h1).1
    rw [hxl]; simpa using this
  exact ⟨n, xs[i], by rw [h3, List.getElem?_eq_getElem hlt]⟩
theorem trod_i {T : TypeId} {k : IntKind} {s y fuel : Nat} {cs : List Value} {x : DataW H × List MemPlace} (hT : tiOf P T = some ⟨.int k, s, y⟩) (h : DataW.trod enc P w base spare held fuel T cs = some x) : ∃ n, cs = [.int k n] ∧ (Lit.int k n).wf = true := by
  obtain ⟨i, d, _, hd, hk, _, _⟩ := ti_spec hT
  cases d <;> simp only [tkOf, reduceCtorEq, TK.int.injEq] at hk
  subst hk
  obtain ⟨n, h1, _, h2⟩ := DataW.trod_int hd h
  exact ⟨n, h1, h2⟩
/-- What is known of a slice that came in. -/
def InSl {α : Type} (w : World) (a : Option Addr) (e : α → List Value) (sz : Nat) (l : List α) : Prop :=
  (∀ q ∈ l, (e q).length = sz) ∧ l.length ≤ maxLen ∧ (0 < l.length → ∃ b off, a = some ⟨b, off, none⟩ ∧ b < w.heap.size ∧ ∀ i q j v, l[i]? = some q → (e q)[j]? = some v → w.cell? ⟨b, off + (i * sz + j), none⟩ = some v)
theorem open_sl {α : Type} [Inhabited α] {e : α → List Value} {ok : α → Prop} {T E sz s y : Nat} {ti : TI} {fuel : Nat} {v : Value} {x : DataW H × List MemPlace} (hT : tiOf P T = some ⟨.sl E, s, y⟩) (hE : tiOf P E = some ti) (hsz : ti.size = sz) (hpos : 0 < sz)
    (hel : ∀ n cs x, DataW.trod enc P w base spare held n E cs = some x → ∃ q : α, cs = e q ∧ ok q) (hlen : ∀ q, (e q).length = sz) (h : DataW.trod enc P w base spare held fuel T [v] = some x) :
    ∃ (l : List α) (a : Option Addr) (c : Nat), v = .slice a l.length c ∧ InSl w a e sz l ∧ (∀ q ∈ l, ok q) ∧ l.length ≤ c := by
  rcases open_slice (ti_slice hT) h with ⟨hc, _⟩ | ⟨a, len, cap, m, n, D, Pl, hcs, _, hl, hm, hmm, _, hi⟩
  · simp only [List.cons.injEq, and_true] at hc
    subst hc
    exact ⟨[], none, 0, rfl, ⟨by simp, by simp, by simp⟩, by simp, Nat.le_refl _⟩
  · simp only [List.cons.injEq, and_true] at hcs
    subst hcs
    have hlm : len ≤ m := by rw [hmm]; split <;> omega
    have hex : ∀ i, ∃ q : α, i < len → ok q ∧ w.cells? base (a.add (i * sz)) sz = some (e q) := by
      intro i
      by_cases hil : i < len
      · obtain ⟨cs', h1, h2⟩ := hi i (by omega)
        obtain ⟨q, rfl, hq⟩ := hel _ _ _ h2
        rw [cellsOf_ti hE, hsz] at h1
        exact ⟨q, fun _ => ⟨hq, h1⟩⟩
      · exact ⟨default, fun h => absurd h hil⟩
    let f : Nat → α := fun i => Classical.choose (hex i)
    have hf : ∀ i, i < len → ok (f i) ∧ w.cells? base (a.add (i * sz)) sz = some (e (f i)) := fun i => Classical.choose_spec (hex i)
    refine ⟨(List.range len).map f, some a, cap, by simp, ⟨fun q _ => hlen q, by simp; omega, fun hp => ?_⟩, ?_, by simp; omega⟩
    · simp only [List.length_map, List.length_range] at hp
      have h0 := (hf 0 hp).2
      obtain ⟨_, _, hat⟩ := World.cells?_some h0
      have hc0 := hat 0 hpos
      have hv0 : (e (f 0))[0]? = some ((e (f 0))[0]'(by rw [hlen]; exact hpos)) := List.getElem?_eq_getElem _
      rw [hv0, Nat.zero_mul] at hc0
      have hadd : ((a.add 0).add 0) = a := rfl
      rw [hadd] at hc0
      obtain ⟨b, off, sp⟩ := a
      have hsp : sp = none := by
        cases sp with
        | none => rfl
        | some q => unfold World.cell? at hc0; simp only at hc0; split at hc0 <;> simp at hc0
      subst hsp
      refine ⟨b, off, rfl, World.block_lt_of_cell? _ _ hc0, fun i q j v hq hj => ?_⟩
      have hil : i < len := by have := (List.getElem?_eq_some_iff.1 hq).1; simpa using this
      have hqe : f i = q := by
        rw [List.getElem?_map, List.getElem?_range hil] at hq
        simpa using hq
      obtain ⟨_, _, hat⟩ := World.cells?_some (hf i hil).2
      have hjl : j < sz := by have := (List.getElem?_eq_some_iff.1 hj).1; rw [hlen] at this; exact this
      have := hat j hjl
      rw [hqe, hj, add_none, add_none, Nat.add_assoc] at this
      exact this
    · intro q hq
      obtain ⟨i, hi, rfl⟩ := List.mem_map.1 hq
      exact (hf i (List.mem_range.1 hi)).1
end
/-- the row of a slice that came in -/
def rowsOf {α : Type} (a : Option Addr) (e : α → List Value) (l : List α) : List Row :=
  match a, l with
  | some ⟨b, off, _⟩, _ :: _ => [⟨b, off, l.flatMap e, none, 0⟩]
  | _, _ => []
theorem InSl.ok {α : Type} {w : World} {a : Option Addr} {e : α → List Value} {sz B : Nat} {l : List α} (h : InSl w a e sz l) : ∀ r ∈ rowsOf a e l, r.own = none ∧ r.ok B w := by
  intro r hr
  cases l with
  | nil => cases a with | none => cases hr | some a => cases hr
  | cons q l =>
    obtain ⟨b, off, rfl, hb, hc⟩ := h.2.2 (by simp)
    simp only [rowsOf, List.mem_singleton] at hr
    subst hr
    refine ⟨rfl, hb, fun j v hj => ?_⟩
    obtain ⟨i, q', k, rfl, hi, hk⟩ := flat_get h.1 hj
    exact hc i q' k v hi hk
theorem InSl.sl {α : Type} {w : World} {a : Option Addr} {e : α → List Value} {sz : Nat} {l : List α} {H : List Row} (h : InSl w a e sz l) (hs : ∀ r ∈ rowsOf a e l, r ∈ H) : SlE H a e sz l := by
  refine ⟨h.1, fun hp => ?_⟩
  obtain ⟨b, off, rfl, _, _⟩ := h.2.2 hp
  cases l with
  | nil => simp at hp
  | cons q l =>
    refine ⟨b, off, rfl, _, 0, hs _ (List.mem_singleton.2 rfl), rfl, rfl, fun i q' j v hi hj => ?_⟩
    rw [Nat.zero_add]
    exact flat_at h.1 i q' j v hi hj
/-- the start: only what came in is known -/
theorem St.start {w : World} {H : List Row} (h : ∀ r ∈ H, r.own = none ∧ r.ok w.heap.size w) : St w.heap.size w H w := by
  refine ⟨Below.refl _ _, Nat.le_refl _, fun r hr => (h r hr).2, ?_⟩
  rw [List.pairwise_iff_getElem]
  intro i j hi hj _ ho
  have h1 := (h _ (List.getElem_mem hi)).1
  have h2 := (h _ (List.getElem_mem hj)).1
  rw [h1, h2] at ho
  simp at ho
/-- from a contract to the call in a world -/
theorem Fc.calls {P : Program} {f : FuncId} {args : List Value} {H : List Row} {v : Value} {w : World} (h : Fc P f args H (fun u _ => u = v)) (hH : ∀ r ∈ H, r.own = none ∧ r.ok w.heap.size w) :
    Calls P f args.toArray w fun e w' => e = .returned v ∧ Below w.heap.size w w' := by
  unfold Fc at h
  refine (h.2 _ _ _ (St.start hH)).mono ?_
  rintro e w' ⟨u, H', rfl, rfl, hS⟩
  exact ⟨rfl, hS.below⟩
end Go.Fw
end
section
set_option linter.unusedVariables false
namespace Go.Proofs.Ytminkpgacomicaa
open Go Go.Fw Go.ChangeShapes Go.WideShapes
set_option maxRecDepth 10000
instance : Inhabited Sp := ⟨⟨0, 0⟩⟩
instance : Inhabited Bx := ⟨⟨0, 0⟩⟩
instance : Inhabited Mt := ⟨⟨0, 0, 0, 0, 0, 0⟩⟩
def w64 (n : Int) : Prop := (Lit.int .i64 n).wf = true
section
variable {H : Type} {enc : TypeId × Value → H} {w : World} {base : Nat} {spare : Nat → Bool} {held : Bool} {fuel : Nat} {cs : List Value} {x : DataW H × List MemPlace}
theorem open_i (h : DataW.trod enc Try.prog w base spare held fuel 3 cs = some x) : ∃ q : Int, cs = cI q ∧ w64 q := trod_i (te rfl) h
theorem open_sp (h : DataW.trod enc Try.prog w base spare held fuel 28 cs = some x) : ∃ q : Sp, cs = cSp q ∧ (w64 q.lo ∧ w64 q.hi) := by
  obtain ⟨hl, hf⟩ := trod_st (te rfl) h
  obtain ⟨n0, y0, h0⟩ := hf 0 0 3 _ rfl (te rfl)
  obtain ⟨n1, y1, h1⟩ := hf 1 1 3 _ rfl (te rfl)
  match cs, hl with
  | [a, b], _ =>
    obtain ⟨lo, e0, w0⟩ := open_i h0
    obtain ⟨hi, e1, w1⟩ := open_i h1
    simp [cI] at e0 e1
    subst e0 e1
    exact ⟨⟨lo, hi⟩, rfl, w0, w1⟩
theorem open_bx (h : DataW.trod enc Try.prog w base spare held fuel 33 cs = some x) : ∃ q : Bx, cs = cBx q ∧ (w64 q.id ∧ w64 q.made) := by
  obtain ⟨hl, hf⟩ := trod_st (te rfl) h
  obtain ⟨n0, y0, h0⟩ := hf 0 0 3 _ rfl (te rfl)
  obtain ⟨n1, y1, h1⟩ := hf 1 1 3 _ rfl (te rfl)
  match cs, hl with
  | [a, b], _ =>
    obtain ⟨lo, e0, w0⟩ := open_i h0
    obtain ⟨hi, e1, w1⟩ := open_i h1
    simp [cI] at e0 e1
    subst e0 e1
    exact ⟨⟨lo, hi⟩, rfl, w0, w1⟩
theorem open_mt (h : DataW.trod enc Try.prog w base spare held fuel 30 cs = some x) : ∃ q : Mt, cs = cMt q ∧ (w64 q.number ∧ w64 q.month ∧ w64 q.a ∧ w64 q.b ∧ w64 q.lo ∧ w64 q.hi) := by
  obtain ⟨hl, hf⟩ := trod_st (te rfl) h
  obtain ⟨n0, y0, h0⟩ := hf 0 0 3 _ rfl (te rfl)
  obtain ⟨n1, y1, h1⟩ := hf 1 1 3 _ rfl (te rfl)
  obtain ⟨n2, y2, h2⟩ := hf 2 2 3 _ rfl (te rfl)
  obtain ⟨n3, y3, h3⟩ := hf 3 3 3 _ rfl (te rfl)
  obtain ⟨n4, y4, h4⟩ := hf 4 4 28 _ rfl (te rfl)
  match cs, hl with
  | [a, b, c, d, e, f], _ =>
    obtain ⟨q0, e0, w0⟩ := open_i h0
    obtain ⟨q1, e1, w1⟩ := open_i h1
    obtain ⟨q2, e2, w2⟩ := open_i h2
    obtain ⟨q3, e3, w3⟩ := open_i h3
    obtain ⟨q4, e4, w4⟩ := open_sp h4
    simp [cI, cSp] at e0 e1 e2 e3 e4
    obtain ⟨e4, e5⟩ := e4
    subst e0 e1 e2 e3 e4 e5
    exact ⟨⟨q0, q1, q2, q3, q4.lo, q4.hi⟩, rfl, w0, w1, w2, w3, w4.1, w4.2⟩
end
structure InRm (w : World) (R : Rm) (p : Pl) : Prop where
  ages : InSl w p.a1 cSp 2 R.ages
  boxes : InSl w p.a2 cBx 2 R.boxes
  mats : InSl w p.a3 cMt 6 R.mats
  mo : w64 R.months
  st : w64 R.step
  k1 : R.ages.length ≤ p.c1
  k2 : R.boxes.length ≤ p.c2
  k3 : R.mats.length ≤ p.c3
def rowsRm (R : Rm) (p : Pl) : List Row := rowsOf p.a1 cSp R.ages ++ (rowsOf p.a2 cBx R.boxes ++ rowsOf p.a3 cMt R.mats)
theorem InRm.rm {w : World} {R : Rm} {p : Pl} {H : List Row} (h : InRm w R p) (hs : ∀ r ∈ rowsRm R p, r ∈ H) : RmOk H R p where
  ages := h.ages.sl fun r hr => hs r (List.mem_append_left _ hr)
  boxes := h.boxes.sl fun r hr => hs r (List.mem_append_right _ (List.mem_append_left _ hr))
  mats := h.mats.sl fun r hr => hs r (List.mem_append_right _ (List.mem_append_right _ hr))
  l1 := by have := h.ages.2.1; unfold maxLen at this; omega
  l2 := by have := h.boxes.2.1; unfold maxLen at this; omega
  l3 := by have := h.mats.2.1; unfold maxLen at this; omega
theorem InRm.ok {w : World} {R : Rm} {p : Pl} {B : Nat} (h : InRm w R p) : ∀ r ∈ rowsRm R p, r.own = none ∧ r.ok B w := by
  intro r hr
  rcases List.mem_append.1 hr with hr | hr
  · exact h.ages.ok r hr
  · rcases List.mem_append.1 hr with hr | hr
    · exact h.boxes.ok r hr
    · exact h.mats.ok r hr
section
variable {H : Type} {enc : TypeId × Value → H} {w : World} {base : Nat} {spare : Nat → Bool} {held : Bool} {v : Value} {d : DataW H} {p : List MemPlace} {r : Reach} {b0 : Nat}
theorem open_room (hv : Value.okWide Try.prog w r b0 26 v) (h : DataW.Trod enc Try.prog w base spare held 26 v d p) : ∃ R pl, v = .agg (cRm R pl).toArray ∧ InRm w R pl := by
  obtain ⟨fa, hu, _⟩ := ti_struct (te (T := 26) rfl)
  obtain ⟨⟨cs⟩, rfl, _⟩ := okWide_struct hu hv
  obtain ⟨fuel, hf⟩ := h
  obtain ⟨hl, hf⟩ := trod_st (te rfl) hf
  obtain ⟨n0, y0, h0⟩ := hf 0 0 3 _ rfl (te rfl)
  obtain ⟨n1, y1, h1⟩ := hf 1 1 3 _ rfl (te rfl)
  obtain ⟨n2, y2, h2⟩ := hf 2 2 22 _ rfl (te rfl)
  obtain ⟨n3, y3, h3⟩ := hf 3 3 23 _ rfl (te rfl)
  obtain ⟨n4, y4, h4⟩ := hf 4 4 24 _ rfl (te rfl)
  match cs, hl with
  | [a, b, c, d, e], _ =>
    obtain ⟨q0, e0, w0⟩ := open_i h0
    obtain ⟨q1, e1, w1⟩ := open_i h1
    simp [cI, Value.cells] at e0 e1
    obtain ⟨l2, a2, c2, e2, i2, _, k2⟩ := open_sl (te rfl) (te rfl) rfl (by decide) (fun _ _ _ => open_sp) (fun _ => rfl) h2
    obtain ⟨l3, a3, c3, e3, i3, _, k3⟩ := open_sl (te rfl) (te rfl) rfl (by decide) (fun _ _ _ => open_bx) (fun _ => rfl) h3
    obtain ⟨l4, a4, c4, e4, i4, _, k4⟩ := open_sl (te rfl) (te rfl) rfl (by decide) (fun _ _ _ => open_mt) (fun _ => rfl) h4
    subst e0 e1 e2 e3 e4
    exact ⟨⟨q0, q1, l2, l3, l4⟩, ⟨a2, c2, a3, c3, a4, c4⟩, rfl, i2, i3, i4, w0, w1, k2, k3, k4⟩
theorem open_match (hv : Value.okWide Try.prog w r b0 30 v) (h : DataW.Trod enc Try.prog w base spare held 30 v d p) : ∃ q : Mt, v = .agg (cMt q).toArray := by
  obtain ⟨fa, hu, _⟩ := ti_struct (te (T := 30) rfl)
  obtain ⟨⟨cs⟩, rfl, _⟩ := okWide_struct hu hv
  obtain ⟨fuel, hf⟩ := h
  obtain ⟨q, e, _⟩ := open_mt hf
  simp only [Value.cells] at e
  exact ⟨q, by rw [← e]⟩
theorem open_box (hv : Value.okWide Try.prog w r b0 33 v) (h : DataW.Trod enc Try.prog w base spare held 33 v d p) : ∃ q : Bx, v = .agg (cBx q).toArray := by
  obtain ⟨fa, hu, _⟩ := ti_struct (te (T := 33) rfl)
  obtain ⟨⟨cs⟩, rfl, _⟩ := okWide_struct hu hv
  obtain ⟨fuel, hf⟩ := h
  obtain ⟨q, e, _⟩ := open_bx hf
  simp only [Value.cells] at e
  exact ⟨q, by rw [← e]⟩
theorem open_list (hv : Value.okWide Try.prog w r b0 31 v) (h : DataW.Trod enc Try.prog w base spare held 31 v d p) : ∃ (l : List Int) (a : Option Addr) (c : Nat), v = .slice a l.length c ∧ InSl w a cI 1 l ∧ (∀ q ∈ l, w64 q) ∧ l.length ≤ c := by
  obtain ⟨a, len, cap, rfl⟩ := okWide_slice Try.underlying31 hv
  obtain ⟨fuel, hf⟩ := h
  exact open_sl (te rfl) (te rfl) rfl (by decide) (fun _ _ _ => open_i) (fun _ => rfl) hf
end
end Go.Proofs.Ytminkpgacomicaa
end
section
set_option linter.unusedVariables false
namespace Go.Proofs.Ytminkpgacomicaa
open Go Go.Fw Go.ChangeShapes Go.WideShapes Go.ChangeAt Go.RowKit
set_option linter.unusedVariables false
set_option maxRecDepth 100000
theorem ownK : ownKnob Try.prog.godebug = none := by kernel_rfl
theorem laidO : laidOutB Try.prog = true := by kernel_rfl
theorem boxChanges_run (R : Rm) (p : Pl) (x : Mt) (l : List Int) (al : Option Addr) (cl : Nat) (y : Bx) (w : World) (hR : InRm w R p) (hl : InSl w al cI 1 l) :
    Calls Try.prog 3 #[.agg (cRm R p).toArray, .agg (cMt x).toArray, .slice al l.length cl, .agg (cBx y).toArray] w fun e w' => e = .returned (.bool true) ∧ Below w.heap.size w w' := by
  refine Fc.calls (H := rowsRm R p ++ rowsOf al cI l) (boxChanges_spec R p x l al cl y _ (hR.rm (fun r h => List.mem_append_left _ h)) (hl.sl (fun r h => List.mem_append_right _ h)) hR.k2 hR.k3) (fun r hr => ?_)
  rcases List.mem_append.1 hr with hr | hr
  · exact hR.ok r hr
  · exact hl.ok r hr
theorem lifted (os : Os) (started : os.Started) (H : Type) (enc : TypeId × Value → H) :
    ReturnsInHanded {} Try.checked os 3 .any (Rows.boxChangesSpec.pre6 enc Try.prog Try.f3 Rows.boxChangesRow.domain false) (Rows.boxChangesSpec.post enc Try.prog Try.f3 false true false false) := by
  refine returnsInHanded_of_change (C := Try.checked) ownK started (by kernel_rfl) Try.func3
    (ChangeSpec.witness6 (enc := enc) (C := Try.checked) false ⟨#[], #[.agg (cRm Rz pz).toArray, .agg (cMt ⟨0, 0, 0, 0, 0, 0⟩).toArray, .slice none 0 0, .agg (cBx ⟨0, 0⟩).toArray], []⟩ 8 (by kernel_rfl) (by kernel_rfl) (by kernel_rfl) (by kernel_rfl)) ?_
  intro W base args ds gs before hval0 hW hcnd _
  have hval : ∀ (j : Nat) t v, Try.f3.params[j]? = some t → args[j]? = some v → Value.okWide Try.prog W .any base t v := hval0
  have hW' := hW
  obtain ⟨p, q, hA0, hV, rfl, hfz, hnd⟩ := hW
  have hA : DataW.TrodAll enc Try.prog W 0 (fun _ => true) true Try.f3.params.toList args.toList ds p := hA0
  rw [Try.params3] at hA hval
  obtain ⟨v0, vs0, d0, ds0, p0, q0, hargs, rfl, rfl, h0, r0⟩ := trodAll_cons hA
  obtain ⟨v1, vs1, d1, ds1, p1, q1, rfl, rfl, rfl, h1, r1⟩ := trodAll_cons r0
  obtain ⟨v2, vs2, d2, ds2, p2, q2, rfl, rfl, rfl, h2, r2⟩ := trodAll_cons r1
  obtain ⟨v3, vs3, d3, ds3, p3, q3, rfl, rfl, rfl, h3, r3⟩ := trodAll_cons r2
  obtain ⟨rfl, rfl, rfl⟩ := trodAll_nil r3
  obtain rfl : args = #[v0, v1, v2, v3] := by cases args; simp_all
  obtain ⟨rfl, rfl⟩ := trodVars_none hV
  have lt : ∀ {t v d ps}, DataW.Trod enc Try.prog W 0 (fun _ => true) true t v d ps → ∀ x ∈ ps, x.block < W.heap.size := fun h => by obtain ⟨m, hm⟩ := h; exact DataW.trod_lt m _ _ _ hm
  obtain ⟨R, pl, rfl, hR⟩ := open_room (hval 0 _ v0 rfl rfl) h0
  obtain ⟨x, rfl⟩ := open_match (hval 1 _ v1 rfl rfl) h1
  obtain ⟨l, al, cl, rfl, hl, _, _⟩ := open_list (hval 2 _ v2 rfl rfl) h2
  obtain ⟨y, rfl⟩ := open_box (hval 3 _ v3 rfl rfl) h3
  clear hA0 hval0
  refine (boxChanges_run R pl x l al cl y W hR hl).mono fun e W' ⟨he, bel⟩ => ?_
  subst he
  exact ⟨_, rfl, _, _, _, [], _, [], hW', trodAll_mk1 (shut_bool Try.underlying4 _), (trodAll_cons_mk (Below.trod laidO (by kernel_rfl) (of_decide_eq_true (by kernel_rfl)) h0 bel (lt h0)) (trodAll_cons_mk (Below.trod laidO (by kernel_rfl) (of_decide_eq_true (by kernel_rfl)) h1 bel (lt h1)) (trodAll_cons_mk (Below.trod laidO (by kernel_rfl) (of_decide_eq_true (by kernel_rfl)) h2 bel (lt h2)) (trodAll_cons_mk (Below.trod laidO (by kernel_rfl) (of_decide_eq_true (by kernel_rfl)) h3 bel (lt h3)) trodAll_mk0)))), rfl, bel.frame _, fun h => by cases h⟩
theorem over : Rows.boxChangesRow.holds Try.pinned (OpenSpec.ofChange Rows.boxChangesSpec) :=
  OpenClaim.holds_of_wide 3 Try.f3 rfl rfl rfl rfl rfl rfl rfl ⟨rfl, rfl, rfl, rfl, rfl⟩ rfl rfl rfl rfl rfl (by kernel_rfl) Try.func3 (by kernel_rfl)
    (of_decide_eq_true (by kernel_rfl)) (by unfold Func.isWrapper; first | (rw [if_pos (by decide +kernel)]; kernel_rfl) | (rw [if_neg (by decide +kernel)]; exact ⟨rfl, rfl⟩))
    (fun os started H enc _ => lifted os started H enc)
theorem boxChanges_proved : Rows.BoxChangesSaid := over
#print axioms boxChanges_proved
end Go.Proofs.Ytminkpgacomicaa
end
