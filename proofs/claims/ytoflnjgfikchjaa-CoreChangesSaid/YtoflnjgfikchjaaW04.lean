/- Own work: contracts of functions, from rows of what is known of the memory; contracts of functions, from rows of what is known of the memory; contracts of functions, from rows of what is known of the memory; contracts of functions, from rows of what is known of the memory; contracts of functions, from rows of what is known of the memory; contracts of functions, from rows of what is known of the memory; contracts of functions, from rows of what is known of the memory; contracts of functions, from rows of what is known of the memory; contracts of functions, from rows of what is known of the memory; contracts of functions, from rows of what is known of the memory -/
import Derived.Test.YtoflnjgfikchjaaW03
import Derived.Maps.RangeRun
import Derived.Laws.Entries
section
set_option linter.unusedVariables false
set_option linter.unusedSimpArgs false
namespace Go.Proofs.Ytoflnjgfikchjaa
open Go Go.Fw
set_option maxRecDepth 10000
def cBl0 (i y dl dh : Int) (v w : Value) : List Value := [.int .i64 i, .int .i64 y, .int .i64 dl, .int .i64 dh, v, w]
def tsputBl : List TOp := [⟨some 18, [], [], []⟩, ⟨some 19, [0], [0], []⟩, ⟨some 20, [], [], []⟩, ⟨some 21, [0, 1, 2], [1, 2], []⟩, ⟨some 22, [], [], []⟩, ⟨some 23, [4], [4], []⟩, ⟨some 24, [0, 1, 2, 3, 4, 5], [5], []⟩, ⟨some 25, [0, 1, 2, 3, 4, 5], [], []⟩, ⟨none, [0, 1, 2, 3, 4, 5, 6, 7], [7, 3], [11]⟩, ⟨some 26, [0, 1, 2, 3, 4, 5, 6, 7, 8], [], []⟩, ⟨none, [0, 1, 2, 3, 4, 5, 6, 7, 8, 9], [9, 6], [8]⟩, ⟨none, [], [], []⟩]
def rdputBl (k : Nat) : List Nat := match k with
  | 1 => [11]
  | 5 => [11]
  | _ => []
def valputBl (b1 : Nat) (B : Bl) (x : Dr) (d1 : Addr) (c1 : Nat) (d2 : Addr) (c2 : Nat) (k : Nat) (env : Env) : Value :=
  match k with
  | 0 => .pointer (some ⟨b1, 4, none⟩)
  | 1 => .slice (some d1) B.draws.length c1
  | 2 => .agg (cDr x).toArray
  | 3 => .slice (some ⟨(env 3).1, 0, none⟩) (insDr x B.draws).length (env 3).2
  | 4 => .pointer (some ⟨b1, 5, none⟩)
  | 5 => .slice (some d2) B.weighs.length c2
  | 6 => .slice (some ⟨(env 6).1, 0, none⟩) B.weighs.length (env 6).2
  | 7 => .pointer (some ⟨b1, 4, none⟩)
  | 9 => .pointer (some ⟨b1, 5, none⟩)
  | _ => undef
def rowsputBl (b1 : Nat) (B : Bl) (x : Dr) (d1 : Addr) (c1 : Nat) (d2 : Addr) (c2 : Nat) (k : Nat) (env : Env) : List Row :=
  match k with
  | 3 => [⟨(env 3).1, 0, (insDr x B.draws).flatMap cDr, some 29, (env 3).2 * 4⟩]
  | 6 => [⟨(env 6).1, 0, B.weighs.flatMap cDr, some 31, (env 6).2 * 4⟩]
  | 8 => [⟨b1, 0, cBl0 B.id B.layers B.dlo B.dhi (.slice (some ⟨(env 3).1, 0, none⟩) (insDr x B.draws).length (env 3).2) (.slice (some d2) B.weighs.length c2), some 27, 6⟩]
  | 10 => [⟨b1, 0, cBl0 B.id B.layers B.dlo B.dhi (.slice (some ⟨(env 3).1, 0, none⟩) (insDr x B.draws).length (env 3).2) (.slice (some ⟨(env 6).1, 0, none⟩) B.weighs.length (env 6).2), some 27, 6⟩]
  | 11 => [⟨b1, 0, cBl B ⟨some d1, c1, some d2, c2⟩, some 27, 6⟩]
  | _ => []
theorem locputBl (b1 : Nat) (B : Bl) (x : Dr) (d1 : Addr) (c1 : Nat) (d2 : Addr) (c2 : Nat) : ∀ k env i q9, i ≠ k → (tAt tsputBl k).sup.contains i = false → valputBl b1 B x d1 c1 d2 c2 k (upd env i q9) = valputBl b1 B x d1 c1 d2 c2 k env ∧ rowsputBl b1 B x d1 c1 d2 c2 k (upd env i q9) = rowsputBl b1 B x d1 c1 d2 c2 k env := by
  intro k env i q hk hs
  have hu : ∀ j, j ≠ i → upd env i q j = env j := fun j hj => by unfold upd; rw [if_neg hj]
  match k, hk, hs with
  | 0, _, _ => exact ⟨rfl, rfl⟩
  | 1, _, _ => exact ⟨rfl, rfl⟩
  | 2, _, _ => exact ⟨rfl, rfl⟩
  | 3, hk, hs => exact ⟨by simp only [valputBl, hu 3 (fun e => hk e.symm)], by simp only [rowsputBl, hu 3 (fun e => hk e.symm)]⟩
  | 4, _, _ => exact ⟨rfl, rfl⟩
  | 5, _, _ => exact ⟨rfl, rfl⟩
  | 6, hk, hs => exact ⟨by simp only [valputBl, hu 6 (fun e => hk e.symm)], by simp only [rowsputBl, hu 6 (fun e => hk e.symm)]⟩
  | 7, _, _ => exact ⟨rfl, rfl⟩
  | 8, hk, hs => exact ⟨by simp only [valputBl, hu 3 (by rintro rfl; cases hs)], by simp only [rowsputBl, hu 3 (by rintro rfl; cases hs)]⟩
  | 9, _, _ => exact ⟨rfl, rfl⟩
  | 10, hk, hs => exact ⟨by simp only [valputBl, hu 3 (by rintro rfl; cases hs), hu 6 (by rintro rfl; cases hs)], by simp only [rowsputBl, hu 3 (by rintro rfl; cases hs), hu 6 (by rintro rfl; cases hs)]⟩
  | 11, _, _ => exact ⟨rfl, rfl⟩
  | _ + 12, _, _ => exact ⟨rfl, rfl⟩
set_option maxHeartbeats 4000000 in
theorem putBl_spec (B : Bl) (x : Dr) (d1 : Addr) (c1 : Nat) (d2 : Addr) (c2 : Nat) (H : List Row)
    (hB : BlOk H B ⟨some d1, c1, some d2, c2⟩) :
    Fc Try.prog 9 [.agg (cBl B ⟨some d1, c1, some d2, c2⟩).toArray, .agg (cDr x).toArray] H (ProgB (bputF B x) H) := by
  have hB3 : ∀ r1 r2 r3, BlOk (r1 :: r2 :: r3 :: H) B ⟨some d1, c1, some d2, c2⟩ := fun r1 r2 r3 => hB.sub (fun _ h => List.Mem.tail _ (List.Mem.tail _ (List.Mem.tail _ h)))
  have l1 := hB.l1
  have l2 := hB.l2
  have hil := insDr_len x B.draws
  refine Fc.mk (callable Try.call9) Try.func9 rfl Try.ntmps9 rfl ?_; dsimp only [fr]
  refine X.seq rfl ?_; refine X.region rfl (fun K hK => ?_); repeat' (first | (refine XO.op rfl ?_; (first | ((first | refine Xo.ng rfl ?_); (first | (refine Xg.ev (EvF.assign rfl rfl) rfl rfl ?_) | (refine Xg.st (StF.boxAgg rfl rfl) rfl rfl ?_; rintro _ _ ⟨bx, rfl, rfl⟩) | (refine Xg.st (StF.alloc rfl Try.zeroValue27 rfl) rfl rfl ?_; rintro _ _ ⟨bx, rfl, rfl⟩))))) | (refine XO.done rfl ?_; refine hK _ _ ?_; clear hK K))
  rename_i b1 b3
  rename Nat => b2
  repeat' (first | (refine XO.op rfl ?_; (first | ((first | refine Xo.ng rfl ?_); (first | (refine Xg.ev (EvF.build (cs := cZb) rfl ArgsP.nil (te rfl) (Places.cons (te rfl) (Places.cons (te rfl) (Places.cons (te rfl) (Places.cons (te rfl) (Places.cons (te rfl) Places.nil))))) Try.zeroValue27 rfl) rfl rfl ?_) | (refine Xg.call (EnF.st rfl (by (repeat (first | exact Args.nil | refine Args.cons rfl ?_)); done)) rfl rfl (kcheck2_spec B _ _ (hB3 _ _ _)) ?_; rintro _ H9 ⟨⟨hr, rfl⟩ | ⟨hr, rfl⟩, hH9⟩ <;> subst H9) | (refine Xg.ev (EvF.move rfl rfl) rfl rfl ?_) | (refine Xg.ev (EvF.assign rfl rfl) rfl rfl ?_) | (refine Xg.ev (EvF.cmp rfl rfl rfl rfl) rfl rfl ?_) | (refine Xg.ev (EvF.fieldAddr rfl rfl (te rfl) rfl (te rfl) (by decide)) rfl rfl ?_) | (refine Xg.ev (EvF.lenSlice rfl rfl (te rfl)) rfl rfl ?_) | (refine Xg.ev (EvF.loadV rfl rfl (LoadV.own (te rfl) rfl (List.Mem.tail _ (List.Mem.tail _ (List.Mem.head _))) rfl)) rfl rfl ?_) | (refine Xg.ev (EvF.loadV rfl rfl (LoadV.whole (te rfl) rfl (List.Mem.tail _ (List.Mem.tail _ (List.Mem.head _))) rfl)) rfl rfl ?_) | (refine Xg.st0 (StF.storeAll (i := 0) rfl rfl rfl (te rfl) rfl rfl rfl rfl) rfl ?_; rintro _ _ ⟨rfl, rfl⟩; dsimp only [List.set]))))) | (refine XO.done rfl ?_; refine hK _ _ ?_; clear hK K) | refine X.seq rfl ?_ | refine X.region rfl (fun K hK => ?_) | refine X.skip rfl ?_ | refine X.ret rfl ?_ | (refine X.ite rfl rfl (fun hc => ?_); (first | (with_reducible refine Xb.case hc (fun h => ?_) (fun h => ?_)) | (with_reducible refine Xb.caseN hc (fun h => ?_) (fun h => ?_))) <;> clear hc))
  all_goals try (exfalso; omega)
  · refine ret_two (by first | exact .inr rfl | exact .inl rfl) Try.results9 ⟨_, rfl, LoadV.whole (te rfl) rfl (List.Mem.head _) rfl⟩ rfl (H' := H) (by (repeat (first | exact List.Sublist.refl _ | apply List.Sublist.cons)); done) ?_
    have e : bputF B x = (Bz, 9) := by unfold bputF; rw [if_pos hr, if_pos (by omega)]
    unfold ProgB; rw [e]
    exact ⟨pzb, [], rfl, rfl, .inl ⟨rfl, rfl, rfl⟩⟩
  · refine X.permH (H' := ⟨b1, 0, cBl B ⟨some d1, c1, some d2, c2⟩, some 27, 6⟩ :: ⟨b2, 0, cZb, some 27, 6⟩ :: ⟨b3, 0, cDr x, some 29, 4⟩ :: H) (List.perm_append_comm (l₁ := [_]) (l₂ := [_, _]) |>.append_right H) ?_
    refine X.regionRd tsputBl rdputBl [2, 3, 4] [(2, .pointer (some ⟨b1, 0, none⟩)), (3, .pointer (some ⟨b3, 0, none⟩)), (4, .pointer (some ⟨b2, 0, none⟩))] (valputBl b1 B x d1 c1 d2 c2) (rowsputBl b1 B x d1 c1 d2 c2) (fun _ => (0, 0)) (⟨b2, 0, cZb, some 27, 6⟩ :: ⟨b3, 0, cDr x, some 29, 4⟩ :: H) rfl mixed (by (repeat (first | exact Sub.nil _ | refine Sub.cons rfl ?_)); done) rfl (by kernel_rfl) (by kernel_rfl) (locputBl b1 B x d1 c1 d2 c2) (List.Sublist.refl _) ?_ ?_
    · repeat' (first | exact AllF.done rfl | (refine AllF.step rfl ?_ ?_; · (first | exact (Ob.ng rfl (ObK.pure (fun env R hR => by exact ⟨_, EvF.fieldAddr rfl rfl (te rfl) rfl (te rfl) (by decide), rfl⟩) rfl (fun _ => rfl))).toR | exact (Ob.ng rfl (ObK.pure (fun env R hR => by exact ⟨_, EvF.loadV rfl rfl (LoadV.whole (te rfl) rfl (hR _ (List.Mem.tail _ (List.Mem.head _))) rfl), rfl⟩) rfl (fun _ => rfl))).toR | (refine ObR.ng rfl ?_; (first | (exact fun env S hS hrd => (StF.ofEv (EvF.loadV rfl rfl (LoadV.own (te rfl) rfl (hrd 11 (List.Mem.head _) _ (List.Mem.head _)) rfl))).op.mono (fun v H' ⟨hv, hH⟩ => ⟨(0, 0), fun _ => hv, by rw [hH]; exact List.Perm.refl _⟩)) | (exact fun env S hS hrd => (OpF.call (EnF.st rfl (by (repeat (first | exact Args.nil | refine Args.cons rfl ?_)); done)) (put_specDr B.draws x d1 c1 _ (hB.draws.sub (fun r hr => hS r (List.Mem.tail _ (List.Mem.tail _ hr)))) l1)).mono (fun v H' ⟨b, k, hv, hH⟩ => ⟨(b, k), fun _ => hv, by rw [hH]; exact List.Perm.refl _⟩)) | (exact fun env S hS hrd => (OpF.call (EnF.st rfl (by (repeat (first | exact Args.nil | refine Args.cons rfl ?_)); done)) (clone_specWg B.weighs d2 c2 _ (hB.weighs.sub (fun r hr => hS r (List.Mem.tail _ (List.Mem.tail _ hr)))) l2)).mono (fun v H' ⟨b, k, hv, hH⟩ => ⟨(b, k), fun _ => hv, by rw [hH]; exact List.Perm.refl _⟩)) | (exact fun env S hS hrd => (StF.storeOne (i := 0) rfl rfl rfl rfl (te rfl) rfl rfl (Nat.le_of_ble_eq_true rfl)).op.mono (fun v H' ⟨hv, hH⟩ => ⟨(0, 0), fun h => absurd rfl h, by rw [hH]; exact List.Perm.refl _⟩)))))))
    · intro env t ha hv
      refine ⟨[(2, .pointer (some ⟨b1, 0, none⟩)), (3, .pointer (some ⟨b3, 0, none⟩)), (4, .pointer (some ⟨b2, 0, none⟩))], ha, ?_⟩
      show X _ _ _ _ (rDraws (putBl B x) (env 3).1 (env 3).2 :: rWeighs (putBl B x) (env 6).1 (env 6).2 :: ⟨b1, 0, cBl (putBl B x) (plB (env 3).1 (env 3).2 (env 6).1 (env 6).2), some 27, 6⟩ :: ⟨b2, 0, cZb, some 27, 6⟩ :: ⟨b3, 0, cDr x, some 29, 4⟩ :: H) _
      generalize env 3 = qa
      generalize env 6 = qb
      obtain ⟨t1, k1⟩ := qa
      obtain ⟨t2, k2⟩ := qb
      show X _ _ _ _ (rDraws (putBl B x) t1 k1 :: rWeighs (putBl B x) t2 k2 :: ⟨b1, 0, cBl (putBl B x) (plB t1 k1 t2 k2), some 27, 6⟩ :: ⟨b2, 0, cZb, some 27, 6⟩ :: ⟨b3, 0, cDr x, some 29, 4⟩ :: H) _
      repeat' (first | (refine XO.op rfl ?_; (first | ((first | refine Xo.ng rfl ?_); (first | (refine Xg.ev (EvF.build (cs := cZb) rfl ArgsP.nil (te rfl) (Places.cons (te rfl) (Places.cons (te rfl) (Places.cons (te rfl) (Places.cons (te rfl) (Places.cons (te rfl) Places.nil))))) Try.zeroValue27 rfl) rfl rfl ?_) | (refine Xg.call (EnF.st rfl (by (repeat (first | exact Args.nil | refine Args.cons rfl ?_)); done)) rfl rfl (kcheck2_spec (putBl B x) (plB t1 k1 t2 k2) _ ⟨ownSlB (fun _ => rfl) (by repeat (first | exact List.Mem.head _ | apply List.Mem.tail)), ownSlB (fun _ => rfl) (by repeat (first | exact List.Mem.head _ | apply List.Mem.tail)), (by show (insDr x B.draws).length ≤ _; omega), l2⟩) ?_; rintro _ H9 ⟨⟨hr', rfl⟩ | ⟨hr', rfl⟩, hH9⟩ <;> subst H9) | (refine Xg.st0 (StF.storeAll (i := 3) rfl rfl rfl (te rfl) rfl rfl rfl rfl) rfl ?_; rintro _ _ ⟨rfl, rfl⟩; dsimp only [List.set]) | (refine Xg.ev (EvF.assign rfl rfl) rfl rfl ?_) | (refine Xg.ev (EvF.cmp rfl rfl rfl rfl) rfl rfl ?_) | (refine Xg.ev (EvF.loadV rfl rfl (LoadV.whole (te rfl) rfl (List.Mem.tail _ (List.Mem.tail _ (List.Mem.head _))) rfl)) rfl rfl ?_))))) | (refine XO.done rfl ?_; refine hK _ _ ?_; clear hK K) | refine X.seq rfl ?_ | refine X.region rfl (fun K hK => ?_) | refine X.skip rfl ?_ | refine X.ret rfl ?_ | (refine X.ite rfl rfl (fun hc => ?_); (first | (with_reducible refine Xb.caseN hc (fun h => ?_) (fun h => ?_))) <;> clear hc))
      all_goals try (exfalso; omega)
      · refine ret_two (by first | exact .inr rfl | exact .inl rfl) Try.results9 ⟨_, rfl, LoadV.whole (te rfl) rfl (List.Mem.tail _ (List.Mem.tail _ (List.Mem.tail _ (List.Mem.head _)))) rfl⟩ rfl (H' := [rDraws (putBl B x) t1 k1, rWeighs (putBl B x) t2 k2] ++ H) (by (repeat (first | exact List.Sublist.refl _ | apply List.Sublist.cons_cons | apply List.Sublist.cons)); done) ?_
        have e : bputF B x = (putBl B x, 0) := by unfold bputF; rw [if_pos hr, if_neg (by omega), if_pos hr']
        unfold ProgB; rw [e]
        exact ⟨_, _, rfl, rfl, .inr ⟨t1, k1, t2, k2, rfl, List.Perm.refl _⟩⟩
      · refine ret_two (by first | exact .inr rfl | exact .inl rfl) Try.results9 ⟨_, rfl, LoadV.whole (te rfl) rfl (List.Mem.tail _ (List.Mem.tail _ (List.Mem.tail _ (List.Mem.head _)))) rfl⟩ rfl (H' := H) (by (repeat (first | exact List.Sublist.refl _ | apply List.Sublist.cons)); done) ?_
        have e : bputF B x = (Bz, 33) := by unfold bputF; rw [if_pos hr, if_neg (by omega), if_neg hr']
        unfold ProgB; rw [e]
        exact ⟨pzb, [], rfl, rfl, .inl ⟨rfl, rfl, rfl⟩⟩
  · refine ret_two (by first | exact .inr rfl | exact .inl rfl) Try.results9 ⟨_, rfl, LoadV.whole (te rfl) rfl (List.Mem.head _) rfl⟩ rfl (H' := H) (by (repeat (first | exact List.Sublist.refl _ | apply List.Sublist.cons)); done) ?_
    have e : bputF B x = (Bz, 30) := by unfold bputF; rw [if_neg hr]
    unfold ProgB; rw [e]
    exact ⟨pzb, [], rfl, rfl, .inl ⟨rfl, rfl, rfl⟩⟩
def tswedBl : List TOp := [⟨some 18, [], [], []⟩, ⟨some 19, [0], [0], []⟩, ⟨some 20, [0, 1], [1], []⟩, ⟨some 21, [], [], []⟩, ⟨some 22, [3], [3], []⟩, ⟨some 23, [], [], []⟩, ⟨some 24, [0, 1, 2, 3, 4, 5], [4, 5], []⟩, ⟨some 25, [0, 1, 2, 3, 4], [], []⟩, ⟨none, [0, 1, 2, 3, 4, 5, 6, 7], [7, 2], [11]⟩, ⟨some 26, [0, 1, 2, 3, 4, 5, 6, 7, 8], [], []⟩, ⟨none, [0, 1, 2, 3, 4, 5, 6, 7, 8, 9], [9, 6], [8]⟩, ⟨none, [], [], []⟩]
def rdwedBl (k : Nat) : List Nat := match k with
  | 1 => [11]
  | 4 => [11]
  | _ => []
def valwedBl (b1 : Nat) (B : Bl) (x : Dr) (d1 : Addr) (c1 : Nat) (d2 : Addr) (c2 : Nat) (k : Nat) (env : Env) : Value :=
  match k with
  | 0 => .pointer (some ⟨b1, 4, none⟩)
  | 1 => .slice (some d1) B.draws.length c1
  | 2 => .slice (some ⟨(env 2).1, 0, none⟩) B.draws.length (env 2).2
  | 3 => .pointer (some ⟨b1, 5, none⟩)
  | 4 => .slice (some d2) B.weighs.length c2
  | 5 => .agg (cDr x).toArray
  | 6 => .slice (some ⟨(env 6).1, 0, none⟩) (insWg x B.weighs).length (env 6).2
  | 7 => .pointer (some ⟨b1, 4, none⟩)
  | 9 => .pointer (some ⟨b1, 5, none⟩)
  | _ => undef
def rowswedBl (b1 : Nat) (B : Bl) (x : Dr) (d1 : Addr) (c1 : Nat) (d2 : Addr) (c2 : Nat) (k : Nat) (env : Env) : List Row :=
  match k with
  | 2 => [⟨(env 2).1, 0, B.draws.flatMap cDr, some 29, (env 2).2 * 4⟩]
  | 6 => [⟨(env 6).1, 0, (insWg x B.weighs).flatMap cDr, some 31, (env 6).2 * 4⟩]
  | 8 => [⟨b1, 0, cBl0 B.id B.layers B.dlo B.dhi (.slice (some ⟨(env 2).1, 0, none⟩) B.draws.length (env 2).2) (.slice (some d2) B.weighs.length c2), some 27, 6⟩]
  | 10 => [⟨b1, 0, cBl0 B.id B.layers B.dlo B.dhi (.slice (some ⟨(env 2).1, 0, none⟩) B.draws.length (env 2).2) (.slice (some ⟨(env 6).1, 0, none⟩) (insWg x B.weighs).length (env 6).2), some 27, 6⟩]
  | 11 => [⟨b1, 0, cBl B ⟨some d1, c1, some d2, c2⟩, some 27, 6⟩]
  | _ => []
theorem locwedBl (b1 : Nat) (B : Bl) (x : Dr) (d1 : Addr) (c1 : Nat) (d2 : Addr) (c2 : Nat) : ∀ k env i q9, i ≠ k → (tAt tswedBl k).sup.contains i = false → valwedBl b1 B x d1 c1 d2 c2 k (upd env i q9) = valwedBl b1 B x d1 c1 d2 c2 k env ∧ rowswedBl b1 B x d1 c1 d2 c2 k (upd env i q9) = rowswedBl b1 B x d1 c1 d2 c2 k env := by
  intro k env i q hk hs
  have hu : ∀ j, j ≠ i → upd env i q j = env j := fun j hj => by unfold upd; rw [if_neg hj]
  match k, hk, hs with
  | 0, _, _ => exact ⟨rfl, rfl⟩
  | 1, _, _ => exact ⟨rfl, rfl⟩
  | 2, hk, hs => exact ⟨by simp only [valwedBl, hu 2 (fun e => hk e.symm)], by simp only [rowswedBl, hu 2 (fun e => hk e.symm)]⟩
  | 3, _, _ => exact ⟨rfl, rfl⟩
  | 4, _, _ => exact ⟨rfl, rfl⟩
  | 5, _, _ => exact ⟨rfl, rfl⟩
  | 6, hk, hs => exact ⟨by simp only [valwedBl, hu 6 (fun e => hk e.symm)], by simp only [rowswedBl, hu 6 (fun e => hk e.symm)]⟩
  | 7, _, _ => exact ⟨rfl, rfl⟩
  | 8, hk, hs => exact ⟨by simp only [valwedBl, hu 2 (by rintro rfl; cases hs)], by simp only [rowswedBl, hu 2 (by rintro rfl; cases hs)]⟩
  | 9, _, _ => exact ⟨rfl, rfl⟩
  | 10, hk, hs => exact ⟨by simp only [valwedBl, hu 2 (by rintro rfl; cases hs), hu 6 (by rintro rfl; cases hs)], by simp only [rowswedBl, hu 2 (by rintro rfl; cases hs), hu 6 (by rintro rfl; cases hs)]⟩
  | 11, _, _ => exact ⟨rfl, rfl⟩
  | _ + 12, _, _ => exact ⟨rfl, rfl⟩
set_option maxHeartbeats 4000000 in
theorem wedBl_spec (B : Bl) (x : Wg) (d1 : Addr) (c1 : Nat) (d2 : Addr) (c2 : Nat) (H : List Row)
    (hB : BlOk H B ⟨some d1, c1, some d2, c2⟩) :
    Fc Try.prog 11 [.agg (cBl B ⟨some d1, c1, some d2, c2⟩).toArray, .agg (cDr x).toArray] H (ProgB (bwedF B x) H) := by
  have hB3 : ∀ r1 r2 r3, BlOk (r1 :: r2 :: r3 :: H) B ⟨some d1, c1, some d2, c2⟩ := fun r1 r2 r3 => hB.sub (fun _ h => List.Mem.tail _ (List.Mem.tail _ (List.Mem.tail _ h)))
  have l1 := hB.l1
  have l2 := hB.l2
  have hil := insWg_len x B.weighs
  refine Fc.mk (callable Try.call11) Try.func11 rfl Try.ntmps11 rfl ?_; dsimp only [fr]
  refine X.seq rfl ?_; refine X.region rfl (fun K hK => ?_); repeat' (first | (refine XO.op rfl ?_; (first | ((first | refine Xo.ng rfl ?_); (first | (refine Xg.ev (EvF.assign rfl rfl) rfl rfl ?_) | (refine Xg.st (StF.boxAgg rfl rfl) rfl rfl ?_; rintro _ _ ⟨bx, rfl, rfl⟩) | (refine Xg.st (StF.alloc rfl Try.zeroValue27 rfl) rfl rfl ?_; rintro _ _ ⟨bx, rfl, rfl⟩))))) | (refine XO.done rfl ?_; refine hK _ _ ?_; clear hK K))
  rename_i b1 b3
  rename Nat => b2
  repeat' (first | (refine XO.op rfl ?_; (first | ((first | refine Xo.ng rfl ?_); (first | (refine Xg.ev (EvF.build (cs := cZb) rfl ArgsP.nil (te rfl) (Places.cons (te rfl) (Places.cons (te rfl) (Places.cons (te rfl) (Places.cons (te rfl) (Places.cons (te rfl) Places.nil))))) Try.zeroValue27 rfl) rfl rfl ?_) | (refine Xg.call (EnF.st rfl (by (repeat (first | exact Args.nil | refine Args.cons rfl ?_)); done)) rfl rfl (kcheck2_spec B _ _ (hB3 _ _ _)) ?_; rintro _ H9 ⟨⟨hr, rfl⟩ | ⟨hr, rfl⟩, hH9⟩ <;> subst H9) | (refine Xg.ev (EvF.move rfl rfl) rfl rfl ?_) | (refine Xg.ev (EvF.assign rfl rfl) rfl rfl ?_) | (refine Xg.ev (EvF.cmp rfl rfl rfl rfl) rfl rfl ?_) | (refine Xg.ev (EvF.fieldAddr rfl rfl (te rfl) rfl (te rfl) (by decide)) rfl rfl ?_) | (refine Xg.ev (EvF.lenSlice rfl rfl (te rfl)) rfl rfl ?_) | (refine Xg.ev (EvF.loadV rfl rfl (LoadV.own (te rfl) rfl (List.Mem.tail _ (List.Mem.tail _ (List.Mem.head _))) rfl)) rfl rfl ?_) | (refine Xg.ev (EvF.loadV rfl rfl (LoadV.whole (te rfl) rfl (List.Mem.tail _ (List.Mem.tail _ (List.Mem.head _))) rfl)) rfl rfl ?_) | (refine Xg.st0 (StF.storeAll (i := 0) rfl rfl rfl (te rfl) rfl rfl rfl rfl) rfl ?_; rintro _ _ ⟨rfl, rfl⟩; dsimp only [List.set]))))) | (refine XO.done rfl ?_; refine hK _ _ ?_; clear hK K) | refine X.seq rfl ?_ | refine X.region rfl (fun K hK => ?_) | refine X.skip rfl ?_ | refine X.ret rfl ?_ | (refine X.ite rfl rfl (fun hc => ?_); (first | (with_reducible refine Xb.case hc (fun h => ?_) (fun h => ?_)) | (with_reducible refine Xb.caseN hc (fun h => ?_) (fun h => ?_))) <;> clear hc))
  all_goals try (exfalso; omega)
  · refine ret_two (by first | exact .inr rfl | exact .inl rfl) Try.results11 ⟨_, rfl, LoadV.whole (te rfl) rfl (List.Mem.head _) rfl⟩ rfl (H' := H) (by (repeat (first | exact List.Sublist.refl _ | apply List.Sublist.cons)); done) ?_
    have e : bwedF B x = (Bz, 9) := by unfold bwedF; rw [if_pos hr, if_pos (by omega)]
    unfold ProgB; rw [e]
    exact ⟨pzb, [], rfl, rfl, .inl ⟨rfl, rfl, rfl⟩⟩
  · refine X.permH (H' := ⟨b1, 0, cBl B ⟨some d1, c1, some d2, c2⟩, some 27, 6⟩ :: ⟨b2, 0, cZb, some 27, 6⟩ :: ⟨b3, 0, cDr x, some 31, 4⟩ :: H) (List.perm_append_comm (l₁ := [_]) (l₂ := [_, _]) |>.append_right H) ?_
    refine X.regionRd tswedBl rdwedBl [2, 3, 4] [(2, .pointer (some ⟨b1, 0, none⟩)), (3, .pointer (some ⟨b3, 0, none⟩)), (4, .pointer (some ⟨b2, 0, none⟩))] (valwedBl b1 B x d1 c1 d2 c2) (rowswedBl b1 B x d1 c1 d2 c2) (fun _ => (0, 0)) (⟨b2, 0, cZb, some 27, 6⟩ :: ⟨b3, 0, cDr x, some 31, 4⟩ :: H) rfl mixed (by (repeat (first | exact Sub.nil _ | refine Sub.cons rfl ?_)); done) rfl (by kernel_rfl) (by kernel_rfl) (locwedBl b1 B x d1 c1 d2 c2) (List.Sublist.refl _) ?_ ?_
    · repeat' (first | exact AllF.done rfl | (refine AllF.step rfl ?_ ?_; · (first | exact (Ob.ng rfl (ObK.pure (fun env R hR => by exact ⟨_, EvF.fieldAddr rfl rfl (te rfl) rfl (te rfl) (by decide), rfl⟩) rfl (fun _ => rfl))).toR | exact (Ob.ng rfl (ObK.pure (fun env R hR => by exact ⟨_, EvF.loadV rfl rfl (LoadV.whole (te rfl) rfl (hR _ (List.Mem.tail _ (List.Mem.head _))) rfl), rfl⟩) rfl (fun _ => rfl))).toR | (refine ObR.ng rfl ?_; (first | (exact fun env S hS hrd => (StF.ofEv (EvF.loadV rfl rfl (LoadV.own (te rfl) rfl (hrd 11 (List.Mem.head _) _ (List.Mem.head _)) rfl))).op.mono (fun v H' ⟨hv, hH⟩ => ⟨(0, 0), fun _ => hv, by rw [hH]; exact List.Perm.refl _⟩)) | (exact fun env S hS hrd => (OpF.call (EnF.st rfl (by (repeat (first | exact Args.nil | refine Args.cons rfl ?_)); done)) (put_specWg B.weighs x d2 c2 _ (hB.weighs.sub (fun r hr => hS r (List.Mem.tail _ (List.Mem.tail _ hr)))) l2)).mono (fun v H' ⟨b, k, hv, hH⟩ => ⟨(b, k), fun _ => hv, by rw [hH]; exact List.Perm.refl _⟩)) | (exact fun env S hS hrd => (OpF.call (EnF.st rfl (by (repeat (first | exact Args.nil | refine Args.cons rfl ?_)); done)) (clone_specDr B.draws d1 c1 _ (hB.draws.sub (fun r hr => hS r (List.Mem.tail _ (List.Mem.tail _ hr)))) l1)).mono (fun v H' ⟨b, k, hv, hH⟩ => ⟨(b, k), fun _ => hv, by rw [hH]; exact List.Perm.refl _⟩)) | (exact fun env S hS hrd => (StF.storeOne (i := 0) rfl rfl rfl rfl (te rfl) rfl rfl (Nat.le_of_ble_eq_true rfl)).op.mono (fun v H' ⟨hv, hH⟩ => ⟨(0, 0), fun h => absurd rfl h, by rw [hH]; exact List.Perm.refl _⟩)))))))
    · intro env t ha hv
      refine ⟨[(2, .pointer (some ⟨b1, 0, none⟩)), (3, .pointer (some ⟨b3, 0, none⟩)), (4, .pointer (some ⟨b2, 0, none⟩))], ha, ?_⟩
      show X _ _ _ _ (rDraws (wedBl B x) (env 2).1 (env 2).2 :: rWeighs (wedBl B x) (env 6).1 (env 6).2 :: ⟨b1, 0, cBl (wedBl B x) (plB (env 2).1 (env 2).2 (env 6).1 (env 6).2), some 27, 6⟩ :: ⟨b2, 0, cZb, some 27, 6⟩ :: ⟨b3, 0, cDr x, some 31, 4⟩ :: H) _
      generalize env 2 = qa
      generalize env 6 = qb
      obtain ⟨t1, k1⟩ := qa
      obtain ⟨t2, k2⟩ := qb
      show X _ _ _ _ (rDraws (wedBl B x) t1 k1 :: rWeighs (wedBl B x) t2 k2 :: ⟨b1, 0, cBl (wedBl B x) (plB t1 k1 t2 k2), some 27, 6⟩ :: ⟨b2, 0, cZb, some 27, 6⟩ :: ⟨b3, 0, cDr x, some 31, 4⟩ :: H) _
      repeat' (first | (refine XO.op rfl ?_; (first | ((first | refine Xo.ng rfl ?_); (first | (refine Xg.ev (EvF.build (cs := cZb) rfl ArgsP.nil (te rfl) (Places.cons (te rfl) (Places.cons (te rfl) (Places.cons (te rfl) (Places.cons (te rfl) (Places.cons (te rfl) Places.nil))))) Try.zeroValue27 rfl) rfl rfl ?_) | (refine Xg.call (EnF.st rfl (by (repeat (first | exact Args.nil | refine Args.cons rfl ?_)); done)) rfl rfl (kcheck2_spec (wedBl B x) (plB t1 k1 t2 k2) _ ⟨ownSlB (fun _ => rfl) (by repeat (first | exact List.Mem.head _ | apply List.Mem.tail)), ownSlB (fun _ => rfl) (by repeat (first | exact List.Mem.head _ | apply List.Mem.tail)), l1, (by show (insWg x B.weighs).length ≤ _; omega)⟩) ?_; rintro _ H9 ⟨⟨hr', rfl⟩ | ⟨hr', rfl⟩, hH9⟩ <;> subst H9) | (refine Xg.st0 (StF.storeAll (i := 3) rfl rfl rfl (te rfl) rfl rfl rfl rfl) rfl ?_; rintro _ _ ⟨rfl, rfl⟩; dsimp only [List.set]) | (refine Xg.ev (EvF.assign rfl rfl) rfl rfl ?_) | (refine Xg.ev (EvF.cmp rfl rfl rfl rfl) rfl rfl ?_) | (refine Xg.ev (EvF.loadV rfl rfl (LoadV.whole (te rfl) rfl (List.Mem.tail _ (List.Mem.tail _ (List.Mem.head _))) rfl)) rfl rfl ?_))))) | (refine XO.done rfl ?_; refine hK _ _ ?_; clear hK K) | refine X.seq rfl ?_ | refine X.region rfl (fun K hK => ?_) | refine X.skip rfl ?_ | refine X.ret rfl ?_ | (refine X.ite rfl rfl (fun hc => ?_); (first | (with_reducible refine Xb.caseN hc (fun h => ?_) (fun h => ?_))) <;> clear hc))
      all_goals try (exfalso; omega)
      · refine ret_two (by first | exact .inr rfl | exact .inl rfl) Try.results11 ⟨_, rfl, LoadV.whole (te rfl) rfl (List.Mem.tail _ (List.Mem.tail _ (List.Mem.tail _ (List.Mem.head _)))) rfl⟩ rfl (H' := [rDraws (wedBl B x) t1 k1, rWeighs (wedBl B x) t2 k2] ++ H) (by (repeat (first | exact List.Sublist.refl _ | apply List.Sublist.cons_cons | apply List.Sublist.cons)); done) ?_
        have e : bwedF B x = (wedBl B x, 0) := by unfold bwedF; rw [if_pos hr, if_neg (by omega), if_pos hr']
        unfold ProgB; rw [e]
        exact ⟨_, _, rfl, rfl, .inr ⟨t1, k1, t2, k2, rfl, List.Perm.refl _⟩⟩
      · refine ret_two (by first | exact .inr rfl | exact .inl rfl) Try.results11 ⟨_, rfl, LoadV.whole (te rfl) rfl (List.Mem.tail _ (List.Mem.tail _ (List.Mem.tail _ (List.Mem.head _)))) rfl⟩ rfl (H' := H) (by (repeat (first | exact List.Sublist.refl _ | apply List.Sublist.cons)); done) ?_
        have e : bwedF B x = (Bz, 34) := by unfold bwedF; rw [if_pos hr, if_neg (by omega), if_neg hr']
        unfold ProgB; rw [e]
        exact ⟨pzb, [], rfl, rfl, .inl ⟨rfl, rfl, rfl⟩⟩
  · refine ret_two (by first | exact .inr rfl | exact .inl rfl) Try.results11 ⟨_, rfl, LoadV.whole (te rfl) rfl (List.Mem.head _) rfl⟩ rfl (H' := H) (by (repeat (first | exact List.Sublist.refl _ | apply List.Sublist.cons)); done) ?_
    have e : bwedF B x = (Bz, 30) := by unfold bwedF; rw [if_neg hr]
    unfold ProgB; rw [e]
    exact ⟨pzb, [], rfl, rfl, .inl ⟨rfl, rfl, rfl⟩⟩

end Go.Proofs.Ytoflnjgfikchjaa
end
section
set_option linter.unusedVariables false
set_option linter.unusedSimpArgs false
namespace Go.Proofs.Ytoflnjgfikchjaa
open Go Go.Fw
set_option maxRecDepth 10000
theorem has3_spec (l : List Int) (a : Option Addr) (c : Nat) (x : Int) (H : List Row) (hl : SlE H a cI 1 l) (hb : l.length ≤ 9223372036854775807) : Fc Try.prog 64 [.slice a l.length c, .int .i64 x] H (fun v H' => v = .bool (decide (x ∈ l)) ∧ H' = H) := by
  refine Fc.mk (callable Try.call64) Try.func64 rfl Try.ntmps64 rfl ?_; dsimp only [fr]
  repeat' (first | (refine XO.op rfl ?_; (first | ((first | refine Xo.ng rfl ?_); (first | (refine Xg.ev (EvF.move rfl rfl) rfl rfl ?_) | (refine Xg.ev (EvF.assign rfl rfl) rfl rfl ?_) | (refine Xg.ev (EvF.cmp rfl rfl rfl rfl) rfl rfl ?_) | (refine Xg.ev (EvF.fieldAddr rfl rfl (te rfl) rfl (te rfl) (by decide)) rfl rfl ?_) | (refine Xg.ev (EvF.lenSlice rfl rfl (te rfl)) rfl rfl ?_) | (refine Xg.ev (EvF.loadV rfl rfl (LoadV.own (te rfl) rfl (List.Mem.head _) rfl)) rfl rfl ?_) | (refine Xg.st (StF.boxAgg rfl rfl) rfl rfl ?_; rintro _ _ ⟨bx, rfl, rfl⟩))))) | (refine XO.done rfl ?_; refine hK _ _ ?_; clear hK K) | (refine XQ.op rfl ?_; (first | ((first | refine Yo.ng rfl ?_); (first | (refine Yg.ev (EvF.move rfl rfl) rfl rfl ?_))))) | refine X.seq rfl ?_ | refine X.region rfl (fun K hK => ?_) | refine X.regionD rfl mixed (by kernel_rfl) (fun K hK => ?_) | refine X.block rfl ?_ | (refine X.brk rfl ?_; first | refine blockX_hit rfl ?_ | skip) | refine X.skip rfl ?_ | refine X.ret rfl ?_ | (refine X.ite rfl rfl (fun hc => ?_); (first | (with_reducible refine Xb.case hc (fun h => ?_) (fun h => ?_)) | (with_reducible refine Xb.caseN hc (fun h => ?_) (fun h => ?_))) <;> clear hc))
  refine X.lp rfl (fun q F' H' => ∃ k : Nat, q = l.length - k ∧ k ≤ l.length ∧ (x ∈ l ↔ x ∈ l.drop k) ∧ H = H' ∧ F' = [(1, .int .i64 x), (7, .slice a l.length c), (8, .int .i64 l.length), (9, .int .i64 k)])
    l.length [(1, .int .i64 x), (7, .slice a l.length c), (8, .int .i64 l.length), (9, .int .i64 (0 : Nat))] _ (by (repeat (first | exact Sub.nil _ | refine Sub.cons rfl ?_)); done) (by (repeat (first | exact List.Sublist.refl _ | apply List.Sublist.cons_cons | apply List.Sublist.cons)); done) ⟨0, by omega, by omega, by simp, rfl, rfl⟩ ?_
  rintro _ _ _ ⟨k, rfl, hk, hn, rfl, rfl⟩
  repeat' (first | (refine XO.op rfl ?_; (first | ((first | refine Xo.ng rfl ?_); (first | (refine Xg.ev (EvF.move rfl rfl) rfl rfl ?_) | (refine Xg.ev (EvF.assign rfl rfl) rfl rfl ?_) | (refine Xg.ev (EvF.cmp rfl rfl rfl rfl) rfl rfl ?_) | (refine Xg.ev (EvF.fieldAddr rfl rfl (te rfl) rfl (te rfl) (by decide)) rfl rfl ?_) | (refine Xg.ev (EvF.lenSlice rfl rfl (te rfl)) rfl rfl ?_) | (refine Xg.ev (EvF.loadV rfl rfl (LoadV.own (te rfl) rfl (List.Mem.head _) rfl)) rfl rfl ?_) | (refine Xg.st (StF.boxAgg rfl rfl) rfl rfl ?_; rintro _ _ ⟨bx, rfl, rfl⟩))))) | (refine XO.done rfl ?_; refine hK _ _ ?_; clear hK K) | (refine XQ.op rfl ?_; (first | ((first | refine Yo.ng rfl ?_); (first | (refine Yg.ev (EvF.move rfl rfl) rfl rfl ?_))))) | refine X.seq rfl ?_ | refine X.region rfl (fun K hK => ?_) | refine X.regionD rfl mixed (by kernel_rfl) (fun K hK => ?_) | refine X.block rfl ?_ | (refine X.brk rfl ?_; first | refine blockX_hit rfl ?_ | skip) | refine X.skip rfl ?_ | refine X.ret rfl ?_ | (refine X.ite rfl rfl (fun hc => ?_); (first | (with_reducible refine Xb.case hc (fun h => ?_) (fun h => ?_)) | (with_reducible refine Xb.caseN hc (fun h => ?_) (fun h => ?_))) <;> clear hc))
  · obtain ⟨b, off, e, rfl, he⟩ := hl.elem (i := k) (by omega)
    rw [drop_cons he, List.mem_cons] at hn
    repeat' (first | (refine XO.op rfl ?_; (first | ((first | refine Xo.ng rfl ?_); (first | (refine Xg.ev (EvF.loadV rfl rfl (LoadV.el0 hl he (te rfl) rfl (fun _ hm => hm) rfl)) rfl rfl ?_) | (refine Xg.ev (EvF.move rfl rfl) rfl rfl ?_) | (refine Xg.ev (EvF.assign rfl rfl) rfl rfl ?_) | (refine Xg.ev (EvF.cmp rfl rfl rfl rfl) rfl rfl ?_) | (refine Xg.ev (EvF.add64 rfl rfl rfl (by omega) (by omega)) rfl rfl ?_) | (refine Xg.ev (EvF.indexSlice rfl rfl rfl (te rfl) (te rfl) (by omega) (by omega)) rfl rfl ?_))))) | (refine XO.done rfl ?_; refine hK _ _ ?_; clear hK K) | refine X.seq rfl ?_ | refine X.region rfl (fun K hK => ?_) | refine X.skip rfl ?_ | refine X.ret rfl ?_ | (refine X.ite rfl rfl (fun hc => ?_); (first | (with_reducible refine Xb.case hc (fun h => ?_) (fun h => ?_))) <;> clear hc))
    · refine ret_one (by first | exact .inr rfl | exact .inl rfl) Try.results64 rfl (H' := H) (by (repeat (first | exact List.Sublist.refl _ | apply List.Sublist.cons)); done) ?_; simp only [and_true, true_and]
      congr 1; symm; exact decide_eq_true (hn.2 (.inl (by omega)))
    · refine ⟨_, _, _, (by (repeat (first | exact Sub.nil _ | refine Sub.cons rfl ?_)); done), (by (repeat (first | exact List.Sublist.refl _ | apply List.Sublist.cons_cons | apply List.Sublist.cons)); done), ⟨k + 1, rfl, by omega, hn.trans ⟨fun q => q.resolve_left (by omega), .inr⟩, rfl, rfl⟩, by omega⟩
  · refine ret_one (by first | exact .inr rfl | exact .inl rfl) Try.results64 rfl (H' := H) (by (repeat (first | exact List.Sublist.refl _ | apply List.Sublist.cons)); done) ?_; simp only [and_true, true_and]
    congr 1; symm; refine decide_eq_false (fun q => ?_)
    have := hn.1 q
    rw [List.drop_eq_nil_of_le (by omega)] at this
    exact absurd this List.not_mem_nil
theorem sameInts3_spec (l m : List Int) (a a' : Option Addr) (c c' : Nat) (H : List Row) (hl : SlE H a cI 1 l) (hm : SlE H a' cI 1 m) (hb : l.length ≤ 9223372036854775807) : Fc Try.prog 8 [.slice a l.length c, .slice a' m.length c'] H (fun v H' => v = .bool (decide (l = m)) ∧ H' = H) := by
  refine Fc.mk (callable Try.call8) Try.func8 rfl Try.ntmps8 rfl ?_; dsimp only [fr]
  repeat' (first | (refine XO.op rfl ?_; (first | ((first | refine Xo.ng rfl ?_); (first | (refine Xg.ev (EvF.move rfl rfl) rfl rfl ?_) | (refine Xg.ev (EvF.assign rfl rfl) rfl rfl ?_) | (refine Xg.ev (EvF.cmp rfl rfl rfl rfl) rfl rfl ?_) | (refine Xg.ev (EvF.fieldAddr rfl rfl (te rfl) rfl (te rfl) (by decide)) rfl rfl ?_) | (refine Xg.ev (EvF.lenSlice rfl rfl (te rfl)) rfl rfl ?_) | (refine Xg.ev (EvF.loadV rfl rfl (LoadV.own (te rfl) rfl (List.Mem.head _) rfl)) rfl rfl ?_) | (refine Xg.st (StF.boxAgg rfl rfl) rfl rfl ?_; rintro _ _ ⟨bx, rfl, rfl⟩))))) | (refine XO.done rfl ?_; refine hK _ _ ?_; clear hK K) | (refine XQ.op rfl ?_; (first | ((first | refine Yo.ng rfl ?_); (first | (refine Yg.ev (EvF.move rfl rfl) rfl rfl ?_))))) | refine X.seq rfl ?_ | refine X.region rfl (fun K hK => ?_) | refine X.regionD rfl mixed (by kernel_rfl) (fun K hK => ?_) | refine X.block rfl ?_ | (refine X.brk rfl ?_; first | refine blockX_hit rfl ?_ | skip) | refine X.skip rfl ?_ | refine X.ret rfl ?_ | (refine X.ite rfl rfl (fun hc => ?_); (first | (with_reducible refine Xb.case hc (fun h => ?_) (fun h => ?_)) | (with_reducible refine Xb.caseN hc (fun h => ?_) (fun h => ?_))) <;> clear hc))
  · refine ret_one (by first | exact .inr rfl | exact .inl rfl) Try.results8 rfl (H' := H) (by (repeat (first | exact List.Sublist.refl _ | apply List.Sublist.cons)); done) ?_; simp only [and_true, true_and]
    congr 1; symm; exact decide_eq_false (fun e => by subst e; omega)
  · refine X.lp rfl (fun q F' H' => ∃ k : Nat, q = l.length - k ∧ k ≤ l.length ∧ (l = m ↔ l.drop k = m.drop k) ∧ H = H' ∧ F' = [(0, .slice a l.length c), (1, .slice a' m.length c'), (5, .int .i64 k)])
      l.length [(0, .slice a l.length c), (1, .slice a' m.length c'), (5, .int .i64 (0 : Nat))] _ (by (repeat (first | exact Sub.nil _ | refine Sub.cons rfl ?_)); done) (List.Sublist.refl _) ⟨0, by omega, by omega, by simp, rfl, rfl⟩ ?_
    rintro _ _ _ ⟨k, rfl, hk, hn, rfl, rfl⟩
    repeat' (first | (refine XO.op rfl ?_; (first | ((first | refine Xo.ng rfl ?_); (first | (refine Xg.ev (EvF.move rfl rfl) rfl rfl ?_) | (refine Xg.ev (EvF.assign rfl rfl) rfl rfl ?_) | (refine Xg.ev (EvF.cmp rfl rfl rfl rfl) rfl rfl ?_) | (refine Xg.ev (EvF.fieldAddr rfl rfl (te rfl) rfl (te rfl) (by decide)) rfl rfl ?_) | (refine Xg.ev (EvF.lenSlice rfl rfl (te rfl)) rfl rfl ?_) | (refine Xg.ev (EvF.loadV rfl rfl (LoadV.own (te rfl) rfl (List.Mem.head _) rfl)) rfl rfl ?_) | (refine Xg.st (StF.boxAgg rfl rfl) rfl rfl ?_; rintro _ _ ⟨bx, rfl, rfl⟩))))) | (refine XO.done rfl ?_; refine hK _ _ ?_; clear hK K) | (refine XQ.op rfl ?_; (first | ((first | refine Yo.ng rfl ?_); (first | (refine Yg.ev (EvF.move rfl rfl) rfl rfl ?_))))) | refine X.seq rfl ?_ | refine X.region rfl (fun K hK => ?_) | refine X.regionD rfl mixed (by kernel_rfl) (fun K hK => ?_) | refine X.block rfl ?_ | (refine X.brk rfl ?_; first | refine blockX_hit rfl ?_ | skip) | refine X.skip rfl ?_ | refine X.ret rfl ?_ | (refine X.ite rfl rfl (fun hc => ?_); (first | (with_reducible refine Xb.case hc (fun h => ?_) (fun h => ?_)) | (with_reducible refine Xb.caseN hc (fun h => ?_) (fun h => ?_))) <;> clear hc))
    · obtain ⟨b, off, e, rfl, he⟩ := hl.elem (i := k) (by omega)
      obtain ⟨b', off', f, rfl, hf⟩ := hm.elem (i := k) (by omega)
      rw [drop_cons he, drop_cons hf, List.cons.injEq] at hn
      repeat' (first | (refine XO.op rfl ?_; (first | ((first | refine Xo.ng rfl ?_); (first | (refine Xg.ev (EvF.move rfl rfl) rfl rfl ?_) | (refine Xg.ev (EvF.assign rfl rfl) rfl rfl ?_) | (refine Xg.ev (EvF.add64 rfl rfl rfl (by omega) (by omega)) rfl rfl ?_))))) | (refine XO.done rfl ?_; refine hK _ _ ?_; clear hK K) | (refine XQ.op rfl ?_; (first | ((first | refine Yo.ng rfl ?_); (first | (refine Yg.ev (EvF.loadV rfl rfl (LoadV.el0 hl he (te rfl) rfl (fun _ hm => hm) rfl)) rfl rfl ?_) | (refine Yg.ev (EvF.loadV rfl rfl (LoadV.el0 hm hf (te rfl) rfl (fun _ hm => hm) rfl)) rfl rfl ?_) | (refine Yg.ev (EvF.move rfl rfl) rfl rfl ?_) | (refine Yg.ev (EvF.cmp rfl rfl rfl rfl) rfl rfl ?_) | (refine Yg.ev (EvF.indexSlice rfl rfl rfl (te rfl) (te rfl) (by omega) (by omega)) rfl rfl ?_))))) | (refine XQ.done rfl ?_; refine hK _ ?_; clear hK K) | refine X.seq rfl ?_ | refine X.region rfl (fun K hK => ?_) | refine X.skip rfl ?_ | refine X.ret rfl ?_ | (refine X.ite rfl rfl (fun hc => ?_); (first | (with_reducible refine Xb.caseN hc (fun h => ?_) (fun h => ?_))) <;> clear hc))
      · refine ret_one (by first | exact .inr rfl | exact .inl rfl) Try.results8 rfl (H' := H) (by (repeat (first | exact List.Sublist.refl _ | apply List.Sublist.cons)); done) ?_; simp only [and_true, true_and]
        congr 1; symm; exact decide_eq_false (fun q => by have := (hn.1 q).1; omega)
      · refine ⟨_, _, _, (by (repeat (first | exact Sub.nil _ | refine Sub.cons rfl ?_)); done), (by (repeat (first | exact List.Sublist.refl _ | apply List.Sublist.cons)); done), ⟨k + 1, rfl, by omega, hn.trans (and_iff_right (by assumption)), rfl, rfl⟩, by omega⟩
    · refine ret_one (by first | exact .inr rfl | exact .inl rfl) Try.results8 rfl (H' := H) (by (repeat (first | exact List.Sublist.refl _ | apply List.Sublist.cons)); done) ?_; simp only [and_true, true_and]
      congr 1; symm; refine decide_eq_true (hn.2 ?_)
      rw [List.drop_eq_nil_of_le (by omega), List.drop_eq_nil_of_le (by omega)]
noncomputable instance (ns l : List Int) (p : Option Int) : Decidable (sOk ns p l) := Classical.propDecidable _
set_option maxHeartbeats 4000000 in
theorem listed_spec (l ns : List Int) (a a' : Option Addr) (c c' : Nat) (H : List Row) (hl : SlE H a cI 1 l) (hm : SlE H a' cI 1 ns) (hb : l.length ≤ 9223372036854775807) (hb' : ns.length ≤ 9223372036854775807) : Fc Try.prog 32 [.slice a l.length c, .slice a' ns.length c'] H (fun v H' => v = .bool (decide (sOk ns none l)) ∧ H' = H) := by
  refine Fc.mk (callable Try.call32) Try.func32 rfl Try.ntmps32 rfl ?_; dsimp only [fr]
  repeat' (first | (refine XO.op rfl ?_; (first | ((first | refine Xo.ng rfl ?_); (first | (refine Xg.ev (EvF.move rfl rfl) rfl rfl ?_) | (refine Xg.ev (EvF.assign rfl rfl) rfl rfl ?_) | (refine Xg.ev (EvF.cmp rfl rfl rfl rfl) rfl rfl ?_) | (refine Xg.ev (EvF.fieldAddr rfl rfl (te rfl) rfl (te rfl) (by decide)) rfl rfl ?_) | (refine Xg.ev (EvF.lenSlice rfl rfl (te rfl)) rfl rfl ?_) | (refine Xg.ev (EvF.loadV rfl rfl (LoadV.own (te rfl) rfl (List.Mem.head _) rfl)) rfl rfl ?_) | (refine Xg.st (StF.boxAgg rfl rfl) rfl rfl ?_; rintro _ _ ⟨bx, rfl, rfl⟩))))) | (refine XO.done rfl ?_; refine hK _ _ ?_; clear hK K) | (refine XQ.op rfl ?_; (first | ((first | refine Yo.ng rfl ?_); (first | (refine Yg.ev (EvF.move rfl rfl) rfl rfl ?_))))) | refine X.seq rfl ?_ | refine X.region rfl (fun K hK => ?_) | refine X.regionD rfl mixed (by kernel_rfl) (fun K hK => ?_) | refine X.block rfl ?_ | (refine X.brk rfl ?_; first | refine blockX_hit rfl ?_ | skip) | refine X.skip rfl ?_ | refine X.ret rfl ?_ | (refine X.ite rfl rfl (fun hc => ?_); (first | (with_reducible refine Xb.case hc (fun h => ?_) (fun h => ?_)) | (with_reducible refine Xb.caseN hc (fun h => ?_) (fun h => ?_))) <;> clear hc))
  refine X.lp rfl (fun q F' H' => ∃ k : Nat, q = l.length - k ∧ k ≤ l.length ∧ (sOk ns none l ↔ sOk ns (prev l k) (l.drop k)) ∧ H = H' ∧ F' = [(0, .slice a l.length c), (1, .slice a' ns.length c'), (7, .slice a l.length c), (8, .int .i64 l.length), (9, .int .i64 k)])
    l.length [(0, .slice a l.length c), (1, .slice a' ns.length c'), (7, .slice a l.length c), (8, .int .i64 l.length), (9, .int .i64 (0 : Nat))] _ (by (repeat (first | exact Sub.nil _ | refine Sub.cons rfl ?_)); done) (by (repeat (first | exact List.Sublist.refl _ | apply List.Sublist.cons_cons | apply List.Sublist.cons)); done) ⟨0, by omega, by omega, by simp [prev], rfl, rfl⟩ ?_
  rintro _ _ _ ⟨k, rfl, hk, hn', rfl, rfl⟩
  repeat' (first | (refine XO.op rfl ?_; (first | ((first | refine Xo.ng rfl ?_); (first | (refine Xg.ev (EvF.move rfl rfl) rfl rfl ?_) | (refine Xg.ev (EvF.assign rfl rfl) rfl rfl ?_) | (refine Xg.ev (EvF.cmp rfl rfl rfl rfl) rfl rfl ?_) | (refine Xg.ev (EvF.fieldAddr rfl rfl (te rfl) rfl (te rfl) (by decide)) rfl rfl ?_) | (refine Xg.ev (EvF.lenSlice rfl rfl (te rfl)) rfl rfl ?_) | (refine Xg.ev (EvF.loadV rfl rfl (LoadV.own (te rfl) rfl (List.Mem.head _) rfl)) rfl rfl ?_) | (refine Xg.st (StF.boxAgg rfl rfl) rfl rfl ?_; rintro _ _ ⟨bx, rfl, rfl⟩))))) | (refine XO.done rfl ?_; refine hK _ _ ?_; clear hK K) | (refine XQ.op rfl ?_; (first | ((first | refine Yo.ng rfl ?_); (first | (refine Yg.ev (EvF.move rfl rfl) rfl rfl ?_))))) | refine X.seq rfl ?_ | refine X.region rfl (fun K hK => ?_) | refine X.regionD rfl mixed (by kernel_rfl) (fun K hK => ?_) | refine X.block rfl ?_ | (refine X.brk rfl ?_; first | refine blockX_hit rfl ?_ | skip) | refine X.skip rfl ?_ | refine X.ret rfl ?_ | (refine X.ite rfl rfl (fun hc => ?_); (first | (with_reducible refine Xb.case hc (fun h => ?_) (fun h => ?_)) | (with_reducible refine Xb.caseN hc (fun h => ?_) (fun h => ?_))) <;> clear hc))
  · obtain ⟨b, off, e, rfl, he⟩ := hl.elem (i := k) (by omega)
    obtain ⟨e', he'⟩ : ∃ e', l[k - 1]? = some e' := ⟨_, List.getElem?_eq_getElem (by omega)⟩
    rw [drop_cons he] at hn'
    repeat' (first | (refine XO.op rfl ?_; (first | ((first | refine Xo.ng rfl ?_ | (refine Xo.g rfl rfl ?_; with_reducible refine Xw.tt ?_) | (refine Xo.g rfl rfl ?_; with_reducible refine Xw.ff ?_)); (first | (refine Xg.ev (EvF.loadV rfl rfl (LoadV.el0 hl he (te rfl) rfl (fun _ hm => hm) rfl)) rfl rfl ?_) | (refine Xg.ev (EvF.loadV (v := .int .i64 e') rfl rfl (by rw [show ((k : Int) - 1).toNat = k - 1 from by omega]; exact LoadV.el0 hl he' (te rfl) rfl (fun _ hm => hm) rfl)) rfl rfl ?_) | (refine Xg.call (EnF.st rfl (by (repeat (first | exact Args.nil | refine Args.cons rfl ?_)); done)) rfl rfl (has3_spec ns a' c' _ _ hm hb') ?_; rintro _ H9 ⟨rfl, hH9⟩; subst H9) | (refine Xg.ev (EvF.move rfl rfl) rfl rfl ?_) | (refine Xg.ev (EvF.assign rfl rfl) rfl rfl ?_) | (refine Xg.ev (EvF.pickT rfl rfl rfl) rfl rfl ?_) | (refine Xg.ev (EvF.pickF rfl rfl rfl) rfl rfl ?_) | (refine Xg.ev (EvF.cmp rfl rfl rfl rfl) rfl rfl ?_) | (refine Xg.ev (EvF.add64 rfl rfl rfl (by omega) (by omega)) rfl rfl ?_) | (refine Xg.ev (EvF.sub64 rfl rfl rfl (by omega) (by omega)) rfl rfl ?_) | (refine Xg.ev (EvF.not rfl rfl) rfl rfl ?_) | (refine Xg.ev (EvF.indexSlice rfl rfl rfl (te rfl) (te rfl) (by omega) (by omega)) rfl rfl ?_))) | (refine Xo.g rfl rfl ?_; (first | (with_reducible refine Xw.tf rfl rfl ?_) | (with_reducible refine Xw.ft rfl rfl ?_) | (with_reducible refine Xw.case (fun h => ?_) (fun h => ?_) <;> simp only [h, decide_true, decide_false, Bool.not_true, Bool.not_false, and_self, and_true, true_and, and_false, false_and]) | (with_reducible refine Xw.caseN (fun h => ?_) (fun h => ?_) <;> simp only [h, decide_true, decide_false, Bool.not_true, Bool.not_false, and_self, and_true, true_and, and_false, false_and]))) | (refine Xo.sk rfl rfl rfl rfl ?_))) | (refine XO.done rfl ?_; refine hK _ _ ?_; clear hK K) | refine X.seq rfl ?_ | refine X.region rfl (fun K hK => ?_) | refine X.skip rfl ?_ | refine X.ret rfl ?_ | (refine X.ite rfl rfl (fun hc => ?_); (first | (with_reducible refine Xb.t hc ?_) | (with_reducible refine Xb.f hc ?_) | (with_reducible refine Xb.case hc (fun h => ?_) (fun h => ?_))) <;> clear hc))
    all_goals try (exfalso; first | omega | contradiction)
    · refine ret_one (by first | exact .inr rfl | exact .inl rfl) Try.results32 rfl (H' := H) (by (repeat (first | exact List.Sublist.refl _ | apply List.Sublist.cons)); done) ?_; simp only [and_true, true_and]
      congr 1; symm; refine decide_eq_false (fun hx => ?_)
      have h4 := (hn'.1 hx).2.1 e' (by unfold prev; rw [if_neg (by omega)]; exact he')
      omega
    · refine ⟨_, _, _, (by (repeat (first | exact Sub.nil _ | refine Sub.cons rfl ?_)); done), (by (repeat (first | exact List.Sublist.refl _ | apply List.Sublist.cons_cons | apply List.Sublist.cons)); done), ⟨k + 1, rfl, by omega, hn'.trans ⟨fun hx => ?_, fun hx => ?_⟩, rfl, rfl⟩, by omega⟩
      · have h4 := hx.2.2
        unfold prev; rw [if_neg (by omega), Nat.add_sub_cancel, he]; exact h4
      · unfold prev at hx ⊢
        rw [if_neg (by omega), Nat.add_sub_cancel, he] at hx
        refine ⟨by assumption, fun q hq => ?_, hx⟩
        rw [if_neg (by omega), he'] at hq
        cases hq
        omega
    · refine ⟨_, _, _, (by (repeat (first | exact Sub.nil _ | refine Sub.cons rfl ?_)); done), (by (repeat (first | exact List.Sublist.refl _ | apply List.Sublist.cons_cons | apply List.Sublist.cons)); done), ⟨k + 1, rfl, by omega, hn'.trans ⟨fun hx => ?_, fun hx => ?_⟩, rfl, rfl⟩, by omega⟩
      · have h4 := hx.2.2
        unfold prev; rw [if_neg (by omega), Nat.add_sub_cancel, he]; exact h4
      · unfold prev at hx ⊢
        rw [if_neg (by omega), Nat.add_sub_cancel, he] at hx
        refine ⟨by assumption, fun q hq => ?_, hx⟩
        rw [if_pos (by omega)] at hq
        cases hq
    · refine ret_one (by first | exact .inr rfl | exact .inl rfl) Try.results32 rfl (H' := H) (by (repeat (first | exact List.Sublist.refl _ | apply List.Sublist.cons)); done) ?_; simp only [and_true, true_and]
      congr 1; symm; exact decide_eq_false (fun hx => absurd (hn'.1 hx).1 (by assumption))
  · refine ret_one (by first | exact .inr rfl | exact .inl rfl) Try.results32 rfl (H' := H) (by (repeat (first | exact List.Sublist.refl _ | apply List.Sublist.cons)); done) ?_; simp only [and_true, true_and]
    congr 1; symm; refine decide_eq_true (hn'.2 ?_)
    rw [List.drop_eq_nil_of_le (by omega)]; exact trivial
set_option maxHeartbeats 4000000 in
theorem numbers3_spec (B : Bl) (p : Pb) (H : List Row) (hB : BlOk H B p) : Fc Try.prog 31 [.agg (cBl B p).toArray] H (fun v H' => ∃ a1 k1 a2 k2 Z, v = .tuple #[.slice a1 (B.draws.map (·.number)).length k1, .slice a2 (B.weighs.map (·.number)).length k2] ∧ H' = Z ++ H ∧ SlE (Z ++ H) a1 cI 1 (B.draws.map (·.number)) ∧ SlE (Z ++ H) a2 cI 1 (B.weighs.map (·.number))) := by
  have l1 := hB.l1
  have l2 := hB.l2
  have hB1 : ∀ r, BlOk (r :: H) B p := fun r => hB.sub (fun _ h => List.Mem.tail _ h)
  obtain ⟨a1, c1, a2, c2⟩ := p
  refine Fc.mk (callable Try.call31) Try.func31 rfl Try.ntmps31 rfl ?_; dsimp only [fr]
  repeat' (first | (refine XO.op rfl ?_; (first | ((first | refine Xo.ng rfl ?_); (first | (refine Xg.ev (EvF.move rfl rfl) rfl rfl ?_) | (refine Xg.ev (EvF.assign rfl rfl) rfl rfl ?_) | (refine Xg.ev (EvF.cmp rfl rfl rfl rfl) rfl rfl ?_) | (refine Xg.ev (EvF.fieldAddr rfl rfl (te rfl) rfl (te rfl) (by decide)) rfl rfl ?_) | (refine Xg.ev (EvF.lenSlice rfl rfl (te rfl)) rfl rfl ?_) | (refine Xg.ev (EvF.loadV rfl rfl (LoadV.own (te rfl) rfl (List.Mem.head _) rfl)) rfl rfl ?_) | (refine Xg.st (StF.boxAgg rfl rfl) rfl rfl ?_; rintro _ _ ⟨bx, rfl, rfl⟩))))) | (refine XO.done rfl ?_; refine hK _ _ ?_; clear hK K) | (refine XQ.op rfl ?_; (first | ((first | refine Yo.ng rfl ?_); (first | (refine Yg.ev (EvF.move rfl rfl) rfl rfl ?_))))) | refine X.seq rfl ?_ | refine X.region rfl (fun K hK => ?_) | refine X.regionD rfl mixed (by kernel_rfl) (fun K hK => ?_) | refine X.block rfl ?_ | (refine X.brk rfl ?_; first | refine blockX_hit rfl ?_ | skip) | refine X.skip rfl ?_ | refine X.ret rfl ?_ | (refine X.ite rfl rfl (fun hc => ?_); (first | (with_reducible refine Xb.case hc (fun h => ?_) (fun h => ?_)) | (with_reducible refine Xb.caseN hc (fun h => ?_) (fun h => ?_))) <;> clear hc))
  refine X.lp rfl (fun q F' H' => ∃ (k : Nat) (out : Value) (Z : List Row), q = B.draws.length - k ∧ k ≤ B.draws.length ∧ ((k = 0 ∧ out = .slice none 0 0 ∧ Z = []) ∨ ∃ b q, out = .slice (some ⟨b, 0, none⟩) k q ∧ Z = [⟨b, 0, ((B.draws.take k).map (·.number)).flatMap cI, some 3, q * 1⟩]) ∧ Z ++ (⟨bx, 0, cBl B ⟨a1, c1, a2, c2⟩, some 27, 6⟩ :: H) = H' ∧
      F' = [(1, .pointer (some ⟨bx, 0, none⟩)), (4, out), (5, .slice none 0 0), (11, .slice a1 B.draws.length c1), (12, .int .i64 B.draws.length), (13, .int .i64 k)])
    B.draws.length [(1, .pointer (some ⟨bx, 0, none⟩)), (4, .slice none 0 0), (5, .slice none 0 0), (11, .slice a1 B.draws.length c1), (12, .int .i64 B.draws.length), (13, .int .i64 (0 : Nat))] _ (by (repeat (first | exact Sub.nil _ | refine Sub.cons rfl ?_)); done) (by (repeat (first | exact List.Sublist.refl _ | apply List.Sublist.cons_cons | apply List.Sublist.cons)); done) ⟨0, _, [], by omega, by omega, .inl ⟨rfl, rfl, rfl⟩, rfl, rfl⟩ ?_
  rintro _ _ H2 ⟨k, out, Z, rfl, hk, hz, hH, rfl⟩
  by_cases hkl : k < B.draws.length
  · obtain ⟨b, off, e, rfl, he⟩ := hB.draws.elem (i := k) hkl
    rcases hz with ⟨rfl, rfl, rfl⟩ | ⟨b0, q0, rfl, rfl⟩
    · rw [List.nil_append] at hH
      subst hH
      repeat' (first | (refine XO.op rfl ?_; (first | ((first | refine Xo.ng rfl ?_); (first | (refine Xg.ev (EvF.loadV rfl rfl (LoadV.elA0 (hB1 _).draws he (te rfl) rfl (fun _ hm => hm) rfl)) rfl rfl ?_) | (refine Xg.st (StF.buildOne rfl el55 rfl rfl rfl (by decide) (by decide)) rfl rfl ?_; rintro _ _ ⟨bs, rfl, rfl⟩) | (refine Xg.st (StF.appendNew rfl el55 rfl rfl (by decide) rfl (Rd.own (List.Mem.head _)) (by decide)) rfl rfl ?_; rintro _ _ ⟨bn, kn, rfl, rfl⟩) | (refine Xg.ev (EvF.move rfl rfl) rfl rfl ?_) | (refine Xg.ev (EvF.assign rfl rfl) rfl rfl ?_) | (refine Xg.ev (EvF.cmp rfl rfl rfl rfl) rfl rfl ?_) | (refine Xg.ev (EvF.add64 rfl rfl rfl (by omega) (by omega)) rfl rfl ?_) | (refine Xg.ev (EvF.fieldAddr rfl rfl (te rfl) rfl (te rfl) (by decide)) rfl rfl ?_) | (refine Xg.ev (EvF.lenSlice rfl rfl (te rfl)) rfl rfl ?_) | (refine Xg.ev (EvF.indexSlice rfl rfl rfl (te rfl) (te rfl) (by omega) (by omega)) rfl rfl ?_) | (refine Xg.ev (EvF.loadV rfl rfl (LoadV.own (te rfl) rfl (List.Mem.head _) rfl)) rfl rfl ?_) | (refine Xg.st (StF.alloc rfl Try.zeroValue29 rfl) rfl rfl ?_; rintro _ _ ⟨bx, rfl, rfl⟩) | (refine Xg.st0 (StF.storeAll (i := 0) rfl rfl rfl (te rfl) rfl rfl rfl rfl) rfl ?_; rintro _ _ ⟨rfl, rfl⟩; dsimp only [List.set]))))) | (refine XO.done rfl ?_; refine hK _ _ ?_; clear hK K) | refine X.seq rfl ?_ | refine X.region rfl (fun K hK => ?_) | refine X.block rfl ?_ | (refine X.brk rfl ?_; first | refine blockX_hit rfl ?_ | skip) | refine X.skip rfl ?_ | (refine X.ite rfl rfl (fun hc => ?_); (first | (with_reducible refine Xb.case hc (fun h => ?_) (fun h => ?_))) <;> clear hc))
      any_goals (exfalso; omega)
      refine ⟨_, _, _, (by (repeat (first | exact Sub.nil _ | refine Sub.cons rfl ?_)); done), ?_, ⟨0 + 1, _, [⟨bn, 0, ((B.draws.take (0 + 1)).map (·.number)).flatMap cI, some 3, kn * 1⟩], rfl, by omega, .inr ⟨_, _, rfl, rfl⟩, rfl, rfl⟩, by omega⟩
      rw [take_snoc he]
      exact (by (repeat (first | exact List.Sublist.refl _ | apply List.Sublist.cons_cons | apply List.Sublist.cons)); done)
    · have hlen : (((B.draws.take k).map (·.number)).flatMap cI).length = k * 1 := by rw [lenI, List.length_map, List.length_take]; omega
      simp only [List.cons_append, List.nil_append] at hH
      subst hH
      repeat' (first | (refine XO.op rfl ?_; (first | ((first | refine Xo.ng rfl ?_); (first | (refine Xg.ev (EvF.loadV rfl rfl (LoadV.elA0 (hB.draws.sub (fun _ hm => by repeat (first | exact hm | apply List.Mem.tail))) he (te rfl) rfl (fun _ hm => hm) rfl)) rfl rfl ?_) | (refine Xg.st (StF.buildOne rfl el55 rfl rfl rfl (by decide) (by decide)) rfl rfl ?_; rintro _ _ ⟨bs, rfl, rfl⟩) | (refine Xg.st (StF.appendOwn (i := 2) rfl el55 rfl rfl rfl hlen rfl (Rd.own (List.Mem.head _)) rfl (by omega)) rfl rfl ?_; rintro _ _ ⟨bn, kn, rfl, rfl⟩; dsimp only [List.eraseIdx]) | (refine Xg.ev (EvF.move rfl rfl) rfl rfl ?_) | (refine Xg.ev (EvF.assign rfl rfl) rfl rfl ?_) | (refine Xg.ev (EvF.cmp rfl rfl rfl rfl) rfl rfl ?_) | (refine Xg.ev (EvF.add64 rfl rfl rfl (by omega) (by omega)) rfl rfl ?_) | (refine Xg.ev (EvF.fieldAddr rfl rfl (te rfl) rfl (te rfl) (by decide)) rfl rfl ?_) | (refine Xg.ev (EvF.lenSlice rfl rfl (te rfl)) rfl rfl ?_) | (refine Xg.ev (EvF.indexSlice rfl rfl rfl (te rfl) (te rfl) (by omega) (by omega)) rfl rfl ?_) | (refine Xg.ev (EvF.loadV rfl rfl (LoadV.own (te rfl) rfl (List.Mem.head _) rfl)) rfl rfl ?_) | (refine Xg.ev (EvF.loadV rfl rfl (LoadV.own (te rfl) rfl (List.Mem.tail _ (List.Mem.head _)) rfl)) rfl rfl ?_) | (refine Xg.st (StF.alloc rfl Try.zeroValue29 rfl) rfl rfl ?_; rintro _ _ ⟨bx, rfl, rfl⟩) | (refine Xg.st0 (StF.storeAll (i := 0) rfl rfl rfl (te rfl) rfl rfl rfl rfl) rfl ?_; rintro _ _ ⟨rfl, rfl⟩; dsimp only [List.set]))))) | (refine XO.done rfl ?_; refine hK _ _ ?_; clear hK K) | refine X.seq rfl ?_ | refine X.region rfl (fun K hK => ?_) | refine X.block rfl ?_ | (refine X.brk rfl ?_; first | refine blockX_hit rfl ?_ | skip) | refine X.skip rfl ?_ | (refine X.ite rfl rfl (fun hc => ?_); (first | (with_reducible refine Xb.case hc (fun h => ?_) (fun h => ?_))) <;> clear hc))
      any_goals (exfalso; omega)
      refine ⟨_, _, _, (by (repeat (first | exact Sub.nil _ | refine Sub.cons rfl ?_)); done), ?_, ⟨k + 1, _, [⟨bn, 0, ((B.draws.take (k + 1)).map (·.number)).flatMap cI, some 3, kn * 1⟩], rfl, by omega, .inr ⟨_, _, rfl, rfl⟩, rfl, rfl⟩, by omega⟩
      rw [take_snoc he, List.map_append, List.flatMap_append]
      exact (by (repeat (first | exact List.Sublist.refl _ | apply List.Sublist.cons_cons | apply List.Sublist.cons)); done)
  obtain rfl : k = B.draws.length := by omega
  rw [List.take_length] at hz
  obtain ⟨aD, qD, rfl, hsD⟩ : ∃ aD qD, out = .slice aD B.draws.length qD ∧ SlE H2 aD cI 1 (B.draws.map (·.number)) := by
    rcases hz with ⟨h0, rfl, rfl⟩ | ⟨b0, q0, rfl, rfl⟩
    · have : B.draws = [] := List.eq_nil_of_length_eq_zero h0
      rw [this]
      exact ⟨none, 0, rfl, sleNil⟩
    · exact ⟨_, _, rfl, hH ▸ SlE.ofRow (List.Mem.head _) (fun _ _ => rfl)⟩
  clear hz
  subst hH
  repeat' (first | (refine XO.op rfl ?_; (first | ((first | refine Xo.ng rfl ?_); (first | (refine Xg.ev (EvF.loadV rfl rfl (LoadV.own (te rfl) rfl (List.mem_append_right _ (List.Mem.head _)) rfl)) rfl rfl ?_) | (refine Xg.ev (EvF.move rfl rfl) rfl rfl ?_) | (refine Xg.ev (EvF.cmp rfl rfl rfl rfl) rfl rfl ?_) | (refine Xg.ev (EvF.fieldAddr rfl rfl (te rfl) rfl (te rfl) (by decide)) rfl rfl ?_) | (refine Xg.ev (EvF.lenSlice rfl rfl (te rfl)) rfl rfl ?_))))) | (refine XO.done rfl ?_; refine hK _ _ ?_; clear hK K) | refine X.seq rfl ?_ | refine X.region rfl (fun K hK => ?_) | refine X.block rfl ?_ | (refine X.brk rfl ?_; first | refine blockX_hit rfl ?_ | skip) | refine X.skip rfl ?_ | (refine X.ite rfl rfl (fun hc => ?_); (first | (with_reducible refine Xb.case hc (fun h => ?_) (fun h => ?_))) <;> clear hc))
  any_goals (exfalso; omega)
  obtain ⟨H0, hH0⟩ : ∃ H0, H0 = Z ++ (⟨bx, 0, cBl B ⟨a1, c1, a2, c2⟩, some 27, 6⟩ :: H) := ⟨_, rfl⟩
  have hw : SlE H0 a2 cDr 4 B.weighs := hB.weighs.sub (fun _ h => hH0 ▸ List.mem_append_right _ (List.Mem.tail _ h))
  have hd : SlE H0 aD cI 1 (B.draws.map (·.number)) := hH0 ▸ hsD
  refine X.lp rfl (fun q F' H' => ∃ (k : Nat) (out : Value) (Z2 : List Row), q = B.weighs.length - k ∧ k ≤ B.weighs.length ∧ ((k = 0 ∧ out = .slice none 0 0 ∧ Z2 = []) ∨ ∃ b q, out = .slice (some ⟨b, 0, none⟩) k q ∧ Z2 = [⟨b, 0, ((B.weighs.take k).map (·.number)).flatMap cI, some 3, q * 1⟩]) ∧ Z2 ++ H0 = H' ∧
      F' = [(4, .slice aD B.draws.length qD), (5, out), (24, .slice a2 B.weighs.length c2), (25, .int .i64 B.weighs.length), (26, .int .i64 k)])
    B.weighs.length [(4, .slice aD B.draws.length qD), (5, .slice none 0 0), (24, .slice a2 B.weighs.length c2), (25, .int .i64 B.weighs.length), (26, .int .i64 (0 : Nat))] _ (by (repeat (first | exact Sub.nil _ | refine Sub.cons rfl ?_)); done) (by rw [hH0]; exact List.Sublist.refl _) ⟨0, _, [], by omega, by omega, .inl ⟨rfl, rfl, rfl⟩, rfl, rfl⟩ ?_
  rintro _ _ H2 ⟨k, out, Z2, rfl, hk, hz, hH, rfl⟩
  by_cases hkl : k < B.weighs.length
  · obtain ⟨b, off, e, rfl, he⟩ := hw.elem (i := k) hkl
    rcases hz with ⟨rfl, rfl, rfl⟩ | ⟨b0, q0, rfl, rfl⟩
    · rw [List.nil_append] at hH
      subst hH
      repeat' (first | (refine XO.op rfl ?_; (first | ((first | refine Xo.ng rfl ?_); (first | (refine Xg.ev (EvF.loadV rfl rfl (LoadV.elA0 hw he (te rfl) rfl (fun _ hm => hm) rfl)) rfl rfl ?_) | (refine Xg.st (StF.buildOne rfl el55 rfl rfl rfl (by decide) (by decide)) rfl rfl ?_; rintro _ _ ⟨bs, rfl, rfl⟩) | (refine Xg.st (StF.appendNew rfl el55 rfl rfl (by decide) rfl (Rd.own (List.Mem.head _)) (by decide)) rfl rfl ?_; rintro _ _ ⟨bn, kn, rfl, rfl⟩) | (refine Xg.ev (EvF.move rfl rfl) rfl rfl ?_) | (refine Xg.ev (EvF.assign rfl rfl) rfl rfl ?_) | (refine Xg.ev (EvF.cmp rfl rfl rfl rfl) rfl rfl ?_) | (refine Xg.ev (EvF.add64 rfl rfl rfl (by omega) (by omega)) rfl rfl ?_) | (refine Xg.ev (EvF.fieldAddr rfl rfl (te rfl) rfl (te rfl) (by decide)) rfl rfl ?_) | (refine Xg.ev (EvF.indexSlice rfl rfl rfl (te rfl) (te rfl) (by omega) (by omega)) rfl rfl ?_) | (refine Xg.ev (EvF.loadV rfl rfl (LoadV.own (te rfl) rfl (List.Mem.head _) rfl)) rfl rfl ?_) | (refine Xg.st (StF.alloc rfl Try.zeroValue29 rfl) rfl rfl ?_; rintro _ _ ⟨bx, rfl, rfl⟩) | (refine Xg.st0 (StF.storeAll (i := 0) rfl rfl rfl (te rfl) rfl rfl rfl rfl) rfl ?_; rintro _ _ ⟨rfl, rfl⟩; dsimp only [List.set]))))) | (refine XO.done rfl ?_; refine hK _ _ ?_; clear hK K) | refine X.seq rfl ?_ | refine X.region rfl (fun K hK => ?_) | refine X.block rfl ?_ | (refine X.brk rfl ?_; first | refine blockX_hit rfl ?_ | skip) | refine X.skip rfl ?_ | refine X.ret rfl ?_ | (refine X.ite rfl rfl (fun hc => ?_); (first | (with_reducible refine Xb.case hc (fun h => ?_) (fun h => ?_))) <;> clear hc))
      any_goals (exfalso; omega)
      refine ⟨_, _, _, (by (repeat (first | exact Sub.nil _ | refine Sub.cons rfl ?_)); done), ?_, ⟨0 + 1, _, [⟨bn, 0, ((B.weighs.take (0 + 1)).map (·.number)).flatMap cI, some 3, kn * 1⟩], rfl, by omega, .inr ⟨_, _, rfl, rfl⟩, rfl, rfl⟩, by omega⟩
      rw [take_snoc he]
      exact (by (repeat (first | exact List.Sublist.refl _ | apply List.Sublist.cons_cons | apply List.Sublist.cons)); done)
    · have hlen : (((B.weighs.take k).map (·.number)).flatMap cI).length = k * 1 := by rw [lenI, List.length_map, List.length_take]; omega
      simp only [List.cons_append, List.nil_append] at hH
      subst hH
      repeat' (first | (refine XO.op rfl ?_; (first | ((first | refine Xo.ng rfl ?_); (first | (refine Xg.ev (EvF.loadV rfl rfl (LoadV.elA0 (hw.sub (fun _ hm => by repeat (first | exact hm | apply List.Mem.tail))) he (te rfl) rfl (fun _ hm => hm) rfl)) rfl rfl ?_) | (refine Xg.st (StF.buildOne rfl el55 rfl rfl rfl (by decide) (by decide)) rfl rfl ?_; rintro _ _ ⟨bs, rfl, rfl⟩) | (refine Xg.st (StF.appendOwn (i := 2) rfl el55 rfl rfl rfl hlen rfl (Rd.own (List.Mem.head _)) rfl (by omega)) rfl rfl ?_; rintro _ _ ⟨bn, kn, rfl, rfl⟩; dsimp only [List.eraseIdx]) | (refine Xg.ev (EvF.move rfl rfl) rfl rfl ?_) | (refine Xg.ev (EvF.assign rfl rfl) rfl rfl ?_) | (refine Xg.ev (EvF.cmp rfl rfl rfl rfl) rfl rfl ?_) | (refine Xg.ev (EvF.add64 rfl rfl rfl (by omega) (by omega)) rfl rfl ?_) | (refine Xg.ev (EvF.fieldAddr rfl rfl (te rfl) rfl (te rfl) (by decide)) rfl rfl ?_) | (refine Xg.ev (EvF.indexSlice rfl rfl rfl (te rfl) (te rfl) (by omega) (by omega)) rfl rfl ?_) | (refine Xg.ev (EvF.loadV rfl rfl (LoadV.own (te rfl) rfl (List.Mem.head _) rfl)) rfl rfl ?_) | (refine Xg.st (StF.alloc rfl Try.zeroValue29 rfl) rfl rfl ?_; rintro _ _ ⟨bx, rfl, rfl⟩) | (refine Xg.st0 (StF.storeAll (i := 0) rfl rfl rfl (te rfl) rfl rfl rfl rfl) rfl ?_; rintro _ _ ⟨rfl, rfl⟩; dsimp only [List.set]))))) | (refine XO.done rfl ?_; refine hK _ _ ?_; clear hK K) | refine X.seq rfl ?_ | refine X.region rfl (fun K hK => ?_) | refine X.block rfl ?_ | (refine X.brk rfl ?_; first | refine blockX_hit rfl ?_ | skip) | refine X.skip rfl ?_ | refine X.ret rfl ?_ | (refine X.ite rfl rfl (fun hc => ?_); (first | (with_reducible refine Xb.case hc (fun h => ?_) (fun h => ?_))) <;> clear hc))
      any_goals (exfalso; omega)
      refine ⟨_, _, _, (by (repeat (first | exact Sub.nil _ | refine Sub.cons rfl ?_)); done), ?_, ⟨k + 1, _, [⟨bn, 0, ((B.weighs.take (k + 1)).map (·.number)).flatMap cI, some 3, kn * 1⟩], rfl, by omega, .inr ⟨_, _, rfl, rfl⟩, rfl, rfl⟩, by omega⟩
      rw [take_snoc he, List.map_append, List.flatMap_append]
      exact (by (repeat (first | exact List.Sublist.refl _ | apply List.Sublist.cons_cons | apply List.Sublist.cons)); done)
  obtain rfl : k = B.weighs.length := by omega
  rw [List.take_length] at hz
  obtain ⟨aW, qW, rfl, hsW⟩ : ∃ aW qW, out = .slice aW B.weighs.length qW ∧ SlE H2 aW cI 1 (B.weighs.map (·.number)) := by
    rcases hz with ⟨h0, rfl, rfl⟩ | ⟨b0, q0, rfl, rfl⟩
    · have : B.weighs = [] := List.eq_nil_of_length_eq_zero h0
      rw [this]
      exact ⟨none, 0, rfl, sleNil⟩
    · exact ⟨_, _, rfl, hH ▸ SlE.ofRow (List.Mem.head _) (fun _ _ => rfl)⟩
  clear hz
  subst hH
  repeat' (first | (refine XO.op rfl ?_; (first | ((first | refine Xo.ng rfl ?_); (first | (refine Xg.ev (EvF.move rfl rfl) rfl rfl ?_) | (refine Xg.ev (EvF.assign rfl rfl) rfl rfl ?_) | (refine Xg.ev (EvF.cmp rfl rfl rfl rfl) rfl rfl ?_) | (refine Xg.ev (EvF.fieldAddr rfl rfl (te rfl) rfl (te rfl) (by decide)) rfl rfl ?_) | (refine Xg.ev (EvF.lenSlice rfl rfl (te rfl)) rfl rfl ?_) | (refine Xg.ev (EvF.loadV rfl rfl (LoadV.own (te rfl) rfl (List.Mem.head _) rfl)) rfl rfl ?_) | (refine Xg.st (StF.boxAgg rfl rfl) rfl rfl ?_; rintro _ _ ⟨bx, rfl, rfl⟩))))) | (refine XO.done rfl ?_; refine hK _ _ ?_; clear hK K) | (refine XQ.op rfl ?_; (first | ((first | refine Yo.ng rfl ?_); (first | (refine Yg.ev (EvF.move rfl rfl) rfl rfl ?_))))) | refine X.seq rfl ?_ | refine X.region rfl (fun K hK => ?_) | refine X.regionD rfl mixed (by kernel_rfl) (fun K hK => ?_) | refine X.block rfl ?_ | (refine X.brk rfl ?_; first | refine blockX_hit rfl ?_ | skip) | refine X.skip rfl ?_ | refine X.ret rfl ?_ | (refine X.ite rfl rfl (fun hc => ?_); (first | (with_reducible refine Xb.case hc (fun h => ?_) (fun h => ?_)) | (with_reducible refine Xb.caseN hc (fun h => ?_) (fun h => ?_))) <;> clear hc))
  any_goals (exfalso; omega)
  have hd2 : SlE (Z2 ++ H0) aD cI 1 (B.draws.map (·.number)) := hd.sub (fun _ h => List.mem_append_right _ h)
  refine ret_two (by first | exact .inr rfl | exact .inl rfl) Try.results31 rfl rfl (H' := Z2 ++ H0) (List.Sublist.refl _) ⟨aD, qD, aW, qW, Z2 ++ (Z ++ [⟨bx, 0, cBl B ⟨a1, c1, a2, c2⟩, some 27, 6⟩]), by rw [List.length_map, List.length_map], by rw [hH0]; simp, ?_, ?_⟩
  · subst hH0; simpa using hd2
  · subst hH0; simpa using hsW
end Go.Proofs.Ytoflnjgfikchjaa
end
section
set_option linter.unusedVariables false
set_option linter.unusedSimpArgs false
namespace Go.Proofs.Ytoflnjgfikchjaa
open Go Go.Fw
set_option maxRecDepth 10000
theorem leftDr_in {ms : List Dr} {l : List Int} {k : Nat} {e : Dr} (he : ms[k]? = some e) (h : e.number ∈ l) : leftDr (ms.take (k + 1)) l = leftDr (ms.take k) l := by
  unfold leftDr; rw [take_snoc he, List.filter_append]; simp [h]
theorem leftDr_out {ms : List Dr} {l : List Int} {k : Nat} {e : Dr} (he : ms[k]? = some e) (h : e.number ∉ l) : leftDr (ms.take (k + 1)) l = leftDr (ms.take k) l ++ [e] := by
  unfold leftDr; rw [take_snoc he, List.filter_append]; simp [h]
theorem leftDr_len (ms : List Dr) (l : List Int) (k : Nat) : (leftDr (ms.take k) l).length ≤ ms.length := by
  unfold leftDr; exact Nat.le_trans (List.length_filter_le _ _) (by rw [List.length_take]; omega)
abbrev wob (B : Bl) (ds ws : List Dr) : Bl := { B with draws := ds, weighs := ws }
/-- a list made by appending to nil -/
def Made (Z : List Row) (ao : Option Addr) (co : Nat) (tE : TypeId) (ms : List Dr) : Prop :=
  (Z = [] ∧ ao = none ∧ co = 0 ∧ ms = []) ∨ ∃ t, Z = [⟨t, 0, ms.flatMap cDr, some tE, co * 4⟩] ∧ ao = some ⟨t, 0, none⟩
theorem Made.sl {Z H : List Row} {ao : Option Addr} {co : Nat} {tE : TypeId} {ms : List Dr} (h : Made Z ao co tE ms) (hs : ∀ r ∈ Z, r ∈ H) : SlE H ao cDr 4 ms := by
  rcases h with ⟨rfl, rfl, rfl, rfl⟩ | ⟨t, rfl, rfl⟩
  · exact sleNil
  · exact SlE.ofRow (hs _ (List.Mem.head _)) (fun _ _ => rfl)
set_option maxHeartbeats 4000000 in
theorem without3_spec (B : Bl) (p : Pb) (l m : List Int) (al am : Option Addr) (cl cm : Nat) (H : List Row) (hB : BlOk H B p) (hl : SlE H al cI 1 l) (hb : l.length ≤ 1000000) (hm : SlE H am cI 1 m) (hc : m.length ≤ 1000000) :
    Fc Try.prog 33 [.agg (cBl B p).toArray, .slice al l.length cl, .slice am m.length cm] H (fun v H' => ∃ p' Z, v = .agg (cBl (strBl B l m) p').toArray ∧ H' = Z ++ H ∧ BlOk Z (strBl B l m) p') := by
  have l1 := hB.l1
  have l2 := hB.l2
  have hB2 : ∀ r1 r2, BlOk (r1 :: r2 :: H) B p := fun r1 r2 => hB.sub (fun _ h => List.Mem.tail _ (List.Mem.tail _ h))
  obtain ⟨a1, c1, a2, c2⟩ := p
  refine Fc.mk (callable Try.call33) Try.func33 rfl Try.ntmps33 rfl ?_; dsimp only [fr]
  repeat' (first | (refine XO.op rfl ?_; (first | ((first | refine Xo.ng rfl ?_); (first | (refine Xg.call (EnF.st rfl (by (repeat (first | exact Args.nil | refine Args.cons rfl ?_)); done)) rfl rfl (twinB_spec B _ _ (hB2 _ _)) ?_; rintro _ _ ⟨t1, k1, t2, k2, rfl, rfl⟩) | (refine Xg.ev (EvF.move rfl rfl) rfl rfl ?_) | (refine Xg.ev (EvF.fieldAddr rfl rfl (te rfl) rfl (te rfl) (by decide)) rfl rfl ?_) | (refine Xg.ev (EvF.lenSlice rfl rfl (te rfl)) rfl rfl ?_) | (refine Xg.ev (EvF.loadV rfl rfl (LoadV.own (te rfl) rfl (List.Mem.tail _ (List.Mem.tail _ (List.Mem.tail _ (List.Mem.tail _ (List.Mem.head _))))) rfl)) rfl rfl ?_) | (refine Xg.ev (EvF.loadV rfl rfl (LoadV.whole (te rfl) rfl (List.Mem.tail _ (List.Mem.head _)) rfl)) rfl rfl ?_) | (refine Xg.st (StF.boxAgg rfl rfl) rfl rfl ?_; rintro _ _ ⟨bx, rfl, rfl⟩) | (refine Xg.st (StF.alloc rfl Try.zeroValue27 rfl) rfl rfl ?_; rintro _ _ ⟨bx, rfl, rfl⟩) | (refine Xg.st0 (StF.storeOne (i := 0) rfl rfl rfl rfl (te rfl) rfl rfl (Nat.le_of_ble_eq_true rfl)) rfl ?_; rintro _ _ ⟨rfl, rfl⟩; dsimp only [List.set]) | (refine Xg.st0 (StF.storeAll (i := 0) rfl rfl rfl (te rfl) rfl rfl rfl rfl) rfl ?_; rintro _ _ ⟨rfl, rfl⟩; dsimp only [List.set]))))) | (refine XO.done rfl ?_; refine hK _ _ ?_; clear hK K) | refine X.seq rfl ?_ | refine X.region rfl (fun K hK => ?_) | refine X.block rfl ?_)
  rename_i b3 b6
  refine X.lp rfl (fun q F' H' => ∃ (k : Nat) (ao : Option Addr) (co : Nat) (Z : List Row), q = B.draws.length - k ∧ k ≤ B.draws.length ∧ Made Z ao co 29 (leftDr (B.draws.take k) l) ∧
      Z ++ (⟨bx, 0, cBl (wob B (leftDr (B.draws.take k) l) []) ⟨ao, co, none, 0⟩, some 27, 6⟩ :: ⟨b6, 0, cZb, some 27, 6⟩ :: ⟨b3, 0, cBl B ⟨a1, c1, a2, c2⟩, some 27, 6⟩ :: H) = H' ∧
      F' = [(1, .slice al l.length cl), (2, .slice am m.length cm), (3, .pointer (some ⟨b3, 0, none⟩)), (6, .pointer (some ⟨b6, 0, none⟩)), (7, .pointer (some ⟨bx, 0, none⟩)), (17, .slice a1 B.draws.length c1), (18, .int .i64 B.draws.length), (19, .int .i64 k)])
    B.draws.length [(1, .slice al l.length cl), (2, .slice am m.length cm), (3, .pointer (some ⟨b3, 0, none⟩)), (6, .pointer (some ⟨b6, 0, none⟩)), (7, .pointer (some ⟨bx, 0, none⟩)), (17, .slice a1 B.draws.length c1), (18, .int .i64 B.draws.length), (19, .int .i64 (0 : Nat))] _ (by (repeat (first | exact Sub.nil _ | refine Sub.cons rfl ?_)); done) (by (repeat (first | exact List.Sublist.refl _ | apply List.Sublist.cons_cons | apply List.Sublist.cons)); done) ⟨0, none, 0, [], by omega, by omega, .inl ⟨rfl, rfl, rfl, rfl⟩, rfl, rfl⟩ ?_
  rintro _ _ H2 ⟨k, ao, co, Z, rfl, hk, hz, hH, rfl⟩
  by_cases hkl : k < B.draws.length
  · obtain ⟨b, off, e, rfl, he⟩ := hB.draws.elem (i := k) hkl
    rcases hz with ⟨rfl, rfl, rfl, hw⟩ | ⟨t3, rfl, rfl⟩
    · simp only [hw, List.nil_append] at hH
      subst hH
      repeat' (first | (refine XO.op rfl ?_; (first | ((first | refine Xo.ng rfl ?_); (first | (refine Xg.ev (EvF.loadV rfl rfl (LoadV.elA0 (hB.draws.sub (fun _ hm => by repeat (first | exact hm | apply List.Mem.tail))) he (te rfl) rfl (fun _ hm => hm) rfl)) rfl rfl ?_) | (refine Xg.call (EnF.st rfl (by (repeat (first | exact Args.nil | refine Args.cons rfl ?_)); done)) rfl rfl (has3_spec l al cl _ _ (hl.sub (fun _ hm => by repeat (first | exact hm | apply List.Mem.tail))) (by omega)) ?_; rintro _ H9 ⟨rfl, hH9⟩; subst H9) | (refine Xg.st (StF.buildOne rfl elDr rfl rfl rfl (by decide) (by decide)) rfl rfl ?_; rintro _ _ ⟨bs, rfl, rfl⟩) | (refine Xg.st (StF.appendNew rfl elDr rfl rfl (by decide) rfl (Rd.own (List.Mem.head _)) (by decide)) rfl rfl ?_; rintro _ _ ⟨bn, kn, rfl, rfl⟩) | (refine Xg.ev (EvF.move rfl rfl) rfl rfl ?_) | (refine Xg.ev (EvF.cmp rfl rfl rfl rfl) rfl rfl ?_) | (refine Xg.ev (EvF.add64 rfl rfl rfl (by omega) (by omega)) rfl rfl ?_) | (refine Xg.ev (EvF.not rfl rfl) rfl rfl ?_) | (refine Xg.ev (EvF.fieldAddr rfl rfl (te rfl) rfl (te rfl) (by decide)) rfl rfl ?_) | (refine Xg.ev (EvF.lenSlice rfl rfl (te rfl)) rfl rfl ?_) | (refine Xg.ev (EvF.indexSlice rfl rfl rfl (te rfl) (te rfl) (by omega) (by omega)) rfl rfl ?_) | (refine Xg.ev (EvF.loadV rfl rfl (LoadV.own (te rfl) rfl (List.Mem.head _) rfl)) rfl rfl ?_) | (refine Xg.ev (EvF.loadV rfl rfl (LoadV.own (te rfl) rfl (List.Mem.tail _ (List.Mem.head _)) rfl)) rfl rfl ?_) | (refine Xg.ev (EvF.loadV rfl rfl (LoadV.own (te rfl) rfl (List.Mem.tail _ (List.Mem.tail _ (List.Mem.head _))) rfl)) rfl rfl ?_) | (refine Xg.ev (EvF.loadV rfl rfl (LoadV.whole (te rfl) rfl (List.Mem.head _) rfl)) rfl rfl ?_) | (refine Xg.st (StF.alloc rfl Try.zeroValue29 rfl) rfl rfl ?_; rintro _ _ ⟨bx, rfl, rfl⟩) | (refine Xg.st0 (StF.storeAll (i := 0) rfl rfl rfl (te rfl) rfl rfl rfl rfl) rfl ?_; rintro _ _ ⟨rfl, rfl⟩; dsimp only [List.set]) | (refine Xg.st0 (StF.storeOne (i := 3) rfl rfl rfl rfl (te rfl) rfl rfl (Nat.le_of_ble_eq_true rfl)) rfl ?_; rintro _ _ ⟨rfl, rfl⟩; dsimp only [List.set]))))) | (refine XO.done rfl ?_; refine hK _ _ ?_; clear hK K) | refine X.seq rfl ?_ | refine X.region rfl (fun K hK => ?_) | refine X.block rfl ?_ | (refine X.brk rfl ?_; first | refine blockX_hit rfl ?_ | skip) | refine X.skip rfl ?_ | (refine X.ite rfl rfl (fun hc => ?_); (first | (with_reducible refine Xb.case hc (fun h => ?_) (fun h => ?_)) | (with_reducible refine Xb.caseN hc (fun h => ?_) (fun h => ?_))) <;> clear hc))
      all_goals try (exfalso; omega)
      · have h5 := leftDr_out he (by assumption)
        rw [hw, List.nil_append] at h5
        refine ⟨_, _, _, (by (repeat (first | exact Sub.nil _ | refine Sub.cons rfl ?_)); done), ?_, ⟨k + 1, some ⟨bn, 0, none⟩, kn, [⟨bn, 0, (leftDr (B.draws.take (k + 1)) l).flatMap cDr, some 29, kn * 4⟩], rfl, by omega, .inr ⟨bn, rfl, rfl⟩, rfl, rfl⟩, by omega⟩
        rw [h5]
        exact (by (repeat (first | exact List.Sublist.refl _ | apply List.Sublist.cons_cons | apply List.Sublist.cons)); done)
      · have h5 := leftDr_in he (by assumption)
        rw [hw] at h5
        refine ⟨_, _, _, (by (repeat (first | exact Sub.nil _ | refine Sub.cons rfl ?_)); done), ?_, ⟨k + 1, none, 0, [], rfl, by omega, .inl ⟨rfl, rfl, rfl, h5⟩, rfl, rfl⟩, by omega⟩
        rw [h5]
        exact (by (repeat (first | exact List.Sublist.refl _ | apply List.Sublist.cons)); done)
    · have hlen : ((leftDr (B.draws.take k) l).flatMap cDr).length = (leftDr (B.draws.take k) l).length * 4 := lenDr _
      have hwl := leftDr_len B.draws l k
      simp only [List.cons_append, List.nil_append] at hH
      subst hH
      repeat' (first | (refine XO.op rfl ?_; (first | ((first | refine Xo.ng rfl ?_); (first | (refine Xg.ev (EvF.loadV rfl rfl (LoadV.elA0 (hB.draws.sub (fun _ hm => by repeat (first | exact hm | apply List.Mem.tail))) he (te rfl) rfl (fun _ hm => hm) rfl)) rfl rfl ?_) | (refine Xg.call (EnF.st rfl (by (repeat (first | exact Args.nil | refine Args.cons rfl ?_)); done)) rfl rfl (has3_spec l al cl _ _ (hl.sub (fun _ hm => by repeat (first | exact hm | apply List.Mem.tail))) (by omega)) ?_; rintro _ H9 ⟨rfl, hH9⟩; subst H9) | (refine Xg.st (StF.buildOne rfl elDr rfl rfl rfl (by decide) (by decide)) rfl rfl ?_; rintro _ _ ⟨bs, rfl, rfl⟩) | (refine Xg.st (StF.appendOwn (i := 2) rfl elDr rfl rfl rfl hlen rfl (Rd.own (List.Mem.head _)) rfl (by dsimp only [wob]; omega)) rfl rfl ?_; rintro _ _ ⟨bn, kn, rfl, rfl⟩; dsimp only [List.eraseIdx]) | (refine Xg.ev (EvF.move rfl rfl) rfl rfl ?_) | (refine Xg.ev (EvF.cmp rfl rfl rfl rfl) rfl rfl ?_) | (refine Xg.ev (EvF.add64 rfl rfl rfl (by omega) (by omega)) rfl rfl ?_) | (refine Xg.ev (EvF.not rfl rfl) rfl rfl ?_) | (refine Xg.ev (EvF.fieldAddr rfl rfl (te rfl) rfl (te rfl) (by decide)) rfl rfl ?_) | (refine Xg.ev (EvF.lenSlice rfl rfl (te rfl)) rfl rfl ?_) | (refine Xg.ev (EvF.indexSlice rfl rfl rfl (te rfl) (te rfl) (by omega) (by omega)) rfl rfl ?_) | (refine Xg.ev (EvF.loadV rfl rfl (LoadV.own (te rfl) rfl (List.Mem.head _) rfl)) rfl rfl ?_) | (refine Xg.ev (EvF.loadV rfl rfl (LoadV.own (te rfl) rfl (List.Mem.tail _ (List.Mem.tail _ (List.Mem.head _))) rfl)) rfl rfl ?_) | (refine Xg.ev (EvF.loadV rfl rfl (LoadV.own (te rfl) rfl (List.Mem.tail _ (List.Mem.tail _ (List.Mem.tail _ (List.Mem.head _)))) rfl)) rfl rfl ?_) | (refine Xg.ev (EvF.loadV rfl rfl (LoadV.whole (te rfl) rfl (List.Mem.head _) rfl)) rfl rfl ?_) | (refine Xg.st (StF.alloc rfl Try.zeroValue29 rfl) rfl rfl ?_; rintro _ _ ⟨bx, rfl, rfl⟩) | (refine Xg.st0 (StF.storeAll (i := 0) rfl rfl rfl (te rfl) rfl rfl rfl rfl) rfl ?_; rintro _ _ ⟨rfl, rfl⟩; dsimp only [List.set]) | (refine Xg.st0 (StF.storeOne (i := 3) rfl rfl rfl rfl (te rfl) rfl rfl (Nat.le_of_ble_eq_true rfl)) rfl ?_; rintro _ _ ⟨rfl, rfl⟩; dsimp only [List.set]))))) | (refine XO.done rfl ?_; refine hK _ _ ?_; clear hK K) | refine X.seq rfl ?_ | refine X.region rfl (fun K hK => ?_) | refine X.block rfl ?_ | (refine X.brk rfl ?_; first | refine blockX_hit rfl ?_ | skip) | refine X.skip rfl ?_ | (refine X.ite rfl rfl (fun hc => ?_); (first | (with_reducible refine Xb.case hc (fun h => ?_) (fun h => ?_)) | (with_reducible refine Xb.caseN hc (fun h => ?_) (fun h => ?_))) <;> clear hc))
      all_goals try (exfalso; omega)
      · have h5 := leftDr_out he (by assumption)
        refine ⟨_, _, _, (by (repeat (first | exact Sub.nil _ | refine Sub.cons rfl ?_)); done), ?_, ⟨k + 1, some ⟨bn, 0, none⟩, kn, [⟨bn, 0, (leftDr (B.draws.take (k + 1)) l).flatMap cDr, some 29, kn * 4⟩], rfl, by omega, .inr ⟨bn, rfl, rfl⟩, rfl, rfl⟩, by omega⟩
        rw [h5, List.flatMap_append]
        unfold cBl wob
        dsimp only
        rw [List.length_append]
        exact (by (repeat (first | exact List.Sublist.refl _ | apply List.Sublist.cons_cons | apply List.Sublist.cons)); done)
      · have h5 := leftDr_in he (by assumption)
        refine ⟨_, _, _, (by (repeat (first | exact Sub.nil _ | refine Sub.cons rfl ?_)); done), ?_, ⟨k + 1, some ⟨t3, 0, none⟩, co, _, rfl, by omega, .inr ⟨t3, rfl, rfl⟩, rfl, rfl⟩, by omega⟩
        rw [h5]
        exact (by (repeat (first | exact List.Sublist.refl _ | apply List.Sublist.cons)); done)
  obtain rfl : k = B.draws.length := by omega
  rw [List.take_length] at hz hH
  subst hH
  refine X.permH (H' := [⟨bx, 0, cBl (wob B (leftDr B.draws l) []) ⟨ao, co, none, 0⟩, some 27, 6⟩, ⟨b6, 0, cZb, some 27, 6⟩, ⟨b3, 0, cBl B ⟨a1, c1, a2, c2⟩, some 27, 6⟩] ++ (Z ++ H)) (List.perm_append_comm_assoc _ _ _) ?_
  simp only [List.cons_append, List.nil_append]
  repeat' (first | (refine XO.op rfl ?_; (first | ((first | refine Xo.ng rfl ?_); (first | (refine Xg.ev (EvF.move rfl rfl) rfl rfl ?_) | (refine Xg.ev (EvF.cmp rfl rfl rfl rfl) rfl rfl ?_) | (refine Xg.ev (EvF.fieldAddr rfl rfl (te rfl) rfl (te rfl) (by decide)) rfl rfl ?_) | (refine Xg.ev (EvF.lenSlice rfl rfl (te rfl)) rfl rfl ?_) | (refine Xg.ev (EvF.loadV rfl rfl (LoadV.own (te rfl) rfl (List.Mem.tail _ (List.Mem.tail _ (List.Mem.head _))) rfl)) rfl rfl ?_) | (refine Xg.ev (EvF.loadV rfl rfl (LoadV.whole (te rfl) rfl (List.Mem.head _) rfl)) rfl rfl ?_) | (refine Xg.ev (EvF.loadV rfl rfl (LoadV.whole (te rfl) rfl (List.Mem.tail _ (List.Mem.head _)) rfl)) rfl rfl ?_) | (refine Xg.st0 (StF.storeAll (i := 1) rfl rfl rfl (te rfl) rfl rfl rfl rfl) rfl ?_; rintro _ _ ⟨rfl, rfl⟩; dsimp only [List.set]) | (refine Xg.st0 (StF.storeAll (i := 2) rfl rfl rfl (te rfl) rfl rfl rfl rfl) rfl ?_; rintro _ _ ⟨rfl, rfl⟩; dsimp only [List.set]))))) | (refine XO.done rfl ?_; refine hK _ _ ?_; clear hK K) | refine X.seq rfl ?_ | refine X.region rfl (fun K hK => ?_) | refine X.block rfl ?_ | (refine X.brk rfl ?_; first | refine blockX_hit rfl ?_ | skip) | refine X.skip rfl ?_ | refine X.ret rfl ?_ | (refine X.ite rfl rfl (fun hc => ?_); (first | (with_reducible refine Xb.case hc (fun h => ?_) (fun h => ?_))) <;> clear hc))
  all_goals try (exfalso; omega)
  obtain ⟨H1, hH1⟩ : ∃ H1, H1 = Z ++ H := ⟨_, rfl⟩
  rw [← hH1]
  have hw : SlE H1 a2 cDr 4 B.weighs := hB.weighs.sub (fun _ h => hH1 ▸ List.mem_append_right _ h)
  have hm1 : SlE H1 am cI 1 m := hm.sub (fun _ h => hH1 ▸ List.mem_append_right _ h)
  obtain ⟨W0, hW0⟩ : ∃ W0, W0 = leftDr B.draws l := ⟨_, rfl⟩
  rw [← hW0]
  refine X.lp rfl (fun q F' H' => ∃ (k : Nat) (ap : Option Addr) (cp : Nat) (Z2 : List Row), q = B.weighs.length - k ∧ k ≤ B.weighs.length ∧ Made Z2 ap cp 31 (leftDr (B.weighs.take k) m) ∧
      Z2 ++ (⟨bx, 0, cBl (wob B W0 (leftDr (B.weighs.take k) m)) ⟨ao, co, ap, cp⟩, some 27, 6⟩ :: ⟨b6, 0, cZb, some 27, 6⟩ :: H1) = H' ∧
      F' = [(2, .slice am m.length cm), (6, .pointer (some ⟨b6, 0, none⟩)), (7, .pointer (some ⟨bx, 0, none⟩)), (36, .slice a2 B.weighs.length c2), (37, .int .i64 B.weighs.length), (38, .int .i64 k)])
    B.weighs.length [(2, .slice am m.length cm), (6, .pointer (some ⟨b6, 0, none⟩)), (7, .pointer (some ⟨bx, 0, none⟩)), (36, .slice a2 B.weighs.length c2), (37, .int .i64 B.weighs.length), (38, .int .i64 (0 : Nat))] _ (by (repeat (first | exact Sub.nil _ | refine Sub.cons rfl ?_)); done) (by (repeat (first | exact List.Sublist.refl _ | apply List.Sublist.cons_cons | apply List.Sublist.cons)); done) ⟨0, none, 0, [], by omega, by omega, .inl ⟨rfl, rfl, rfl, rfl⟩, rfl, rfl⟩ ?_
  rintro _ _ H2 ⟨k, ap, cp, Z2, rfl, hk, hz2, hH, rfl⟩
  by_cases hkl : k < B.weighs.length
  · obtain ⟨b, off, e, rfl, he⟩ := hw.elem (i := k) hkl
    rcases hz2 with ⟨rfl, rfl, rfl, hw2⟩ | ⟨t3, rfl, rfl⟩
    · simp only [hw2, List.nil_append] at hH
      subst hH
      repeat' (first | (refine XO.op rfl ?_; (first | ((first | refine Xo.ng rfl ?_); (first | (refine Xg.ev (EvF.loadV rfl rfl (LoadV.elA0 (hw.sub (fun _ hm => by repeat (first | exact hm | apply List.Mem.tail))) he (te rfl) rfl (fun _ hm => hm) rfl)) rfl rfl ?_) | (refine Xg.call (EnF.st rfl (by (repeat (first | exact Args.nil | refine Args.cons rfl ?_)); done)) rfl rfl (has3_spec m am cm _ _ (hm1.sub (fun _ hm => by repeat (first | exact hm | apply List.Mem.tail))) (by omega)) ?_; rintro _ H9 ⟨rfl, hH9⟩; subst H9) | (refine Xg.st (StF.buildOne rfl elWg rfl rfl rfl (by decide) (by decide)) rfl rfl ?_; rintro _ _ ⟨bs, rfl, rfl⟩) | (refine Xg.st (StF.appendNew rfl elWg rfl rfl (by decide) rfl (Rd.own (List.Mem.head _)) (by decide)) rfl rfl ?_; rintro _ _ ⟨bn, kn, rfl, rfl⟩) | (refine Xg.ev (EvF.move rfl rfl) rfl rfl ?_) | (refine Xg.ev (EvF.cmp rfl rfl rfl rfl) rfl rfl ?_) | (refine Xg.ev (EvF.add64 rfl rfl rfl (by omega) (by omega)) rfl rfl ?_) | (refine Xg.ev (EvF.not rfl rfl) rfl rfl ?_) | (refine Xg.ev (EvF.fieldAddr rfl rfl (te rfl) rfl (te rfl) (by decide)) rfl rfl ?_) | (refine Xg.ev (EvF.indexSlice rfl rfl rfl (te rfl) (te rfl) (by omega) (by omega)) rfl rfl ?_) | (refine Xg.ev (EvF.loadV rfl rfl (LoadV.own (te rfl) rfl (List.Mem.head _) rfl)) rfl rfl ?_) | (refine Xg.ev (EvF.loadV rfl rfl (LoadV.own (te rfl) rfl (List.Mem.tail _ (List.Mem.head _)) rfl)) rfl rfl ?_) | (refine Xg.ev (EvF.loadV rfl rfl (LoadV.whole (te rfl) rfl (List.Mem.head _) rfl)) rfl rfl ?_) | (refine Xg.st (StF.alloc rfl Try.zeroValue29 rfl) rfl rfl ?_; rintro _ _ ⟨bx, rfl, rfl⟩) | (refine Xg.st0 (StF.storeAll (i := 0) rfl rfl rfl (te rfl) rfl rfl rfl rfl) rfl ?_; rintro _ _ ⟨rfl, rfl⟩; dsimp only [List.set]) | (refine Xg.st0 (StF.storeAll (i := 1) rfl rfl rfl (te rfl) rfl rfl rfl rfl) rfl ?_; rintro _ _ ⟨rfl, rfl⟩; dsimp only [List.set]) | (refine Xg.st0 (StF.storeOne (i := 3) rfl rfl rfl rfl (te rfl) rfl rfl (Nat.le_of_ble_eq_true rfl)) rfl ?_; rintro _ _ ⟨rfl, rfl⟩; dsimp only [List.set]))))) | (refine XO.done rfl ?_; refine hK _ _ ?_; clear hK K) | refine X.seq rfl ?_ | refine X.region rfl (fun K hK => ?_) | refine X.block rfl ?_ | (refine X.brk rfl ?_; first | refine blockX_hit rfl ?_ | skip) | refine X.skip rfl ?_ | refine X.ret rfl ?_ | (refine X.ite rfl rfl (fun hc => ?_); (first | (with_reducible refine Xb.case hc (fun h => ?_) (fun h => ?_)) | (with_reducible refine Xb.caseN hc (fun h => ?_) (fun h => ?_))) <;> clear hc))
      all_goals try (exfalso; omega)
      · have h5 := leftDr_out he (by assumption)
        rw [hw2, List.nil_append] at h5
        refine ⟨_, _, _, (by (repeat (first | exact Sub.nil _ | refine Sub.cons rfl ?_)); done), ?_, ⟨k + 1, some ⟨bn, 0, none⟩, kn, [⟨bn, 0, (leftDr (B.weighs.take (k + 1)) m).flatMap cDr, some 31, kn * 4⟩], rfl, by omega, .inr ⟨bn, rfl, rfl⟩, rfl, rfl⟩, by omega⟩
        rw [h5]
        exact (by (repeat (first | exact List.Sublist.refl _ | apply List.Sublist.cons_cons | apply List.Sublist.cons)); done)
      · have h5 := leftDr_in he (by assumption)
        rw [hw2] at h5
        refine ⟨_, _, _, (by (repeat (first | exact Sub.nil _ | refine Sub.cons rfl ?_)); done), ?_, ⟨k + 1, none, 0, [], rfl, by omega, .inl ⟨rfl, rfl, rfl, h5⟩, rfl, rfl⟩, by omega⟩
        rw [h5]
        exact (by (repeat (first | exact List.Sublist.refl _ | apply List.Sublist.cons)); done)
    · have hlen : ((leftDr (B.weighs.take k) m).flatMap cDr).length = (leftDr (B.weighs.take k) m).length * 4 := lenDr _
      have hwl := leftDr_len B.weighs m k
      simp only [List.cons_append, List.nil_append] at hH
      subst hH
      repeat' (first | (refine XO.op rfl ?_; (first | ((first | refine Xo.ng rfl ?_); (first | (refine Xg.ev (EvF.loadV rfl rfl (LoadV.elA0 (hw.sub (fun _ hm => by repeat (first | exact hm | apply List.Mem.tail))) he (te rfl) rfl (fun _ hm => hm) rfl)) rfl rfl ?_) | (refine Xg.call (EnF.st rfl (by (repeat (first | exact Args.nil | refine Args.cons rfl ?_)); done)) rfl rfl (has3_spec m am cm _ _ (hm1.sub (fun _ hm => by repeat (first | exact hm | apply List.Mem.tail))) (by omega)) ?_; rintro _ H9 ⟨rfl, hH9⟩; subst H9) | (refine Xg.st (StF.buildOne rfl elWg rfl rfl rfl (by decide) (by decide)) rfl rfl ?_; rintro _ _ ⟨bs, rfl, rfl⟩) | (refine Xg.st (StF.appendOwn (i := 2) rfl elWg rfl rfl rfl hlen rfl (Rd.own (List.Mem.head _)) rfl (by dsimp only [wob]; omega)) rfl rfl ?_; rintro _ _ ⟨bn, kn, rfl, rfl⟩; dsimp only [List.eraseIdx]) | (refine Xg.ev (EvF.move rfl rfl) rfl rfl ?_) | (refine Xg.ev (EvF.cmp rfl rfl rfl rfl) rfl rfl ?_) | (refine Xg.ev (EvF.add64 rfl rfl rfl (by omega) (by omega)) rfl rfl ?_) | (refine Xg.ev (EvF.not rfl rfl) rfl rfl ?_) | (refine Xg.ev (EvF.fieldAddr rfl rfl (te rfl) rfl (te rfl) (by decide)) rfl rfl ?_) | (refine Xg.ev (EvF.indexSlice rfl rfl rfl (te rfl) (te rfl) (by omega) (by omega)) rfl rfl ?_) | (refine Xg.ev (EvF.loadV rfl rfl (LoadV.own (te rfl) rfl (List.Mem.head _) rfl)) rfl rfl ?_) | (refine Xg.ev (EvF.loadV rfl rfl (LoadV.own (te rfl) rfl (List.Mem.tail _ (List.Mem.tail _ (List.Mem.head _))) rfl)) rfl rfl ?_) | (refine Xg.ev (EvF.loadV rfl rfl (LoadV.whole (te rfl) rfl (List.Mem.head _) rfl)) rfl rfl ?_) | (refine Xg.ev (EvF.loadV rfl rfl (LoadV.whole (te rfl) rfl (List.Mem.tail _ (List.Mem.head _)) rfl)) rfl rfl ?_) | (refine Xg.st (StF.alloc rfl Try.zeroValue29 rfl) rfl rfl ?_; rintro _ _ ⟨bx, rfl, rfl⟩) | (refine Xg.st0 (StF.storeAll (i := 0) rfl rfl rfl (te rfl) rfl rfl rfl rfl) rfl ?_; rintro _ _ ⟨rfl, rfl⟩; dsimp only [List.set]) | (refine Xg.st0 (StF.storeAll (i := 2) rfl rfl rfl (te rfl) rfl rfl rfl rfl) rfl ?_; rintro _ _ ⟨rfl, rfl⟩; dsimp only [List.set]) | (refine Xg.st0 (StF.storeOne (i := 3) rfl rfl rfl rfl (te rfl) rfl rfl (Nat.le_of_ble_eq_true rfl)) rfl ?_; rintro _ _ ⟨rfl, rfl⟩; dsimp only [List.set]))))) | (refine XO.done rfl ?_; refine hK _ _ ?_; clear hK K) | refine X.seq rfl ?_ | refine X.region rfl (fun K hK => ?_) | refine X.block rfl ?_ | (refine X.brk rfl ?_; first | refine blockX_hit rfl ?_ | skip) | refine X.skip rfl ?_ | refine X.ret rfl ?_ | (refine X.ite rfl rfl (fun hc => ?_); (first | (with_reducible refine Xb.case hc (fun h => ?_) (fun h => ?_)) | (with_reducible refine Xb.caseN hc (fun h => ?_) (fun h => ?_))) <;> clear hc))
      all_goals try (exfalso; omega)
      · have h5 := leftDr_out he (by assumption)
        refine ⟨_, _, _, (by (repeat (first | exact Sub.nil _ | refine Sub.cons rfl ?_)); done), ?_, ⟨k + 1, some ⟨bn, 0, none⟩, kn, [⟨bn, 0, (leftDr (B.weighs.take (k + 1)) m).flatMap cDr, some 31, kn * 4⟩], rfl, by omega, .inr ⟨bn, rfl, rfl⟩, rfl, rfl⟩, by omega⟩
        rw [h5, List.flatMap_append]
        unfold cBl wob
        dsimp only
        rw [List.length_append]
        exact (by (repeat (first | exact List.Sublist.refl _ | apply List.Sublist.cons_cons | apply List.Sublist.cons)); done)
      · have h5 := leftDr_in he (by assumption)
        refine ⟨_, _, _, (by (repeat (first | exact Sub.nil _ | refine Sub.cons rfl ?_)); done), ?_, ⟨k + 1, some ⟨t3, 0, none⟩, cp, _, rfl, by omega, .inr ⟨t3, rfl, rfl⟩, rfl, rfl⟩, by omega⟩
        rw [h5]
        exact (by (repeat (first | exact List.Sublist.refl _ | apply List.Sublist.cons)); done)
  obtain rfl : k = B.weighs.length := by omega
  rw [List.take_length] at hz2 hH
  have hL1 : (leftDr B.draws l).length ≤ B.draws.length := List.length_filter_le _ _
  have hL2 : (leftDr B.weighs m).length ≤ B.weighs.length := List.length_filter_le _ _
  have hfin : BlOk (Z2 ++ Z) (strBl B l m) ⟨ao, co, ap, cp⟩ := ⟨hz.sl (fun _ h => List.mem_append_right _ h), hz2.sl (fun _ h => List.mem_append_left _ h), by show (leftDr B.draws l).length ≤ _; omega, by show (leftDr B.weighs m).length ≤ _; omega⟩
  subst hW0
  rcases hz2 with ⟨rfl, rfl, rfl, hw2⟩ | ⟨t3, rfl, rfl⟩
  · simp only [List.nil_append] at hH
    subst hH
    repeat' (first | (refine XO.op rfl ?_; (first | ((first | refine Xo.ng rfl ?_); (first | (refine Xg.ev (EvF.move rfl rfl) rfl rfl ?_) | (refine Xg.ev (EvF.cmp rfl rfl rfl rfl) rfl rfl ?_) | (refine Xg.ev (EvF.fieldAddr rfl rfl (te rfl) rfl (te rfl) (by decide)) rfl rfl ?_) | (refine Xg.ev (EvF.lenSlice rfl rfl (te rfl)) rfl rfl ?_) | (refine Xg.ev (EvF.loadV rfl rfl (LoadV.own (te rfl) rfl (List.Mem.tail _ (List.Mem.tail _ (List.Mem.head _))) rfl)) rfl rfl ?_) | (refine Xg.ev (EvF.loadV rfl rfl (LoadV.whole (te rfl) rfl (List.Mem.head _) rfl)) rfl rfl ?_) | (refine Xg.ev (EvF.loadV rfl rfl (LoadV.whole (te rfl) rfl (List.Mem.tail _ (List.Mem.head _)) rfl)) rfl rfl ?_) | (refine Xg.st0 (StF.storeAll (i := 1) rfl rfl rfl (te rfl) rfl rfl rfl rfl) rfl ?_; rintro _ _ ⟨rfl, rfl⟩; dsimp only [List.set]) | (refine Xg.st0 (StF.storeAll (i := 2) rfl rfl rfl (te rfl) rfl rfl rfl rfl) rfl ?_; rintro _ _ ⟨rfl, rfl⟩; dsimp only [List.set]))))) | (refine XO.done rfl ?_; refine hK _ _ ?_; clear hK K) | refine X.seq rfl ?_ | refine X.region rfl (fun K hK => ?_) | refine X.block rfl ?_ | (refine X.brk rfl ?_; first | refine blockX_hit rfl ?_ | skip) | refine X.skip rfl ?_ | refine X.ret rfl ?_ | (refine X.ite rfl rfl (fun hc => ?_); (first | (with_reducible refine Xb.case hc (fun h => ?_) (fun h => ?_))) <;> clear hc))
    all_goals try (exfalso; omega)
    exact ret_one (by first | exact .inr rfl | exact .inl rfl) Try.results33 ⟨_, rfl, LoadV.whole (te rfl) rfl (List.Mem.tail _ (List.Mem.head _)) rfl⟩ (H' := H1) (by (repeat (first | exact List.Sublist.refl _ | apply List.Sublist.cons_cons | apply List.Sublist.cons)); done) ⟨_, _, rfl, hH1, hfin⟩
  · simp only [List.cons_append, List.nil_append] at hH
    subst hH
    repeat' (first | (refine XO.op rfl ?_; (first | ((first | refine Xo.ng rfl ?_); (first | (refine Xg.ev (EvF.move rfl rfl) rfl rfl ?_) | (refine Xg.ev (EvF.cmp rfl rfl rfl rfl) rfl rfl ?_) | (refine Xg.ev (EvF.fieldAddr rfl rfl (te rfl) rfl (te rfl) (by decide)) rfl rfl ?_) | (refine Xg.ev (EvF.lenSlice rfl rfl (te rfl)) rfl rfl ?_) | (refine Xg.ev (EvF.loadV rfl rfl (LoadV.own (te rfl) rfl (List.Mem.tail _ (List.Mem.tail _ (List.Mem.head _))) rfl)) rfl rfl ?_) | (refine Xg.ev (EvF.loadV rfl rfl (LoadV.whole (te rfl) rfl (List.Mem.head _) rfl)) rfl rfl ?_) | (refine Xg.ev (EvF.loadV rfl rfl (LoadV.whole (te rfl) rfl (List.Mem.tail _ (List.Mem.head _)) rfl)) rfl rfl ?_) | (refine Xg.st0 (StF.storeAll (i := 1) rfl rfl rfl (te rfl) rfl rfl rfl rfl) rfl ?_; rintro _ _ ⟨rfl, rfl⟩; dsimp only [List.set]) | (refine Xg.st0 (StF.storeAll (i := 2) rfl rfl rfl (te rfl) rfl rfl rfl rfl) rfl ?_; rintro _ _ ⟨rfl, rfl⟩; dsimp only [List.set]))))) | (refine XO.done rfl ?_; refine hK _ _ ?_; clear hK K) | refine X.seq rfl ?_ | refine X.region rfl (fun K hK => ?_) | refine X.block rfl ?_ | (refine X.brk rfl ?_; first | refine blockX_hit rfl ?_ | skip) | refine X.skip rfl ?_ | refine X.ret rfl ?_ | (refine X.ite rfl rfl (fun hc => ?_); (first | (with_reducible refine Xb.case hc (fun h => ?_) (fun h => ?_))) <;> clear hc))
    all_goals try (exfalso; omega)
    exact ret_one (by first | exact .inr rfl | exact .inl rfl) Try.results33 ⟨_, rfl, LoadV.whole (te rfl) rfl (List.Mem.tail _ (List.Mem.tail _ (List.Mem.head _))) rfl⟩ (H' := ⟨t3, 0, (leftDr B.weighs m).flatMap cDr, some 31, cp * 4⟩ :: H1) (by (repeat (first | exact List.Sublist.refl _ | apply List.Sublist.cons_cons | apply List.Sublist.cons)); done) ⟨_, _, rfl, by rw [hH1]; rfl, hfin⟩
end Go.Proofs.Ytoflnjgfikchjaa
end
section
set_option linter.unusedVariables false
set_option linter.unusedSimpArgs false
namespace Go.Proofs.Ytoflnjgfikchjaa
open Go Go.Fw
set_option maxRecDepth 10000
def RefB (F : Bl × Int) (H : List Row) (v : Value) (H' : List Row) : Prop := ∃ p Z, v = tupB F.1 p F.2 ∧ H' = Z ++ H ∧ BlOk Z F.1 p
theorem BlOk.zero (H : List Row) : BlOk H Bz pzb := ⟨sleNil, sleNil, Nat.zero_le _, Nat.zero_le _⟩
def tsQ3 : List TOp := [⟨some 37, [], [], []⟩, ⟨some 38, [], [], []⟩, ⟨some 39, [1], [1], []⟩, ⟨some 40, [], [], []⟩, ⟨some 41, [1, 2, 3], [2, 3], []⟩, ⟨some 42, [0, 1, 2, 3, 4], [0, 4], [0]⟩, ⟨some 43, [], [], []⟩, ⟨some 44, [6], [6], []⟩, ⟨some 45, [0, 1, 2, 3, 4, 5, 6, 7], [5, 7], [5, 7]⟩, ⟨some 46, [], [], []⟩, ⟨some 47, [9], [9], []⟩, ⟨some 48, [], [], []⟩, ⟨some 49, [9, 10, 11], [10, 11], []⟩, ⟨some 50, [0, 1, 2, 3, 4, 5, 6, 7, 8, 9, 10, 11, 12], [8, 12], [8]⟩, ⟨some 51, [0, 1, 2, 3, 4, 5, 6, 7, 8, 9, 10, 11, 12, 13], [], []⟩, ⟨none, [0, 1, 2, 3, 4, 5, 6, 7, 8, 9, 10, 11, 12, 13, 14], [14, 13], [16]⟩, ⟨none, [], [], []⟩]
def valQPut3 (b2 b7 : Nat) (B : Bl) (p : Pb) (x : Dr) (k0 : Nat) (k : Nat) (env : Env) : Value :=
  match k with
  | 0 => .slice (some ⟨(env 0).1, 0, none⟩) 0 0
  | 1 => .pointer (some ⟨b2, 4, none⟩)
  | 2 => .slice p.a1 B.draws.length p.c1
  | 3 => .int .i64 k0
  | 4 => .slice p.a1 (B.draws.take k0).length p.c1
  | 5 => .slice (some ⟨(env 5).1, 0, none⟩) (B.draws.take k0).length (env 5).2
  | 6 => .agg (cDr x).toArray
  | 7 => .slice (some ⟨(env 7).1, 0, none⟩) 1 1
  | 8 => .slice (some ⟨(env 8).1, 0, none⟩) ((B.draws.take k0).length + 1) (env 8).2
  | 9 => .pointer (some ⟨b2, 4, none⟩)
  | 10 => .slice p.a1 B.draws.length p.c1
  | 11 => .int .i64 k0
  | 12 => .slice (sfrom p.a1 p.c1 k0 4) (B.draws.drop k0).length (p.c1 - k0)
  | 13 => .slice (some ⟨(env 13).1, 0, none⟩) (insDr x B.draws).length (env 13).2
  | 14 => .pointer (some ⟨b7, 4, none⟩)
  | _ => undef
def rowsQPut3 (b7 t1 k1 t2 k2 : Nat) (B : Bl) (x : Dr) (k0 : Nat) (k : Nat) (env : Env) : List Row :=
  match k with
  | 0 => [⟨(env 0).1, 0, [], some 29, 0⟩]
  | 5 => [⟨(env 5).1, 0, (B.draws.take k0).flatMap cDr, some 29, (env 5).2 * 4⟩]
  | 7 => [⟨(env 7).1, 0, cDr x, some 29, 1 * 4⟩]
  | 8 => [⟨(env 8).1, 0, (B.draws.take k0).flatMap cDr ++ cDr x, some 29, (env 8).2 * 4⟩]
  | 13 => [⟨(env 13).1, 0, (insDr x B.draws).flatMap cDr, some 29, (env 13).2 * 4⟩]
  | 15 => [⟨b7, 0, cBl (putBl B x) ⟨some ⟨(env 13).1, 0, none⟩, (env 13).2, some ⟨t2, 0, none⟩, k2⟩, some 27, 6⟩]
  | 16 => [⟨b7, 0, cBl B ⟨some ⟨t1, 0, none⟩, k1, some ⟨t2, 0, none⟩, k2⟩, some 27, 6⟩]
  | _ => []
theorem locQPut3 (b2 b7 t1 k1 t2 k2 : Nat) (B : Bl) (p : Pb) (x : Dr) (k0 : Nat) : ∀ k env i q9, i ≠ k → (tAt tsQ3 k).sup.contains i = false → valQPut3 b2 b7 B p x k0 k (upd env i q9) = valQPut3 b2 b7 B p x k0 k env ∧ rowsQPut3 b7 t1 k1 t2 k2 B x k0 k (upd env i q9) = rowsQPut3 b7 t1 k1 t2 k2 B x k0 k env := by
  intro k env i q hk hs
  have hu : ∀ j, j ≠ i → upd env i q j = env j := fun j hj => by unfold upd; rw [if_neg hj]
  match k, hk, hs with
  | 0, hk, hs => exact ⟨by simp only [valQPut3, hu 0 (fun e => hk e.symm)], by simp only [rowsQPut3, hu 0 (fun e => hk e.symm)]⟩
  | 1, _, _ => exact ⟨rfl, rfl⟩
  | 2, _, _ => exact ⟨rfl, rfl⟩
  | 3, _, _ => exact ⟨rfl, rfl⟩
  | 4, _, _ => exact ⟨rfl, rfl⟩
  | 5, hk, hs => exact ⟨by simp only [valQPut3, hu 5 (fun e => hk e.symm)], by simp only [rowsQPut3, hu 5 (fun e => hk e.symm)]⟩
  | 6, _, _ => exact ⟨rfl, rfl⟩
  | 7, hk, hs => exact ⟨by simp only [valQPut3, hu 7 (fun e => hk e.symm)], by simp only [rowsQPut3, hu 7 (fun e => hk e.symm)]⟩
  | 8, hk, hs => exact ⟨by simp only [valQPut3, hu 8 (fun e => hk e.symm)], by simp only [rowsQPut3, hu 8 (fun e => hk e.symm)]⟩
  | 9, _, _ => exact ⟨rfl, rfl⟩
  | 10, _, _ => exact ⟨rfl, rfl⟩
  | 11, _, _ => exact ⟨rfl, rfl⟩
  | 12, _, _ => exact ⟨rfl, rfl⟩
  | 13, hk, hs => exact ⟨by simp only [valQPut3, hu 13 (fun e => hk e.symm)], by simp only [rowsQPut3, hu 13 (fun e => hk e.symm)]⟩
  | 14, _, _ => exact ⟨rfl, rfl⟩
  | 15, hk, hs => exact ⟨by simp only [valQPut3, hu 13 (by rintro rfl; cases hs)], by simp only [rowsQPut3, hu 13 (by rintro rfl; cases hs)]⟩
  | 16, _, _ => exact ⟨rfl, rfl⟩
  | _ + 17, _, _ => exact ⟨rfl, rfl⟩
set_option maxHeartbeats 8000000 in
theorem refPut3_spec (B : Bl) (p : Pb) (x : Dr) (H : List Row) (hB : BlOk H B p) (hc : B.draws.length ≤ p.c1) : Fc Try.prog 10 [.agg (cBl B p).toArray, .agg (cDr x).toArray] H (RefB (bputF B x) H) := by
  have hB3 : ∀ r1 r2 r3, BlOk (r1 :: r2 :: r3 :: H) B p := fun r1 r2 r3 => hB.sub (fun _ h => List.Mem.tail _ (List.Mem.tail _ (List.Mem.tail _ h)))
  have hlen := lenDr B.draws
  have hil := insDr_len x B.draws
  have l1 := hB.l1
  have l2 := hB.l2
  obtain ⟨a1, c1, a2, c2⟩ := p
  dsimp only at hc
  refine Fc.mk (callable Try.call10) Try.func10 rfl Try.ntmps10 rfl ?_; dsimp only [fr]
  refine X.seq rfl ?_; refine X.region rfl (fun K hK => ?_); repeat' (first | (refine XO.op rfl ?_; (first | ((first | refine Xo.ng rfl ?_); (first | (refine Xg.ev (EvF.assign rfl rfl) rfl rfl ?_) | (refine Xg.st (StF.boxAgg rfl rfl) rfl rfl ?_; rintro _ _ ⟨bx, rfl, rfl⟩) | (refine Xg.st (StF.alloc rfl Try.zeroValue27 rfl) rfl rfl ?_; rintro _ _ ⟨bx, rfl, rfl⟩))))) | (refine XO.done rfl ?_; refine hK _ _ ?_; clear hK K))
  rename_i b2 b3
  rename Nat => b4
  repeat' (first | (refine XO.op rfl ?_; (first | ((first | refine Xo.ng rfl ?_); (first | (refine Xg.ev (EvF.build (cs := cZb) rfl ArgsP.nil (te rfl) (Places.cons (te rfl) (Places.cons (te rfl) (Places.cons (te rfl) (Places.cons (te rfl) (Places.cons (te rfl) Places.nil))))) Try.zeroValue27 rfl) rfl rfl ?_) | (refine Xg.call (EnF.st rfl (by (repeat (first | exact Args.nil | refine Args.cons rfl ?_)); done)) rfl rfl (bale_spec B _ _ (hB3 _ _ _)) ?_; rintro _ H9 ⟨rfl, hH9⟩; subst H9) | (refine Xg.ev (EvF.assign rfl rfl) rfl rfl ?_) | (refine Xg.ev (EvF.cmp rfl rfl rfl rfl) rfl rfl ?_) | (refine Xg.ev (EvF.not rfl rfl) rfl rfl ?_) | (refine Xg.ev (EvF.fieldAddr rfl rfl (te rfl) rfl (te rfl) (by decide)) rfl rfl ?_) | (refine Xg.ev (EvF.lenSlice rfl rfl (te rfl)) rfl rfl ?_) | (refine Xg.ev (EvF.loadV rfl rfl (LoadV.own (te rfl) rfl (List.Mem.tail _ (List.Mem.tail _ (List.Mem.head _))) rfl)) rfl rfl ?_) | (refine Xg.ev (EvF.loadV rfl rfl (LoadV.whole (te rfl) rfl (List.Mem.tail _ (List.Mem.tail _ (List.Mem.head _))) rfl)) rfl rfl ?_) | (refine Xg.st0 (StF.storeAll (i := 0) rfl rfl rfl (te rfl) rfl rfl rfl rfl) rfl ?_; rintro _ _ ⟨rfl, rfl⟩; dsimp only [List.set]))))) | (refine XO.done rfl ?_; refine hK _ _ ?_; clear hK K) | refine X.seq rfl ?_ | refine X.region rfl (fun K hK => ?_) | refine X.block rfl ?_ | refine X.skip rfl ?_ | refine X.ret rfl ?_ | (refine X.ite rfl rfl (fun hc => ?_); (first | (with_reducible refine Xb.case hc (fun h => ?_) (fun h => ?_)) | (with_reducible refine Xb.caseN hc (fun h => ?_) (fun h => ?_))) <;> clear hc))
  · refine ret_two (by first | exact .inr rfl | exact .inl rfl) Try.results10 ⟨_, rfl, LoadV.whole (te rfl) rfl (List.Mem.head _) rfl⟩ rfl (H' := H) (by (repeat (first | exact List.Sublist.refl _ | apply List.Sublist.cons)); done) ?_
    have e : bputF B x = (Bz, 30) := by unfold bputF; rw [if_neg (by assumption)]
    unfold RefB; rw [e]
    exact ⟨pzb, [], rfl, rfl, BlOk.zero _⟩
  · have hok : baleOk B := by assumption
    refine ret_two (by first | exact .inr rfl | exact .inl rfl) Try.results10 ⟨_, rfl, LoadV.whole (te rfl) rfl (List.Mem.head _) rfl⟩ rfl (H' := H) (by (repeat (first | exact List.Sublist.refl _ | apply List.Sublist.cons)); done) ?_
    have e : bputF B x = (Bz, 9) := by unfold bputF; rw [if_pos hok, if_pos (by omega)]
    unfold RefB; rw [e]
    exact ⟨pzb, [], rfl, rfl, BlOk.zero _⟩
  have hok : baleOk B := by assumption
  have hlim : ¬ 10 ≤ B.draws.length := by
    have := hok.2.2.2.1.1
    omega
  refine X.lp rfl (fun q F' H' => ∃ k : Nat, q = B.draws.length - k ∧ k ≤ B.draws.length ∧ (∀ i e, i < k → B.draws[i]? = some e → e.number < x.number) ∧ ⟨b4, 0, cZb, some 27, 6⟩ :: ⟨b3, 0, cDr x, some 29, 4⟩ :: ⟨b2, 0, cBl B ⟨a1, c1, a2, c2⟩, some 27, 6⟩ :: H = H' ∧
      F' = [(2, .pointer (some ⟨b2, 0, none⟩)), (3, .pointer (some ⟨b3, 0, none⟩)), (4, .pointer (some ⟨b4, 0, none⟩)), (6, .int .i64 k)])
    B.draws.length [(2, .pointer (some ⟨b2, 0, none⟩)), (3, .pointer (some ⟨b3, 0, none⟩)), (4, .pointer (some ⟨b4, 0, none⟩)), (6, .int .i64 (0 : Nat))] _ (by (repeat (first | exact Sub.nil _ | refine Sub.cons rfl ?_)); done) (by (repeat (first | exact List.Sublist.refl _ | apply List.Sublist.cons_cons | apply List.Sublist.cons)); done) ⟨0, by omega, by omega, fun i _ hi => absurd hi (by omega), rfl, rfl⟩ ?_
  rintro _ _ H2 ⟨k, rfl, hk, hn, hH, rfl⟩
  subst hH
  have hkl : (B.draws.take k).length = k := by rw [List.length_take]; omega
  have hlx : ((B.draws.take k).flatMap cDr ++ cDr x).length = ((B.draws.take k).length + 1) * 4 := by rw [List.length_append, lenDr]; show _ + 4 = _; omega
  by_cases hlt : k < B.draws.length
  · obtain ⟨b, off, e, rfl, he⟩ := hB.draws.elem (i := k) (by omega)
    repeat' (first | refine X.seq rfl ?_)
    refine X.regionD rfl mixed (by kernel_rfl) (fun K hK => ?_)
    repeat' (first | (refine XO.op rfl ?_; (first | ((first | refine Xo.ng rfl ?_); (first | (refine Xg.call (EnF.st rfl (by (repeat (first | exact Args.nil | refine Args.cons rfl ?_)); done)) rfl rfl (twinB_spec B _ _ (hB3 _ _ _)) ?_; rintro _ _ ⟨t1, k1, t2, k2, rfl, rfl⟩) | (refine Xg.ev (EvF.move rfl rfl) rfl rfl ?_) | (refine Xg.ev (EvF.assign rfl rfl) rfl rfl ?_) | (refine Xg.ev (EvF.add64 rfl rfl rfl (by omega) (by omega)) rfl rfl ?_) | (refine Xg.ev (EvF.loadV rfl rfl (LoadV.whole (te rfl) rfl (List.Mem.tail _ (List.Mem.tail _ (List.Mem.head _))) rfl)) rfl rfl ?_) | (refine Xg.st (StF.alloc rfl Try.zeroValue27 rfl) rfl rfl ?_; rintro _ _ ⟨bx, rfl, rfl⟩) | (refine Xg.st0 (StF.storeAll (i := 0) rfl rfl rfl (te rfl) rfl rfl rfl rfl) rfl ?_; rintro _ _ ⟨rfl, rfl⟩; dsimp only [List.set]))))) | (refine XO.done rfl ?_; refine hK _ _ ?_; clear hK K) | (refine XQ.op rfl ?_; (first | ((first | refine Yo.ng rfl ?_ | (refine Yo.g rfl rfl ?_; with_reducible refine Yw.tt ?_)); (first | (refine Yg.ev (EvF.loadV rfl rfl (LoadV.el1 (hB3 _ _ _).draws he (te rfl) rfl (fun _ hm => hm) rfl)) rfl rfl ?_) | (refine Yg.ev (EvF.move rfl rfl) rfl rfl ?_) | (refine Yg.ev (EvF.pickT rfl rfl rfl) rfl rfl ?_) | (refine Yg.ev (EvF.pickF rfl rfl rfl) rfl rfl ?_) | (refine Yg.ev (EvF.cmp rfl rfl rfl rfl) rfl rfl ?_) | (refine Yg.ev (EvF.fieldAddr rfl rfl (te rfl) rfl (te rfl) (by decide)) rfl rfl ?_) | (refine Yg.ev (EvF.lenSlice rfl rfl (te rfl)) rfl rfl ?_) | (refine Yg.ev (EvF.indexSlice rfl rfl rfl (te rfl) (te rfl) (by omega) (by omega)) rfl rfl ?_) | (refine Yg.ev (EvF.loadV rfl rfl (LoadV.own (te rfl) rfl (List.Mem.tail _ (List.Mem.head _)) rfl)) rfl rfl ?_) | (refine Yg.ev (EvF.loadV rfl rfl (LoadV.own (te rfl) rfl (List.Mem.tail _ (List.Mem.tail _ (List.Mem.head _))) rfl)) rfl rfl ?_))) | (refine Yo.g rfl rfl ?_; (first | (with_reducible refine Yw.ft rfl rfl ?_) | (with_reducible refine Yw.case (fun h => ?_) (fun h => ?_) <;> simp only [h, decide_true, decide_false, Bool.not_true, Bool.not_false, and_self, and_true, true_and, and_false, false_and]))))) | (refine XQ.done rfl ?_; refine hK _ ?_; clear hK K) | refine X.seq rfl ?_ | refine X.region rfl (fun K hK => ?_) | refine X.block rfl ?_ | (refine X.brk rfl ?_; first | refine blockX_hit rfl ?_ | skip) | refine X.skip rfl ?_ | (refine X.ite rfl rfl (fun hc => ?_); (first | (with_reducible refine Xb.f hc ?_) | (with_reducible refine Xb.case hc (fun h => ?_) (fun h => ?_))) <;> clear hc))
    any_goals (exfalso; omega)
    · refine ⟨_, [(2, .pointer (some ⟨b2, 0, none⟩)), (3, .pointer (some ⟨b3, 0, none⟩)), (4, .pointer (some ⟨b4, 0, none⟩)), (6, .int .i64 (k + 1 : Nat))], _, (by (repeat (first | exact Sub.nil _ | refine Sub.cons rfl ?_)); done), (by (repeat (first | exact List.Sublist.refl _ | apply List.Sublist.cons_cons | apply List.Sublist.cons)); done), ⟨k + 1, rfl, by omega, (fun i e' hi he' => ?_), rfl, rfl⟩, by omega⟩
      rcases Nat.lt_or_ge i k with h9 | h9
      · exact hn i e' h9 he'
      · obtain rfl : i = k := by omega
        rw [he] at he'; cases he'; assumption
    have hins := insDr_at x B.draws k hk hn (fun e' he' => by rw [he] at he'; cases he'; assumption)
    have hnl : (B.draws.take k).length + 1 + (B.draws.drop k).length = (insDr x B.draws).length := by rw [hil, List.length_take, List.length_drop]; omega
    have hfl : (B.draws.take k).flatMap cDr ++ cDr x ++ (B.draws.drop k).flatMap cDr = (insDr x B.draws).flatMap cDr := by rw [hins]; simp [List.flatMap_append]
    rename Nat => b7
    refine X.regionOb tsQ3 [2, 3, 4, 6, 7] [(2, .pointer (some ⟨b2, 0, none⟩)), (3, .pointer (some ⟨b3, 0, none⟩)), (4, .pointer (some ⟨b4, 0, none⟩)), (6, .int .i64 k), (7, .pointer (some ⟨b7, 0, none⟩))] (valQPut3 b2 b7 B ⟨some ⟨b, off, none⟩, c1, a2, c2⟩ x k) (rowsQPut3 b7 t1 k1 t2 k2 B x k) (fun _ => (0, 0))
      (rDraws B t1 k1 :: rWeighs B t2 k2 :: ⟨b4, 0, cZb, some 27, 6⟩ :: ⟨b3, 0, cDr x, some 29, 4⟩ :: ⟨b2, 0, cBl B ⟨some ⟨b, off, none⟩, c1, a2, c2⟩, some 27, 6⟩ :: H) rfl mixed (by (repeat (first | exact Sub.nil _ | refine Sub.cons rfl ?_)); done) rfl (by kernel_rfl) (locQPut3 b2 b7 t1 k1 t2 k2 B _ x k) (List.Sublist.refl _) ?_ ?_
    · repeat' (first | exact AllF.done rfl | (refine AllF.step rfl ?_ ?_; · (first | fail | ((first | refine Ob.ng rfl ?_); (first | exact ObK.pure (fun env R hR => by exact ⟨_, EvF.move rfl rfl, rfl⟩) rfl (fun _ => rfl) | exact ObK.pure (fun env R hR => by exact ⟨_, EvF.fieldAddr rfl rfl (te rfl) rfl (te rfl) (by decide), rfl⟩) rfl (fun _ => rfl) | exact ObK.pure (fun env R hR => by exact ⟨_, EvF.loadV rfl rfl (LoadV.whole (te rfl) rfl (hR _ (List.Mem.tail _ (List.Mem.tail _ (List.Mem.tail _ (List.Mem.head _))))) rfl), rfl⟩) rfl (fun _ => rfl) | (exact fun env S hS => (StF.buildNil rfl elDr).op.mono (fun v H' ⟨b, hv, hH⟩ => ⟨(b, 0), fun _ => hv, by rw [hH]; exact List.Perm.refl _⟩)) | (exact ObK.pure (fun env S hS => ⟨_, EvF.loadV rfl rfl (LoadV.own (te rfl) rfl (hS _ (List.Mem.tail _ (List.Mem.tail _ (List.Mem.tail _ (List.Mem.tail _ (List.Mem.head _)))))) rfl), rfl⟩) rfl (fun _ => rfl)) | (exact ObK.pure (fun env S hS => ⟨_, EvF.sliceTo (hh := k) rfl rfl (te rfl) (te rfl) rfl (by dsimp only; omega), by show Value.slice _ k _ = Value.slice _ (B.draws.take k).length _; rw [hkl]⟩) rfl (fun _ => rfl)) | (exact ObK.pure (fun env S hS => ⟨_, EvF.sliceFrom (lo := k) rfl rfl (te rfl) (te rfl) rfl hk hc, by show Value.slice _ (B.draws.length - k) _ = Value.slice _ (B.draws.drop k).length _; rw [List.length_drop]⟩) rfl (fun _ => rfl)) | (exact fun env S hS => (StF.buildOne rfl elDr rfl rfl rfl (by decide) (by decide)).op.mono (fun v H' ⟨b, hv, hH⟩ => ⟨(b, 0), fun _ => hv, by rw [hH]; exact List.Perm.refl _⟩)) | (exact fun env S hS => (StF.appendSl (i := 0) (l := B.draws.take k) rfl elDr rfl rfl rfl (sleTake (hB.draws.sub (fun r hr => List.mem_append_right _ (hS r (List.Mem.tail _ (List.Mem.tail _ (List.Mem.tail _ (List.Mem.tail _ (List.Mem.tail _ hr)))))))) k) (fun e _ => one_dr e) rfl (by decide) (by omega)).op.mono (fun v H' ⟨b, c, hv, hH⟩ => ⟨(b, c), fun _ => by rw [hv, Nat.zero_add]; rfl, by rw [hH]; exact List.Perm.refl _⟩)) | (exact fun env S hS => (StF.appendOwn (i := 0) rfl elDr rfl rfl rfl (lenDr _) rfl (Rd.own (List.Mem.tail _ (List.Mem.head _))) rfl (by omega)).op.drop (fun v H' ⟨b, c, hv, hH⟩ => ⟨_, by rw [hH]; exact List.Sublist.cons_cons _ (List.Sublist.cons _ (List.Sublist.refl _)), (b, c), fun _ => hv, List.Perm.refl _⟩)) | (exact fun env S hS => (StF.appendSl (i := 0) (l := B.draws.drop k) rfl elDr rfl rfl rfl (sleFrom (hB.draws.sub (fun r hr => List.mem_append_right _ (hS r (List.Mem.tail _ (List.Mem.tail _ (List.Mem.tail _ (List.Mem.tail _ (List.Mem.tail _ hr)))))))) hc k) (fun e _ => one_dr e) hlx (by decide) (by omega)).op.mono (fun v H' ⟨b, c, hv, hH⟩ => ⟨(b, c), fun _ => by rw [hv, hnl]; rfl, by rw [hH, hfl]; exact List.Perm.refl _⟩)) | (exact fun env S hS => (StF.storeOne (i := 0) rfl rfl rfl rfl (te rfl) rfl rfl (Nat.le_of_ble_eq_true rfl)).op.mono (fun v H' ⟨hv, hH⟩ => ⟨(0, 0), fun h => absurd rfl h, by rw [hH]; exact List.Perm.refl _⟩)))))))
    · intro env t ha hv
      refine ⟨_, ha, ?_⟩
      show X _ _ _ _ (⟨(env 13).1, 0, (insDr x B.draws).flatMap cDr, some 29, (env 13).2 * 4⟩ :: ⟨b7, 0, cBl (putBl B x) ⟨some ⟨(env 13).1, 0, none⟩, (env 13).2, some ⟨t2, 0, none⟩, k2⟩, some 27, 6⟩ :: rDraws B t1 k1 :: rWeighs B t2 k2 :: ⟨b4, 0, cZb, some 27, 6⟩ :: ⟨b3, 0, cDr x, some 29, 4⟩ :: ⟨b2, 0, cBl B ⟨some ⟨b, off, none⟩, c1, a2, c2⟩, some 27, 6⟩ :: H) _
      repeat' (first | (refine XO.op rfl ?_; (first | ((first | refine Xo.ng rfl ?_); (first | (refine Xg.call (EnF.st rfl (by (repeat (first | exact Args.nil | refine Args.cons rfl ?_)); done)) rfl rfl (bale_spec (putBl B x) ⟨some ⟨(env 13).1, 0, none⟩, (env 13).2, some ⟨t2, 0, none⟩, k2⟩ _ ⟨ownSlB (fun _ => rfl) (List.Mem.head _), ownSlB (fun _ => rfl) (List.Mem.tail _ (List.Mem.tail _ (List.Mem.tail _ (List.Mem.head _)))), (by show (insDr x B.draws).length ≤ _; omega), l2⟩) ?_; rintro _ H9 ⟨rfl, hH9⟩; subst H9) | (refine Xg.ev (EvF.build (cs := cZb) rfl ArgsP.nil (te rfl) (Places.cons (te rfl) (Places.cons (te rfl) (Places.cons (te rfl) (Places.cons (te rfl) (Places.cons (te rfl) Places.nil))))) Try.zeroValue27 rfl) rfl rfl ?_) | (refine Xg.st0 (StF.storeAll (i := 4) rfl rfl rfl (te rfl) rfl rfl rfl rfl) rfl ?_; rintro _ _ ⟨rfl, rfl⟩; dsimp only [List.set]) | (refine Xg.ev (EvF.assign rfl rfl) rfl rfl ?_) | (refine Xg.ev (EvF.not rfl rfl) rfl rfl ?_) | (refine Xg.ev (EvF.loadV rfl rfl (LoadV.whole (te rfl) rfl (List.Mem.tail _ (List.Mem.head _)) rfl)) rfl rfl ?_))))) | (refine XO.done rfl ?_; refine hK _ _ ?_; clear hK K) | refine X.seq rfl ?_ | refine X.region rfl (fun K hK => ?_) | refine X.skip rfl ?_ | refine X.ret rfl ?_ | (refine X.ite rfl rfl (fun hc => ?_); (first | (with_reducible refine Xb.caseN hc (fun h => ?_) (fun h => ?_))) <;> clear hc))
      · refine ret_two (by first | exact .inr rfl | exact .inl rfl) Try.results10 ⟨_, rfl, LoadV.whole (te rfl) rfl (List.Mem.tail _ (List.Mem.tail _ (List.Mem.tail _ (List.Mem.tail _ (List.Mem.head _))))) rfl⟩ rfl (H' := H) (by (repeat (first | exact List.Sublist.refl _ | apply List.Sublist.cons)); done) ?_
        have e : bputF B x = (Bz, 33) := by unfold bputF; rw [if_pos hok, if_neg hlim, if_neg (by assumption)]
        unfold RefB; rw [e]
        exact ⟨pzb, [], rfl, rfl, BlOk.zero _⟩
      · refine ret_two (by first | exact .inr rfl | exact .inl rfl) Try.results10 ⟨_, rfl, LoadV.whole (te rfl) rfl (List.Mem.tail _ (List.Mem.tail _ (List.Mem.tail _ (List.Mem.tail _ (List.Mem.head _))))) rfl⟩ rfl (H' := [⟨(env 13).1, 0, (insDr x B.draws).flatMap cDr, some 29, (env 13).2 * 4⟩, rWeighs B t2 k2] ++ H) (by (repeat (first | exact List.Sublist.refl _ | apply List.Sublist.cons_cons | apply List.Sublist.cons)); done) ?_
        have e : bputF B x = (putBl B x, 0) := by unfold bputF; rw [if_pos hok, if_neg hlim, if_pos (by assumption)]
        unfold RefB; rw [e]
        exact ⟨⟨some ⟨(env 13).1, 0, none⟩, (env 13).2, some ⟨t2, 0, none⟩, k2⟩, _, rfl, rfl, ⟨ownSlB (fun _ => rfl) (List.Mem.head _), ownSlB (fun _ => rfl) (List.Mem.tail _ (List.Mem.head _)), (by show (insDr x B.draws).length ≤ _; omega), l2⟩⟩
  · repeat' (first | refine X.seq rfl ?_)
    refine X.regionD rfl mixed (by kernel_rfl) (fun K hK => ?_)
    repeat' (first | (refine XO.op rfl ?_; (first | ((first | refine Xo.ng rfl ?_); (first | (refine Xg.call (EnF.st rfl (by (repeat (first | exact Args.nil | refine Args.cons rfl ?_)); done)) rfl rfl (twinB_spec B _ _ (hB3 _ _ _)) ?_; rintro _ _ ⟨t1, k1, t2, k2, rfl, rfl⟩) | (refine Xg.ev (EvF.loadV rfl rfl (LoadV.whole (te rfl) rfl (List.Mem.tail _ (List.Mem.tail _ (List.Mem.head _))) rfl)) rfl rfl ?_) | (refine Xg.st (StF.alloc rfl Try.zeroValue27 rfl) rfl rfl ?_; rintro _ _ ⟨bx, rfl, rfl⟩) | (refine Xg.st0 (StF.storeAll (i := 0) rfl rfl rfl (te rfl) rfl rfl rfl rfl) rfl ?_; rintro _ _ ⟨rfl, rfl⟩; dsimp only [List.set]))))) | (refine XO.done rfl ?_; refine hK _ _ ?_; clear hK K) | (refine XQ.op rfl ?_; (first | ((first | refine Yo.ng rfl ?_ | (refine Yo.g rfl rfl ?_; with_reducible refine Yw.tt ?_)); (first | (refine Yg.ev (EvF.move rfl rfl) rfl rfl ?_) | (refine Yg.ev (EvF.pickF rfl rfl rfl) rfl rfl ?_) | (refine Yg.ev (EvF.cmp rfl rfl rfl rfl) rfl rfl ?_) | (refine Yg.ev (EvF.fieldAddr rfl rfl (te rfl) rfl (te rfl) (by decide)) rfl rfl ?_) | (refine Yg.ev (EvF.lenSlice rfl rfl (te rfl)) rfl rfl ?_) | (refine Yg.ev (EvF.loadV rfl rfl (LoadV.own (te rfl) rfl (List.Mem.tail _ (List.Mem.tail _ (List.Mem.head _))) rfl)) rfl rfl ?_))) | (refine Yo.g rfl rfl ?_; (first | (with_reducible refine Yw.ft rfl rfl ?_) | (with_reducible refine Yw.case (fun h => ?_) (fun h => ?_) <;> simp only [h, decide_true, decide_false, Bool.not_true, Bool.not_false, and_self, and_true, true_and, and_false, false_and]) | (with_reducible refine Yw.caseB (fun h => ?_) (fun h => ?_) <;> simp only [h, decide_true, decide_false, Bool.not_true, Bool.not_false, and_self, and_true, true_and, and_false, false_and]))))) | (refine XQ.done rfl ?_; refine hK _ ?_; clear hK K) | refine X.seq rfl ?_ | refine X.region rfl (fun K hK => ?_) | (refine X.brk rfl ?_; first | refine blockX_hit rfl ?_ | skip) | (refine X.ite rfl rfl (fun hc => ?_); (first | (with_reducible refine Xb.f hc ?_)) <;> clear hc))
    any_goals (exfalso; omega)
    have hins := insDr_at x B.draws k hk hn (fun e' he' => by rw [List.getElem?_eq_none (by omega)] at he'; cases he')
    have hnl : (B.draws.take k).length + 1 + (B.draws.drop k).length = (insDr x B.draws).length := by rw [hil, List.length_take, List.length_drop]; omega
    have hfl : (B.draws.take k).flatMap cDr ++ cDr x ++ (B.draws.drop k).flatMap cDr = (insDr x B.draws).flatMap cDr := by rw [hins]; simp [List.flatMap_append]
    rename Nat => b7
    refine X.regionOb tsQ3 [2, 3, 4, 6, 7] [(2, .pointer (some ⟨b2, 0, none⟩)), (3, .pointer (some ⟨b3, 0, none⟩)), (4, .pointer (some ⟨b4, 0, none⟩)), (6, .int .i64 k), (7, .pointer (some ⟨b7, 0, none⟩))] (valQPut3 b2 b7 B ⟨a1, c1, a2, c2⟩ x k) (rowsQPut3 b7 t1 k1 t2 k2 B x k) (fun _ => (0, 0))
      (rDraws B t1 k1 :: rWeighs B t2 k2 :: ⟨b4, 0, cZb, some 27, 6⟩ :: ⟨b3, 0, cDr x, some 29, 4⟩ :: ⟨b2, 0, cBl B ⟨a1, c1, a2, c2⟩, some 27, 6⟩ :: H) rfl mixed (by (repeat (first | exact Sub.nil _ | refine Sub.cons rfl ?_)); done) rfl (by kernel_rfl) (locQPut3 b2 b7 t1 k1 t2 k2 B _ x k) (List.Sublist.refl _) ?_ ?_
    · repeat' (first | exact AllF.done rfl | (refine AllF.step rfl ?_ ?_; · (first | fail | ((first | refine Ob.ng rfl ?_); (first | exact ObK.pure (fun env R hR => by exact ⟨_, EvF.move rfl rfl, rfl⟩) rfl (fun _ => rfl) | exact ObK.pure (fun env R hR => by exact ⟨_, EvF.fieldAddr rfl rfl (te rfl) rfl (te rfl) (by decide), rfl⟩) rfl (fun _ => rfl) | exact ObK.pure (fun env R hR => by exact ⟨_, EvF.loadV rfl rfl (LoadV.whole (te rfl) rfl (hR _ (List.Mem.tail _ (List.Mem.tail _ (List.Mem.tail _ (List.Mem.head _))))) rfl), rfl⟩) rfl (fun _ => rfl) | (exact fun env S hS => (StF.buildNil rfl elDr).op.mono (fun v H' ⟨b, hv, hH⟩ => ⟨(b, 0), fun _ => hv, by rw [hH]; exact List.Perm.refl _⟩)) | (exact ObK.pure (fun env S hS => ⟨_, EvF.loadV rfl rfl (LoadV.own (te rfl) rfl (hS _ (List.Mem.tail _ (List.Mem.tail _ (List.Mem.tail _ (List.Mem.tail _ (List.Mem.head _)))))) rfl), rfl⟩) rfl (fun _ => rfl)) | (exact ObK.pure (fun env S hS => ⟨_, EvF.sliceTo (hh := k) rfl rfl (te rfl) (te rfl) rfl (by dsimp only; omega), by show Value.slice _ k _ = Value.slice _ (B.draws.take k).length _; rw [hkl]⟩) rfl (fun _ => rfl)) | (exact ObK.pure (fun env S hS => ⟨_, EvF.sliceFrom (lo := k) rfl rfl (te rfl) (te rfl) rfl hk hc, by show Value.slice _ (B.draws.length - k) _ = Value.slice _ (B.draws.drop k).length _; rw [List.length_drop]⟩) rfl (fun _ => rfl)) | (exact fun env S hS => (StF.buildOne rfl elDr rfl rfl rfl (by decide) (by decide)).op.mono (fun v H' ⟨b, hv, hH⟩ => ⟨(b, 0), fun _ => hv, by rw [hH]; exact List.Perm.refl _⟩)) | (exact fun env S hS => (StF.appendSl (i := 0) (l := B.draws.take k) rfl elDr rfl rfl rfl (sleTake (hB.draws.sub (fun r hr => List.mem_append_right _ (hS r (List.Mem.tail _ (List.Mem.tail _ (List.Mem.tail _ (List.Mem.tail _ (List.Mem.tail _ hr)))))))) k) (fun e _ => one_dr e) rfl (by decide) (by omega)).op.mono (fun v H' ⟨b, c, hv, hH⟩ => ⟨(b, c), fun _ => by rw [hv, Nat.zero_add]; rfl, by rw [hH]; exact List.Perm.refl _⟩)) | (exact fun env S hS => (StF.appendOwn (i := 0) rfl elDr rfl rfl rfl (lenDr _) rfl (Rd.own (List.Mem.tail _ (List.Mem.head _))) rfl (by omega)).op.drop (fun v H' ⟨b, c, hv, hH⟩ => ⟨_, by rw [hH]; exact List.Sublist.cons_cons _ (List.Sublist.cons _ (List.Sublist.refl _)), (b, c), fun _ => hv, List.Perm.refl _⟩)) | (exact fun env S hS => (StF.appendSl (i := 0) (l := B.draws.drop k) rfl elDr rfl rfl rfl (sleFrom (hB.draws.sub (fun r hr => List.mem_append_right _ (hS r (List.Mem.tail _ (List.Mem.tail _ (List.Mem.tail _ (List.Mem.tail _ (List.Mem.tail _ hr)))))))) hc k) (fun e _ => one_dr e) hlx (by decide) (by omega)).op.mono (fun v H' ⟨b, c, hv, hH⟩ => ⟨(b, c), fun _ => by rw [hv, hnl]; rfl, by rw [hH, hfl]; exact List.Perm.refl _⟩)) | (exact fun env S hS => (StF.storeOne (i := 0) rfl rfl rfl rfl (te rfl) rfl rfl (Nat.le_of_ble_eq_true rfl)).op.mono (fun v H' ⟨hv, hH⟩ => ⟨(0, 0), fun h => absurd rfl h, by rw [hH]; exact List.Perm.refl _⟩)))))))
    · intro env t ha hv
      refine ⟨_, ha, ?_⟩
      show X _ _ _ _ (⟨(env 13).1, 0, (insDr x B.draws).flatMap cDr, some 29, (env 13).2 * 4⟩ :: ⟨b7, 0, cBl (putBl B x) ⟨some ⟨(env 13).1, 0, none⟩, (env 13).2, some ⟨t2, 0, none⟩, k2⟩, some 27, 6⟩ :: rDraws B t1 k1 :: rWeighs B t2 k2 :: ⟨b4, 0, cZb, some 27, 6⟩ :: ⟨b3, 0, cDr x, some 29, 4⟩ :: ⟨b2, 0, cBl B ⟨a1, c1, a2, c2⟩, some 27, 6⟩ :: H) _
      repeat' (first | (refine XO.op rfl ?_; (first | ((first | refine Xo.ng rfl ?_); (first | (refine Xg.call (EnF.st rfl (by (repeat (first | exact Args.nil | refine Args.cons rfl ?_)); done)) rfl rfl (bale_spec (putBl B x) ⟨some ⟨(env 13).1, 0, none⟩, (env 13).2, some ⟨t2, 0, none⟩, k2⟩ _ ⟨ownSlB (fun _ => rfl) (List.Mem.head _), ownSlB (fun _ => rfl) (List.Mem.tail _ (List.Mem.tail _ (List.Mem.tail _ (List.Mem.head _)))), (by show (insDr x B.draws).length ≤ _; omega), l2⟩) ?_; rintro _ H9 ⟨rfl, hH9⟩; subst H9) | (refine Xg.ev (EvF.build (cs := cZb) rfl ArgsP.nil (te rfl) (Places.cons (te rfl) (Places.cons (te rfl) (Places.cons (te rfl) (Places.cons (te rfl) (Places.cons (te rfl) Places.nil))))) Try.zeroValue27 rfl) rfl rfl ?_) | (refine Xg.st0 (StF.storeAll (i := 4) rfl rfl rfl (te rfl) rfl rfl rfl rfl) rfl ?_; rintro _ _ ⟨rfl, rfl⟩; dsimp only [List.set]) | (refine Xg.ev (EvF.assign rfl rfl) rfl rfl ?_) | (refine Xg.ev (EvF.not rfl rfl) rfl rfl ?_) | (refine Xg.ev (EvF.loadV rfl rfl (LoadV.whole (te rfl) rfl (List.Mem.tail _ (List.Mem.head _)) rfl)) rfl rfl ?_))))) | (refine XO.done rfl ?_; refine hK _ _ ?_; clear hK K) | refine X.seq rfl ?_ | refine X.region rfl (fun K hK => ?_) | refine X.skip rfl ?_ | refine X.ret rfl ?_ | (refine X.ite rfl rfl (fun hc => ?_); (first | (with_reducible refine Xb.caseN hc (fun h => ?_) (fun h => ?_))) <;> clear hc))
      · refine ret_two (by first | exact .inr rfl | exact .inl rfl) Try.results10 ⟨_, rfl, LoadV.whole (te rfl) rfl (List.Mem.tail _ (List.Mem.tail _ (List.Mem.tail _ (List.Mem.tail _ (List.Mem.head _))))) rfl⟩ rfl (H' := H) (by (repeat (first | exact List.Sublist.refl _ | apply List.Sublist.cons)); done) ?_
        have e : bputF B x = (Bz, 33) := by unfold bputF; rw [if_pos hok, if_neg hlim, if_neg (by assumption)]
        unfold RefB; rw [e]
        exact ⟨pzb, [], rfl, rfl, BlOk.zero _⟩
      · refine ret_two (by first | exact .inr rfl | exact .inl rfl) Try.results10 ⟨_, rfl, LoadV.whole (te rfl) rfl (List.Mem.tail _ (List.Mem.tail _ (List.Mem.tail _ (List.Mem.tail _ (List.Mem.head _))))) rfl⟩ rfl (H' := [⟨(env 13).1, 0, (insDr x B.draws).flatMap cDr, some 29, (env 13).2 * 4⟩, rWeighs B t2 k2] ++ H) (by (repeat (first | exact List.Sublist.refl _ | apply List.Sublist.cons_cons | apply List.Sublist.cons)); done) ?_
        have e : bputF B x = (putBl B x, 0) := by unfold bputF; rw [if_pos hok, if_neg hlim, if_pos (by assumption)]
        unfold RefB; rw [e]
        exact ⟨⟨some ⟨(env 13).1, 0, none⟩, (env 13).2, some ⟨t2, 0, none⟩, k2⟩, _, rfl, rfl, ⟨ownSlB (fun _ => rfl) (List.Mem.head _), ownSlB (fun _ => rfl) (List.Mem.tail _ (List.Mem.head _)), (by show (insDr x B.draws).length ≤ _; omega), l2⟩⟩
def valQWed3 (b2 b7 : Nat) (B : Bl) (p : Pb) (x : Dr) (k0 : Nat) (k : Nat) (env : Env) : Value :=
  match k with
  | 0 => .slice (some ⟨(env 0).1, 0, none⟩) 0 0
  | 1 => .pointer (some ⟨b2, 5, none⟩)
  | 2 => .slice p.a2 B.weighs.length p.c2
  | 3 => .int .i64 k0
  | 4 => .slice p.a2 (B.weighs.take k0).length p.c2
  | 5 => .slice (some ⟨(env 5).1, 0, none⟩) (B.weighs.take k0).length (env 5).2
  | 6 => .agg (cDr x).toArray
  | 7 => .slice (some ⟨(env 7).1, 0, none⟩) 1 1
  | 8 => .slice (some ⟨(env 8).1, 0, none⟩) ((B.weighs.take k0).length + 1) (env 8).2
  | 9 => .pointer (some ⟨b2, 5, none⟩)
  | 10 => .slice p.a2 B.weighs.length p.c2
  | 11 => .int .i64 k0
  | 12 => .slice (sfrom p.a2 p.c2 k0 4) (B.weighs.drop k0).length (p.c2 - k0)
  | 13 => .slice (some ⟨(env 13).1, 0, none⟩) (insWg x B.weighs).length (env 13).2
  | 14 => .pointer (some ⟨b7, 5, none⟩)
  | _ => undef
def rowsQWed3 (b7 t1 k1 t2 k2 : Nat) (B : Bl) (x : Dr) (k0 : Nat) (k : Nat) (env : Env) : List Row :=
  match k with
  | 0 => [⟨(env 0).1, 0, [], some 31, 0⟩]
  | 5 => [⟨(env 5).1, 0, (B.weighs.take k0).flatMap cDr, some 31, (env 5).2 * 4⟩]
  | 7 => [⟨(env 7).1, 0, cDr x, some 31, 1 * 4⟩]
  | 8 => [⟨(env 8).1, 0, (B.weighs.take k0).flatMap cDr ++ cDr x, some 31, (env 8).2 * 4⟩]
  | 13 => [⟨(env 13).1, 0, (insWg x B.weighs).flatMap cDr, some 31, (env 13).2 * 4⟩]
  | 15 => [⟨b7, 0, cBl (wedBl B x) ⟨some ⟨t1, 0, none⟩, k1, some ⟨(env 13).1, 0, none⟩, (env 13).2⟩, some 27, 6⟩]
  | 16 => [⟨b7, 0, cBl B ⟨some ⟨t1, 0, none⟩, k1, some ⟨t2, 0, none⟩, k2⟩, some 27, 6⟩]
  | _ => []
theorem locQWed3 (b2 b7 t1 k1 t2 k2 : Nat) (B : Bl) (p : Pb) (x : Dr) (k0 : Nat) : ∀ k env i q9, i ≠ k → (tAt tsQ3 k).sup.contains i = false → valQWed3 b2 b7 B p x k0 k (upd env i q9) = valQWed3 b2 b7 B p x k0 k env ∧ rowsQWed3 b7 t1 k1 t2 k2 B x k0 k (upd env i q9) = rowsQWed3 b7 t1 k1 t2 k2 B x k0 k env := by
  intro k env i q hk hs
  have hu : ∀ j, j ≠ i → upd env i q j = env j := fun j hj => by unfold upd; rw [if_neg hj]
  match k, hk, hs with
  | 0, hk, hs => exact ⟨by simp only [valQWed3, hu 0 (fun e => hk e.symm)], by simp only [rowsQWed3, hu 0 (fun e => hk e.symm)]⟩
  | 1, _, _ => exact ⟨rfl, rfl⟩
  | 2, _, _ => exact ⟨rfl, rfl⟩
  | 3, _, _ => exact ⟨rfl, rfl⟩
  | 4, _, _ => exact ⟨rfl, rfl⟩
  | 5, hk, hs => exact ⟨by simp only [valQWed3, hu 5 (fun e => hk e.symm)], by simp only [rowsQWed3, hu 5 (fun e => hk e.symm)]⟩
  | 6, _, _ => exact ⟨rfl, rfl⟩
  | 7, hk, hs => exact ⟨by simp only [valQWed3, hu 7 (fun e => hk e.symm)], by simp only [rowsQWed3, hu 7 (fun e => hk e.symm)]⟩
  | 8, hk, hs => exact ⟨by simp only [valQWed3, hu 8 (fun e => hk e.symm)], by simp only [rowsQWed3, hu 8 (fun e => hk e.symm)]⟩
  | 9, _, _ => exact ⟨rfl, rfl⟩
  | 10, _, _ => exact ⟨rfl, rfl⟩
  | 11, _, _ => exact ⟨rfl, rfl⟩
  | 12, _, _ => exact ⟨rfl, rfl⟩
  | 13, hk, hs => exact ⟨by simp only [valQWed3, hu 13 (fun e => hk e.symm)], by simp only [rowsQWed3, hu 13 (fun e => hk e.symm)]⟩
  | 14, _, _ => exact ⟨rfl, rfl⟩
  | 15, hk, hs => exact ⟨by simp only [valQWed3, hu 13 (by rintro rfl; cases hs)], by simp only [rowsQWed3, hu 13 (by rintro rfl; cases hs)]⟩
  | 16, _, _ => exact ⟨rfl, rfl⟩
  | _ + 17, _, _ => exact ⟨rfl, rfl⟩
set_option maxHeartbeats 8000000 in
theorem refWed3_spec (B : Bl) (p : Pb) (x : Dr) (H : List Row) (hB : BlOk H B p) (hc : B.weighs.length ≤ p.c2) : Fc Try.prog 12 [.agg (cBl B p).toArray, .agg (cDr x).toArray] H (RefB (bwedF B x) H) := by
  have hB3 : ∀ r1 r2 r3, BlOk (r1 :: r2 :: r3 :: H) B p := fun r1 r2 r3 => hB.sub (fun _ h => List.Mem.tail _ (List.Mem.tail _ (List.Mem.tail _ h)))
  have hlen := lenDr B.weighs
  have hil := insWg_len x B.weighs
  have l1 := hB.l1
  have l2 := hB.l2
  obtain ⟨a1, c1, a2, c2⟩ := p
  dsimp only at hc
  refine Fc.mk (callable Try.call12) Try.func12 rfl Try.ntmps12 rfl ?_; dsimp only [fr]
  refine X.seq rfl ?_; refine X.region rfl (fun K hK => ?_); repeat' (first | (refine XO.op rfl ?_; (first | ((first | refine Xo.ng rfl ?_); (first | (refine Xg.ev (EvF.assign rfl rfl) rfl rfl ?_) | (refine Xg.st (StF.boxAgg rfl rfl) rfl rfl ?_; rintro _ _ ⟨bx, rfl, rfl⟩) | (refine Xg.st (StF.alloc rfl Try.zeroValue27 rfl) rfl rfl ?_; rintro _ _ ⟨bx, rfl, rfl⟩))))) | (refine XO.done rfl ?_; refine hK _ _ ?_; clear hK K))
  rename_i b2 b3
  rename Nat => b4
  repeat' (first | (refine XO.op rfl ?_; (first | ((first | refine Xo.ng rfl ?_); (first | (refine Xg.ev (EvF.build (cs := cZb) rfl ArgsP.nil (te rfl) (Places.cons (te rfl) (Places.cons (te rfl) (Places.cons (te rfl) (Places.cons (te rfl) (Places.cons (te rfl) Places.nil))))) Try.zeroValue27 rfl) rfl rfl ?_) | (refine Xg.call (EnF.st rfl (by (repeat (first | exact Args.nil | refine Args.cons rfl ?_)); done)) rfl rfl (bale_spec B _ _ (hB3 _ _ _)) ?_; rintro _ H9 ⟨rfl, hH9⟩; subst H9) | (refine Xg.ev (EvF.assign rfl rfl) rfl rfl ?_) | (refine Xg.ev (EvF.cmp rfl rfl rfl rfl) rfl rfl ?_) | (refine Xg.ev (EvF.not rfl rfl) rfl rfl ?_) | (refine Xg.ev (EvF.fieldAddr rfl rfl (te rfl) rfl (te rfl) (by decide)) rfl rfl ?_) | (refine Xg.ev (EvF.lenSlice rfl rfl (te rfl)) rfl rfl ?_) | (refine Xg.ev (EvF.loadV rfl rfl (LoadV.own (te rfl) rfl (List.Mem.tail _ (List.Mem.tail _ (List.Mem.head _))) rfl)) rfl rfl ?_) | (refine Xg.ev (EvF.loadV rfl rfl (LoadV.whole (te rfl) rfl (List.Mem.tail _ (List.Mem.tail _ (List.Mem.head _))) rfl)) rfl rfl ?_) | (refine Xg.st0 (StF.storeAll (i := 0) rfl rfl rfl (te rfl) rfl rfl rfl rfl) rfl ?_; rintro _ _ ⟨rfl, rfl⟩; dsimp only [List.set]))))) | (refine XO.done rfl ?_; refine hK _ _ ?_; clear hK K) | refine X.seq rfl ?_ | refine X.region rfl (fun K hK => ?_) | refine X.block rfl ?_ | refine X.skip rfl ?_ | refine X.ret rfl ?_ | (refine X.ite rfl rfl (fun hc => ?_); (first | (with_reducible refine Xb.case hc (fun h => ?_) (fun h => ?_)) | (with_reducible refine Xb.caseN hc (fun h => ?_) (fun h => ?_))) <;> clear hc))
  · refine ret_two (by first | exact .inr rfl | exact .inl rfl) Try.results12 ⟨_, rfl, LoadV.whole (te rfl) rfl (List.Mem.head _) rfl⟩ rfl (H' := H) (by (repeat (first | exact List.Sublist.refl _ | apply List.Sublist.cons)); done) ?_
    have e : bwedF B x = (Bz, 30) := by unfold bwedF; rw [if_neg (by assumption)]
    unfold RefB; rw [e]
    exact ⟨pzb, [], rfl, rfl, BlOk.zero _⟩
  · have hok : baleOk B := by assumption
    refine ret_two (by first | exact .inr rfl | exact .inl rfl) Try.results12 ⟨_, rfl, LoadV.whole (te rfl) rfl (List.Mem.head _) rfl⟩ rfl (H' := H) (by (repeat (first | exact List.Sublist.refl _ | apply List.Sublist.cons)); done) ?_
    have e : bwedF B x = (Bz, 9) := by unfold bwedF; rw [if_pos hok, if_pos (by omega)]
    unfold RefB; rw [e]
    exact ⟨pzb, [], rfl, rfl, BlOk.zero _⟩
  have hok : baleOk B := by assumption
  have hlim : ¬ 8 ≤ B.weighs.length := by
    have := hok.2.2.2.2.1
    omega
  refine X.lp rfl (fun q F' H' => ∃ k : Nat, q = B.weighs.length - k ∧ k ≤ B.weighs.length ∧ (∀ i e, i < k → B.weighs[i]? = some e → e.number < x.number) ∧ ⟨b4, 0, cZb, some 27, 6⟩ :: ⟨b3, 0, cDr x, some 31, 4⟩ :: ⟨b2, 0, cBl B ⟨a1, c1, a2, c2⟩, some 27, 6⟩ :: H = H' ∧
      F' = [(2, .pointer (some ⟨b2, 0, none⟩)), (3, .pointer (some ⟨b3, 0, none⟩)), (4, .pointer (some ⟨b4, 0, none⟩)), (6, .int .i64 k)])
    B.weighs.length [(2, .pointer (some ⟨b2, 0, none⟩)), (3, .pointer (some ⟨b3, 0, none⟩)), (4, .pointer (some ⟨b4, 0, none⟩)), (6, .int .i64 (0 : Nat))] _ (by (repeat (first | exact Sub.nil _ | refine Sub.cons rfl ?_)); done) (by (repeat (first | exact List.Sublist.refl _ | apply List.Sublist.cons_cons | apply List.Sublist.cons)); done) ⟨0, by omega, by omega, fun i _ hi => absurd hi (by omega), rfl, rfl⟩ ?_
  rintro _ _ H2 ⟨k, rfl, hk, hn, hH, rfl⟩
  subst hH
  have hkl : (B.weighs.take k).length = k := by rw [List.length_take]; omega
  have hlx : ((B.weighs.take k).flatMap cDr ++ cDr x).length = ((B.weighs.take k).length + 1) * 4 := by rw [List.length_append, lenDr]; show _ + 4 = _; omega
  by_cases hlt : k < B.weighs.length
  · obtain ⟨b, off, e, rfl, he⟩ := hB.weighs.elem (i := k) (by omega)
    repeat' (first | refine X.seq rfl ?_)
    refine X.regionD rfl mixed (by kernel_rfl) (fun K hK => ?_)
    repeat' (first | (refine XO.op rfl ?_; (first | ((first | refine Xo.ng rfl ?_); (first | (refine Xg.call (EnF.st rfl (by (repeat (first | exact Args.nil | refine Args.cons rfl ?_)); done)) rfl rfl (twinB_spec B _ _ (hB3 _ _ _)) ?_; rintro _ _ ⟨t1, k1, t2, k2, rfl, rfl⟩) | (refine Xg.ev (EvF.move rfl rfl) rfl rfl ?_) | (refine Xg.ev (EvF.assign rfl rfl) rfl rfl ?_) | (refine Xg.ev (EvF.add64 rfl rfl rfl (by omega) (by omega)) rfl rfl ?_) | (refine Xg.ev (EvF.loadV rfl rfl (LoadV.whole (te rfl) rfl (List.Mem.tail _ (List.Mem.tail _ (List.Mem.head _))) rfl)) rfl rfl ?_) | (refine Xg.st (StF.alloc rfl Try.zeroValue27 rfl) rfl rfl ?_; rintro _ _ ⟨bx, rfl, rfl⟩) | (refine Xg.st0 (StF.storeAll (i := 0) rfl rfl rfl (te rfl) rfl rfl rfl rfl) rfl ?_; rintro _ _ ⟨rfl, rfl⟩; dsimp only [List.set]))))) | (refine XO.done rfl ?_; refine hK _ _ ?_; clear hK K) | (refine XQ.op rfl ?_; (first | ((first | refine Yo.ng rfl ?_ | (refine Yo.g rfl rfl ?_; with_reducible refine Yw.tt ?_)); (first | (refine Yg.ev (EvF.loadV rfl rfl (LoadV.el1 (hB3 _ _ _).weighs he (te rfl) rfl (fun _ hm => hm) rfl)) rfl rfl ?_) | (refine Yg.ev (EvF.move rfl rfl) rfl rfl ?_) | (refine Yg.ev (EvF.pickT rfl rfl rfl) rfl rfl ?_) | (refine Yg.ev (EvF.pickF rfl rfl rfl) rfl rfl ?_) | (refine Yg.ev (EvF.cmp rfl rfl rfl rfl) rfl rfl ?_) | (refine Yg.ev (EvF.fieldAddr rfl rfl (te rfl) rfl (te rfl) (by decide)) rfl rfl ?_) | (refine Yg.ev (EvF.lenSlice rfl rfl (te rfl)) rfl rfl ?_) | (refine Yg.ev (EvF.indexSlice rfl rfl rfl (te rfl) (te rfl) (by omega) (by omega)) rfl rfl ?_) | (refine Yg.ev (EvF.loadV rfl rfl (LoadV.own (te rfl) rfl (List.Mem.tail _ (List.Mem.head _)) rfl)) rfl rfl ?_) | (refine Yg.ev (EvF.loadV rfl rfl (LoadV.own (te rfl) rfl (List.Mem.tail _ (List.Mem.tail _ (List.Mem.head _))) rfl)) rfl rfl ?_))) | (refine Yo.g rfl rfl ?_; (first | (with_reducible refine Yw.ft rfl rfl ?_) | (with_reducible refine Yw.case (fun h => ?_) (fun h => ?_) <;> simp only [h, decide_true, decide_false, Bool.not_true, Bool.not_false, and_self, and_true, true_and, and_false, false_and]))))) | (refine XQ.done rfl ?_; refine hK _ ?_; clear hK K) | refine X.seq rfl ?_ | refine X.region rfl (fun K hK => ?_) | refine X.block rfl ?_ | (refine X.brk rfl ?_; first | refine blockX_hit rfl ?_ | skip) | refine X.skip rfl ?_ | (refine X.ite rfl rfl (fun hc => ?_); (first | (with_reducible refine Xb.f hc ?_) | (with_reducible refine Xb.case hc (fun h => ?_) (fun h => ?_))) <;> clear hc))
    any_goals (exfalso; omega)
    · refine ⟨_, [(2, .pointer (some ⟨b2, 0, none⟩)), (3, .pointer (some ⟨b3, 0, none⟩)), (4, .pointer (some ⟨b4, 0, none⟩)), (6, .int .i64 (k + 1 : Nat))], _, (by (repeat (first | exact Sub.nil _ | refine Sub.cons rfl ?_)); done), (by (repeat (first | exact List.Sublist.refl _ | apply List.Sublist.cons_cons | apply List.Sublist.cons)); done), ⟨k + 1, rfl, by omega, (fun i e' hi he' => ?_), rfl, rfl⟩, by omega⟩
      rcases Nat.lt_or_ge i k with h9 | h9
      · exact hn i e' h9 he'
      · obtain rfl : i = k := by omega
        rw [he] at he'; cases he'; assumption
    have hins := insWg_at x B.weighs k hk hn (fun e' he' => by rw [he] at he'; cases he'; assumption)
    have hnl : (B.weighs.take k).length + 1 + (B.weighs.drop k).length = (insWg x B.weighs).length := by rw [hil, List.length_take, List.length_drop]; omega
    have hfl : (B.weighs.take k).flatMap cDr ++ cDr x ++ (B.weighs.drop k).flatMap cDr = (insWg x B.weighs).flatMap cDr := by rw [hins]; simp [List.flatMap_append]
    rename Nat => b7
    refine X.regionOb tsQ3 [2, 3, 4, 6, 7] [(2, .pointer (some ⟨b2, 0, none⟩)), (3, .pointer (some ⟨b3, 0, none⟩)), (4, .pointer (some ⟨b4, 0, none⟩)), (6, .int .i64 k), (7, .pointer (some ⟨b7, 0, none⟩))] (valQWed3 b2 b7 B ⟨a1, c1, some ⟨b, off, none⟩, c2⟩ x k) (rowsQWed3 b7 t1 k1 t2 k2 B x k) (fun _ => (0, 0))
      (rDraws B t1 k1 :: rWeighs B t2 k2 :: ⟨b4, 0, cZb, some 27, 6⟩ :: ⟨b3, 0, cDr x, some 31, 4⟩ :: ⟨b2, 0, cBl B ⟨a1, c1, some ⟨b, off, none⟩, c2⟩, some 27, 6⟩ :: H) rfl mixed (by (repeat (first | exact Sub.nil _ | refine Sub.cons rfl ?_)); done) rfl (by kernel_rfl) (locQWed3 b2 b7 t1 k1 t2 k2 B _ x k) (List.Sublist.refl _) ?_ ?_
    · repeat' (first | exact AllF.done rfl | (refine AllF.step rfl ?_ ?_; · (first | fail | ((first | refine Ob.ng rfl ?_); (first | exact ObK.pure (fun env R hR => by exact ⟨_, EvF.move rfl rfl, rfl⟩) rfl (fun _ => rfl) | exact ObK.pure (fun env R hR => by exact ⟨_, EvF.fieldAddr rfl rfl (te rfl) rfl (te rfl) (by decide), rfl⟩) rfl (fun _ => rfl) | exact ObK.pure (fun env R hR => by exact ⟨_, EvF.loadV rfl rfl (LoadV.whole (te rfl) rfl (hR _ (List.Mem.tail _ (List.Mem.tail _ (List.Mem.tail _ (List.Mem.head _))))) rfl), rfl⟩) rfl (fun _ => rfl) | (exact fun env S hS => (StF.buildNil rfl elWg).op.mono (fun v H' ⟨b, hv, hH⟩ => ⟨(b, 0), fun _ => hv, by rw [hH]; exact List.Perm.refl _⟩)) | (exact ObK.pure (fun env S hS => ⟨_, EvF.loadV rfl rfl (LoadV.own (te rfl) rfl (hS _ (List.Mem.tail _ (List.Mem.tail _ (List.Mem.tail _ (List.Mem.tail _ (List.Mem.head _)))))) rfl), rfl⟩) rfl (fun _ => rfl)) | (exact ObK.pure (fun env S hS => ⟨_, EvF.sliceTo (hh := k) rfl rfl (te rfl) (te rfl) rfl (by dsimp only; omega), by show Value.slice _ k _ = Value.slice _ (B.weighs.take k).length _; rw [hkl]⟩) rfl (fun _ => rfl)) | (exact ObK.pure (fun env S hS => ⟨_, EvF.sliceFrom (lo := k) rfl rfl (te rfl) (te rfl) rfl hk hc, by show Value.slice _ (B.weighs.length - k) _ = Value.slice _ (B.weighs.drop k).length _; rw [List.length_drop]⟩) rfl (fun _ => rfl)) | (exact fun env S hS => (StF.buildOne rfl elWg rfl rfl rfl (by decide) (by decide)).op.mono (fun v H' ⟨b, hv, hH⟩ => ⟨(b, 0), fun _ => hv, by rw [hH]; exact List.Perm.refl _⟩)) | (exact fun env S hS => (StF.appendSl (i := 0) (l := B.weighs.take k) rfl elWg rfl rfl rfl (sleTake (hB.weighs.sub (fun r hr => List.mem_append_right _ (hS r (List.Mem.tail _ (List.Mem.tail _ (List.Mem.tail _ (List.Mem.tail _ (List.Mem.tail _ hr)))))))) k) (fun e _ => one_dr e) rfl (by decide) (by omega)).op.mono (fun v H' ⟨b, c, hv, hH⟩ => ⟨(b, c), fun _ => by rw [hv, Nat.zero_add]; rfl, by rw [hH]; exact List.Perm.refl _⟩)) | (exact fun env S hS => (StF.appendOwn (i := 0) rfl elWg rfl rfl rfl (lenDr _) rfl (Rd.own (List.Mem.tail _ (List.Mem.head _))) rfl (by omega)).op.drop (fun v H' ⟨b, c, hv, hH⟩ => ⟨_, by rw [hH]; exact List.Sublist.cons_cons _ (List.Sublist.cons _ (List.Sublist.refl _)), (b, c), fun _ => hv, List.Perm.refl _⟩)) | (exact fun env S hS => (StF.appendSl (i := 0) (l := B.weighs.drop k) rfl elWg rfl rfl rfl (sleFrom (hB.weighs.sub (fun r hr => List.mem_append_right _ (hS r (List.Mem.tail _ (List.Mem.tail _ (List.Mem.tail _ (List.Mem.tail _ (List.Mem.tail _ hr)))))))) hc k) (fun e _ => one_dr e) hlx (by decide) (by omega)).op.mono (fun v H' ⟨b, c, hv, hH⟩ => ⟨(b, c), fun _ => by rw [hv, hnl]; rfl, by rw [hH, hfl]; exact List.Perm.refl _⟩)) | (exact fun env S hS => (StF.storeOne (i := 0) rfl rfl rfl rfl (te rfl) rfl rfl (Nat.le_of_ble_eq_true rfl)).op.mono (fun v H' ⟨hv, hH⟩ => ⟨(0, 0), fun h => absurd rfl h, by rw [hH]; exact List.Perm.refl _⟩)))))))
    · intro env t ha hv
      refine ⟨_, ha, ?_⟩
      show X _ _ _ _ (⟨(env 13).1, 0, (insWg x B.weighs).flatMap cDr, some 31, (env 13).2 * 4⟩ :: ⟨b7, 0, cBl (wedBl B x) ⟨some ⟨t1, 0, none⟩, k1, some ⟨(env 13).1, 0, none⟩, (env 13).2⟩, some 27, 6⟩ :: rDraws B t1 k1 :: rWeighs B t2 k2 :: ⟨b4, 0, cZb, some 27, 6⟩ :: ⟨b3, 0, cDr x, some 31, 4⟩ :: ⟨b2, 0, cBl B ⟨a1, c1, some ⟨b, off, none⟩, c2⟩, some 27, 6⟩ :: H) _
      repeat' (first | (refine XO.op rfl ?_; (first | ((first | refine Xo.ng rfl ?_); (first | (refine Xg.call (EnF.st rfl (by (repeat (first | exact Args.nil | refine Args.cons rfl ?_)); done)) rfl rfl (bale_spec (wedBl B x) ⟨some ⟨t1, 0, none⟩, k1, some ⟨(env 13).1, 0, none⟩, (env 13).2⟩ _ ⟨ownSlB (fun _ => rfl) (List.Mem.tail _ (List.Mem.tail _ (List.Mem.head _))), ownSlB (fun _ => rfl) (List.Mem.head _), l1, (by show (insWg x B.weighs).length ≤ _; omega)⟩) ?_; rintro _ H9 ⟨rfl, hH9⟩; subst H9) | (refine Xg.ev (EvF.build (cs := cZb) rfl ArgsP.nil (te rfl) (Places.cons (te rfl) (Places.cons (te rfl) (Places.cons (te rfl) (Places.cons (te rfl) (Places.cons (te rfl) Places.nil))))) Try.zeroValue27 rfl) rfl rfl ?_) | (refine Xg.st0 (StF.storeAll (i := 4) rfl rfl rfl (te rfl) rfl rfl rfl rfl) rfl ?_; rintro _ _ ⟨rfl, rfl⟩; dsimp only [List.set]) | (refine Xg.ev (EvF.assign rfl rfl) rfl rfl ?_) | (refine Xg.ev (EvF.not rfl rfl) rfl rfl ?_) | (refine Xg.ev (EvF.loadV rfl rfl (LoadV.whole (te rfl) rfl (List.Mem.tail _ (List.Mem.head _)) rfl)) rfl rfl ?_))))) | (refine XO.done rfl ?_; refine hK _ _ ?_; clear hK K) | refine X.seq rfl ?_ | refine X.region rfl (fun K hK => ?_) | refine X.skip rfl ?_ | refine X.ret rfl ?_ | (refine X.ite rfl rfl (fun hc => ?_); (first | (with_reducible refine Xb.caseN hc (fun h => ?_) (fun h => ?_))) <;> clear hc))
      · refine ret_two (by first | exact .inr rfl | exact .inl rfl) Try.results12 ⟨_, rfl, LoadV.whole (te rfl) rfl (List.Mem.tail _ (List.Mem.tail _ (List.Mem.tail _ (List.Mem.tail _ (List.Mem.head _))))) rfl⟩ rfl (H' := H) (by (repeat (first | exact List.Sublist.refl _ | apply List.Sublist.cons)); done) ?_
        have e : bwedF B x = (Bz, 34) := by unfold bwedF; rw [if_pos hok, if_neg hlim, if_neg (by assumption)]
        unfold RefB; rw [e]
        exact ⟨pzb, [], rfl, rfl, BlOk.zero _⟩
      · refine ret_two (by first | exact .inr rfl | exact .inl rfl) Try.results12 ⟨_, rfl, LoadV.whole (te rfl) rfl (List.Mem.tail _ (List.Mem.tail _ (List.Mem.tail _ (List.Mem.tail _ (List.Mem.head _))))) rfl⟩ rfl (H' := [⟨(env 13).1, 0, (insWg x B.weighs).flatMap cDr, some 31, (env 13).2 * 4⟩, rDraws B t1 k1] ++ H) (by (repeat (first | exact List.Sublist.refl _ | apply List.Sublist.cons_cons | apply List.Sublist.cons)); done) ?_
        have e : bwedF B x = (wedBl B x, 0) := by unfold bwedF; rw [if_pos hok, if_neg hlim, if_pos (by assumption)]
        unfold RefB; rw [e]
        exact ⟨⟨some ⟨t1, 0, none⟩, k1, some ⟨(env 13).1, 0, none⟩, (env 13).2⟩, _, rfl, rfl, ⟨ownSlB (fun _ => rfl) (List.Mem.tail _ (List.Mem.head _)), ownSlB (fun _ => rfl) (List.Mem.head _), l1, (by show (insWg x B.weighs).length ≤ _; omega)⟩⟩
  · repeat' (first | refine X.seq rfl ?_)
    refine X.regionD rfl mixed (by kernel_rfl) (fun K hK => ?_)
    repeat' (first | (refine XO.op rfl ?_; (first | ((first | refine Xo.ng rfl ?_); (first | (refine Xg.call (EnF.st rfl (by (repeat (first | exact Args.nil | refine Args.cons rfl ?_)); done)) rfl rfl (twinB_spec B _ _ (hB3 _ _ _)) ?_; rintro _ _ ⟨t1, k1, t2, k2, rfl, rfl⟩) | (refine Xg.ev (EvF.loadV rfl rfl (LoadV.whole (te rfl) rfl (List.Mem.tail _ (List.Mem.tail _ (List.Mem.head _))) rfl)) rfl rfl ?_) | (refine Xg.st (StF.alloc rfl Try.zeroValue27 rfl) rfl rfl ?_; rintro _ _ ⟨bx, rfl, rfl⟩) | (refine Xg.st0 (StF.storeAll (i := 0) rfl rfl rfl (te rfl) rfl rfl rfl rfl) rfl ?_; rintro _ _ ⟨rfl, rfl⟩; dsimp only [List.set]))))) | (refine XO.done rfl ?_; refine hK _ _ ?_; clear hK K) | (refine XQ.op rfl ?_; (first | ((first | refine Yo.ng rfl ?_ | (refine Yo.g rfl rfl ?_; with_reducible refine Yw.tt ?_)); (first | (refine Yg.ev (EvF.move rfl rfl) rfl rfl ?_) | (refine Yg.ev (EvF.pickF rfl rfl rfl) rfl rfl ?_) | (refine Yg.ev (EvF.cmp rfl rfl rfl rfl) rfl rfl ?_) | (refine Yg.ev (EvF.fieldAddr rfl rfl (te rfl) rfl (te rfl) (by decide)) rfl rfl ?_) | (refine Yg.ev (EvF.lenSlice rfl rfl (te rfl)) rfl rfl ?_) | (refine Yg.ev (EvF.loadV rfl rfl (LoadV.own (te rfl) rfl (List.Mem.tail _ (List.Mem.tail _ (List.Mem.head _))) rfl)) rfl rfl ?_))) | (refine Yo.g rfl rfl ?_; (first | (with_reducible refine Yw.ft rfl rfl ?_) | (with_reducible refine Yw.case (fun h => ?_) (fun h => ?_) <;> simp only [h, decide_true, decide_false, Bool.not_true, Bool.not_false, and_self, and_true, true_and, and_false, false_and]) | (with_reducible refine Yw.caseB (fun h => ?_) (fun h => ?_) <;> simp only [h, decide_true, decide_false, Bool.not_true, Bool.not_false, and_self, and_true, true_and, and_false, false_and]))))) | (refine XQ.done rfl ?_; refine hK _ ?_; clear hK K) | refine X.seq rfl ?_ | refine X.region rfl (fun K hK => ?_) | (refine X.brk rfl ?_; first | refine blockX_hit rfl ?_ | skip) | (refine X.ite rfl rfl (fun hc => ?_); (first | (with_reducible refine Xb.f hc ?_)) <;> clear hc))
    any_goals (exfalso; omega)
    have hins := insWg_at x B.weighs k hk hn (fun e' he' => by rw [List.getElem?_eq_none (by omega)] at he'; cases he')
    have hnl : (B.weighs.take k).length + 1 + (B.weighs.drop k).length = (insWg x B.weighs).length := by rw [hil, List.length_take, List.length_drop]; omega
    have hfl : (B.weighs.take k).flatMap cDr ++ cDr x ++ (B.weighs.drop k).flatMap cDr = (insWg x B.weighs).flatMap cDr := by rw [hins]; simp [List.flatMap_append]
    rename Nat => b7
    refine X.regionOb tsQ3 [2, 3, 4, 6, 7] [(2, .pointer (some ⟨b2, 0, none⟩)), (3, .pointer (some ⟨b3, 0, none⟩)), (4, .pointer (some ⟨b4, 0, none⟩)), (6, .int .i64 k), (7, .pointer (some ⟨b7, 0, none⟩))] (valQWed3 b2 b7 B ⟨a1, c1, a2, c2⟩ x k) (rowsQWed3 b7 t1 k1 t2 k2 B x k) (fun _ => (0, 0))
      (rDraws B t1 k1 :: rWeighs B t2 k2 :: ⟨b4, 0, cZb, some 27, 6⟩ :: ⟨b3, 0, cDr x, some 31, 4⟩ :: ⟨b2, 0, cBl B ⟨a1, c1, a2, c2⟩, some 27, 6⟩ :: H) rfl mixed (by (repeat (first | exact Sub.nil _ | refine Sub.cons rfl ?_)); done) rfl (by kernel_rfl) (locQWed3 b2 b7 t1 k1 t2 k2 B _ x k) (List.Sublist.refl _) ?_ ?_
    · repeat' (first | exact AllF.done rfl | (refine AllF.step rfl ?_ ?_; · (first | fail | ((first | refine Ob.ng rfl ?_); (first | exact ObK.pure (fun env R hR => by exact ⟨_, EvF.move rfl rfl, rfl⟩) rfl (fun _ => rfl) | exact ObK.pure (fun env R hR => by exact ⟨_, EvF.fieldAddr rfl rfl (te rfl) rfl (te rfl) (by decide), rfl⟩) rfl (fun _ => rfl) | exact ObK.pure (fun env R hR => by exact ⟨_, EvF.loadV rfl rfl (LoadV.whole (te rfl) rfl (hR _ (List.Mem.tail _ (List.Mem.tail _ (List.Mem.tail _ (List.Mem.head _))))) rfl), rfl⟩) rfl (fun _ => rfl) | (exact fun env S hS => (StF.buildNil rfl elWg).op.mono (fun v H' ⟨b, hv, hH⟩ => ⟨(b, 0), fun _ => hv, by rw [hH]; exact List.Perm.refl _⟩)) | (exact ObK.pure (fun env S hS => ⟨_, EvF.loadV rfl rfl (LoadV.own (te rfl) rfl (hS _ (List.Mem.tail _ (List.Mem.tail _ (List.Mem.tail _ (List.Mem.tail _ (List.Mem.head _)))))) rfl), rfl⟩) rfl (fun _ => rfl)) | (exact ObK.pure (fun env S hS => ⟨_, EvF.sliceTo (hh := k) rfl rfl (te rfl) (te rfl) rfl (by dsimp only; omega), by show Value.slice _ k _ = Value.slice _ (B.weighs.take k).length _; rw [hkl]⟩) rfl (fun _ => rfl)) | (exact ObK.pure (fun env S hS => ⟨_, EvF.sliceFrom (lo := k) rfl rfl (te rfl) (te rfl) rfl hk hc, by show Value.slice _ (B.weighs.length - k) _ = Value.slice _ (B.weighs.drop k).length _; rw [List.length_drop]⟩) rfl (fun _ => rfl)) | (exact fun env S hS => (StF.buildOne rfl elWg rfl rfl rfl (by decide) (by decide)).op.mono (fun v H' ⟨b, hv, hH⟩ => ⟨(b, 0), fun _ => hv, by rw [hH]; exact List.Perm.refl _⟩)) | (exact fun env S hS => (StF.appendSl (i := 0) (l := B.weighs.take k) rfl elWg rfl rfl rfl (sleTake (hB.weighs.sub (fun r hr => List.mem_append_right _ (hS r (List.Mem.tail _ (List.Mem.tail _ (List.Mem.tail _ (List.Mem.tail _ (List.Mem.tail _ hr)))))))) k) (fun e _ => one_dr e) rfl (by decide) (by omega)).op.mono (fun v H' ⟨b, c, hv, hH⟩ => ⟨(b, c), fun _ => by rw [hv, Nat.zero_add]; rfl, by rw [hH]; exact List.Perm.refl _⟩)) | (exact fun env S hS => (StF.appendOwn (i := 0) rfl elWg rfl rfl rfl (lenDr _) rfl (Rd.own (List.Mem.tail _ (List.Mem.head _))) rfl (by omega)).op.drop (fun v H' ⟨b, c, hv, hH⟩ => ⟨_, by rw [hH]; exact List.Sublist.cons_cons _ (List.Sublist.cons _ (List.Sublist.refl _)), (b, c), fun _ => hv, List.Perm.refl _⟩)) | (exact fun env S hS => (StF.appendSl (i := 0) (l := B.weighs.drop k) rfl elWg rfl rfl rfl (sleFrom (hB.weighs.sub (fun r hr => List.mem_append_right _ (hS r (List.Mem.tail _ (List.Mem.tail _ (List.Mem.tail _ (List.Mem.tail _ (List.Mem.tail _ hr)))))))) hc k) (fun e _ => one_dr e) hlx (by decide) (by omega)).op.mono (fun v H' ⟨b, c, hv, hH⟩ => ⟨(b, c), fun _ => by rw [hv, hnl]; rfl, by rw [hH, hfl]; exact List.Perm.refl _⟩)) | (exact fun env S hS => (StF.storeOne (i := 0) rfl rfl rfl rfl (te rfl) rfl rfl (Nat.le_of_ble_eq_true rfl)).op.mono (fun v H' ⟨hv, hH⟩ => ⟨(0, 0), fun h => absurd rfl h, by rw [hH]; exact List.Perm.refl _⟩)))))))
    · intro env t ha hv
      refine ⟨_, ha, ?_⟩
      show X _ _ _ _ (⟨(env 13).1, 0, (insWg x B.weighs).flatMap cDr, some 31, (env 13).2 * 4⟩ :: ⟨b7, 0, cBl (wedBl B x) ⟨some ⟨t1, 0, none⟩, k1, some ⟨(env 13).1, 0, none⟩, (env 13).2⟩, some 27, 6⟩ :: rDraws B t1 k1 :: rWeighs B t2 k2 :: ⟨b4, 0, cZb, some 27, 6⟩ :: ⟨b3, 0, cDr x, some 31, 4⟩ :: ⟨b2, 0, cBl B ⟨a1, c1, a2, c2⟩, some 27, 6⟩ :: H) _
      repeat' (first | (refine XO.op rfl ?_; (first | ((first | refine Xo.ng rfl ?_); (first | (refine Xg.call (EnF.st rfl (by (repeat (first | exact Args.nil | refine Args.cons rfl ?_)); done)) rfl rfl (bale_spec (wedBl B x) ⟨some ⟨t1, 0, none⟩, k1, some ⟨(env 13).1, 0, none⟩, (env 13).2⟩ _ ⟨ownSlB (fun _ => rfl) (List.Mem.tail _ (List.Mem.tail _ (List.Mem.head _))), ownSlB (fun _ => rfl) (List.Mem.head _), l1, (by show (insWg x B.weighs).length ≤ _; omega)⟩) ?_; rintro _ H9 ⟨rfl, hH9⟩; subst H9) | (refine Xg.ev (EvF.build (cs := cZb) rfl ArgsP.nil (te rfl) (Places.cons (te rfl) (Places.cons (te rfl) (Places.cons (te rfl) (Places.cons (te rfl) (Places.cons (te rfl) Places.nil))))) Try.zeroValue27 rfl) rfl rfl ?_) | (refine Xg.st0 (StF.storeAll (i := 4) rfl rfl rfl (te rfl) rfl rfl rfl rfl) rfl ?_; rintro _ _ ⟨rfl, rfl⟩; dsimp only [List.set]) | (refine Xg.ev (EvF.assign rfl rfl) rfl rfl ?_) | (refine Xg.ev (EvF.not rfl rfl) rfl rfl ?_) | (refine Xg.ev (EvF.loadV rfl rfl (LoadV.whole (te rfl) rfl (List.Mem.tail _ (List.Mem.head _)) rfl)) rfl rfl ?_))))) | (refine XO.done rfl ?_; refine hK _ _ ?_; clear hK K) | refine X.seq rfl ?_ | refine X.region rfl (fun K hK => ?_) | refine X.skip rfl ?_ | refine X.ret rfl ?_ | (refine X.ite rfl rfl (fun hc => ?_); (first | (with_reducible refine Xb.caseN hc (fun h => ?_) (fun h => ?_))) <;> clear hc))
      · refine ret_two (by first | exact .inr rfl | exact .inl rfl) Try.results12 ⟨_, rfl, LoadV.whole (te rfl) rfl (List.Mem.tail _ (List.Mem.tail _ (List.Mem.tail _ (List.Mem.tail _ (List.Mem.head _))))) rfl⟩ rfl (H' := H) (by (repeat (first | exact List.Sublist.refl _ | apply List.Sublist.cons)); done) ?_
        have e : bwedF B x = (Bz, 34) := by unfold bwedF; rw [if_pos hok, if_neg hlim, if_neg (by assumption)]
        unfold RefB; rw [e]
        exact ⟨pzb, [], rfl, rfl, BlOk.zero _⟩
      · refine ret_two (by first | exact .inr rfl | exact .inl rfl) Try.results12 ⟨_, rfl, LoadV.whole (te rfl) rfl (List.Mem.tail _ (List.Mem.tail _ (List.Mem.tail _ (List.Mem.tail _ (List.Mem.head _))))) rfl⟩ rfl (H' := [⟨(env 13).1, 0, (insWg x B.weighs).flatMap cDr, some 31, (env 13).2 * 4⟩, rDraws B t1 k1] ++ H) (by (repeat (first | exact List.Sublist.refl _ | apply List.Sublist.cons_cons | apply List.Sublist.cons)); done) ?_
        have e : bwedF B x = (wedBl B x, 0) := by unfold bwedF; rw [if_pos hok, if_neg hlim, if_pos (by assumption)]
        unfold RefB; rw [e]
        exact ⟨⟨some ⟨t1, 0, none⟩, k1, some ⟨(env 13).1, 0, none⟩, (env 13).2⟩, _, rfl, rfl, ⟨ownSlB (fun _ => rfl) (List.Mem.tail _ (List.Mem.head _)), ownSlB (fun _ => rfl) (List.Mem.head _), l1, (by show (insWg x B.weighs).length ≤ _; omega)⟩⟩
end Go.Proofs.Ytoflnjgfikchjaa
end
section
set_option linter.unusedVariables false
set_option linter.unusedSimpArgs false
namespace Go.Proofs.Ytoflnjgfikchjaa
open Go Go.Fw
set_option maxRecDepth 10000
theorem storeZK {P : Program} {n : Nat} {F : FS} {o : Oper} {Z rest : List Row} {T : TypeId} {a x : Operand} {b cap : Nat} {el : TypeId} {cs vs : List Value} {ti : TI} (h : o.op = .store T a x) (hx : evF F a = some (.pointer (some ⟨b, 0, none⟩))) (hv : evF F x = some (.agg vs.toArray)) (hT : tiOf P T = some ti)
    (hn : vs.length = ti.size) (h1 : vs.all (·.oneCell') = true) (hl : vs.length = cs.length) : StF P n (Z ++ ⟨b, 0, cs, some el, cap⟩ :: rest) F o (fun u H' => u = undef ∧ H' = Z ++ ⟨b, 0, vs, some el, cap⟩ :: rest) := by
  have hi : (Z ++ (⟨b, 0, cs, some el, cap⟩ : Row) :: rest)[Z.length]? = some ⟨b, 0, cs, some el, cap⟩ := by simp
  have := StF.storeAll (P := P) (n := n) (H := Z ++ ⟨b, 0, cs, some el, cap⟩ :: rest) (i := Z.length) h hx hv hT hi hn h1 hl
  simpa using this
theorem rises_memK : ∀ (l : List Int) (p n : Int), rises p l → n ∈ l → p < n
  | [], _, _, _, h => absurd h List.not_mem_nil
  | m :: t, p, n, h, hm => by
    rcases List.mem_cons.1 hm with rfl | hm
    · exact h.1
    · have := rises_memK t m n h.2 hm
      have := h.1
      omega
theorem rises_nodupK : ∀ (l : List Int) (p : Int), rises p l → l.Nodup
  | [], _, _ => List.nodup_nil
  | n :: t, p, h => List.nodup_cons.2 ⟨fun hm => by have := rises_memK t n n h.2 hm; omega, rises_nodupK t n h.2⟩
theorem filter_permK {A B : List Int} (hA : A.Nodup) (hB : B.Nodup) : (A.filter (fun a => decide (a ∈ B))).Perm (B.filter (fun b => decide (b ∈ A))) := by
  refine (List.perm_ext_iff_of_nodup (hA.sublist List.filter_sublist) (hB.sublist List.filter_sublist)).2 (fun a => ?_)
  simp only [List.mem_filter, decide_eq_true_eq]
  exact And.comm
theorem filter_splitK {α : Type} (p : α → Bool) : ∀ l : List α, (l.filter (fun a => !p a)).length + (l.filter p).length = l.length
  | [] => rfl
  | a :: l => by
    have := filter_splitK p l
    by_cases h : p a = true <;> simp [h] <;> omega
theorem all_inK {A B : List Int} (hA : A.Nodup) (hB : B.Nodup) : (A.filter (fun a => !decide (a ∈ B))).length + B.length = A.length ↔ ∀ b ∈ B, b ∈ A := by
  have h1 := filter_splitK (fun a => decide (a ∈ B)) A
  have h2 := (filter_permK hA hB).length_eq
  have h3 : (B.filter (fun b => decide (b ∈ A))).length ≤ B.length := List.length_filter_le _ _
  constructor
  · intro h b hb
    have h4 : (B.filter (fun b => decide (b ∈ A))).length = B.length := by omega
    have h5 := List.length_filter_eq_length_iff.1 h4 b hb
    exact of_decide_eq_true h5
  · intro h
    have h4 : B.filter (fun b => decide (b ∈ A)) = B := List.filter_eq_self.2 (fun b hb => decide_eq_true (h b hb))
    rw [h4] at h2
    omega
theorem sOk_memK (ns : List Int) : ∀ (l : List Int) (p : Option Int), sOk ns p l → ∀ n ∈ l, n ∈ ns
  | [], _, _, _, h => absurd h List.not_mem_nil
  | m :: t, p, h, n, hn => by
    rcases List.mem_cons.1 hn with rfl | hn
    · exact h.1
    · exact sOk_memK ns t (some m) h.2.2 n hn
theorem sOk_risesK (ns : List Int) : ∀ (l : List Int) (p : Int), sOk ns (some p) l → rises p l
  | [], _, _ => trivial
  | m :: t, p, h => ⟨h.2.1 p rfl, sOk_risesK ns t m h.2.2⟩
theorem rises_sOkK (ns : List Int) : ∀ (l : List Int) (p : Int), rises p l → (∀ n ∈ l, n ∈ ns) → sOk ns (some p) l
  | [], _, _, _ => trivial
  | m :: t, p, h, hm => ⟨hm m List.mem_cons_self, fun q hq => by cases hq; exact h.1, rises_sOkK ns t m h.2 (fun n hn => hm n (List.mem_cons_of_mem _ hn))⟩
theorem lastOf_memK : ∀ (l : List Int) (p : Int), lastOf p l = p ∨ lastOf p l ∈ l
  | [], _ => .inl rfl
  | n :: t, p => by
    right
    rcases lastOf_memK t n with h | h
    · simp only [lastOf]; rw [h]; exact List.mem_cons_self
    · exact List.mem_cons_of_mem _ h
theorem lastOf_geK : ∀ (l : List Int) (p n : Int), rises p l → n ∈ l → n ≤ lastOf p l
  | [], _, _, _, h => absurd h List.not_mem_nil
  | m :: t, p, n, h, hn => by
    rcases List.mem_cons.1 hn with rfl | hn
    · exact rises_le' t _ h.2
    · exact lastOf_geK t m n h.2 hn
theorem leftDr_lenK (ms : List Dr) (l : List Int) : (leftDr ms l).length = ((ms.map (·.number)).filter (fun n => !decide (n ∈ l))).length := by
  unfold leftDr
  rw [List.filter_map, List.length_map]
  rfl
theorem strD_iff (ms : List Dr) (l : List Int) (hrO : risesOk (ms.map (·.number))) : sOk (ms.map (·.number)) none l ↔ strOkD ms l := by
  obtain ⟨hr, hl9⟩ := hrO
  have hnd := rises_nodupK _ _ hr
  unfold strOkD risesOk
  rw [leftDr_lenK, ← List.length_map (f := fun m : Dr => m.number)]
  constructor
  · intro h
    have hin := sOk_memK _ l none h
    have hri : rises 0 l := by
      cases l with
      | nil => trivial
      | cons n t => exact ⟨rises_memK _ _ _ hr (hin n List.mem_cons_self), sOk_risesK _ t n h.2.2⟩
    refine ⟨⟨hri, ?_⟩, (all_inK hnd (rises_nodupK _ _ hri)).2 hin⟩
    rcases lastOf_memK l 0 with h0 | h0
    · omega
    · have := lastOf_geK _ _ _ hr (hin _ h0)
      omega
  · rintro ⟨⟨hri, _⟩, hc⟩
    have hin := (all_inK hnd (rises_nodupK _ _ hri)).1 hc
    cases l with
    | nil => trivial
    | cons n t => exact ⟨hin n List.mem_cons_self, (fun q hq => by cases hq), rises_sOkK _ t n hri.2 (fun m hm => hin m (List.mem_cons_of_mem _ hm))⟩
theorem leftWg_lenK (ms : List Dr) (l : List Int) : (leftWg ms l).length = ((ms.map (·.number)).filter (fun n => !decide (n ∈ l))).length := by
  unfold leftWg
  rw [List.filter_map, List.length_map]
  rfl
theorem strW_iff (ms : List Dr) (l : List Int) (hrO : risesOk (ms.map (·.number))) : sOk (ms.map (·.number)) none l ↔ strOkW ms l := by
  obtain ⟨hr, hl9⟩ := hrO
  have hnd := rises_nodupK _ _ hr
  unfold strOkW risesOk
  rw [leftWg_lenK, ← List.length_map (f := fun m : Dr => m.number)]
  constructor
  · intro h
    have hin := sOk_memK _ l none h
    have hri : rises 0 l := by
      cases l with
      | nil => trivial
      | cons n t => exact ⟨rises_memK _ _ _ hr (hin n List.mem_cons_self), sOk_risesK _ t n h.2.2⟩
    refine ⟨⟨hri, ?_⟩, (all_inK hnd (rises_nodupK _ _ hri)).2 hin⟩
    rcases lastOf_memK l 0 with h0 | h0
    · omega
    · have := lastOf_geK _ _ _ hr (hin _ h0)
      omega
  · rintro ⟨⟨hri, _⟩, hc⟩
    have hin := (all_inK hnd (rises_nodupK _ _ hri)).1 hc
    cases l with
    | nil => trivial
    | cons n t => exact ⟨hin n List.mem_cons_self, (fun q hq => by cases hq), rises_sOkK _ t n hri.2 (fun m hm => hin m (List.mem_cons_of_mem _ hm))⟩
set_option maxHeartbeats 4000000 in
theorem refStrB_spec (B : Bl) (p : Pb) (l m : List Int) (al am : Option Addr) (cl cm : Nat) (H : List Row) (hB : BlOk H B p) (hl : SlE H al cI 1 l) (hb : l.length ≤ 1000000) (hm : SlE H am cI 1 m) (hc : m.length ≤ 1000000) :
    Fc Try.prog 14 [.agg (cBl B p).toArray, .slice al l.length cl, .slice am m.length cm] H (RefB (bstrF B l m) H) := by
  have l1 := hB.l1
  have l2 := hB.l2
  have hB2 : ∀ r1 r2, BlOk (r1 :: r2 :: H) B p := fun r1 r2 => hB.sub (fun _ h => List.Mem.tail _ (List.Mem.tail _ h))
  have hB2Z : ∀ Z r1 r2, BlOk (Z ++ r1 :: r2 :: H) B p := fun Z r1 r2 => (hB2 r1 r2).sub (fun _ h => List.mem_append_right _ h)
  have hlZ : ∀ Z r1 r2, SlE (Z ++ r1 :: r2 :: H) al cI 1 l := fun Z r1 r2 => hl.sub (fun _ h => List.mem_append_right _ (List.Mem.tail _ (List.Mem.tail _ h)))
  have hmZ : ∀ Z r1 r2, SlE (Z ++ r1 :: r2 :: H) am cI 1 m := fun Z r1 r2 => hm.sub (fun _ h => List.mem_append_right _ (List.Mem.tail _ (List.Mem.tail _ h)))
  have hdl : (B.draws.map (·.number)).length ≤ 1000000 := by rw [List.length_map]; exact l1
  have hwl : (B.weighs.map (·.number)).length ≤ 1000000 := by rw [List.length_map]; exact l2
  refine Fc.mk (callable Try.call14) Try.func14 rfl Try.ntmps14 rfl ?_; dsimp only [fr]
  repeat' (first | (refine XO.op rfl ?_; (first | ((first | refine Xo.ng rfl ?_); (first | (refine Xg.ev (EvF.build (cs := cZb) rfl ArgsP.nil (te rfl) (Places.cons (te rfl) (Places.cons (te rfl) (Places.cons (te rfl) (Places.cons (te rfl) (Places.cons (te rfl) Places.nil))))) Try.zeroValue27 rfl) rfl rfl ?_) | (refine Xg.ev (EvF.loadV rfl rfl (LoadV.whole (te rfl) rfl (List.mem_append_right _ (List.Mem.tail _ (List.Mem.head _))) rfl)) rfl rfl ?_) | (refine Xg.call (EnF.st rfl (Args.cons rfl Args.nil)) rfl rfl (bale_spec B p _ (hB2 _ _)) ?_; rintro _ H9 ⟨rfl, hH9⟩; subst H9) | (refine Xg.call (EnF.st rfl (by (repeat (first | exact Args.nil | refine Args.cons rfl ?_)); done)) rfl rfl (numbers3_spec B p _ (hB2 _ _)) ?_; rintro _ _ ⟨aD, kD, aW, kW, Z, rfl, rfl, hsD, hsW⟩) | (refine Xg.call (EnF.st rfl (Args.cons rfl (Args.cons rfl Args.nil))) rfl rfl (listed_spec l (B.draws.map (·.number)) al aD cl kD _ (hlZ _ _ _) hsD (by omega) (by omega)) ?_; rintro _ H9 ⟨rfl, hH9⟩; subst H9) | (refine Xg.call (EnF.st rfl (Args.cons rfl (Args.cons rfl Args.nil))) rfl rfl (listed_spec m (B.weighs.map (·.number)) am aW cm kW _ (hmZ _ _ _) hsW (by omega) (by omega)) ?_; rintro _ H9 ⟨rfl, hH9⟩; subst H9) | (refine Xg.call (EnF.st rfl (by (repeat (first | exact Args.nil | refine Args.cons rfl ?_)); done)) rfl rfl (without3_spec B p l m al am cl cm _ (hB2Z _ _ _) (hlZ _ _ _) hb (hmZ _ _ _) hc) ?_; rintro _ _ ⟨p', Z', rfl, rfl, hok'⟩; rw [← List.append_assoc]) | (refine Xg.st0 (storeZK rfl rfl rfl (te rfl) rfl rfl rfl) rfl ?_; rintro _ _ ⟨rfl, rfl⟩) | (refine Xg.ev (EvF.move rfl rfl) rfl rfl ?_) | (refine Xg.ev (EvF.assign rfl rfl) rfl rfl ?_) | (refine Xg.ev (EvF.not rfl rfl) rfl rfl ?_) | (refine Xg.ev (EvF.loadV rfl rfl (LoadV.whole (te rfl) rfl (List.Mem.tail _ (List.Mem.head _)) rfl)) rfl rfl ?_) | (refine Xg.ev (EvF.extract rfl rfl rfl) rfl rfl ?_) | (refine Xg.st (StF.boxAgg rfl rfl) rfl rfl ?_; rintro _ _ ⟨bx, rfl, rfl⟩) | (refine Xg.st (StF.alloc rfl Try.zeroValue27 rfl) rfl rfl ?_; rintro _ _ ⟨bx, rfl, rfl⟩) | (refine Xg.st0 (StF.storeAll (i := 0) rfl rfl rfl (te rfl) rfl rfl rfl rfl) rfl ?_; rintro _ _ ⟨rfl, rfl⟩; dsimp only [List.set]))))) | (refine XO.done rfl ?_; refine hK _ _ ?_; clear hK K) | refine X.seq rfl ?_ | refine X.region rfl (fun K hK => ?_) | refine X.skip rfl ?_ | refine X.ret rfl ?_ | (refine X.ite rfl rfl (fun hc => ?_); (first | (with_reducible refine Xb.caseN hc (fun h => ?_) (fun h => ?_))) <;> clear hc))
  all_goals try (exfalso; omega)
  · refine ret_two (by first | exact .inr rfl | exact .inl rfl) Try.results14 ⟨_, rfl, LoadV.whole (te rfl) rfl (List.Mem.head _) rfl⟩ rfl (H' := H) (by (repeat (first | exact List.Sublist.refl _ | apply List.Sublist.cons)); done) ?_
    have e : bstrF B l m = (Bz, 30) := by unfold bstrF; rw [if_neg (by assumption)]
    unfold RefB; rw [e]
    exact ⟨pzb, [], rfl, rfl, BlOk.zero _⟩
  all_goals have hok : baleOk B := by assumption
  all_goals have i1 := strD_iff B.draws l hok.2.2.2.1.2.1
  all_goals have i2 := strW_iff B.weighs m hok.2.2.2.2.2.1
  all_goals have hsub : ∀ Z (r1 r2 : Row), List.Sublist H (Z ++ r1 :: r2 :: H) := fun Z r1 r2 => ((List.sublist_cons_self _ _).trans (List.sublist_cons_self _ _)).trans (List.sublist_append_right _ _)
  · refine ret_two (by first | exact .inr rfl | exact .inl rfl) Try.results14 ⟨_, rfl, LoadV.whole (te rfl) rfl (List.mem_append_right _ (List.Mem.head _)) rfl⟩ rfl (H' := H) (hsub _ _ _) ?_
    have e : bstrF B l m = (Bz, 33) := by unfold bstrF; rw [if_pos hok, if_neg (fun q => absurd (i1.2 q) (by assumption))]
    unfold RefB; rw [e]
    exact ⟨pzb, [], rfl, rfl, BlOk.zero _⟩
  · refine ret_two (by first | exact .inr rfl | exact .inl rfl) Try.results14 ⟨_, rfl, LoadV.whole (te rfl) rfl (List.mem_append_right _ (List.Mem.head _)) rfl⟩ rfl (H' := H) (hsub _ _ _) ?_
    have e : bstrF B l m = (Bz, 34) := by unfold bstrF; rw [if_pos hok, if_pos (i1.1 (by assumption)), if_neg (fun q => absurd (i2.2 q) (by assumption))]
    unfold RefB; rw [e]
    exact ⟨pzb, [], rfl, rfl, BlOk.zero _⟩
  · refine ret_two (by first | exact .inr rfl | exact .inl rfl) Try.results14 ⟨_, rfl, LoadV.whole (te rfl) rfl (List.mem_append_right _ (List.Mem.head _)) rfl⟩ rfl (H' := Z' ++ H) (by rw [List.append_assoc]; exact (hsub _ _ _).append_left _) ?_
    have e : bstrF B l m = (strBl B l m, 0) := by unfold bstrF; rw [if_pos hok, if_pos (i1.1 (by assumption)), if_pos (i2.1 (by assumption))]
    unfold RefB; rw [e]
    exact ⟨p', Z', rfl, rfl, hok'⟩
end Go.Proofs.Ytoflnjgfikchjaa
end
section
set_option linter.unusedVariables false
namespace Go.Fw
open Go Go.RowKit
/-- A call of yield, from what is known. -/
def Yc (P : Program) (l : Nat) (args : List Value) (H : List Row) (R : Value → List Row → Prop) : Prop :=
  ∀ B w0 w, St B w0 H w → ∃ fn tmps assign body, (Instr.yield l args.toArray).run P w = .ok (.round l fn tmps assign body) w ∧
    RoundIn Fence.wide 0 P l fn tmps assign body w fun e w' => ∃ v H', e = .returned v ∧ R v H' ∧ St B w0 H' w'

section
variable {P : Program} {n : Nat} {ops : Array Oper} {i : Nat} {o : Oper} {F : FS} {H : List Row}
theorem Yc.mono {l : Nat} {args : List Value} {R R' : Value → List Row → Prop} (h : Yc P l args H R) (hr : ∀ v H', R v H' → R' v H') : Yc P l args H R' := by
  intro B w0 w hS
  obtain ⟨fn, tmps, assign, body, h1, h2⟩ := h B w0 w hS
  exact ⟨fn, tmps, assign, body, h1, h2.mono fun e w' ⟨v, H', he, hR, hS'⟩ => ⟨v, H', he, hr _ _ hR, hS'⟩⟩
theorem Yc.permR {l : Nat} {args : List Value} {R : Value → List Row → Prop} {H' : List Row} (h : Yc P l args H' R) (hp : H.Perm H') : Yc P l args H R := by
  intro B w0 w hS
  exact h B w0 w (hS.perm hp.symm)

/-- yield is called -/
theorem Xg.yield {N : FS → List Row → Prop} {g : Operand} {l : Nat} {al : List Operand} {tys : Array TypeId} {vs : List Value} {R : Value → List Row → Prop} (h : o.op = .call { callee := .value g, args := al.toArray, argTypes := tys })
    (hg : evF F g = some (.func (.yield l) #[] #[])) (hv : Args F al vs) {d : Nat} (hx : o.dst = some d) (hd : Nat.blt d n = true) (hY : Yc P l vs H R)
    (k : ∀ v H', R v H' → XO P n ops (i + 1) ((d, v) :: F) H' N) : Xg P n ops i o F H N := by
  unfold Xg Xo XO WO
  intro hw ho t ha ρ ds B w0 w hS
  replace ho' := opAt_arr ho
  rw [range_step ho']
  simp only [wpOpsIn, ho', hw t ha, if_true, Oper.wpIn, eval_ev]
  obtain ⟨fn, tmps, assign, body, h1, h2⟩ := hY B w0 w hS
  have hrun : (execOp (Fw.ev t) o).run P w = .ok (.round l fn tmps assign body) w := by
    have e := ha.ev hg
    have e2 := hv.ev ha
    simp [execOp, h, resolve, e, Deferred.ofValue, invoke, e2, callFunc, h1]
  rw [sem_round hrun, Oper.uponIn_round]
  refine ⟨fun _ _ => trivial, (fun h => by cases h), ?_⟩
  refine RoundIn.mono (F := wf ρ) h2 ?_
  rintro e w' ⟨v, H', rfl, hR, hS'⟩
  simp only [put_act]
  have := k v H' hR
  unfold XO WO at this
  exact this _ (hx ▸ ha.put (d := some d) hd v) ρ ds B w0 w' hS'
end
end Go.Fw
namespace Go.Fw
open Go Go.RowKit
def oRow (b : Nat) (o : Obj) : Row := ⟨b, 0, [], some (.obj o), 0⟩
/-- the block for the deferred calls of a loop's rounds: none -/
def dRow (D : Nat) : Row := oRow D (.deferred (some []))
def dMk (D : Nat) : Deferred := { target := .collected D, args := #[] }
theorem St.putObj {B : Nat} {w0 w : World} {H : List Row} {b : Nat} {o : Obj} (h : St B w0 (oRow b o :: H) w) (o' : Obj) : St B w0 (oRow b o' :: H) (w.putObj b o') := by
  obtain ⟨hB, _, hb⟩ := h.ok _ (List.mem_cons_self ..)
  have hlt := (Array.getElem?_eq_some_iff.1 hb).1
  have hp := List.pairwise_cons.1 h.sep
  have hbel : Below B w (w.putObj b o') := ⟨rfl, rfl, rfl, by simp, fun k hk => World.putObj_heap_other (by simp only [oRow] at hB; omega)⟩
  refine ⟨h.below.trans hbel, by simpa using h.size, fun r hr => ?_, List.pairwise_cons.2 ⟨fun s hs ho => hp.1 s hs (.inl rfl), hp.2⟩⟩
  rcases List.mem_cons.1 hr with rfl | hr
  · exact ⟨hB, rfl, World.putObj_heap_same hlt⟩
  · exact Row.ok_of_block (h.ok r (List.mem_cons_of_mem _ hr)) (by simp) (World.putObj_heap_other (fun e => hp.1 r hr (.inl rfl) e.symm))
theorem St.allocObj {B : Nat} {w0 w : World} {H : List Row} (h : St B w0 H w) (o : Obj) : St B w0 (oRow w.heap.size o :: H) (w.alloc o) := by
  have h' := h.allocAny o
  refine ⟨h'.below, h'.size, fun r hr => ?_, List.pairwise_cons.2 ⟨fun s hs _ => ?_, h.sep⟩⟩
  · rcases List.mem_cons.1 hr with rfl | hr
    · exact ⟨h.size, rfl, heap_alloc' _ _⟩
    · exact h'.ok r hr
  · have := Row.ok_lt (h.ok s hs)
    show w.heap.size ≠ s.b
    omega
theorem St.obj {B : Nat} {w0 w : World} {H : List Row} {b : Nat} {o : Obj} (h : St B w0 H w) (hm : oRow b o ∈ H) : w.heap[b]? = some o := (h.ok _ hm).2.2

abbrev QTT := Exit → FS → List Nat → List Row → Prop
def liftT (n : Nat) (B : Nat) (w0 : World) (Q : QTT) (e : Exit) (a : Act) (w : World) : Prop := ∃ Ds F H', a.defers = Ds.map dMk ∧ Ag n F a.tmps.toList ∧ Q e F Ds H' ∧ St B w0 (H' ++ Ds.map dRow) w
/-- the walk over the code of a function in which loops over functions stand: Ds are the blocks that such loops have left -/
def XT (P : Program) (n : Nat) (c : Code) (F : FS) (Ds : List Nat) (H : List Row) (Q : QTT) : Prop :=
  ∀ t, Ag n F t → ∀ B w0 w, St B w0 (H ++ Ds.map dRow) w → c.wpIn Fence.wide 0 P (liftT n B w0 Q) ⟨t.toArray, Ds.map dMk⟩ w
section
variable {P : Program} {n : Nat} {c : Code} {F : FS} {Ds : List Nat} {H : List Row} {Q : QTT}
abbrev thenT (N : FS → List Nat → List Row → Prop) (Q : QTT) : QTT
  | .normal, F, Ds, H => N F Ds H
  | e, F, Ds, H => Q e F Ds H
theorem XT.seq (h : c = .seq (cfst c) (csnd c)) (hx : XT P n (cfst c) F Ds H (thenT (fun F Ds H => XT P n (csnd c) F Ds H Q) Q)) : XT P n c F Ds H Q := by
  intro t ha B w0 w hS
  rw [h]
  refine wpIn_seq (wpIn_mono (hx t ha B w0 w hS) ?_)
  rintro e a w' ⟨Ds', F', H', hd, ha', hq, hS'⟩
  cases e with
  | normal => show (csnd c).wpIn _ 0 P _ a w'; rw [act_eta hd]; exact hq _ ha' B w0 w' hS'
  | _ => exact ⟨Ds', F', H', hd, ha', hq, hS'⟩
abbrev blockT (id : Nat) (Q : QTT) : QTT
  | .exit i, F, Ds, H => if i = id then Q .normal F Ds H else Q (.exit i) F Ds H
  | e, F, Ds, H => Q e F Ds H
theorem XT.block (h : c = .block (cid c) (cfst c)) (hx : XT P n (cfst c) F Ds H (blockT (cid c) Q)) : XT P n c F Ds H Q := by
  intro t ha B w0 w hS
  rw [h]
  refine wpIn_block (wpIn_mono (hx t ha B w0 w hS) ?_)
  rintro e a w' ⟨Ds', F', H', hd, ha', hq, hS'⟩
  cases e with
  | exit i =>
    simp only [blockT] at hq
    simp only [Exit.inBlock]
    split
    · rename_i hi; rw [if_pos hi] at hq; exact ⟨Ds', F', H', hd, ha', hq, hS'⟩
    · rename_i hi; rw [if_neg hi] at hq; exact ⟨Ds', F', H', hd, ha', hq, hS'⟩
  | _ => exact ⟨Ds', F', H', hd, ha', hq, hS'⟩
theorem XT.perm {H' : List Row} (hp : H'.Perm H) (h : XT P n c F Ds H' Q) : XT P n c F Ds H Q :=
  fun t ha B w0 w hS => h t ha B w0 w (hS.perm (List.Perm.append_right _ hp))
theorem XT.weak {F' : FS} {H' : List Row} (hs : Sub F' F) (hh : H'.Sublist H) (h : XT P n c F' Ds H' Q) : XT P n c F Ds H Q :=
  fun t ha B w0 w hS => h t (ha.sub hs) B w0 w (hS.sub (List.Sublist.append_right hh _))
theorem XT.mono {Q' : QTT} (h : XT P n c F Ds H Q) (hq : ∀ e F Ds H, Q e F Ds H → Q' e F Ds H) : XT P n c F Ds H Q' :=
  fun t ha B w0 w hS => wpIn_mono (h t ha B w0 w hS) fun _ _ _ ⟨Ds', F', H', hd, ha', hq', hS'⟩ => ⟨Ds', F', H', hd, ha', hq _ _ _ _ hq', hS'⟩
end

def lRow (l : Nat) (r : Loop) : Row := oRow l (.loop r)
/-- what an iterator does, whatever the loop's body is: xs come, each as encs tells -/
def Itf (P : Program) {α : Type} (f : FuncId) (cap : List Value) (E : List Row) (xs : List α) (encs : α → List Value) : Prop :=
  Callable P f ∧ ∀ (l : Nat) (J Jx : List α → List Row → Prop) (Hc : List Row), J [] Hc →
    (∀ pre x Hc, (pre ++ [x]) <+: xs → J pre Hc → ∀ E', Yc P l (encs x) (Hc ++ E') (fun v H' => ∃ Hc', H' = Hc' ++ E' ∧ ((v = .bool true ∧ J (pre ++ [x]) Hc') ∨ (v = .bool false ∧ Jx (pre ++ [x]) Hc')))) →
    Fc P f (.func (.yield l) #[] #[] :: cap) (Hc ++ E) (fun _ H' => ∃ Hc', H' = Hc' ++ E ∧ (J xs Hc' ∨ ∃ pre, pre <+: xs ∧ Jx pre Hc'))
/-- the same, whatever comes: what may come before is told by Gd, what has come in the end by Dn -/
def ItfG (P : Program) {α : Type} (f : FuncId) (cap : List Value) (E : List Row) (Gd Dn : List α → Prop) (encs : α → List Value) : Prop :=
  Callable P f ∧ ∀ (l : Nat) (J Jx : List α → List Row → Prop) (Hc : List Row), J [] Hc →
    (∀ pre x Hc, Gd (pre ++ [x]) → J pre Hc → ∀ E', Yc P l (encs x) (Hc ++ E') (fun v H' => ∃ Hc', H' = Hc' ++ E' ∧ ((v = .bool true ∧ J (pre ++ [x]) Hc') ∨ (v = .bool false ∧ Jx (pre ++ [x]) Hc')))) →
    Fc P f (.func (.yield l) #[] #[] :: cap) (Hc ++ E) (fun _ H' => ∃ Hc', H' = Hc' ++ E ∧ ((∃ ys, Dn ys ∧ J ys Hc') ∨ ∃ pre, Gd pre ∧ Jx pre Hc'))
/-- how a loop's body can be left -/
def bodyX (I : List Row → Prop) (Ix : Code → List Row → Prop) (Z : List Row) : QX := fun e _ H => ∃ Hb, (Hb ++ Z).Sublist H ∧ match e with
  | .normal => I Hb
  | .ret => Ix .ret Hb
  | .exit id => Ix (.exit id) Hb
  | _ => False
def zipF : List Nat → List Value → FS → FS
  | p :: ps, v :: vs, F => zipF ps vs ((p, v) :: F)
  | _, _, F => F
theorem ag_zipF' {n : Nat} : ∀ (ps : List Nat) (vs : List Value) (F : FS) (t : Array Value), Ag n F t.toList → ps.all (fun p => Nat.blt p n) = true → Ag n (zipF ps vs F) ((ps.zip vs).foldl (fun tmps (x : Nat × Value) => tmps.setIfInBounds x.1 x.2) t).toList
  | [], vs, F, t, ha, _ => ha
  | p :: ps, [], F, t, ha, _ => ha
  | p :: ps, v :: vs, F, t, ha, hp => by
    simp only [List.all_cons, Bool.and_eq_true] at hp
    have h1 : Ag n ((p, v) :: F) (t.setIfInBounds p v).toList := by
      have := ha.put (d := some p) hp.1 v
      simpa [pf, put] using this
    exact ag_zipF' ps vs ((p, v) :: F) (t.setIfInBounds p v) h1 hp.2
theorem ag_zipF {n : Nat} (ps : List Nat) (vs : List Value) (F : FS) (t : Array Value) (ha : Ag n F t.toList) (hp : ps.all (fun p => Nat.blt p n) = true) : Ag n (zipF ps vs F) ((ps.toArray.zip vs.toArray).foldl (fun tmps (x : Nat × Value) => tmps.setIfInBounds x.1 x.2) t).toList := by
  have h := ag_zipF' ps vs F t ha hp
  have e : ps.toArray.zip vs.toArray = (ps.zip vs).toArray := by simp
  rw [e]
  rw [← Array.foldl_toList]
  exact h
theorem XT.rangeG {P : Program} {n : Nat} {c : Code} {F : FS} {H : List Row} {Q : QTT} {α : Type} {g : Operand} {ps : List Nat} {assign body : Code} {f : FuncId} {cap : List Value} {E : List Row} {Gd Dn : List α → Prop} {encs : α → List Value}
    (h : c = .rangeFunc g ps.toArray assign body) (hg : evF F g = some (.func (.func f) #[] cap.toArray)) (hI : ItfG P f cap E Gd Dn encs) (hps : ps.all (fun p => Nat.blt p n) = true) (hen : ∀ x, (encs x).length = ps.length)
    (I : List α → List Row → Prop) (Ix : Code → List Row → Prop) (Hb0 : List Row) (hH : H = Hb0 ++ E) (h0 : I [] Hb0)
    (hround : ∀ pre x Hb, Gd (pre ++ [x]) → I pre Hb → ∀ Z, X P n assign (zipF ps (encs x) F) (Hb ++ Z) (fun e F1 H1 => e = .normal ∧ ∃ Hb1, (Hb1 ++ Z).Sublist H1 ∧ ∀ Z', X P n body F1 (Hb1 ++ Z') (bodyX (I (pre ++ [x])) Ix Z')))
    (hdone : ∀ D ys Hb, Dn ys → I ys Hb → Q .normal F [D] (Hb ++ E))
    (hret : ∀ D Hb, Ix .ret Hb → Q .ret F [D] (Hb ++ E))
    (hexit : ∀ D id Hb, Ix (.exit id) Hb → Q (.exit id) F [D] (Hb ++ E))
    (honly : ∀ c Hb, Ix c Hb → c = .ret ∨ ∃ id, c = .exit id) : XT P n c F [] H Q := by
  subst h hH
  intro t ha B w0 w hS
  simp only [List.map_nil, List.append_nil] at hS
  refine wpIn_rangeFunc ?_
  intro fn _
  obtain ⟨hcall, hit⟩ := hI
  obtain ⟨rec, hrec⟩ : ∃ rec : LoopState → Option Code → Loop, rec = fun st pe => { state := st, pending := pe, fn, tmps := t.toArray, params := ps.toArray, assign, body, defers := w.heap.size } := ⟨_, rfl⟩
  have hg' : Act.eval ⟨t.toArray, []⟩ g = .func (.func f) #[] cap.toArray := by rw [eval_ev]; exact ha.ev hg
  have hS1 := hS.allocObj (.deferred (some []))
  have hS2 := hS1.allocObj (.loop (rec .ready none))
  refine ⟨w.heap.size + 1, [dMk w.heap.size], (w.alloc (.deferred (some []))).alloc (.loop (rec .ready none)), { target := .fn (.func f) cap.toArray, args := #[.func (.yield (w.heap.size + 1)) #[] #[]] }, (w.alloc (.deferred (some []))).alloc (.loop (rec .ready none)), f,
    #[.func (.yield (w.heap.size + 1)) #[] #[]] ++ cap.toArray, (w.alloc (.deferred (some []))).alloc (.loop (rec .ready none)), ?_, ?_, fun _ _ => trivial, ?_, (fun h => by cases h), ?_⟩
  · rw [hrec]; exact run_enterLoop_outer fn _ _ _ _
  · simp only [resolve, List.map_nil, hg']
    simp [Deferred.ofValue, Act.eval]
  · unfold Callable at hcall
    simp [invoke]
    exact hcall _ _
  have hsz : (w.alloc (.deferred (some []))).heap.size = w.heap.size + 1 := size_alloc' _ _
  rw [hsz] at hS2
  -- the round
  have key := hit (w.heap.size + 1)
    (fun pre Hc => ∃ Hb, I pre Hb ∧ Hc = lRow (w.heap.size + 1) (rec .ready none) :: dRow w.heap.size :: Hb)
    (fun _ Hc => ∃ Hb c, Ix c Hb ∧ Hc = lRow (w.heap.size + 1) (rec .done (some c)) :: dRow w.heap.size :: Hb)
    (lRow (w.heap.size + 1) (rec .ready none) :: dRow w.heap.size :: Hb0) ⟨Hb0, h0, rfl⟩ ?_
  · unfold Fc at key
    have hc := key.2 B w0 _ hS2
    have e1 : (#[Value.func (.yield (w.heap.size + 1)) #[] #[]] ++ cap.toArray) = (Value.func (.yield (w.heap.size + 1)) #[] #[] :: cap).toArray := by simp
    rw [e1]
    refine (callsIn_wide (n := 0)).2 (hc.mono ?_)
    rintro e w' ⟨v, H', rfl, ⟨Hc', rfl, hJ⟩, hS'⟩
    rcases hJ with ⟨ys, hys, Hb, hIb, rfl⟩ | ⟨pre, _, Hb, cc, hIx, rfl⟩
    · have hl : w'.heap[w.heap.size + 1]? = some (.loop (rec .ready none)) := hS'.obj (List.mem_cons_self ..)
      have hS3 := (hS'.putObj (.loop { rec .ready none with state := .exhausted })).tail
      refine ⟨none, w'.putObj (w.heap.size + 1) (.loop { rec .ready none with state := .exhausted }), ?_, ?_⟩
      · have := run_endLoop (P := P) hl (by rw [hrec]; simp)
        rw [this]; rw [hrec]
      · refine ⟨[w.heap.size], F, Hb ++ E, rfl, ?_, hdone _ _ _ hys hIb, ?_⟩
        · simpa using ha
        · refine hS3.perm ?_
          simpa using List.perm_append_comm (l₁ := Hb ++ E) (l₂ := [dRow w.heap.size])
    · have hl : w'.heap[w.heap.size + 1]? = some (.loop (rec .done (some cc))) := hS'.obj (List.mem_cons_self ..)
      have hS3 := (hS'.putObj (.loop { rec .done (some cc) with state := .exhausted })).tail
      refine ⟨some cc, w'.putObj (w.heap.size + 1) (.loop { rec .done (some cc) with state := .exhausted }), ?_, ?_⟩
      · have := run_endLoop (P := P) hl (by rw [hrec]; simp)
        rw [this]; rw [hrec]
      · have hS4 : St B w0 ((Hb ++ E) ++ [w.heap.size].map dRow) (w'.putObj (w.heap.size + 1) (.loop { rec .done (some cc) with state := .exhausted })) := by
          refine hS3.perm ?_
          simpa using List.perm_append_comm (l₁ := Hb ++ E) (l₂ := [dRow w.heap.size])
        rcases honly cc Hb hIx with rfl | ⟨id, rfl⟩
        · exact wpIn_ret ⟨[w.heap.size], F, Hb ++ E, rfl, by simpa using ha, hret _ _ hIx, hS4⟩
        · exact wpIn_exit ⟨[w.heap.size], F, Hb ++ E, rfl, by simpa using ha, hexit _ _ _ hIx, hS4⟩
  · rintro pre x Hc hpre ⟨Hb, hIb, rfl⟩ E' B w0 w' hS'
    have hl : w'.heap[w.heap.size + 1]? = some (.loop (rec .ready none)) := hS'.obj (List.mem_cons_self ..)
    have hy := run_yield (P := P) (args := (encs x).toArray) hl (by rw [hrec]; simp [hen])
    rw [hrec] at hy
    refine ⟨_, _, _, _, hy, roundIn_of_wpIn (F := Fence.wide) trivial ?_⟩
    have hag := ag_zipF ps (encs x) F t.toArray (by simpa using ha) hps
    have hx := hround pre x Hb hpre hIb (lRow (w.heap.size + 1) (rec .ready none) :: dRow w.heap.size :: E')
    unfold X W at hx
    have hx1 := hx _ hag (some (w.heap.size + 1)) [] B w0 w' (hS'.perm (by
      simpa using (List.perm_append_comm (l₁ := Hb) (l₂ := [lRow (w.heap.size + 1) (rec .ready none), dRow w.heap.size])).append_right E'))
    refine wpIn_mono (F := Fence.wide.inRound (w.heap.size + 1)) (by rw [Array.toArray_toList] at hx1; exact hx1) ?_
    rintro e a1 w1 ⟨hd1, H1, ⟨F1, ha1, he1, Hb1, hs1, hbody⟩, hS1'⟩
    subst he1
    have hS1'' : St B w0 (lRow (w.heap.size + 1) (rec .ready none) :: (Hb1 ++ (dRow w.heap.size :: E'))) w1 := (hS1'.sub hs1).perm (by simpa using List.perm_middle.symm)
    have hl1 : w1.heap[w.heap.size + 1]? = some (.loop (rec .ready none)) := hS1''.obj (List.mem_cons_self ..)
    have hS1b := hS1''.putObj (.loop { rec .ready none with state := .busy })
    have hb1 := hbody (lRow (w.heap.size + 1) { rec .ready none with state := .busy } :: dRow w.heap.size :: E')
    have hb2 := hb1 _ ha1 (some (w.heap.size + 1)) [] B w0 _ (hS1b.perm (by simp [lRow]))
    refine ⟨_, run_beginRound hl1 (by rw [hrec]), ?_⟩
    rw [act_eta hd1]
    refine wpIn_mono (F := Fence.wide.inRound (w.heap.size + 1)) hb2 ?_
    rintro e a2 w2 ⟨hd2, H2, ⟨F2, ha2, Hb2, hs2, hq⟩, hS2'⟩
    have hS2'' : St B w0 (lRow (w.heap.size + 1) { rec .ready none with state := .busy } :: (Hb2 ++ (dRow w.heap.size :: E'))) w2 := (hS2'.sub hs2).perm (by simpa using List.perm_middle.symm)
    have hl2 : w2.heap[w.heap.size + 1]? = some (.loop { rec .ready none with state := .busy }) := hS2''.obj (List.mem_cons_self ..)
    have fin : ∀ jump : Option Code, ∃ w3, (Instr.endRound (w.heap.size + 1) jump).run P w2 = .ok (.bool jump.isNone) w3 ∧ St B w0 ((lRow (w.heap.size + 1) (rec (if jump.isNone then .ready else .done) jump) :: dRow w.heap.size :: Hb2) ++ E') w3 := by
      intro jump
      have h1 := run_endRound (P := P) jump hl2
      have h2 := hS2''.putObj (.loop { { rec .ready none with state := LoopState.busy } with state := if jump.isNone then .ready else .done, pending := jump })
      have h3 : ({ { rec .ready none with state := LoopState.busy } with state := if jump.isNone then .ready else .done, pending := jump } : Loop) = rec (if jump.isNone then .ready else .done) jump := by rw [hrec]
      rw [h3] at h2
      have h4 : (Instr.endRound (w.heap.size + 1) jump).run P w2 = .ok (.bool jump.isNone) (w2.putObj (w.heap.size + 1) (.loop (rec (if jump.isNone then .ready else .done) jump))) := by rw [h1]; rw [hrec]
      refine ⟨_, h4, h2.perm ?_⟩
      simp only [lRow, List.cons_append]
      refine List.Perm.cons _ ?_
      exact List.perm_middle.symm
    cases e with
    | normal =>
      obtain ⟨w3, h1, h2⟩ := fin none
      exact ⟨_, w3, h1, _, _, rfl, ⟨_, rfl, .inl ⟨rfl, Hb2, hq, rfl⟩⟩, h2⟩
    | ret =>
      obtain ⟨w3, h1, h2⟩ := fin (some .ret)
      exact ⟨_, w3, h1, _, _, rfl, ⟨_, rfl, .inr ⟨rfl, Hb2, _, hq, rfl⟩⟩, h2⟩
    | exit id =>
      obtain ⟨w3, h1, h2⟩ := fin (some (.exit id))
      exact ⟨_, w3, h1, _, _, rfl, ⟨_, rfl, .inr ⟨rfl, Hb2, _, hq, rfl⟩⟩, h2⟩
    | goto l => exact hq.elim
    | panic ch => exact hq.elim
    | outgrown => exact hq.elim
theorem Itf.toG {P : Program} {α : Type} {f : FuncId} {cap : List Value} {E : List Row} {xs : List α} {encs : α → List Value} (h : Itf P f cap E xs encs) : ItfG P f cap E (· <+: xs) (· = xs) encs :=
  ⟨h.1, fun l J Jx Hc h0 hy => (h.2 l J Jx Hc h0 hy).mono fun _ _ ⟨Hc', e, hq⟩ => ⟨Hc', e, hq.imp (fun q => ⟨xs, rfl, q⟩) id⟩⟩
theorem XT.range {P : Program} {n : Nat} {c : Code} {F : FS} {H : List Row} {Q : QTT} {α : Type} {g : Operand} {ps : List Nat} {assign body : Code} {f : FuncId} {cap : List Value} {E : List Row} {xs : List α} {encs : α → List Value}
    (h : c = .rangeFunc g ps.toArray assign body) (hg : evF F g = some (.func (.func f) #[] cap.toArray)) (hI : Itf P f cap E xs encs) (hps : ps.all (fun p => Nat.blt p n) = true) (hen : ∀ x, (encs x).length = ps.length)
    (I : List α → List Row → Prop) (Ix : Code → List Row → Prop) (Hb0 : List Row) (hH : H = Hb0 ++ E) (h0 : I [] Hb0)
    (hround : ∀ pre x Hb, (pre ++ [x]) <+: xs → I pre Hb → ∀ Z, X P n assign (zipF ps (encs x) F) (Hb ++ Z) (fun e F1 H1 => e = .normal ∧ ∃ Hb1, (Hb1 ++ Z).Sublist H1 ∧ ∀ Z', X P n body F1 (Hb1 ++ Z') (bodyX (I (pre ++ [x])) Ix Z')))
    (hdone : ∀ D Hb, I xs Hb → Q .normal F [D] (Hb ++ E))
    (hret : ∀ D Hb, Ix .ret Hb → Q .ret F [D] (Hb ++ E))
    (hexit : ∀ D id Hb, Ix (.exit id) Hb → Q (.exit id) F [D] (Hb ++ E))
    (honly : ∀ c Hb, Ix c Hb → c = .ret ∨ ∃ id, c = .exit id) : XT P n c F [] H Q :=
  XT.rangeG h hg hI.toG hps hen I Ix Hb0 hH h0 hround (fun D ys Hb e q => by subst e; exact hdone D Hb q) hret hexit honly
attribute [irreducible] XT Yc
end Go.Fw
end
section
set_option linter.unusedVariables false
namespace Go.Fw
open Go Go.RowKit
section
variable {P : Program} {H : List Row} {F : FS} {n : Nat} {o : Oper}
end
end Go.Fw
end
section
set_option linter.unusedVariables false
namespace Go.Fw
open Go Go.RowKit
section
variable {P : Program} {H : List Row} {F : FS} {n : Nat} {o : Oper}
end
end Go.Fw
end
section
set_option linter.unusedVariables false
namespace Go.Fw
open Go Go.RowKit
section
variable {P : Program} {H : List Row} {F : FS} {n : Nat} {o : Oper}
end
end Go.Fw
end
section
set_option linter.unusedVariables false
set_option linter.unusedSimpArgs false
namespace Go.Proofs.Ytoflnjgfikchjaa
open Go Go.Fw
set_option maxRecDepth 10000
theorem mul_small {a b A B : Int} (ha : 0 ≤ a) (hA : a ≤ A) (hb : 0 ≤ b) (hB : b ≤ B) : 0 ≤ a * b ∧ a * b ≤ A * B := by
  refine ⟨Int.mul_nonneg ha hb, ?_⟩
  exact Int.mul_le_mul hA hB hb (by omega)
def weightP (d r : Int) : Int := d * (1000 + r) / 1000
theorem weight_spec (d r : Int) (H : List Row) (hd : 0 ≤ d ∧ d ≤ 100000) (hr : 0 ≤ r ∧ r ≤ 100000) : Fc Try.prog 89 [.int .i64 d, .int .i64 r] H (fun v H' => v = .int .i64 (weightP d r) ∧ H' = H) := by
  have hm := mul_small hd.1 hd.2 (show 0 ≤ 1000 + r by omega) (show 1000 + r ≤ 101000 by omega)
  refine Fc.mk (callable Try.call89) Try.func89 rfl Try.ntmps89 rfl ?_; dsimp only [fr]
  repeat' (first | (refine XO.op rfl ?_; (first | ((first | refine Xo.ng rfl ?_); (first | (refine Xg.ev (EvF.mul64 rfl rfl rfl (by omega) (by omega)) rfl rfl ?_) | (refine Xg.ev (EvF.quo64 rfl rfl rfl (by omega) (by omega) (by omega)) rfl rfl ?_) | (refine Xg.ev (EvF.move rfl rfl) rfl rfl ?_) | (refine Xg.ev (EvF.assign rfl rfl) rfl rfl ?_) | (refine Xg.ev (EvF.add64 rfl rfl rfl (by omega) (by omega)) rfl rfl ?_))))) | (refine XO.done rfl ?_; refine hK _ _ ?_; clear hK K) | refine X.seq rfl ?_ | refine X.region rfl (fun K hK => ?_) | refine X.ret rfl ?_)
  refine ret_one (by first | exact .inr rfl | exact .inl rfl) Try.results89 rfl (H' := H) (by (repeat (first | exact List.Sublist.refl _ | apply List.Sublist.cons)); done) ?_; simp only [and_true, true_and]
  rfl
def couldP (x : Dr) (d : Int) : Prop := weightP d x.lo ≤ x.val ∧ weightP d x.hi ≥ x.val
instance (x : Dr) (d : Int) : Decidable (couldP x d) := by unfold couldP; infer_instance
def wgOk (x : Wg) : Prop := (0 ≤ x.val ∧ x.val ≤ 1200) ∧ 0 ≤ x.lo ∧ x.lo ≤ x.hi ∧ x.hi ≤ 200
theorem could_spec (x : Wg) (d : Int) (H : List Row) (hd : 1 ≤ d ∧ d ≤ 600) (hx : wgOk x) : Fc Try.prog 79 [.int .i64 d, .agg (cDr x).toArray] H (fun v H' => v = .bool (decide (couldP x d)) ∧ H' = H) := by
  obtain ⟨h1, h2, h3, h4⟩ := hx
  refine Fc.mk (callable Try.call79) Try.func79 rfl Try.ntmps79 rfl ?_; dsimp only [fr]
  repeat' (first | (refine XO.op rfl ?_; (first | ((first | refine Xo.ng rfl ?_); (first | (refine Xg.ev (EvF.assign rfl rfl) rfl rfl ?_) | (refine Xg.st (StF.boxAgg rfl rfl) rfl rfl ?_; rintro _ _ ⟨bx, rfl, rfl⟩))))) | (refine XO.done rfl ?_; refine hK _ _ ?_; clear hK K) | (refine XQ.op rfl ?_; (first | ((first | refine Yo.ng rfl ?_ | (refine Yo.g rfl rfl ?_; with_reducible refine Yw.tt ?_)); (first | (refine Yg.call (EnF.st rfl (Args.cons rfl (Args.cons rfl Args.nil))) rfl rfl (weight_spec d x.lo _ (by omega) (by omega)) ?_) | (refine Yg.call (EnF.st rfl (Args.cons rfl (Args.cons rfl Args.nil))) rfl rfl (weight_spec d x.hi _ (by omega) (by omega)) ?_) | (refine Yg.ev (EvF.move rfl rfl) rfl rfl ?_) | (refine Yg.ev (EvF.assign rfl rfl) rfl rfl ?_) | (refine Yg.ev (EvF.pickT rfl rfl rfl) rfl rfl ?_) | (refine Yg.ev (EvF.pickF rfl rfl rfl) rfl rfl ?_) | (refine Yg.ev (EvF.cmp rfl rfl rfl rfl) rfl rfl ?_) | (refine Yg.ev (EvF.fieldAddr rfl rfl (te rfl) rfl (te rfl) (by decide)) rfl rfl ?_) | (refine Yg.ev (EvF.loadV rfl rfl (LoadV.own (te rfl) rfl (List.Mem.head _) rfl)) rfl rfl ?_))) | (refine Yo.g rfl rfl ?_; (first | (with_reducible refine Yw.ft rfl rfl ?_) | (with_reducible refine Yw.case (fun h => ?_) (fun h => ?_) <;> simp only [h, decide_true, decide_false, Bool.not_true, Bool.not_false, and_self, and_true, true_and, and_false, false_and]))))) | (refine XQ.done rfl ?_; refine hK _ ?_; clear hK K) | refine X.seq rfl ?_ | refine X.region rfl (fun K hK => ?_) | refine X.regionD rfl mixed (by kernel_rfl) (fun K hK => ?_) | refine X.ret rfl ?_)
  all_goals (refine ret_one (by first | exact .inr rfl | exact .inl rfl) Try.results79 rfl (H' := H) (by (repeat (first | exact List.Sublist.refl _ | apply List.Sublist.cons)); done) ?_; simp only [and_true, true_and])
  all_goals (congr 1)
  all_goals first
    | (symm; exact decide_eq_false (fun q => absurd q.1 (by assumption)))
    | exact decide_eq_decide.2 ⟨fun q => ⟨by assumption, q⟩, fun q => q.2⟩
theorem ceil_le {q d m : Int} (hd : 0 < d) : (1000 * q + d - 1) / d ≤ m ↔ 1000 * q ≤ m * d := by
  have h := Int.ediv_lt_iff_lt_mul (a := 1000 * q + d - 1) (b := m + 1) hd
  rw [Int.add_mul, Int.one_mul] at h
  constructor
  · intro h1
    have := h.1 (by omega)
    omega
  · intro h1
    have := h.2 (by omega)
    omega
theorem could_iff {x : Wg} {d : Int} (hx : wgOk x) (hd : 1 ≤ d ∧ d ≤ 600) : ¬ (dampOf x d).lo > (dampOf x d).hi ↔ couldP x d := by
  obtain ⟨h1, h2, h3, h4⟩ := hx
  have e1 : ∀ r q : Int, leastD q d ≤ r ↔ 1000 * q ≤ (r + 1000) * d := by
    intro r q
    have := ceil_le (q := q) (m := r + 1000) (show 0 < d by omega)
    unfold leastD
    rw [← this]; omega
  have e2 : ∀ r : Int, weightP d r ≤ x.val ↔ ¬ leastD (x.val + 1) d ≤ r := by
    intro r
    rw [e1]
    unfold weightP
    rw [Int.mul_comm d, Int.add_comm 1000 r]
    omega
  have e3 : ∀ r : Int, weightP d r ≥ x.val ↔ leastD x.val d ≤ r := by
    intro r
    rw [e1]
    unfold weightP
    rw [Int.mul_comm d, Int.add_comm 1000 r]
    omega
  have e4 : ¬ leastD (x.val + 1) d ≤ leastD x.val d := by
    rw [e1]
    have h5 : (1000 * x.val + d - 1) / d * d ≤ 1000 * x.val + d - 1 := Int.ediv_mul_le _ (by omega)
    have h6 : leastD x.val d + 1000 = (1000 * x.val + d - 1) / d := by unfold leastD; omega
    rw [h6]
    omega
  unfold couldP
  rw [e2, e3]
  simp only [dampOf]
  omega
def allC (l : List Dr) (d : Int) : Bool := l.all (fun x => decide (couldP x d))
def okR (B : Bl) (d : Int) : Bool := allC B.weighs d
theorem ok_eq {B : Bl} {d : Int} (hw : ∀ x ∈ B.weighs, wgOk x) (hd : 1 ≤ d ∧ d ≤ 600) : okR B d = okW B d := by
  rw [Bool.eq_iff_iff]
  unfold okR allC okW
  rw [List.all_eq_true, decide_eq_true_iff]
  unfold canW
  exact ⟨fun q x hx => (could_iff (hw x hx) hd).2 (of_decide_eq_true (q x hx)), fun q x hx => decide_eq_true ((could_iff (hw x hx) hd).1 (q x hx))⟩
theorem wts_eq {B : Bl} (hw : ∀ x ∈ B.weighs, wgOk x) (hd : 1 ≤ B.dlo ∧ B.dlo ≤ B.dhi ∧ B.dhi ≤ 600) : wl (okR B) B.dlo (B.dhi - B.dlo + 1).toNat = wts B := by
  unfold wts
  exact wl_congr _ (fun i hi => ok_eq hw ⟨by omega, by omega⟩)
theorem baleOk.wg {B : Bl} (h : baleOk B) : ∀ x ∈ B.weighs, wgOk x := by
  intro x hx
  have h1 := (h.2.2.2.2.2.2 x hx)
  have h2 := h1.1 x.val (List.mem_singleton.2 rfl)
  have h3 := h1.2
  unfold partOk at h3
  simp only at h2 h3
  unfold wgOk
  omega
set_option maxHeartbeats 4000000 in
theorem dries_spec (B : Bl) (p : Pb) (H : List Row) (hd : 1 ≤ B.dlo ∧ B.dlo ≤ B.dhi ∧ B.dhi ≤ 600) (hw : ∀ x ∈ B.weighs, wgOk x) (hB : BlOk H B p) :
    Fc Try.prog 51 [.agg (cBl B p).toArray] H (fun v H' => ∃ Z, OutI (wts B) v Z ∧ H' = Z ++ H) := by
  rw [← wts_eq hw hd]
  obtain ⟨N, hN⟩ : ∃ N : Nat, (B.dhi - B.dlo + 1).toNat = N := ⟨_, rfl⟩
  rw [hN]
  have hNN : B.dlo + N = B.dhi + 1 := by omega
  have l2 := hB.l2
  have hBZ : ∀ (Z : List Row) r, BlOk (Z ++ r :: H) B p := fun Z r => hB.sub (fun _ h => List.mem_append_right _ (List.mem_cons_of_mem _ h))
  obtain ⟨a1, c1, a2, c2⟩ := p
  refine Fc.mk (callable Try.call51) Try.func51 rfl Try.ntmps51 rfl ?_; dsimp only [fr]
  repeat' (first | (refine XO.op rfl ?_; (first | ((first | refine Xo.ng rfl ?_); (first | (refine Xg.ev (EvF.move rfl rfl) rfl rfl ?_) | (refine Xg.ev (EvF.assign rfl rfl) rfl rfl ?_) | (refine Xg.ev (EvF.cmp rfl rfl rfl rfl) rfl rfl ?_) | (refine Xg.ev (EvF.add64 rfl rfl rfl (by omega) (by omega)) rfl rfl ?_) | (refine Xg.ev (EvF.fieldAddr rfl rfl (te rfl) rfl (te rfl) (by decide)) rfl rfl ?_) | (refine Xg.ev (EvF.loadV rfl rfl (LoadV.own (te rfl) rfl (List.Mem.head _) rfl)) rfl rfl ?_) | (refine Xg.st (StF.boxAgg rfl rfl) rfl rfl ?_; rintro _ _ ⟨bx, rfl, rfl⟩))))) | (refine XO.done rfl ?_; refine hK _ _ ?_; clear hK K) | refine X.seq rfl ?_ | refine X.region rfl (fun K hK => ?_) | refine X.block rfl ?_ | (refine X.brk rfl ?_; first | refine blockX_hit rfl ?_ | skip) | refine X.skip rfl ?_ | (refine X.ite rfl rfl (fun hc => ?_); (first | (with_reducible refine Xb.case hc (fun h => ?_) (fun h => ?_)) | (with_reducible refine Xb.caseB hc (fun h => ?_) (fun h => ?_))) <;> clear hc))
  rename Nat => b1
  refine X.lp rfl (fun m F' H' => ∃ (k : Nat) (d : Int) (out : Value) (Z : List Row), m = N - k ∧ k ≤ N ∧ d = B.dlo + k ∧ OutI (wl (okR B) B.dlo k) out Z ∧ Z ++ ⟨b1, 0, cBl B ⟨a1, c1, a2, c2⟩, some 27, 6⟩ :: H = H' ∧
      F' = [(1, .pointer (some ⟨b1, 0, none⟩)), (3, out), (4, .int .i64 d)])
    N [(1, .pointer (some ⟨b1, 0, none⟩)), (3, .slice none 0 0), (4, .int .i64 B.dlo)] (⟨b1, 0, cBl B ⟨a1, c1, a2, c2⟩, some 27, 6⟩ :: H) (by (repeat (first | exact Sub.nil _ | refine Sub.cons rfl ?_)); done) (List.Sublist.refl _) ⟨0, _, _, [], by omega, by omega, by omega, .inl ⟨rfl, rfl, rfl⟩, rfl, rfl⟩ ?_
  rintro _ _ H2 ⟨k, d, out, Z, rfl, hk, hdk, hO, hH, rfl⟩
  subst hH
  repeat' (first | (refine XO.op rfl ?_; (first | ((first | refine Xo.ng rfl ?_); (first | (refine Xg.ev (EvF.loadV rfl rfl (LoadV.own (te rfl) rfl (List.mem_append_right _ (List.Mem.head _)) rfl)) rfl rfl ?_) | (refine Xg.ev (EvF.move rfl rfl) rfl rfl ?_) | (refine Xg.ev (EvF.assign rfl rfl) rfl rfl ?_) | (refine Xg.ev (EvF.cmp rfl rfl rfl rfl) rfl rfl ?_) | (refine Xg.ev (EvF.fieldAddr rfl rfl (te rfl) rfl (te rfl) (by decide)) rfl rfl ?_) | (refine Xg.ev (EvF.lenSlice rfl rfl (te rfl)) rfl rfl ?_))))) | (refine XO.done rfl ?_; refine hK _ _ ?_; clear hK K) | refine X.seq rfl ?_ | refine X.region rfl (fun K hK => ?_) | refine X.block rfl ?_ | (refine X.brk rfl ?_; first | refine blockX_hit rfl ?_ | skip) | refine X.skip rfl ?_ | refine X.ret rfl ?_ | (refine X.ite rfl rfl (fun hc => ?_); (first | (with_reducible refine Xb.case hc (fun h => ?_) (fun h => ?_))) <;> clear hc))
  · refine X.lp rfl (fun m F' H' => ∃ (q : Nat) (is : Bool), m = B.weighs.length - q ∧ q ≤ B.weighs.length ∧ is = allC (B.weighs.take q) d ∧ Z ++ ⟨b1, 0, cBl B ⟨a1, c1, a2, c2⟩, some 27, 6⟩ :: H = H' ∧
        F' = [(1, .pointer (some ⟨b1, 0, none⟩)), (3, out), (4, .int .i64 d), (5, .bool is), (19, .slice a2 B.weighs.length c2), (20, .int .i64 B.weighs.length), (21, .int .i64 q)])
      B.weighs.length [(1, .pointer (some ⟨b1, 0, none⟩)), (3, out), (4, .int .i64 d), (5, .bool true), (19, .slice a2 B.weighs.length c2), (20, .int .i64 B.weighs.length), (21, .int .i64 (0 : Nat))] _ (by (repeat (first | exact Sub.nil _ | refine Sub.cons rfl ?_)); done) (List.Sublist.refl _) ⟨0, true, by omega, by omega, rfl, rfl, rfl⟩ ?_
    rintro _ _ H2 ⟨q, is, rfl, hq, hn, hH, rfl⟩
    subst hH
    repeat' (first | (refine XO.op rfl ?_; (first | ((first | refine Xo.ng rfl ?_); (first | (refine Xg.ev (EvF.move rfl rfl) rfl rfl ?_) | (refine Xg.ev (EvF.assign rfl rfl) rfl rfl ?_) | (refine Xg.ev (EvF.cmp rfl rfl rfl rfl) rfl rfl ?_) | (refine Xg.ev (EvF.add64 rfl rfl rfl (by omega) (by omega)) rfl rfl ?_) | (refine Xg.ev (EvF.fieldAddr rfl rfl (te rfl) rfl (te rfl) (by decide)) rfl rfl ?_) | (refine Xg.ev (EvF.loadV rfl rfl (LoadV.own (te rfl) rfl (List.Mem.head _) rfl)) rfl rfl ?_) | (refine Xg.st (StF.boxAgg rfl rfl) rfl rfl ?_; rintro _ _ ⟨bx, rfl, rfl⟩))))) | (refine XO.done rfl ?_; refine hK _ _ ?_; clear hK K) | refine X.seq rfl ?_ | refine X.region rfl (fun K hK => ?_) | refine X.block rfl ?_ | (refine X.brk rfl ?_; first | refine blockX_hit rfl ?_ | skip) | refine X.skip rfl ?_ | (refine X.ite rfl rfl (fun hc => ?_); (first | (with_reducible refine Xb.case hc (fun h => ?_) (fun h => ?_)) | (with_reducible refine Xb.caseB hc (fun h => ?_) (fun h => ?_))) <;> clear hc))
    · obtain ⟨b, off, e, rfl, he⟩ := hB.weighs.elem (i := q) (by omega)
      have hwe := hw e (List.mem_of_getElem? he)
      have hn' : allC (B.weighs.take (q + 1)) d = (is && decide (couldP e d)) := by
        rw [take_snoc he, hn]
        unfold allC
        rw [List.all_append]
        simp
      clear hn
      repeat' (first | (refine XO.op rfl ?_; (first | ((first | refine Xo.ng rfl ?_ | (refine Xo.g rfl rfl ?_; with_reducible refine Xw.tt ?_)); (first | (refine Xg.ev (EvF.loadV rfl rfl (LoadV.elA0 (hBZ _ _).weighs he (te rfl) rfl (fun _ hm => hm) rfl)) rfl rfl ?_) | (refine Xg.call (EnF.st rfl (Args.cons rfl (Args.cons rfl Args.nil))) rfl rfl (could_spec e d _ (by omega) hwe) ?_; rintro _ H9 ⟨rfl, hH9⟩; subst H9) | (refine Xg.ev (EvF.move rfl rfl) rfl rfl ?_) | (refine Xg.ev (EvF.assign rfl rfl) rfl rfl ?_) | (refine Xg.ev (EvF.pickT rfl rfl rfl) rfl rfl ?_) | (refine Xg.ev (EvF.pickF rfl rfl rfl) rfl rfl ?_) | (refine Xg.ev (EvF.add64 rfl rfl rfl (by omega) (by omega)) rfl rfl ?_) | (refine Xg.ev (EvF.indexSlice rfl rfl rfl (te rfl) (te rfl) (by omega) (by omega)) rfl rfl ?_) | (refine Xg.ev (EvF.loadV rfl rfl (LoadV.whole (te rfl) rfl (List.Mem.head _) rfl)) rfl rfl ?_) | (refine Xg.st (StF.alloc rfl Try.zeroValue29 rfl) rfl rfl ?_; rintro _ _ ⟨bx, rfl, rfl⟩) | (refine Xg.st0 (StF.storeAll (i := 0) rfl rfl rfl (te rfl) rfl rfl rfl rfl) rfl ?_; rintro _ _ ⟨rfl, rfl⟩; dsimp only [List.set]))) | (refine Xo.g rfl rfl ?_; (first | (with_reducible refine Xw.ft rfl rfl ?_) | (with_reducible refine Xw.caseB (fun h => ?_) (fun h => ?_) <;> simp only [h, decide_true, decide_false, Bool.not_true, Bool.not_false, and_self, and_true, true_and, and_false, false_and]))))) | (refine XO.done rfl ?_; refine hK _ _ ?_; clear hK K) | refine X.region rfl (fun K hK => ?_))
      · refine ⟨_, _, _, (by (repeat (first | exact Sub.nil _ | refine Sub.cons rfl ?_)); done), (by (repeat (first | exact List.Sublist.refl _ | apply List.Sublist.cons)); done), ⟨q + 1, _, rfl, by omega, by rw [hn']; simp_all, rfl, rfl⟩, by omega⟩
      · refine ⟨_, _, _, (by (repeat (first | exact Sub.nil _ | refine Sub.cons rfl ?_)); done), (by (repeat (first | exact List.Sublist.refl _ | apply List.Sublist.cons)); done), ⟨q + 1, _, rfl, by omega, by rw [hn']; simp_all, rfl, rfl⟩, by omega⟩
    · have hyes : okR B d = is := by rw [hn, List.take_of_length_le (by omega)]; rfl
      have hi : is = true := by assumption
      rw [hi] at hyes
      have hwl : wl (okR B) B.dlo (k + 1) = wl (okR B) B.dlo k ++ [d] := by
        rw [hdk] at hyes
        simp only [wl, hyes, if_true, hdk]
      have hk1 := wl_len (okR B) B.dlo k
      obtain ⟨l, hlE⟩ : ∃ l, wl (okR B) B.dlo k = l := ⟨_, rfl⟩
      rw [hlE] at hO hwl hk1
      clear hn
      rcases hO with ⟨rfl, rfl, rfl⟩ | ⟨b0, q0, rfl, rfl⟩
      · repeat' (first | (refine XO.op rfl ?_; (first | ((first | refine Xo.ng rfl ?_); (first | (refine Xg.st (StF.buildOne rfl el55 rfl rfl rfl (by decide) (by decide)) rfl rfl ?_; rintro _ _ ⟨bs, rfl, rfl⟩) | (refine Xg.st (StF.appendNew rfl el55 rfl rfl (by decide) rfl (Rd.own (List.Mem.head _)) (by decide)) rfl rfl ?_; rintro _ _ ⟨bn, kn, rfl, rfl⟩) | (refine Xg.ev (EvF.move rfl rfl) rfl rfl ?_) | (refine Xg.ev (EvF.assign rfl rfl) rfl rfl ?_) | (refine Xg.ev (EvF.add64 rfl rfl rfl (by omega) (by omega)) rfl rfl ?_))))) | (refine XO.done rfl ?_; refine hK _ _ ?_; clear hK K) | refine X.region rfl (fun K hK => ?_))
        refine ⟨_, _, _, (by (repeat (first | exact Sub.nil _ | refine Sub.cons rfl ?_)); done), ?_, ⟨k + 1, _, _, [⟨bn, 0, ([] ++ [d]).flatMap cI, some 3, kn * 1⟩], rfl, by omega, ?_, ?_, rfl, rfl⟩, by omega⟩
        · exact List.Sublist.cons_cons _ (List.Sublist.cons _ (List.Sublist.refl _))
        · omega
        · rw [hwl]; exact .inr ⟨_, _, rfl, rfl⟩
      · have hlen : (l.flatMap cI).length = l.length * 1 := lenI l
        repeat' (first | (refine XO.op rfl ?_; (first | ((first | refine Xo.ng rfl ?_); (first | (refine Xg.st (StF.buildOne rfl el55 rfl rfl rfl (by decide) (by decide)) rfl rfl ?_; rintro _ _ ⟨bs, rfl, rfl⟩) | (refine Xg.st (StF.appendOwn (i := 1) rfl el55 rfl rfl rfl hlen rfl (Rd.own (List.Mem.head _)) rfl (by omega)) rfl rfl ?_; rintro _ _ ⟨bn, kn, rfl, rfl⟩; dsimp only [List.eraseIdx]) | (refine Xg.ev (EvF.move rfl rfl) rfl rfl ?_) | (refine Xg.ev (EvF.assign rfl rfl) rfl rfl ?_) | (refine Xg.ev (EvF.add64 rfl rfl rfl (by omega) (by omega)) rfl rfl ?_))))) | (refine XO.done rfl ?_; refine hK _ _ ?_; clear hK K) | refine X.region rfl (fun K hK => ?_))
        refine ⟨_, _, _, (by (repeat (first | exact Sub.nil _ | refine Sub.cons rfl ?_)); done), ?_, ⟨k + 1, _, _, [⟨bn, 0, (l ++ [d]).flatMap cI, some 3, kn * 1⟩], rfl, by omega, ?_, ?_, rfl, rfl⟩, by omega⟩
        · rw [List.flatMap_append]
          exact List.Sublist.cons_cons _ (List.Sublist.cons _ (List.Sublist.refl _))
        · omega
        · rw [hwl]; exact .inr ⟨_, _, by rw [List.length_append]; rfl, rfl⟩
    · have hno : okR B d = is := by rw [hn, List.take_of_length_le (by omega)]; rfl
      have hi : is = false := by assumption
      rw [hi] at hno
      refine ⟨_, _, _, (by (repeat (first | exact Sub.nil _ | refine Sub.cons rfl ?_)); done), (by (repeat (first | exact List.Sublist.refl _ | apply List.Sublist.cons)); done), ⟨k + 1, _, _, Z, rfl, by omega, ?_, ?_, rfl, rfl⟩, by omega⟩
      · omega
      · rw [hdk] at hno
        simp only [wl, hno, Bool.false_eq_true, if_false, List.append_nil]
        exact hO
  · obtain rfl : k = N := by omega
    exact ret_one (by first | exact .inr rfl | exact .inl rfl) Try.results51 rfl (H' := Z ++ H) (List.Sublist.append (List.Sublist.refl _) (List.sublist_cons_self _ _)) ⟨Z, hO, rfl⟩
end Go.Proofs.Ytoflnjgfikchjaa
end
