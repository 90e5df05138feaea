/- The program: Put of a list. -/
import Derived.Test.YtmljpmcipcoaaaaP10
set_option linter.unusedSimpArgs false
namespace Go.Proofs.Ytmljpmcipcoaaaa
open Go Go.Fw
set_option maxRecDepth 10000
def ts102 : List TOp := [⟨some 15, [], [], []⟩, ⟨some 16, [0], [0], []⟩, ⟨some 17, [], [], []⟩, ⟨some 18, [], [], []⟩, ⟨some 19, [3], [3], []⟩, ⟨some 20, [0, 1, 2, 3, 4], [1, 2, 4], [4, 1]⟩, ⟨some 6, [0, 1, 2, 3, 4, 5], [5], []⟩]
def insMt (x : Mt) : List Mt → List Mt
  | [] => [x]
  | m :: t => if m.number < x.number then m :: insMt x t else x :: m :: t
theorem insMt_at (x : Mt) : ∀ (l : List Mt) (k : Nat), k ≤ l.length → (∀ i e, i < k → l[i]? = some e → e.number < x.number) → (∀ e, l[k]? = some e → ¬ e.number < x.number) → insMt x l = l.take k ++ [x] ++ l.drop k
  | [], k, hk, _, _ => by simp [insMt]
  | m :: t, 0, _, _, h => by
    have := h m rfl
    simp [insMt, this]
  | m :: t, k + 1, hk, h1, h2 => by
    have h3 := h1 0 m (by omega) rfl
    have := insMt_at x t k (by simpa using hk) (fun i e hi he => h1 (i + 1) e (by omega) (by simpa using he)) (fun e he => h2 e (by simpa using he))
    simp [insMt, h3, this]
theorem insMt_len (x : Mt) : ∀ l, (insMt x l).length = l.length + 1
  | [] => rfl
  | m :: t => by
    have := insMt_len x t
    simp only [insMt]
    split <;> simp [this]
def val102Mt (l : List Mt) (x : Mt) (k0 : Nat) (ad : Addr) (c : Nat) (k : Nat) (env : Env) : Value :=
  match k with
  | 0 => .slice (some ad) l.length c
  | 1 => .slice (some ⟨(env 1).1, 0, none⟩) l.length (env 1).2
  | 2 => .int .i64 k0
  | 3 => .agg (cMt x).toArray
  | 4 => .slice (some ⟨(env 4).1, 0, none⟩) 1 1
  | 5 => .slice (some ⟨(env 5).1, 0, none⟩) (l.length + 1) (env 5).2
  | 6 => .slice (some ⟨(env 5).1, 0, none⟩) (l.length + 1) (env 5).2
  | _ => undef
def rows102Mt (l : List Mt) (x : Mt) (k0 : Nat) (k : Nat) (env : Env) : List Row :=
  match k with
  | 1 => [⟨(env 1).1, 0, l.flatMap cMt, some 75, (env 1).2 * 6⟩]
  | 4 => [⟨(env 4).1, 0, cMt x, some 75, 1 * 6⟩]
  | 5 => [⟨(env 5).1, 0, (l.take k0 ++ [x] ++ l.drop k0).flatMap cMt, some 75, (env 5).2 * 6⟩]
  | _ => []
theorem loc102Mt (l : List Mt) (x : Mt) (k0 : Nat) (ad : Addr) (c : Nat) : ∀ k env i q9, i ≠ k → (tAt ts102 k).sup.contains i = false → val102Mt l x k0 ad c k (upd env i q9) = val102Mt l x k0 ad c k env ∧ rows102Mt l x k0 k (upd env i q9) = rows102Mt l x k0 k env := by
  intro k env i q hk hs
  have hu : ∀ j, j ≠ i → upd env i q j = env j := fun j hj => by unfold upd; rw [if_neg hj]
  match k, hk, hs with
  | 0, _, _ => exact ⟨rfl, rfl⟩
  | 1, hk, hs => exact ⟨by simp only [val102Mt, hu 1 (fun e => hk e.symm)], by simp only [rows102Mt, hu 1 (fun e => hk e.symm)]⟩
  | 2, _, _ => exact ⟨rfl, rfl⟩
  | 3, _, _ => exact ⟨rfl, rfl⟩
  | 4, hk, hs => exact ⟨by simp only [val102Mt, hu 4 (fun e => hk e.symm)], by simp only [rows102Mt, hu 4 (fun e => hk e.symm)]⟩
  | 5, hk, hs => exact ⟨by simp only [val102Mt, hu 5 (fun e => hk e.symm)], by simp only [rows102Mt, hu 5 (fun e => hk e.symm)]⟩
  | 6, hk, hs => exact ⟨by simp only [val102Mt, hu 5 (by rintro rfl; cases hs)], by simp only [rows102Mt, hu 5 (by rintro rfl; cases hs)]⟩
  | _ + 7, _, _ => exact ⟨rfl, rfl⟩
set_option maxHeartbeats 4000000 in
theorem put_specMt (l : List Mt) (x : Mt) (ad : Addr) (c : Nat) (H : List Row) (hl : SlE H (some ad) cMt 6 l) (hb : l.length ≤ 1000000) :
    Fc Try.prog 102 [.slice (some ad) l.length c, .agg (cMt x).toArray, .func (.func 89) #[] #[]] H (fun v H' => ∃ b k, v = .slice (some ⟨b, 0, none⟩) (insMt x l).length k ∧ H' = ⟨b, 0, (insMt x l).flatMap cMt, some 75, k * 6⟩ :: H) := by
  have hl2 : ∀ r1 r2, SlE (r1 :: r2 :: H) (some ad) cMt 6 l := fun r1 r2 => hl.sub (fun _ h => List.Mem.tail _ (List.Mem.tail _ h))
  refine Fc.mk (callable Try.call102) Try.func102 rfl Try.ntmps102 rfl ?_; dsimp only [fr]
  refine X.seq rfl ?_; refine X.region rfl (fun K hK => ?_); repeat' (first | (refine XO.op rfl ?_; (first | ((first | refine Xo.ng rfl ?_); (first | (refine Xg.ev (EvF.assign rfl rfl) rfl rfl ?_) | (refine Xg.st (StF.boxAgg rfl rfl) rfl rfl ?_; rintro _ _ ⟨bx, rfl, rfl⟩) | (refine Xg.st (StF.boxOne rfl rfl rfl) rfl rfl ?_; rintro _ _ ⟨bx, rfl, rfl⟩))))) | (refine XO.done rfl ?_; refine hK _ _ ?_; clear hK K))
  rename_i b4
  rename Nat => b5
  repeat' (first | (refine XO.op rfl ?_; (first | ((first | refine Xo.ng rfl ?_); (first | (refine Xg.ev (EvF.makeFunc (fl := []) rfl Args.nil (Args.cons rfl (Args.cons rfl Args.nil))) rfl rfl ?_) | (refine Xg.call (EnF.st rfl (by (repeat (first | exact Args.nil | refine Args.cons rfl ?_)); done)) rfl rfl (indexFunc_specMt l _ _ 134 (fun y => decide (y.number ≥ x.number)) _ _ (hl2 _ _) (by omega) (fun y _ => put1_specMt y x _ _ _ _ _ _ _ (List.Mem.head _) (List.Mem.tail _ (List.Mem.head _)))) ?_; rintro _ H9 ⟨⟨z, rfl, hz⟩, hH9⟩; subst H9; rcases hz with ⟨rfl, hz⟩ | ⟨k, e, rfl, he, hp, hz⟩) | (refine Xg.ev (EvF.move rfl rfl) rfl rfl ?_) | (refine Xg.ev (EvF.assign rfl rfl) rfl rfl ?_) | (refine Xg.ev (EvF.cmp rfl rfl rfl rfl) rfl rfl ?_) | (refine Xg.ev (EvF.lenSlice rfl rfl (te rfl)) rfl rfl ?_))))) | (refine XO.done rfl ?_; refine hK _ _ ?_; clear hK K) | refine X.seq rfl ?_ | refine X.region rfl (fun K hK => ?_) | refine X.skip rfl ?_ | (refine X.ite rfl rfl (fun hc => ?_); (first | (with_reducible refine Xb.case hc (fun h => ?_) (fun h => ?_))) <;> clear hc))
  any_goals (exfalso; omega)
  · have hk : l.length ≤ l.length := Nat.le_refl _
    have hins := insMt_at x l l.length hk (fun i e _ he => by have := of_decide_eq_false (hz e (List.mem_of_getElem? he)); omega) (fun e he => by rw [List.getElem?_eq_none (Nat.le_refl _)] at he; cases he)
    refine X.regionOb ts102 [0, 7, 4] [(0, .slice (some ad) l.length c), (7, .int .i64 (l.length : Nat)), (4, .pointer (some ⟨b4, 0, none⟩))] (val102Mt l x l.length ad c) (rows102Mt l x l.length) (fun _ => (0, 0)) (⟨b5, 0, [.func (.func 89) #[] #[]], some 142, 1⟩ :: ⟨b4, 0, cMt x, some 75, 6⟩ :: H) rfl mixed (by (repeat (first | exact Sub.nil _ | refine Sub.cons rfl ?_)); done) rfl (by kernel_rfl) (loc102Mt l x l.length ad c) (List.Sublist.refl _) ?_ ?_
    · repeat' (first | exact AllF.done rfl | (refine AllF.step rfl ?_ ?_; · (first | fail | ((first | refine Ob.ng rfl ?_); (first | exact ObK.pure (fun env R hR => by exact ⟨_, EvF.move rfl rfl, rfl⟩) rfl (fun _ => rfl) | exact ObK.pure (fun env R hR => by exact ⟨_, EvF.assign rfl rfl, rfl⟩) rfl (fun _ => rfl) | exact ObK.pure (fun env R hR => by exact ⟨_, EvF.loadV rfl rfl (LoadV.whole (te rfl) rfl (hR _ (List.Mem.tail _ (List.Mem.head _))) rfl), rfl⟩) rfl (fun _ => rfl) | (exact fun env S hS => (OpF.call (EnF.st rfl (by (repeat (first | exact Args.nil | refine Args.cons rfl ?_)); done)) (clone_specMt l ad c _ (hl.sub (fun r hr => hS _ (List.Mem.tail _ (List.Mem.tail _ hr)))) hb)).mono (fun v H' ⟨b, k, hv, hH⟩ => ⟨(b, k), fun _ => hv, by rw [hH]; exact List.Perm.refl _⟩)) | (exact fun env S hS => (StF.buildOne rfl el24 rfl rfl rfl (by decide) (by decide)).op.mono (fun v H' ⟨b, hv, hH⟩ => ⟨(b, 0), fun _ => hv, by rw [hH]; exact List.Perm.refl _⟩)) | (exact fun env S hS => (OpF.call (EnF.st rfl (by (repeat (first | exact Args.nil | refine Args.cons rfl ?_)); done)) (insert_specMt l x l.length _ _ _ S hk hb)).mono (fun v H' ⟨b, k, hv, hH⟩ => ⟨(b, k), fun _ => hv, by rw [hH]; exact List.Perm.refl _⟩)))))))
    · intro env t ha hv
      refine ⟨[(6, .slice (some ⟨(env 5).1, 0, none⟩) (l.length + 1) (env 5).2)], (ha.sub (Sub.nil _)).cons (hv 6 6 (Nat.le_of_ble_eq_true rfl) rfl), ?_⟩
      show X _ _ _ _ (⟨(env 5).1, 0, (l.take l.length ++ [x] ++ l.drop l.length).flatMap cMt, some 75, (env 5).2 * 6⟩ :: ⟨b5, 0, [.func (.func 89) #[] #[]], some 142, 1⟩ :: ⟨b4, 0, cMt x, some 75, 6⟩ :: H) _
      repeat' (first | refine X.ret rfl ?_)
      refine ret_one (by first | exact .inr rfl | exact .inl rfl) Try.results102 rfl (H' := ⟨(env 5).1, 0, (l.take l.length ++ [x] ++ l.drop l.length).flatMap cMt, some 75, (env 5).2 * 6⟩ :: H) (by (repeat (first | exact List.Sublist.refl _ | apply List.Sublist.cons_cons | apply List.Sublist.cons)); done) ⟨_, _, by rw [insMt_len], ?_⟩
      rw [hins]
  · have hk : k ≤ l.length := Nat.le_of_lt (List.getElem?_eq_some_iff.1 he).1
    have hins := insMt_at x l k hk (fun i e hi he => by have := of_decide_eq_false (hz i e hi he); omega) (fun e' he' => by rw [he] at he'; cases he'; have := of_decide_eq_true hp; omega)
    refine X.regionOb ts102 [0, 7, 4] [(0, .slice (some ad) l.length c), (7, .int .i64 (k : Nat)), (4, .pointer (some ⟨b4, 0, none⟩))] (val102Mt l x k ad c) (rows102Mt l x k) (fun _ => (0, 0)) (⟨b5, 0, [.func (.func 89) #[] #[]], some 142, 1⟩ :: ⟨b4, 0, cMt x, some 75, 6⟩ :: H) rfl mixed (by (repeat (first | exact Sub.nil _ | refine Sub.cons rfl ?_)); done) rfl (by kernel_rfl) (loc102Mt l x k ad c) (List.Sublist.refl _) ?_ ?_
    · repeat' (first | exact AllF.done rfl | (refine AllF.step rfl ?_ ?_; · (first | fail | ((first | refine Ob.ng rfl ?_); (first | exact ObK.pure (fun env R hR => by exact ⟨_, EvF.move rfl rfl, rfl⟩) rfl (fun _ => rfl) | exact ObK.pure (fun env R hR => by exact ⟨_, EvF.assign rfl rfl, rfl⟩) rfl (fun _ => rfl) | exact ObK.pure (fun env R hR => by exact ⟨_, EvF.loadV rfl rfl (LoadV.whole (te rfl) rfl (hR _ (List.Mem.tail _ (List.Mem.head _))) rfl), rfl⟩) rfl (fun _ => rfl) | (exact fun env S hS => (OpF.call (EnF.st rfl (by (repeat (first | exact Args.nil | refine Args.cons rfl ?_)); done)) (clone_specMt l ad c _ (hl.sub (fun r hr => hS _ (List.Mem.tail _ (List.Mem.tail _ hr)))) hb)).mono (fun v H' ⟨b, k, hv, hH⟩ => ⟨(b, k), fun _ => hv, by rw [hH]; exact List.Perm.refl _⟩)) | (exact fun env S hS => (StF.buildOne rfl el24 rfl rfl rfl (by decide) (by decide)).op.mono (fun v H' ⟨b, hv, hH⟩ => ⟨(b, 0), fun _ => hv, by rw [hH]; exact List.Perm.refl _⟩)) | (exact fun env S hS => (OpF.call (EnF.st rfl (by (repeat (first | exact Args.nil | refine Args.cons rfl ?_)); done)) (insert_specMt l x k _ _ _ S hk hb)).mono (fun v H' ⟨b, k, hv, hH⟩ => ⟨(b, k), fun _ => hv, by rw [hH]; exact List.Perm.refl _⟩)))))))
    · intro env t ha hv
      refine ⟨[(6, .slice (some ⟨(env 5).1, 0, none⟩) (l.length + 1) (env 5).2)], (ha.sub (Sub.nil _)).cons (hv 6 6 (Nat.le_of_ble_eq_true rfl) rfl), ?_⟩
      show X _ _ _ _ (⟨(env 5).1, 0, (l.take k ++ [x] ++ l.drop k).flatMap cMt, some 75, (env 5).2 * 6⟩ :: ⟨b5, 0, [.func (.func 89) #[] #[]], some 142, 1⟩ :: ⟨b4, 0, cMt x, some 75, 6⟩ :: H) _
      repeat' (first | refine X.ret rfl ?_)
      refine ret_one (by first | exact .inr rfl | exact .inl rfl) Try.results102 rfl (H' := ⟨(env 5).1, 0, (l.take k ++ [x] ++ l.drop k).flatMap cMt, some 75, (env 5).2 * 6⟩ :: H) (by (repeat (first | exact List.Sublist.refl _ | apply List.Sublist.cons_cons | apply List.Sublist.cons)); done) ⟨_, _, by rw [insMt_len], ?_⟩
      rw [hins]
def insBx (x : Bx) : List Bx → List Bx
  | [] => [x]
  | m :: t => if m.id < x.id then m :: insBx x t else x :: m :: t
theorem insBx_at (x : Bx) : ∀ (l : List Bx) (k : Nat), k ≤ l.length → (∀ i e, i < k → l[i]? = some e → e.id < x.id) → (∀ e, l[k]? = some e → ¬ e.id < x.id) → insBx x l = l.take k ++ [x] ++ l.drop k
  | [], k, hk, _, _ => by simp [insBx]
  | m :: t, 0, _, _, h => by
    have := h m rfl
    simp [insBx, this]
  | m :: t, k + 1, hk, h1, h2 => by
    have h3 := h1 0 m (by omega) rfl
    have := insBx_at x t k (by simpa using hk) (fun i e hi he => h1 (i + 1) e (by omega) (by simpa using he)) (fun e he => h2 e (by simpa using he))
    simp [insBx, h3, this]
theorem insBx_len (x : Bx) : ∀ l, (insBx x l).length = l.length + 1
  | [] => rfl
  | m :: t => by
    have := insBx_len x t
    simp only [insBx]
    split <;> simp [this]
def val102Bx (l : List Bx) (x : Bx) (k0 : Nat) (ad : Addr) (c : Nat) (k : Nat) (env : Env) : Value :=
  match k with
  | 0 => .slice (some ad) l.length c
  | 1 => .slice (some ⟨(env 1).1, 0, none⟩) l.length (env 1).2
  | 2 => .int .i64 k0
  | 3 => .agg (cBx x).toArray
  | 4 => .slice (some ⟨(env 4).1, 0, none⟩) 1 1
  | 5 => .slice (some ⟨(env 5).1, 0, none⟩) (l.length + 1) (env 5).2
  | 6 => .slice (some ⟨(env 5).1, 0, none⟩) (l.length + 1) (env 5).2
  | _ => undef
def rows102Bx (l : List Bx) (x : Bx) (k0 : Nat) (k : Nat) (env : Env) : List Row :=
  match k with
  | 1 => [⟨(env 1).1, 0, l.flatMap cBx, some 77, (env 1).2 * 2⟩]
  | 4 => [⟨(env 4).1, 0, cBx x, some 77, 1 * 2⟩]
  | 5 => [⟨(env 5).1, 0, (l.take k0 ++ [x] ++ l.drop k0).flatMap cBx, some 77, (env 5).2 * 2⟩]
  | _ => []
theorem loc102Bx (l : List Bx) (x : Bx) (k0 : Nat) (ad : Addr) (c : Nat) : ∀ k env i q9, i ≠ k → (tAt ts102 k).sup.contains i = false → val102Bx l x k0 ad c k (upd env i q9) = val102Bx l x k0 ad c k env ∧ rows102Bx l x k0 k (upd env i q9) = rows102Bx l x k0 k env := by
  intro k env i q hk hs
  have hu : ∀ j, j ≠ i → upd env i q j = env j := fun j hj => by unfold upd; rw [if_neg hj]
  match k, hk, hs with
  | 0, _, _ => exact ⟨rfl, rfl⟩
  | 1, hk, hs => exact ⟨by simp only [val102Bx, hu 1 (fun e => hk e.symm)], by simp only [rows102Bx, hu 1 (fun e => hk e.symm)]⟩
  | 2, _, _ => exact ⟨rfl, rfl⟩
  | 3, _, _ => exact ⟨rfl, rfl⟩
  | 4, hk, hs => exact ⟨by simp only [val102Bx, hu 4 (fun e => hk e.symm)], by simp only [rows102Bx, hu 4 (fun e => hk e.symm)]⟩
  | 5, hk, hs => exact ⟨by simp only [val102Bx, hu 5 (fun e => hk e.symm)], by simp only [rows102Bx, hu 5 (fun e => hk e.symm)]⟩
  | 6, hk, hs => exact ⟨by simp only [val102Bx, hu 5 (by rintro rfl; cases hs)], by simp only [rows102Bx, hu 5 (by rintro rfl; cases hs)]⟩
  | _ + 7, _, _ => exact ⟨rfl, rfl⟩
set_option maxHeartbeats 4000000 in
theorem put_specBx (l : List Bx) (x : Bx) (ad : Addr) (c : Nat) (H : List Row) (hl : SlE H (some ad) cBx 2 l) (hb : l.length ≤ 1000000) :
    Fc Try.prog 105 [.slice (some ad) l.length c, .agg (cBx x).toArray, .func (.func 106) #[] #[]] H (fun v H' => ∃ b k, v = .slice (some ⟨b, 0, none⟩) (insBx x l).length k ∧ H' = ⟨b, 0, (insBx x l).flatMap cBx, some 77, k * 2⟩ :: H) := by
  have hl2 : ∀ r1 r2, SlE (r1 :: r2 :: H) (some ad) cBx 2 l := fun r1 r2 => hl.sub (fun _ h => List.Mem.tail _ (List.Mem.tail _ h))
  refine Fc.mk (callable Try.call105) Try.func105 rfl Try.ntmps105 rfl ?_; dsimp only [fr]
  refine X.seq rfl ?_; refine X.region rfl (fun K hK => ?_); repeat' (first | (refine XO.op rfl ?_; (first | ((first | refine Xo.ng rfl ?_); (first | (refine Xg.ev (EvF.assign rfl rfl) rfl rfl ?_) | (refine Xg.st (StF.boxAgg rfl rfl) rfl rfl ?_; rintro _ _ ⟨bx, rfl, rfl⟩) | (refine Xg.st (StF.boxOne rfl rfl rfl) rfl rfl ?_; rintro _ _ ⟨bx, rfl, rfl⟩))))) | (refine XO.done rfl ?_; refine hK _ _ ?_; clear hK K))
  rename_i b4
  rename Nat => b5
  repeat' (first | (refine XO.op rfl ?_; (first | ((first | refine Xo.ng rfl ?_); (first | (refine Xg.ev (EvF.makeFunc (fl := []) rfl Args.nil (Args.cons rfl (Args.cons rfl Args.nil))) rfl rfl ?_) | (refine Xg.call (EnF.st rfl (by (repeat (first | exact Args.nil | refine Args.cons rfl ?_)); done)) rfl rfl (indexFunc_specBx l _ _ 138 (fun y => decide (y.id ≥ x.id)) _ _ (hl2 _ _) (by omega) (fun y _ => put1_specBx y x _ _ _ _ _ _ _ (List.Mem.head _) (List.Mem.tail _ (List.Mem.head _)))) ?_; rintro _ H9 ⟨⟨z, rfl, hz⟩, hH9⟩; subst H9; rcases hz with ⟨rfl, hz⟩ | ⟨k, e, rfl, he, hp, hz⟩) | (refine Xg.ev (EvF.move rfl rfl) rfl rfl ?_) | (refine Xg.ev (EvF.assign rfl rfl) rfl rfl ?_) | (refine Xg.ev (EvF.cmp rfl rfl rfl rfl) rfl rfl ?_) | (refine Xg.ev (EvF.lenSlice rfl rfl (te rfl)) rfl rfl ?_))))) | (refine XO.done rfl ?_; refine hK _ _ ?_; clear hK K) | refine X.seq rfl ?_ | refine X.region rfl (fun K hK => ?_) | refine X.skip rfl ?_ | (refine X.ite rfl rfl (fun hc => ?_); (first | (with_reducible refine Xb.case hc (fun h => ?_) (fun h => ?_))) <;> clear hc))
  any_goals (exfalso; omega)
  · have hk : l.length ≤ l.length := Nat.le_refl _
    have hins := insBx_at x l l.length hk (fun i e _ he => by have := of_decide_eq_false (hz e (List.mem_of_getElem? he)); omega) (fun e he => by rw [List.getElem?_eq_none (Nat.le_refl _)] at he; cases he)
    refine X.regionOb ts102 [0, 7, 4] [(0, .slice (some ad) l.length c), (7, .int .i64 (l.length : Nat)), (4, .pointer (some ⟨b4, 0, none⟩))] (val102Bx l x l.length ad c) (rows102Bx l x l.length) (fun _ => (0, 0)) (⟨b5, 0, [.func (.func 106) #[] #[]], some 156, 1⟩ :: ⟨b4, 0, cBx x, some 77, 2⟩ :: H) rfl mixed (by (repeat (first | exact Sub.nil _ | refine Sub.cons rfl ?_)); done) rfl (by kernel_rfl) (loc102Bx l x l.length ad c) (List.Sublist.refl _) ?_ ?_
    · repeat' (first | exact AllF.done rfl | (refine AllF.step rfl ?_ ?_; · (first | fail | ((first | refine Ob.ng rfl ?_); (first | exact ObK.pure (fun env R hR => by exact ⟨_, EvF.move rfl rfl, rfl⟩) rfl (fun _ => rfl) | exact ObK.pure (fun env R hR => by exact ⟨_, EvF.assign rfl rfl, rfl⟩) rfl (fun _ => rfl) | exact ObK.pure (fun env R hR => by exact ⟨_, EvF.loadV rfl rfl (LoadV.whole (te rfl) rfl (hR _ (List.Mem.tail _ (List.Mem.head _))) rfl), rfl⟩) rfl (fun _ => rfl) | (exact fun env S hS => (OpF.call (EnF.st rfl (by (repeat (first | exact Args.nil | refine Args.cons rfl ?_)); done)) (clone_specBx l ad c _ (hl.sub (fun r hr => hS _ (List.Mem.tail _ (List.Mem.tail _ hr)))) hb)).mono (fun v H' ⟨b, k, hv, hH⟩ => ⟨(b, k), fun _ => hv, by rw [hH]; exact List.Perm.refl _⟩)) | (exact fun env S hS => (StF.buildOne rfl el23 rfl rfl rfl (by decide) (by decide)).op.mono (fun v H' ⟨b, hv, hH⟩ => ⟨(b, 0), fun _ => hv, by rw [hH]; exact List.Perm.refl _⟩)) | (exact fun env S hS => (OpF.call (EnF.st rfl (by (repeat (first | exact Args.nil | refine Args.cons rfl ?_)); done)) (insert_specBx l x l.length _ _ _ S hk hb)).mono (fun v H' ⟨b, k, hv, hH⟩ => ⟨(b, k), fun _ => hv, by rw [hH]; exact List.Perm.refl _⟩)))))))
    · intro env t ha hv
      refine ⟨[(6, .slice (some ⟨(env 5).1, 0, none⟩) (l.length + 1) (env 5).2)], (ha.sub (Sub.nil _)).cons (hv 6 6 (Nat.le_of_ble_eq_true rfl) rfl), ?_⟩
      show X _ _ _ _ (⟨(env 5).1, 0, (l.take l.length ++ [x] ++ l.drop l.length).flatMap cBx, some 77, (env 5).2 * 2⟩ :: ⟨b5, 0, [.func (.func 106) #[] #[]], some 156, 1⟩ :: ⟨b4, 0, cBx x, some 77, 2⟩ :: H) _
      repeat' (first | refine X.ret rfl ?_)
      refine ret_one (by first | exact .inr rfl | exact .inl rfl) Try.results105 rfl (H' := ⟨(env 5).1, 0, (l.take l.length ++ [x] ++ l.drop l.length).flatMap cBx, some 77, (env 5).2 * 2⟩ :: H) (by (repeat (first | exact List.Sublist.refl _ | apply List.Sublist.cons_cons | apply List.Sublist.cons)); done) ⟨_, _, by rw [insBx_len], ?_⟩
      rw [hins]
  · have hk : k ≤ l.length := Nat.le_of_lt (List.getElem?_eq_some_iff.1 he).1
    have hins := insBx_at x l k hk (fun i e hi he => by have := of_decide_eq_false (hz i e hi he); omega) (fun e' he' => by rw [he] at he'; cases he'; have := of_decide_eq_true hp; omega)
    refine X.regionOb ts102 [0, 7, 4] [(0, .slice (some ad) l.length c), (7, .int .i64 (k : Nat)), (4, .pointer (some ⟨b4, 0, none⟩))] (val102Bx l x k ad c) (rows102Bx l x k) (fun _ => (0, 0)) (⟨b5, 0, [.func (.func 106) #[] #[]], some 156, 1⟩ :: ⟨b4, 0, cBx x, some 77, 2⟩ :: H) rfl mixed (by (repeat (first | exact Sub.nil _ | refine Sub.cons rfl ?_)); done) rfl (by kernel_rfl) (loc102Bx l x k ad c) (List.Sublist.refl _) ?_ ?_
    · repeat' (first | exact AllF.done rfl | (refine AllF.step rfl ?_ ?_; · (first | fail | ((first | refine Ob.ng rfl ?_); (first | exact ObK.pure (fun env R hR => by exact ⟨_, EvF.move rfl rfl, rfl⟩) rfl (fun _ => rfl) | exact ObK.pure (fun env R hR => by exact ⟨_, EvF.assign rfl rfl, rfl⟩) rfl (fun _ => rfl) | exact ObK.pure (fun env R hR => by exact ⟨_, EvF.loadV rfl rfl (LoadV.whole (te rfl) rfl (hR _ (List.Mem.tail _ (List.Mem.head _))) rfl), rfl⟩) rfl (fun _ => rfl) | (exact fun env S hS => (OpF.call (EnF.st rfl (by (repeat (first | exact Args.nil | refine Args.cons rfl ?_)); done)) (clone_specBx l ad c _ (hl.sub (fun r hr => hS _ (List.Mem.tail _ (List.Mem.tail _ hr)))) hb)).mono (fun v H' ⟨b, k, hv, hH⟩ => ⟨(b, k), fun _ => hv, by rw [hH]; exact List.Perm.refl _⟩)) | (exact fun env S hS => (StF.buildOne rfl el23 rfl rfl rfl (by decide) (by decide)).op.mono (fun v H' ⟨b, hv, hH⟩ => ⟨(b, 0), fun _ => hv, by rw [hH]; exact List.Perm.refl _⟩)) | (exact fun env S hS => (OpF.call (EnF.st rfl (by (repeat (first | exact Args.nil | refine Args.cons rfl ?_)); done)) (insert_specBx l x k _ _ _ S hk hb)).mono (fun v H' ⟨b, k, hv, hH⟩ => ⟨(b, k), fun _ => hv, by rw [hH]; exact List.Perm.refl _⟩)))))))
    · intro env t ha hv
      refine ⟨[(6, .slice (some ⟨(env 5).1, 0, none⟩) (l.length + 1) (env 5).2)], (ha.sub (Sub.nil _)).cons (hv 6 6 (Nat.le_of_ble_eq_true rfl) rfl), ?_⟩
      show X _ _ _ _ (⟨(env 5).1, 0, (l.take k ++ [x] ++ l.drop k).flatMap cBx, some 77, (env 5).2 * 2⟩ :: ⟨b5, 0, [.func (.func 106) #[] #[]], some 156, 1⟩ :: ⟨b4, 0, cBx x, some 77, 2⟩ :: H) _
      repeat' (first | refine X.ret rfl ?_)
      refine ret_one (by first | exact .inr rfl | exact .inl rfl) Try.results105 rfl (H' := ⟨(env 5).1, 0, (l.take k ++ [x] ++ l.drop k).flatMap cBx, some 77, (env 5).2 * 2⟩ :: H) (by (repeat (first | exact List.Sublist.refl _ | apply List.Sublist.cons_cons | apply List.Sublist.cons)); done) ⟨_, _, by rw [insBx_len], ?_⟩
      rw [hins]
end Go.Proofs.Ytmljpmcipcoaaaa
