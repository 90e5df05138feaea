/- Own work: contracts of functions, from rows of what is known of the memory; contracts of functions, from rows of what is known of the memory; contracts of functions, from rows of what is known of the memory; contracts of functions, from rows of what is known of the memory; contracts of functions, from rows of what is known of the memory; contracts of functions, from rows of what is known of the memory; contracts of functions, from rows of what is known of the memory; contracts of functions, from rows of what is known of the memory; contracts of functions, from rows of what is known of the memory; contracts of functions, from rows of what is known of the memory; contracts of functions, from rows of what is known of the memory; contracts of functions, from rows of what is known of the memory; contract -/
import Derived.Test.YtcjlegjchllgjaaGreatW05
import Derived.Laws.Entries
section
set_option linter.unusedVariables false
set_option linter.unusedSimpArgs false
namespace Go.Proofs.YtcjlegjchllgjaaGreat
open Go Go.Fw
set_option maxRecDepth 10000
theorem elOu : ElT Tryz.prog 178 114 3 24 := ⟨Tryz.underlying178, Tryz.t114, .agg #[.int .i64 0, .int .i64 0, .int .i64 0], by kernel_rfl, by kernel_rfl, by kernel_rfl, by kernel_rfl, rfl⟩
theorem lenOu (l : List Out) : (l.flatMap cOut).length = l.length * 3 := flat_len (fun _ _ => rfl)
/-- an offer of a bale of which the grades and the staple are known -/
def cGm (T : Tm) (p : Pt) (gs : Sp) (s : Int) : List Value := cTm T p ++ (cSp gs ++ [.int .i64 s])
def outs (T : Tm) (sd s : Int) (gs : Sp) (ask : Bool) : List Out := (ir gs.lo gs.hi).map (fun g => stl T ⟨sd, s⟩ ⟨g, s⟩ ask)
def tsOa : List TOp := [⟨some 19, [], [], []⟩, ⟨some 20, [], [], []⟩, ⟨some 21, [1], [1], []⟩, ⟨some 22, [], [], []⟩, ⟨some 23, [], [], []⟩, ⟨some 24, [4], [4], []⟩, ⟨some 25, [3, 4, 5], [3, 5], []⟩, ⟨some 26, [], [], []⟩, ⟨some 27, [], [], []⟩, ⟨some 28, [8], [8], []⟩, ⟨some 29, [3, 4, 5, 6, 7, 8, 9], [7, 9], []⟩, ⟨some 30, [], [], []⟩, ⟨some 31, [1, 2, 3, 4, 5, 6, 7, 8, 9, 10, 11], [2, 6, 10, 11], []⟩, ⟨some 32, [1, 2, 3, 4, 5, 6, 7, 8, 9, 10, 11, 12], [12], []⟩, ⟨some 33, [0, 1, 2, 3, 4, 5, 6, 7, 8, 9, 10, 11, 12, 13], [0, 13], []⟩, ⟨some 7, [0, 1, 2, 3, 4, 5, 6, 7, 8, 9, 10, 11, 12, 13, 14], [14], []⟩]
def valOa (b3 : Nat) (T : Tm) (p : Pt) (sd s g : Int) (ask : Bool) (x : Out) (k : Nat) (env : Env) : Value :=
  match k with
  | 0 => .slice none 0 0
  | 1 => .pointer (some ⟨b3, 0, none⟩)
  | 2 => .agg (cTm T p).toArray
  | 3 => .int .i64 sd
  | 4 => .pointer (some ⟨b3, 13, none⟩)
  | 5 => .int .i64 s
  | 6 => .agg (cCl ⟨sd, s⟩).toArray
  | 7 => .int .i64 g
  | 8 => .pointer (some ⟨b3, 13, none⟩)
  | 9 => .int .i64 s
  | 10 => .agg (cCl ⟨g, s⟩).toArray
  | 11 => .bool ask
  | 12 => .agg (cOut x).toArray
  | 13 => .slice (some ⟨(env 13).1, 0, none⟩) 1 1
  | 14 => .slice (some ⟨(env 14).1, 0, none⟩) 1 (env 14).2
  | 15 => .slice (some ⟨(env 14).1, 0, none⟩) 1 (env 14).2
  | _ => undef
def rowsOa (b3 : Nat) (T : Tm) (p : Pt) (sd s g : Int) (ask : Bool) (x : Out) (k : Nat) (env : Env) : List Row :=
  match k with
  | 13 => [⟨(env 13).1, 0, cOut x, some 114, 1 * 3⟩]
  | 14 => [⟨(env 14).1, 0, cOut x, some 114, (env 14).2 * 3⟩]
  | _ => []
theorem locOa (b3 : Nat) (T : Tm) (p : Pt) (sd s g : Int) (ask : Bool) (x : Out) : ∀ k env i q9, i ≠ k → (tAt tsOa k).sup.contains i = false → valOa b3 T p sd s g ask x k (upd env i q9) = valOa b3 T p sd s g ask x k env ∧ rowsOa b3 T p sd s g ask x k (upd env i q9) = rowsOa b3 T p sd s g ask x k env := by
  intro k env i q hk hs
  have hu : ∀ j, j ≠ i → upd env i q j = env j := fun j hj => by unfold upd; rw [if_neg hj]
  match k, hk, hs with
  | 0, _, _ => exact ⟨rfl, rfl⟩
  | 1, _, _ => exact ⟨rfl, rfl⟩
  | 2, _, _ => exact ⟨rfl, rfl⟩
  | 3, _, _ => exact ⟨rfl, rfl⟩
  | 4, _, _ => exact ⟨rfl, rfl⟩
  | 5, _, _ => exact ⟨rfl, rfl⟩
  | 6, _, _ => exact ⟨rfl, rfl⟩
  | 7, _, _ => exact ⟨rfl, rfl⟩
  | 8, _, _ => exact ⟨rfl, rfl⟩
  | 9, _, _ => exact ⟨rfl, rfl⟩
  | 10, _, _ => exact ⟨rfl, rfl⟩
  | 11, _, _ => exact ⟨rfl, rfl⟩
  | 12, _, _ => exact ⟨rfl, rfl⟩
  | 13, hk, hs => exact ⟨by simp only [valOa, hu 13 (fun e => hk e.symm)], by simp only [rowsOa, hu 13 (fun e => hk e.symm)]⟩
  | 14, hk, hs => exact ⟨by simp only [valOa, hu 14 (fun e => hk e.symm)], by simp only [rowsOa, hu 14 (fun e => hk e.symm)]⟩
  | 15, hk, hs => exact ⟨by simp only [valOa, hu 14 (by rintro rfl; cases hs)], by simp only [rowsOa, hu 14 (by rintro rfl; cases hs)]⟩
  | _ + 16, _, _ => exact ⟨rfl, rfl⟩
def rdOa (k : Nat) : List Nat := match k with
  | 14 => [13]
  | _ => []
def tsOb5 : List TOp := [⟨some 19, [], [], []⟩, ⟨some 20, [], [], []⟩, ⟨some 21, [1], [1], []⟩, ⟨some 22, [], [], []⟩, ⟨some 23, [], [], []⟩, ⟨some 24, [4], [4], []⟩, ⟨some 25, [3, 4, 5], [3, 5], []⟩, ⟨some 26, [], [], []⟩, ⟨some 27, [], [], []⟩, ⟨some 28, [8], [8], []⟩, ⟨some 29, [3, 4, 5, 6, 7, 8, 9], [7, 9], []⟩, ⟨some 30, [], [], []⟩, ⟨some 31, [1, 2, 3, 4, 5, 6, 7, 8, 9, 10, 11], [2, 6, 10, 11], []⟩, ⟨some 32, [1, 2, 3, 4, 5, 6, 7, 8, 9, 10, 11, 12], [12], []⟩, ⟨some 33, [0, 1, 2, 3, 4, 5, 6, 7, 8, 9, 10, 11, 12, 13], [0, 13], [16]⟩, ⟨some 7, [0, 1, 2, 3, 4, 5, 6, 7, 8, 9, 10, 11, 12, 13, 14], [14], []⟩, ⟨none, [], [], []⟩]
def valOb5 (b3 bo qo kk : Nat) (ol : List Value) (T : Tm) (p : Pt) (sd s g : Int) (ask : Bool) (x : Out) (k : Nat) (env : Env) : Value :=
  match k with
  | 0 => .slice (some ⟨bo, 0, none⟩) kk qo
  | 1 => .pointer (some ⟨b3, 0, none⟩)
  | 2 => .agg (cTm T p).toArray
  | 3 => .int .i64 sd
  | 4 => .pointer (some ⟨b3, 13, none⟩)
  | 5 => .int .i64 s
  | 6 => .agg (cCl ⟨sd, s⟩).toArray
  | 7 => .int .i64 g
  | 8 => .pointer (some ⟨b3, 13, none⟩)
  | 9 => .int .i64 s
  | 10 => .agg (cCl ⟨g, s⟩).toArray
  | 11 => .bool ask
  | 12 => .agg (cOut x).toArray
  | 13 => .slice (some ⟨(env 13).1, 0, none⟩) 1 1
  | 14 => .slice (some ⟨(env 14).1, 0, none⟩) (kk + 1) (env 14).2
  | 15 => .slice (some ⟨(env 14).1, 0, none⟩) (kk + 1) (env 14).2
  | _ => undef
def rowsOb5 (b3 bo qo kk : Nat) (ol : List Value) (T : Tm) (p : Pt) (sd s g : Int) (ask : Bool) (x : Out) (k : Nat) (env : Env) : List Row :=
  match k with
  | 13 => [⟨(env 13).1, 0, cOut x, some 114, 1 * 3⟩]
  | 14 => [⟨(env 14).1, 0, ol ++ cOut x, some 114, (env 14).2 * 3⟩]
  | 16 => [⟨bo, 0, ol, some 114, qo * 3⟩]
  | _ => []
theorem locOb5 (b3 bo qo kk : Nat) (ol : List Value) (T : Tm) (p : Pt) (sd s g : Int) (ask : Bool) (x : Out) : ∀ k env i q9, i ≠ k → (tAt tsOb5 k).sup.contains i = false → valOb5 b3 bo qo kk ol T p sd s g ask x k (upd env i q9) = valOb5 b3 bo qo kk ol T p sd s g ask x k env ∧ rowsOb5 b3 bo qo kk ol T p sd s g ask x k (upd env i q9) = rowsOb5 b3 bo qo kk ol T p sd s g ask x k env := by
  intro k env i q hk hs
  have hu : ∀ j, j ≠ i → upd env i q j = env j := fun j hj => by unfold upd; rw [if_neg hj]
  match k, hk, hs with
  | 0, _, _ => exact ⟨rfl, rfl⟩
  | 1, _, _ => exact ⟨rfl, rfl⟩
  | 2, _, _ => exact ⟨rfl, rfl⟩
  | 3, _, _ => exact ⟨rfl, rfl⟩
  | 4, _, _ => exact ⟨rfl, rfl⟩
  | 5, _, _ => exact ⟨rfl, rfl⟩
  | 6, _, _ => exact ⟨rfl, rfl⟩
  | 7, _, _ => exact ⟨rfl, rfl⟩
  | 8, _, _ => exact ⟨rfl, rfl⟩
  | 9, _, _ => exact ⟨rfl, rfl⟩
  | 10, _, _ => exact ⟨rfl, rfl⟩
  | 11, _, _ => exact ⟨rfl, rfl⟩
  | 12, _, _ => exact ⟨rfl, rfl⟩
  | 13, hk, hs => exact ⟨by simp only [valOb5, hu 13 (fun e => hk e.symm)], by simp only [rowsOb5, hu 13 (fun e => hk e.symm)]⟩
  | 14, hk, hs => exact ⟨by simp only [valOb5, hu 14 (fun e => hk e.symm)], by simp only [rowsOb5, hu 14 (fun e => hk e.symm)]⟩
  | 15, hk, hs => exact ⟨by simp only [valOb5, hu 14 (by rintro rfl; cases hs)], by simp only [rowsOb5, hu 14 (by rintro rfl; cases hs)]⟩
  | 16, _, _ => exact ⟨rfl, rfl⟩
  | _ + 17, _, _ => exact ⟨rfl, rfl⟩
def rdOb5 (k : Nat) : List Nat := match k with
  | 14 => [13]
  | _ => []
set_option maxHeartbeats 16000000 in
theorem outcomes_spec (T : Tm) (p : Pt) (sd s : Int) (gs : Sp) (ask : Bool) (H : List Row) (hT : TmOk H T p) (hok : tmOk T) (h1 : 1 ≤ sd ∧ sd ≤ 9) (h2 : 1 ≤ s ∧ s ≤ 9) (h3 : (1 ≤ gs.lo ∧ gs.lo ≤ gs.hi) ∧ gs.hi ≤ 9) :
    Fc Tryz.prog 128 [.agg (cGm T p gs s).toArray, .int .i64 sd, .bool ask] H (fun v H' => ∃ b q, v = .slice (some ⟨b, 0, none⟩) (outs T sd s gs ask).length q ∧ H' = ⟨b, 0, (outs T sd s gs ask).flatMap cOut, some 114, q * 3⟩ :: H) := by
  refine Fc.mk (callable Tryz.call128) Tryz.func128 rfl Tryz.ntmps128 rfl ?_; dsimp only [fr]
  repeat' (first | (refine XO.op rfl ?_; (first | ((first | refine Xo.ng rfl ?_); (first | (refine Xg.ev (EvF.assign rfl rfl) rfl rfl ?_) | (refine Xg.ev (EvF.fieldAddr rfl rfl (te rfl) rfl (te rfl) (by decide)) rfl rfl ?_) | (refine Xg.ev (EvF.loadV rfl rfl (LoadV.own (te rfl) rfl (List.Mem.head _) rfl)) rfl rfl ?_) | (refine Xg.st (StF.boxAgg rfl rfl) rfl rfl ?_; rintro _ _ ⟨bx, rfl, rfl⟩))))) | (refine XO.done rfl ?_; refine hK _ _ ?_; clear hK K) | refine X.seq rfl ?_ | refine X.region rfl (fun K hK => ?_) | refine X.block rfl ?_)
  obtain ⟨b3, hb3⟩ : ∃ b, b = bx := ⟨_, rfl⟩
  rw [← hb3]
  clear hb3
  refine X.lp rfl (fun w F' H' => ∃ (k : Nat) (out : Value) (Z : List Row), w = (gs.hi - gs.lo + 1).toNat - k ∧ k ≤ (gs.hi - gs.lo + 1).toNat ∧ ((k = 0 ∧ out = .slice none 0 0 ∧ Z = []) ∨ ∃ b q, out = .slice (some ⟨b, 0, none⟩) k q ∧ Z = [⟨b, 0, (((ir gs.lo gs.hi).take k).map (fun g => stl T ⟨sd, s⟩ ⟨g, s⟩ ask)).flatMap cOut, some 114, q * 3⟩]) ∧ H' = Z ++ (⟨b3, 0, cGm T p gs s, some 119, 14⟩ :: H) ∧
      F' = [(1, .int .i64 sd), (2, .bool ask), (3, .pointer (some ⟨b3, 0, none⟩)), (7, out), (8, .int .i64 (gs.lo + k))])
    _ [(1, .int .i64 sd), (2, .bool ask), (3, .pointer (some ⟨b3, 0, none⟩)), (7, .slice none 0 0), (8, .int .i64 (gs.lo + (0 : Nat)))] _ (by rw [show gs.lo + ((0 : Nat) : Int) = gs.lo by omega]; exact (by (repeat (first | exact Sub.nil _ | refine Sub.cons rfl ?_)); done)) (List.Sublist.refl _) ⟨0, _, [], rfl, by omega, .inl ⟨rfl, rfl, rfl⟩, rfl, rfl⟩ ?_
  rintro _ _ _ ⟨k, out, Z, rfl, hk, ⟨rfl, rfl, rfl⟩ | ⟨bo, qo, rfl, rfl⟩, rfl, rfl⟩
  · dsimp only [List.nil_append]
    have hi1 : in9 ⟨sd, s⟩ := ⟨h1, h2⟩
    have hi2 : in9 ⟨gs.lo, s⟩ := ⟨by dsimp only; omega, h2⟩
    have hs : ∀ (Y : List Row), (∀ r ∈ ⟨b3, 0, cGm T p gs s, some 119, 14⟩ :: H, r ∈ Y) → TmOk Y T p := fun S hS => hT.sub (fun r hr => hS r (List.Mem.tail _ hr))
    rw [show gs.lo + ((0 : Nat) : Int) = gs.lo by omega]
    repeat' (first | (refine XO.op rfl ?_; (first | ((first | refine Xo.ng rfl ?_); (first | (refine Xg.ev (EvF.move rfl rfl) rfl rfl ?_) | (refine Xg.ev (EvF.assign rfl rfl) rfl rfl ?_) | (refine Xg.ev (EvF.cmp rfl rfl rfl rfl) rfl rfl ?_) | (refine Xg.ev (EvF.fieldAddr rfl rfl (te rfl) rfl (te rfl) (by decide)) rfl rfl ?_) | (refine Xg.ev (EvF.loadV rfl rfl (LoadV.own (te rfl) rfl (List.Mem.head _) rfl)) rfl rfl ?_))))) | (refine XO.done rfl ?_; refine hK _ _ ?_; clear hK K) | refine X.seq rfl ?_ | refine X.region rfl (fun K hK => ?_) | refine X.block rfl ?_ | (refine X.brk rfl ?_; repeat (first | refine blockX_hit rfl ?_ | refine blockX_miss (by decide) ?_)) | refine X.skip rfl ?_ | refine X.ret rfl ?_ | (refine X.ite rfl rfl (fun hc => ?_); (first | (with_reducible refine Xb.case hc (fun h => ?_) (fun h => ?_))) <;> clear hc))
    · refine X.regionRe [] tsOa rdOa [1, 2, 3, 8] [(1, .int .i64 sd), (2, .bool ask), (3, .pointer (some ⟨b3, 0, none⟩)), (8, .int .i64 gs.lo)] (valOa b3 T p sd s gs.lo ask (stl T ⟨sd, s⟩ ⟨gs.lo, s⟩ ask)) (rowsOa b3 T p sd s gs.lo ask (stl T ⟨sd, s⟩ ⟨gs.lo, s⟩ ask)) (fun _ => (0, 0)) (⟨b3, 0, cGm T p gs s, some 119, 14⟩ :: H) rfl mixed (by (repeat (first | exact Sub.nil _ | refine Sub.cons rfl ?_)); done) rfl (by kernel_rfl) (by kernel_rfl) (locOa b3 T p sd s gs.lo ask (stl T ⟨sd, s⟩ ⟨gs.lo, s⟩ ask)) (fun i d hi => by cases hi) (List.Sublist.refl _) 15 (.slice none 0 0) rfl (Nat.le_of_ble_eq_true rfl) rfl ?_ ?_
      · repeat' (first | exact AllF.done rfl | (refine AllF.step rfl ?_ ?_; · (first | exact (Ob.ng rfl (ObK.pure (fun env R hR => by exact ⟨_, EvF.move rfl rfl, rfl⟩) rfl (fun _ => rfl))).toR | exact (Ob.ng rfl (ObK.pure (fun env R hR => by exact ⟨_, EvF.assign rfl rfl, rfl⟩) rfl (fun _ => rfl))).toR | exact (Ob.ng rfl (ObK.pure (fun env R hR => by exact ⟨_, EvF.fieldAddr rfl rfl (te rfl) rfl (te rfl) (by decide), rfl⟩) rfl (fun _ => rfl))).toR | exact (Ob.ng rfl (ObK.pure (fun env R hR => by exact ⟨_, EvF.loadV rfl rfl (LoadV.own (te rfl) rfl (hR _ (List.Mem.head _)) rfl), rfl⟩) rfl (fun _ => rfl))).toR | exact (Ob.ng rfl (ObK.pure (fun env R hR => by exact ⟨_, EvF.loadV rfl rfl (LoadV.ownAgg (te rfl) rfl (hR _ (List.Mem.head _)) rfl rfl), rfl⟩) rfl (fun _ => rfl))).toR | (refine ObR.ng rfl ?_; (first | (exact fun env S hS hrd => OpF.callV (Z := []) (EnF.st rfl (Args.cons rfl (Args.cons rfl Args.nil))) (class_spec sd s _) rfl rfl) | (exact fun env S hS hrd => OpF.callV (Z := []) (EnF.st rfl (Args.cons rfl (Args.cons rfl Args.nil))) (class_spec gs.lo s _) rfl rfl) | (exact fun env S hS hrd => OpF.callV (Z := []) (EnF.st rfl (Args.cons rfl (Args.cons rfl (Args.cons rfl (Args.cons rfl Args.nil))))) (settle_spec T p ⟨sd, s⟩ ⟨gs.lo, s⟩ ask _ (hs S hS) hok hi1 hi2) rfl rfl) | (exact fun env S hS hrd => (StF.buildOne rfl elOu rfl rfl rfl (by decide) (by decide)).op.mono (fun v H' ⟨b, hv, hH⟩ => ⟨(b, 0), fun _ => hv, by rw [hH]; exact List.Perm.refl _⟩)) | (exact fun env S hS hrd => (StF.appendNew rfl elOu rfl rfl (by decide) rfl (Rd.own (hrd 13 (List.Mem.head _) _ (List.Mem.head _))) (by decide)).op.mono (fun v H' ⟨b, c, hv, hH⟩ => ⟨(b, c), fun _ => hv, by rw [hH]; exact List.Perm.refl _⟩)))))))
      intro env t ha hv
      refine ⟨_, ha.cons (hv 15 7 (Nat.le_of_ble_eq_true rfl) rfl), ?_⟩
      clear hv ha
      show X _ _ _ ((7, .slice (some ⟨(env 14).1, 0, none⟩) 1 (env 14).2) :: _) (⟨(env 13).1, 0, cOut (stl T ⟨sd, s⟩ ⟨gs.lo, s⟩ ask), some 114, 1 * 3⟩ :: ⟨(env 14).1, 0, cOut (stl T ⟨sd, s⟩ ⟨gs.lo, s⟩ ask), some 114, (env 14).2 * 3⟩ :: ⟨b3, 0, cGm T p gs s, some 119, 14⟩ :: H) _
      repeat' (first | (refine XO.op rfl ?_; (first | ((first | refine Xo.ng rfl ?_); (first | (refine Xg.ev (EvF.move rfl rfl) rfl rfl ?_) | (refine Xg.ev (EvF.assign rfl rfl) rfl rfl ?_) | (refine Xg.ev (EvF.add64 rfl rfl rfl (by omega) (by omega)) rfl rfl ?_))))) | (refine XO.done rfl ?_; refine hK _ _ ?_; clear hK K) | refine X.region rfl (fun K hK => ?_))
      have he := ir_get (a := gs.lo) (b := gs.hi) (k := 0) (by omega)
      refine ⟨_, [(1, .int .i64 sd), (2, .bool ask), (3, .pointer (some ⟨b3, 0, none⟩)), (7, .slice (some ⟨(env 14).1, 0, none⟩) (0 + 1) (env 14).2), (8, .int .i64 (gs.lo + (0 + 1 : Nat)))], ⟨(env 14).1, 0, cOut (stl T ⟨sd, s⟩ ⟨gs.lo, s⟩ ask), some 114, (env 14).2 * 3⟩ :: ⟨b3, 0, cGm T p gs s, some 119, 14⟩ :: H, (by rw [show gs.lo + ((0 + 1 : Nat) : Int) = gs.lo + 1 by omega]; exact (by (repeat (first | exact Sub.nil _ | refine Sub.cons rfl ?_)); done)), (by (repeat (first | exact List.Sublist.refl _ | apply List.Sublist.cons_cons | apply List.Sublist.cons)); done), ⟨0 + 1, _, [⟨(env 14).1, 0, cOut (stl T ⟨sd, s⟩ ⟨gs.lo, s⟩ ask), some 114, (env 14).2 * 3⟩], rfl, by omega, .inr ⟨_, _, rfl, ?_⟩, rfl, rfl⟩, by omega⟩
      rw [take_snoc he, show gs.lo + ((0 : Nat) : Int) = gs.lo by omega]; rfl
    · exfalso; omega
  · dsimp only [List.cons_append, List.nil_append]
    repeat' (first | (refine XO.op rfl ?_; (first | ((first | refine Xo.ng rfl ?_); (first | (refine Xg.ev (EvF.move rfl rfl) rfl rfl ?_) | (refine Xg.ev (EvF.assign rfl rfl) rfl rfl ?_) | (refine Xg.ev (EvF.cmp rfl rfl rfl rfl) rfl rfl ?_) | (refine Xg.ev (EvF.fieldAddr rfl rfl (te rfl) rfl (te rfl) (by decide)) rfl rfl ?_) | (refine Xg.ev (EvF.loadV rfl rfl (LoadV.own (te rfl) rfl (List.Mem.tail _ (List.Mem.head _)) rfl)) rfl rfl ?_))))) | (refine XO.done rfl ?_; refine hK _ _ ?_; clear hK K) | refine X.seq rfl ?_ | refine X.region rfl (fun K hK => ?_) | refine X.block rfl ?_ | (refine X.brk rfl ?_; repeat (first | refine blockX_hit rfl ?_ | refine blockX_miss (by decide) ?_)) | refine X.skip rfl ?_ | refine X.ret rfl ?_ | (refine X.ite rfl rfl (fun hc => ?_); (first | (with_reducible refine Xb.case hc (fun h => ?_) (fun h => ?_))) <;> clear hc))
    · have hk1 : (k : Int) < gs.hi - gs.lo + 1 := by omega
      have he := ir_get hk1
      have hi1 : in9 ⟨sd, s⟩ := ⟨h1, h2⟩
      have hi2 : in9 ⟨gs.lo + k, s⟩ := ⟨by dsimp only; omega, h2⟩
      have hs : ∀ (Y : List Row), (∀ r ∈ ⟨b3, 0, cGm T p gs s, some 119, 14⟩ :: H, r ∈ Y) → TmOk Y T p := fun S hS => hT.sub (fun r hr => hS r (List.Mem.tail _ hr))
      have hlen : ((((ir gs.lo gs.hi).take k).map (fun g => stl T ⟨sd, s⟩ ⟨g, s⟩ ask)).flatMap cOut).length = k * 3 := by rw [lenOu, List.length_map, List.length_take, ir_len]; omega
      obtain ⟨ol, hol⟩ : ∃ ol, (((ir gs.lo gs.hi).take k).map (fun g => stl T ⟨sd, s⟩ ⟨g, s⟩ ask)).flatMap cOut = ol := ⟨_, rfl⟩
      rw [hol] at hlen ⊢
      refine X.regionRe [] tsOb5 rdOb5 [1, 2, 3, 8] [(1, .int .i64 sd), (2, .bool ask), (3, .pointer (some ⟨b3, 0, none⟩)), (8, .int .i64 (gs.lo + k))] (valOb5 b3 bo qo k ol T p sd s (gs.lo + k) ask (stl T ⟨sd, s⟩ ⟨gs.lo + k, s⟩ ask)) (rowsOb5 b3 bo qo k ol T p sd s (gs.lo + k) ask (stl T ⟨sd, s⟩ ⟨gs.lo + k, s⟩ ask)) (fun _ => (0, 0)) (⟨b3, 0, cGm T p gs s, some 119, 14⟩ :: H) rfl mixed (by (repeat (first | exact Sub.nil _ | refine Sub.cons rfl ?_)); done) rfl (by kernel_rfl) (by kernel_rfl) (locOb5 b3 bo qo k ol T p sd s (gs.lo + k) ask (stl T ⟨sd, s⟩ ⟨gs.lo + k, s⟩ ask)) (fun i d hi => by cases hi) (List.Sublist.refl _) 15 (.slice (some ⟨bo, 0, none⟩) k qo) rfl (Nat.le_of_ble_eq_true rfl) rfl ?_ ?_
      · repeat' (first | exact AllF.done rfl | (refine AllF.step rfl ?_ ?_; · (first | exact (Ob.ng rfl (ObK.pure (fun env R hR => by exact ⟨_, EvF.move rfl rfl, rfl⟩) rfl (fun _ => rfl))).toR | exact (Ob.ng rfl (ObK.pure (fun env R hR => by exact ⟨_, EvF.assign rfl rfl, rfl⟩) rfl (fun _ => rfl))).toR | exact (Ob.ng rfl (ObK.pure (fun env R hR => by exact ⟨_, EvF.fieldAddr rfl rfl (te rfl) rfl (te rfl) (by decide), rfl⟩) rfl (fun _ => rfl))).toR | exact (Ob.ng rfl (ObK.pure (fun env R hR => by exact ⟨_, EvF.loadV rfl rfl (LoadV.own (te rfl) rfl (hR _ (List.Mem.head _)) rfl), rfl⟩) rfl (fun _ => rfl))).toR | exact (Ob.ng rfl (ObK.pure (fun env R hR => by exact ⟨_, EvF.loadV rfl rfl (LoadV.ownAgg (te rfl) rfl (hR _ (List.Mem.head _)) rfl rfl), rfl⟩) rfl (fun _ => rfl))).toR | (refine ObR.ng rfl ?_; (first | (exact fun env S hS hrd => OpF.callV (Z := []) (EnF.st rfl (Args.cons rfl (Args.cons rfl Args.nil))) (class_spec sd s _) rfl rfl) | (exact fun env S hS hrd => OpF.callV (Z := []) (EnF.st rfl (Args.cons rfl (Args.cons rfl Args.nil))) (class_spec (gs.lo + k) s _) rfl rfl) | (exact fun env S hS hrd => OpF.callV (Z := []) (EnF.st rfl (Args.cons rfl (Args.cons rfl (Args.cons rfl (Args.cons rfl Args.nil))))) (settle_spec T p ⟨sd, s⟩ ⟨gs.lo + k, s⟩ ask _ (hs S hS) hok hi1 hi2) rfl rfl) | (exact fun env S hS hrd => (StF.buildOne rfl elOu rfl rfl rfl (by decide) (by decide)).op.mono (fun v H' ⟨b, hv, hH⟩ => ⟨(b, 0), fun _ => hv, by rw [hH]; exact List.Perm.refl _⟩)) | (exact fun env S hS hrd => (StF.appendOwn (i := 0) rfl elOu rfl rfl rfl hlen rfl (Rd.own (List.Mem.tail _ (hrd 13 (List.Mem.head _) _ (List.Mem.head _)))) rfl (by omega)).op.mono (fun v H' ⟨b, c, hv, hH⟩ => ⟨(b, c), fun _ => hv, by rw [hH]; exact List.Perm.refl _⟩)))))))
      intro env t ha hv
      refine ⟨_, ha.cons (hv 15 7 (Nat.le_of_ble_eq_true rfl) rfl), ?_⟩
      clear hv ha
      show X _ _ _ ((7, .slice (some ⟨(env 14).1, 0, none⟩) (k + 1) (env 14).2) :: _) (⟨(env 13).1, 0, cOut (stl T ⟨sd, s⟩ ⟨gs.lo + k, s⟩ ask), some 114, 1 * 3⟩ :: ⟨(env 14).1, 0, ol ++ cOut (stl T ⟨sd, s⟩ ⟨gs.lo + k, s⟩ ask), some 114, (env 14).2 * 3⟩ :: ⟨b3, 0, cGm T p gs s, some 119, 14⟩ :: H) _
      repeat' (first | (refine XO.op rfl ?_; (first | ((first | refine Xo.ng rfl ?_); (first | (refine Xg.ev (EvF.move rfl rfl) rfl rfl ?_) | (refine Xg.ev (EvF.assign rfl rfl) rfl rfl ?_) | (refine Xg.ev (EvF.add64 rfl rfl rfl (by omega) (by omega)) rfl rfl ?_))))) | (refine XO.done rfl ?_; refine hK _ _ ?_; clear hK K) | refine X.region rfl (fun K hK => ?_))
      refine ⟨_, [(1, .int .i64 sd), (2, .bool ask), (3, .pointer (some ⟨b3, 0, none⟩)), (7, .slice (some ⟨(env 14).1, 0, none⟩) (k + 1) (env 14).2), (8, .int .i64 (gs.lo + (k + 1 : Nat)))], ⟨(env 14).1, 0, ol ++ cOut (stl T ⟨sd, s⟩ ⟨gs.lo + k, s⟩ ask), some 114, (env 14).2 * 3⟩ :: ⟨b3, 0, cGm T p gs s, some 119, 14⟩ :: H, (by rw [show gs.lo + ((k + 1 : Nat) : Int) = gs.lo + k + 1 by omega]; exact (by (repeat (first | exact Sub.nil _ | refine Sub.cons rfl ?_)); done)), (by (repeat (first | exact List.Sublist.refl _ | apply List.Sublist.cons_cons | apply List.Sublist.cons)); done), ⟨k + 1, _, [⟨(env 14).1, 0, ol ++ cOut (stl T ⟨sd, s⟩ ⟨gs.lo + k, s⟩ ask), some 114, (env 14).2 * 3⟩], rfl, by omega, .inr ⟨_, _, rfl, ?_⟩, rfl, rfl⟩, by omega⟩
      rw [take_snoc he, List.map_append, List.flatMap_append, hol]; rfl
    · obtain rfl : k = (gs.hi - gs.lo + 1).toNat := by omega
      rw [List.take_of_length_le (by rw [ir_len]; omega)]
      have hlo : (outs T sd s gs ask).length = (gs.hi - gs.lo + 1).toNat := by unfold outs; rw [List.length_map, ir_len]
      exact ret_one (by first | exact .inr rfl | exact .inl rfl) Tryz.results128 rfl (H' := ⟨bo, 0, (outs T sd s gs ask).flatMap cOut, some 114, qo * 3⟩ :: H) (by (repeat (first | exact List.Sublist.refl _ | apply List.Sublist.cons_cons | apply List.Sublist.cons)); done) ⟨bo, qo, by rw [hlo], rfl⟩
end Go.Proofs.YtcjlegjchllgjaaGreat
end
section
set_option linter.unusedVariables false
set_option linter.unusedSimpArgs false
namespace Go.Proofs.YtcjlegjchllgjaaGreat
open Go Go.Fw
set_option maxRecDepth 10000
theorem outs_len (T : Tm) (sd s : Int) (gs : Sp) (ask : Bool) : (outs T sd s gs ask).length = (gs.hi - gs.lo + 1).toNat := by unfold outs; rw [List.length_map, ir_len]
theorem outs_bd {T : Tm} (hok : tmOk T) {sd s : Int} {gs : Sp} {ask : Bool} : ∀ o ∈ outs T sd s gs ask, (-3000 ≤ o.gets ∧ o.gets ≤ 1003000) ∧ (-3000 ≤ o.pays ∧ o.pays ≤ 1003000) ∧ (-3000 ≤ o.has ∧ o.has ≤ 1003000) := fun o ho => by
  obtain ⟨g, _, rfl⟩ := List.mem_map.1 ho
  exact stl_bd hok _ _ _
theorem outs_los (T : Tm) (sd s : Int) (gs : Sp) (ask : Bool) : maxL ((outs T sd s gs ask).map (fun o => o.pays - o.has)) = lsL T sd s gs ask := by
  unfold outs lsL
  rw [List.map_map]; rfl
set_option maxHeartbeats 4000000 in
theorem loses1_spec (T : Tm) (p : Pt) (sd s : Int) (gs : Sp) (ask : Bool) (b1 b2 c1 c2 : Nat) (o1 o2 : Option Kd) (H : List Row) (hm1 : ⟨b1, 0, cGm T p gs s, o1, c1⟩ ∈ H) (hm2 : ⟨b2, 0, [.bool ask], o2, c2⟩ ∈ H) (hT : TmOk H T p) (hok : tmOk T) (h1 : 1 ≤ sd ∧ sd ≤ 9) (h2 : 1 ≤ s ∧ s ≤ 9) (h3 : (1 ≤ gs.lo ∧ gs.lo ≤ gs.hi) ∧ gs.hi ≤ 9) :
    Fc Tryz.prog 126 [.int .i64 sd, .pointer (some ⟨b1, 0, none⟩), .pointer (some ⟨b2, 0, none⟩)] H (fun v H' => v = .int .i64 (lsL T sd s gs ask) ∧ H' = H) := by
  have hb := outs_bd hok (sd := sd) (s := s) (gs := gs) (ask := ask)
  have hl := outs_len T sd s gs ask
  have hl0 : ((outs T sd s gs ask).map (fun o => o.pays - o.has)).length = (outs T sd s gs ask).length := List.length_map ..
  rw [← outs_los]
  have hmx := fun a c H h => maxI_spec ((outs T sd s gs ask).map (fun o => o.pays - o.has)) a c H h (by rw [hl0, hl]; omega) (by rw [hl0, hl]; omega)
  rw [hl0] at hmx
  refine Fc.mk (callable Tryz.call126) Tryz.func126 rfl Tryz.ntmps126 rfl ?_; dsimp only [fr]
  repeat' (first | (refine XO.op rfl ?_; (first | ((first | refine Xo.ng rfl ?_); (first | (refine Xg.ev (EvF.loadV rfl rfl (LoadV.whole (te rfl) rfl hm1 rfl)) rfl rfl ?_) | (refine Xg.ev (EvF.loadV rfl rfl (LoadV.own (te rfl) rfl hm2 rfl)) rfl rfl ?_) | (refine Xg.call (EnF.st rfl (Args.cons rfl (Args.cons rfl (Args.cons rfl Args.nil)))) rfl rfl (outcomes_spec T p sd s gs ask _ hT hok h1 h2 h3) ?_; rintro _ _ ⟨bo, qo, rfl, rfl⟩) | (refine Xg.call (EnF.st rfl (Args.cons rfl (Args.cons rfl Args.nil))) rfl rfl (numbersOut_spec 129 [] [] (fun o => o.pays - o.has) (outs T sd s gs ask) _ _ _ (SlE.ofRow (List.Mem.head _) (fun _ _ => rfl)) (by rw [hl]; omega) (by rw [hl]; omega) (fun e he Z => lost_spec e _ (by have := hb e he; omega) (by have := hb e he; omega))) ?_; rintro _ _ ⟨bn, qn, rfl, rfl⟩) | (refine Xg.call (EnF.st rfl (Args.cons rfl Args.nil)) rfl rfl (hmx _ _ _ (SlE.ofRow (List.Mem.head _) (fun _ _ => rfl))) ?_; rintro _ H9 ⟨rfl, hH9⟩; subst H9) | (refine Xg.ev (EvF.move rfl rfl) rfl rfl ?_) | (refine Xg.ev (EvF.assign rfl rfl) rfl rfl ?_))))) | (refine XO.done rfl ?_; refine hK _ _ ?_; clear hK K) | refine X.seq rfl ?_ | refine X.region rfl (fun K hK => ?_) | refine X.ret rfl ?_)
  exact ret_one (by first | exact .inr rfl | exact .inl rfl) Tryz.results126 rfl (H' := H) (by (repeat (first | exact List.Sublist.refl _ | apply List.Sublist.cons)); done) ⟨rfl, rfl⟩
theorem loses_spec (T : Tm) (p : Pt) (s : Int) (gs : Sp) (ask : Bool) (H : List Row) :
    Fc Tryz.prog 95 [.agg (cGm T p gs s).toArray, .bool ask] H (fun v H' => ∃ b1 b2, v = .func (.func 126) #[] #[.pointer (some ⟨b1, 0, none⟩), .pointer (some ⟨b2, 0, none⟩)] ∧ H' = ⟨b2, 0, [.bool ask], some 4, 1⟩ :: ⟨b1, 0, cGm T p gs s, some 119, 14⟩ :: H) := by
  refine Fc.mk (callable Tryz.call95) Tryz.func95 rfl Tryz.ntmps95 rfl ?_; dsimp only [fr]
  repeat' (first | (refine XO.op rfl ?_; (first | ((first | refine Xo.ng rfl ?_); (first | (refine Xg.ev (EvF.makeFunc rfl Args.nil (Args.cons rfl (Args.cons rfl Args.nil))) rfl rfl ?_) | (refine Xg.ev (EvF.assign rfl rfl) rfl rfl ?_) | (refine Xg.st (StF.boxAgg rfl rfl) rfl rfl ?_; rintro _ _ ⟨bx, rfl, rfl⟩) | (refine Xg.st (StF.boxOne rfl rfl rfl) rfl rfl ?_; rintro _ _ ⟨bx, rfl, rfl⟩))))) | (refine XO.done rfl ?_; refine hK _ _ ?_; clear hK K) | refine X.seq rfl ?_ | refine X.region rfl (fun K hK => ?_) | refine X.ret rfl ?_)
  exact ret_one (by first | exact .inr rfl | exact .inl rfl) Tryz.results95 rfl (List.Sublist.refl _) ⟨_, _, rfl, rfl⟩
end Go.Proofs.YtcjlegjchllgjaaGreat
end
section
set_option linter.unusedVariables false
set_option linter.unusedSimpArgs false
namespace Go.Proofs.YtcjlegjchllgjaaGreat
open Go Go.Fw
set_option maxRecDepth 10000
theorem eqLs (d : Nat) (a b c e : Int) (w : World) : (Op.equalIn (d + 2) 154 (.agg ([.int .i64 a, .int .i64 b] : List Value).toArray) (.agg ([.int .i64 c, .int .i64 e] : List Value).toArray)).run Tryz.prog w = .ok (decide (a = c ∧ b = e)) w := by
  rw [run_equalIn_array w (d + 1) (n := 2) (e := 3) (i := Tryz.t3) _ _ Tryz.underlying154 (by kernel_rfl)]
  have hc : Tryz.prog.cellsOf 3 = 1 := by kernel_rfl
  simp only [List.range_succ, List.range_zero, Op.eqItems, hc, List.nil_append, List.cons_append]
  have hp : ∀ (x y : Int) (k : Nat) (v : Value) (w : World), ([.int .i64 x, .int .i64 y] : List Value).toArray[k]? = some v → (part 3 ([.int .i64 x, .int .i64 y] : List Value).toArray k).run Tryz.prog w = .ok v w := fun x y k v w h => run_part_plain w (by kernel_rfl) h
  have p0 : ∀ (x y : Int) (w : World), (part 3 ([.int .i64 x, .int .i64 y] : List Value).toArray 0).run Tryz.prog w = .ok (.int .i64 x) w := fun x y w => hp x y 0 _ w rfl
  have p1 : ∀ (x y : Int) (w : World), (part 3 ([.int .i64 x, .int .i64 y] : List Value).toArray 1).run Tryz.prog w = .ok (.int .i64 y) w := fun x y w => hp x y 1 _ w rfl
  by_cases h1 : a = c <;> by_cases h2 : b = e <;> simp [h1, h2, p0, p1, eqI, Result.andThen]
def tsCh : List TOp := [⟨some 8, [], [], []⟩, ⟨some 9, [0], [0], []⟩, ⟨some 10, [], [], []⟩, ⟨some 11, [0, 1, 2], [1, 2], []⟩, ⟨some 12, [], [], []⟩, ⟨some 13, [0, 1, 2, 3, 4], [4], []⟩, ⟨some 14, [], [], []⟩, ⟨some 15, [0, 1, 2, 3, 4, 5, 6], [5, 6], []⟩, ⟨some 16, [0, 1, 2, 3, 4, 5, 6, 7], [3, 7], []⟩, ⟨some 6, [], [], []⟩, ⟨none, [0, 1, 2, 3, 4, 5, 6, 7, 8, 9], [9, 8], [9]⟩]
def valCh (b2 : Nat) (T : Tm) (p : Pt) (gs : Sp) (sd s m n : Int) (k : Nat) (env : Env) : Value :=
  match k with
  | 0 => .agg (cGm T p gs s).toArray
  | 1 => .func (.func 126) #[] #[.pointer (some ⟨(env 1).1, 0, none⟩), .pointer (some ⟨(env 1).2, 0, none⟩)]
  | 2 => .int .i64 sd
  | 3 => .int .i64 m
  | 4 => .agg (cGm T p gs s).toArray
  | 5 => .func (.func 126) #[] #[.pointer (some ⟨(env 5).1, 0, none⟩), .pointer (some ⟨(env 5).2, 0, none⟩)]
  | 6 => .int .i64 sd
  | 7 => .int .i64 n
  | 8 => .agg ([.int .i64 m, .int .i64 n] : List Value).toArray
  | 9 => .pointer (some ⟨(env 9).1, 0, none⟩)
  | 10 => undef
  | _ => undef
def rowsCh (b2 : Nat) (T : Tm) (p : Pt) (gs : Sp) (sd s m n : Int) (k : Nat) (env : Env) : List Row :=
  match k with
  | 1 => [⟨(env 1).2, 0, [.bool false], some 4, 1⟩, ⟨(env 1).1, 0, cGm T p gs s, some 119, 14⟩]
  | 5 => [⟨(env 5).2, 0, [.bool true], some 4, 1⟩, ⟨(env 5).1, 0, cGm T p gs s, some 119, 14⟩]
  | 9 => [⟨(env 9).1, 0, [.int .i64 0, .int .i64 0], some 154, 2⟩]
  | 10 => [⟨(env 9).1, 0, [.int .i64 m, .int .i64 n], some 154, 2⟩]
  | _ => []
theorem locCh (b2 : Nat) (T : Tm) (p : Pt) (gs : Sp) (sd s m n : Int) : ∀ k env i q9, i ≠ k → (tAt tsCh k).sup.contains i = false → valCh b2 T p gs sd s m n k (upd env i q9) = valCh b2 T p gs sd s m n k env ∧ rowsCh b2 T p gs sd s m n k (upd env i q9) = rowsCh b2 T p gs sd s m n k env := by
  intro k env i q hk hs
  have hu : ∀ j, j ≠ i → upd env i q j = env j := fun j hj => by unfold upd; rw [if_neg hj]
  match k, hk, hs with
  | 0, _, _ => exact ⟨rfl, rfl⟩
  | 1, hk, hs => exact ⟨by simp only [valCh, hu 1 (fun e => hk e.symm)], by simp only [rowsCh, hu 1 (fun e => hk e.symm)]⟩
  | 2, _, _ => exact ⟨rfl, rfl⟩
  | 3, _, _ => exact ⟨rfl, rfl⟩
  | 4, _, _ => exact ⟨rfl, rfl⟩
  | 5, hk, hs => exact ⟨by simp only [valCh, hu 5 (fun e => hk e.symm)], by simp only [rowsCh, hu 5 (fun e => hk e.symm)]⟩
  | 6, _, _ => exact ⟨rfl, rfl⟩
  | 7, _, _ => exact ⟨rfl, rfl⟩
  | 8, _, _ => exact ⟨rfl, rfl⟩
  | 9, hk, hs => exact ⟨by simp only [valCh, hu 9 (fun e => hk e.symm)], by simp only [rowsCh, hu 9 (fun e => hk e.symm)]⟩
  | 10, hk, hs => exact ⟨by simp only [valCh, hu 9 (by rintro rfl; cases hs)], by simp only [rowsCh, hu 9 (by rintro rfl; cases hs)]⟩
  | _ + 11, _, _ => exact ⟨rfl, rfl⟩
def rdCh (k : Nat) : List Nat := match k with
  | 3 => [1]
  | 7 => [5]
  | _ => []
set_option maxHeartbeats 16000000 in
theorem choice_spec (T : Tm) (p : Pt) (sd s : Int) (gs : Sp) (H : List Row) (hT : TmOk H T p) (hok : tmOk T) (h1 : 1 ≤ sd ∧ sd ≤ 9) (h2 : 1 ≤ s ∧ s ≤ 9) (h3 : (1 ≤ gs.lo ∧ gs.lo ≤ gs.hi) ∧ gs.hi ≤ 9) :
    Fc Tryz.prog 62 [.agg (cGm T p gs s).toArray, .int .i64 sd] H (fun v H' => v = .tuple #[.bool (shA T sd s gs), .int .i64 (shN T sd s gs)] ∧ H' = H) := by
  have hT1 : ∀ Z : List Row, TmOk (Z ++ H) T p := fun Z => hT.sub (fun _ h => List.mem_append_right _ h)
  have r1 := fun b1 b2 c1 c2 o1 o2 H hm1 hm2 hT => loses1_spec T p sd s gs false b1 b2 c1 c2 o1 o2 H hm1 hm2 hT hok h1 h2 h3
  have r2 := fun b1 b2 c1 c2 o1 o2 H hm1 hm2 hT => loses1_spec T p sd s gs true b1 b2 c1 c2 o1 o2 H hm1 hm2 hT hok h1 h2 h3
  unfold shA shN
  generalize lsL T sd s gs false = m at r1 ⊢
  generalize lsL T sd s gs true = n at r2 ⊢
  refine Fc.mk (callable Tryz.call62) Tryz.func62 rfl Tryz.ntmps62 rfl ?_; dsimp only [fr]
  repeat' (first | (refine XO.op rfl ?_; (first | ((first | refine Xo.ng rfl ?_); (first | (refine Xg.ev (EvF.assign rfl rfl) rfl rfl ?_) | (refine Xg.st (StF.boxAgg rfl rfl) rfl rfl ?_; rintro _ _ ⟨bx, rfl, rfl⟩))))) | (refine XO.done rfl ?_; refine hK _ _ ?_; clear hK K) | refine X.seq rfl ?_ | refine X.region rfl (fun K hK => ?_))
  obtain ⟨b2, hb2⟩ : ∃ b, b = bx := ⟨_, rfl⟩
  rw [← hb2]
  clear hb2
  refine X.weakR (H' := ⟨b2, 0, cGm T p gs s, some 119, 14⟩ :: H) (by (repeat (first | exact List.Sublist.refl _ | apply List.Sublist.cons_cons | apply List.Sublist.cons)); done) ?_
  refine X.regionRd tsCh rdCh [1, 2] [(1, .int .i64 sd), (2, .pointer (some ⟨b2, 0, none⟩))] (valCh b2 T p gs sd s m n) (rowsCh b2 T p gs sd s m n) (fun _ => (0, 0)) (⟨b2, 0, cGm T p gs s, some 119, 14⟩ :: H) rfl mixed (by (repeat (first | exact Sub.nil _ | refine Sub.cons rfl ?_)); done) rfl (by kernel_rfl) (by kernel_rfl) (locCh b2 T p gs sd s m n) (List.Sublist.refl _) ?_ ?_
  · have hs : ∀ (Y : List Row), (∀ r ∈ ⟨b2, 0, cGm T p gs s, some 119, 14⟩ :: H, r ∈ Y) → TmOk Y T p := fun S hS => hT.sub (fun r hr => hS r (List.Mem.tail _ hr))
    repeat' (first | exact AllF.done rfl | (refine AllF.step rfl ?_ ?_; · (first | exact (Ob.ng rfl (ObK.pure (fun env R hR => by exact ⟨_, EvF.move rfl rfl, rfl⟩) rfl (fun _ => rfl))).toR | exact (Ob.ng rfl (ObK.pure (fun env R hR => by exact ⟨_, EvF.loadV rfl rfl (LoadV.whole (te rfl) rfl (hR _ (List.Mem.head _)) rfl), rfl⟩) rfl (fun _ => rfl))).toR | (refine ObR.ng rfl ?_; (first | (exact fun env S hS hrd => (OpF.call (EnF.st rfl (Args.cons rfl (Args.cons rfl Args.nil))) (loses_spec T p s gs false _)).mono (fun v H' ⟨b1, b2, hv, hH⟩ => ⟨(b1, b2), fun _ => hv, by rw [hH]; exact List.Perm.refl _⟩)) | (exact fun env S hS hrd => (OpF.call (EnF.st rfl (Args.cons rfl (Args.cons rfl Args.nil))) (loses_spec T p s gs true _)).mono (fun v H' ⟨b1, b2, hv, hH⟩ => ⟨(b1, b2), fun _ => hv, by rw [hH]; exact List.Perm.refl _⟩)) | (exact fun env S hS hrd => OpF.callV (Z := []) (EnF.dyn (first := []) (cap := [.pointer (some ⟨(env 1).1, 0, none⟩), .pointer (some ⟨(env 1).2, 0, none⟩)]) rfl rfl (Args.cons rfl Args.nil)) (r1 (env 1).1 (env 1).2 _ _ _ _ _ (hrd 1 (List.Mem.head _) _ (List.Mem.tail _ (List.Mem.head _))) (hrd 1 (List.Mem.head _) _ (List.Mem.head _)) (hs S hS)) rfl rfl) | (exact fun env S hS hrd => OpF.callV (Z := []) (EnF.dyn (first := []) (cap := [.pointer (some ⟨(env 5).1, 0, none⟩), .pointer (some ⟨(env 5).2, 0, none⟩)]) rfl rfl (Args.cons rfl Args.nil)) (r2 (env 5).1 (env 5).2 _ _ _ _ _ (hrd 5 (List.Mem.head _) _ (List.Mem.tail _ (List.Mem.head _))) (hrd 5 (List.Mem.head _) _ (List.Mem.head _)) (hs S hS)) rfl rfl) | (exact fun env S hS hrd => (StF.ofEv (v := .agg ([.int .i64 m, .int .i64 n] : List Value).toArray) (EvF.buildArr (cs := [.int .i64 m, .int .i64 n]) rfl (ArgsP.cons rfl (ArgsP.cons rfl ArgsP.nil)) (te rfl) (te rfl) Tryz.zeroValue154 rfl)).op.mono (fun v H' ⟨hv, hH⟩ => ⟨(0, 0), fun _ => hv, by rw [hH]; exact List.Perm.refl _⟩)) | (exact fun env S hS hrd => (StF.alloc rfl Tryz.zeroValue154 rfl).op.mono (fun v H' ⟨b, hv, hH⟩ => ⟨(b, 0), fun _ => hv, by rw [hH]; exact List.Perm.refl _⟩)) | (exact fun env S hS hrd => (StF.storeAll (i := 0) (vs := [.int .i64 m, .int .i64 n]) (cs := [.int .i64 0, .int .i64 0]) rfl rfl rfl (te rfl) rfl rfl rfl rfl).op.mono (fun v H' ⟨hv, hH⟩ => ⟨(0, 0), fun h => absurd rfl h, by rw [hH]; exact List.Perm.refl _⟩)))))))
  intro env t ha hv
  refine ⟨_, ha.cons (hv 9 6 (Nat.le_of_ble_eq_true rfl) rfl), ?_⟩
  clear hv ha
  show X _ _ _ ((6, .pointer (some ⟨(env 9).1, 0, none⟩)) :: _) (⟨(env 1).2, 0, [.bool false], some 4, 1⟩ :: ⟨(env 1).1, 0, cGm T p gs s, some 119, 14⟩ :: ⟨(env 5).2, 0, [.bool true], some 4, 1⟩ :: ⟨(env 5).1, 0, cGm T p gs s, some 119, 14⟩ :: ⟨(env 9).1, 0, [.int .i64 m, .int .i64 n], some 154, 2⟩ :: ⟨b2, 0, cGm T p gs s, some 119, 14⟩ :: H) _
  obtain ⟨b6, hb6⟩ : ∃ b, b = (env 9).1 := ⟨_, rfl⟩
  rw [← hb6]
  clear hb6
  refine X.weakR (H' := ⟨b6, 0, [.int .i64 m, .int .i64 n], some 154, 2⟩ :: H) (by (repeat (first | exact List.Sublist.refl _ | apply List.Sublist.cons_cons | apply List.Sublist.cons)); done) ?_
  repeat' (first | (refine XO.op rfl ?_; (first | ((first | refine Xo.ng rfl ?_); (first | (refine Xg.ev (EvF.indexArray (i := 0) rfl rfl rfl (te rfl) (te rfl) (by omega) (by omega)) rfl rfl ?_) | (refine Xg.ev (EvF.indexArray (i := 1) rfl rfl rfl (te rfl) (te rfl) (by omega) (by omega)) rfl rfl ?_) | (refine Xg.ev (EvF.buildArr (cs := [.int .i64 (min m n), .int .i64 (max m n)]) rfl (ArgsP.cons rfl (ArgsP.cons rfl ArgsP.nil)) (te rfl) (te rfl) Tryz.zeroValue154 rfl) rfl rfl ?_) | (refine Xg.ev (EvF.loadV rfl rfl (LoadV.own (te rfl) rfl (List.Mem.head _) rfl)) rfl rfl ?_) | (refine Xg.ev (EvF.min64 rfl rfl rfl) rfl rfl ?_) | (refine Xg.ev (EvF.max64 rfl rfl rfl) rfl rfl ?_) | (refine Xg.st (StF.alloc rfl Tryz.zeroValue30 rfl) rfl rfl ?_; rintro _ _ ⟨bx, rfl, rfl⟩) | (refine Xg.st0 (StF.storeAll (i := 0) rfl rfl rfl (te rfl) rfl rfl rfl rfl) rfl ?_; rintro _ _ ⟨rfl, rfl⟩; dsimp only [List.set]))))) | (refine XO.done rfl ?_; refine hK _ _ ?_; clear hK K) | (refine XQ.op rfl ?_; (first | ((first | refine Yo.ng rfl ?_); (first | (refine Yg.ev (EvF.indexArray (i := 0) rfl rfl rfl (te rfl) (te rfl) (by omega) (by omega)) rfl rfl ?_) | (refine Yg.ev (EvF.eqSt rfl rfl rfl (by kernel_rfl) (fun w => eqLs 9998 m n (min m n) (max m n) w) rfl) rfl rfl ?_) | (refine Yg.ev (EvF.assign rfl rfl) rfl rfl ?_) | (refine Yg.ev (EvF.loadV rfl rfl (LoadV.own (te rfl) rfl (List.Mem.head _) rfl)) rfl rfl ?_) | (refine Yg.ev (EvF.loadV rfl rfl (LoadV.whole (te rfl) rfl (List.Mem.head _) rfl)) rfl rfl ?_) | (refine Yg.ev (EvF.loadV rfl rfl (LoadV.whole (te rfl) rfl (List.Mem.tail _ (List.Mem.head _)) rfl)) rfl rfl ?_))))) | (refine XQ.done rfl ?_; refine hK _ ?_; clear hK K) | refine X.seq rfl ?_ | refine X.region rfl (fun K hK => ?_) | refine X.regionD rfl mixed (by kernel_rfl) (fun K hK => ?_) | refine X.ret rfl ?_)
  have e1 : (!decide (m = min m n ∧ n = max m n)) = decide (n < m) := by
    by_cases hnm : n < m
    · rw [decide_eq_true hnm, decide_eq_false (by omega)]; rfl
    · rw [decide_eq_false hnm, decide_eq_true (by omega)]; rfl
  have e2 : min m n = if n < m then n else m := by split <;> omega
  exact ret_two (by first | exact .inr rfl | exact .inl rfl) Tryz.results62 rfl rfl (H' := H) (by (repeat (first | exact List.Sublist.refl _ | apply List.Sublist.cons)); done) ⟨by rw [e1, e2], rfl⟩
end Go.Proofs.YtcjlegjchllgjaaGreat
end
section
set_option linter.unusedVariables false
set_option linter.unusedSimpArgs false
namespace Go.Proofs.YtcjlegjchllgjaaGreat
open Go Go.Fw
set_option maxRecDepth 10000
def abG (sd s : Int) (gs : Sp) : Ab := ⟨[], [lo1 ⟨sd, s⟩, ⟨gs.lo, gs.hi, s, s⟩], [], [lo1 ⟨sd, s⟩]⟩
theorem openAsk (T : Tm) (sd s : Int) (gs : Sp) : openE T (abG sd s gs) = askE T sd s gs := by
  unfold openE askE
  have h1 : askD (abG sd s gs) := fun d hd => absurd hd List.not_mem_nil
  have h2 : askG (abG sd s gs) ↔ (1 ≤ sd ∧ sd ≤ 9) ∧ partOk gs.lo gs.hi := by simp [askG, abG, lo1, partOk]
  have h3 : askS (abG sd s gs) ↔ 1 ≤ s ∧ s ≤ 9 := by simp [askS, abG, lo1, partOk]
  have h4 : askM (abG sd s gs) := fun d hd => absurd hd List.not_mem_nil
  have h5 : askN T (abG sd s gs) ↔ may T ⟨sd, s⟩ = true := by
    simp only [askN, abG, List.mem_cons, List.not_mem_nil, or_false, forall_eq, cls_lo1]
    split <;> simp_all
  simp only [h1, h2, h3, h4, h5, if_true]
theorem askE_zero {T : Tm} {sd s : Int} {gs : Sp} (h : askE T sd s gs = 0) : tmOk T ∧ (1 ≤ sd ∧ sd ≤ 9) ∧ (1 ≤ s ∧ s ≤ 9) ∧ ((1 ≤ gs.lo ∧ gs.lo ≤ gs.hi) ∧ gs.hi ≤ 9) := by
  unfold askE at h
  by_cases h1 : tmOk T
  · by_cases h2 : (1 ≤ sd ∧ sd ≤ 9) ∧ partOk gs.lo gs.hi
    · by_cases h3 : 1 ≤ s ∧ s ≤ 9
      · exact ⟨h1, h2.1, h3, by have := h2.2; unfold partOk at this; omega⟩
      · simp [h1, h2, h3] at h
    · simp [h1, h2] at h
  · simp [h1] at h
def tsAk : List TOp := [⟨some 18, [], [], []⟩, ⟨some 19, [], [], []⟩, ⟨some 20, [], [], []⟩, ⟨some 21, [], [], []⟩, ⟨some 22, [3], [3], []⟩, ⟨some 23, [2, 3, 4], [2, 4], []⟩, ⟨some 24, [1, 2, 3, 4, 5], [1, 5], []⟩, ⟨some 25, [], [], []⟩, ⟨some 26, [7], [7], []⟩, ⟨some 27, [1, 2, 3, 4, 5, 6, 7, 8], [6, 8], []⟩, ⟨some 28, [0, 1, 2, 3, 4, 5, 6, 7, 8, 9], [0, 9], [6, 8]⟩, ⟨some 17, [0, 1, 2, 3, 4, 5, 6, 7, 8, 9, 10], [10], []⟩, ⟨some 29, [0, 1, 2, 3, 4, 5, 6, 7, 8, 9, 10, 11], [11], []⟩, ⟨some 30, [0, 1, 2, 3, 4, 5, 6, 7, 8, 9, 10, 11], [11], []⟩, ⟨some 12, [], [], []⟩, ⟨none, [0, 1, 2, 3, 4, 5, 6, 7, 8, 9, 10, 11, 12, 14], [14, 12], [14]⟩, ⟨some 10, [0, 1, 2, 3, 4, 5, 6, 7, 8, 9, 10, 11, 12, 13, 14, 15], [13], []⟩]
def valAk (b4 b6 b11 : Nat) (T TX : Tm) (p q : Pt) (gs : Sp) (sd s e : Int) (k : Nat) (env : Env) : Value :=
  match k with
  | 0 => .agg (cTm T p).toArray
  | 1 => .agg (cLo (lo1 ⟨sd, s⟩)).toArray
  | 2 => .agg (cSp gs).toArray
  | 3 => .int .i64 s
  | 4 => .agg (cSp ⟨s, s⟩).toArray
  | 5 => .agg (cLo ⟨gs.lo, gs.hi, s, s⟩).toArray
  | 6 => .slice (some ⟨(env 6).1, 0, none⟩) 2 2
  | 7 => .agg (cLo (lo1 ⟨sd, s⟩)).toArray
  | 8 => .slice (some ⟨(env 8).1, 0, none⟩) 1 1
  | 9 => .agg (cAb (abG sd s gs) ⟨none, 0, some ⟨(env 6).1, 0, none⟩, 2, none, 0, some ⟨(env 8).1, 0, none⟩, 1⟩).toArray
  | 10 => .tuple #[.agg (cTm TX q).toArray, .int .i64 e]
  | 11 => .tuple #[.agg (cTm TX q).toArray, .int .i64 e]
  | 12 => .agg (cTm TX q).toArray
  | 13 => .int .i64 e
  | 14 => .pointer (some ⟨(env 14).1, 0, none⟩)
  | 15 => undef
  | 16 => .int .i64 e
  | _ => undef
def rowsAk (b4 b6 b11 : Nat) (T TX : Tm) (p q : Pt) (gs : Sp) (sd s e : Int) (k : Nat) (env : Env) : List Row :=
  match k with
  | 6 => [⟨(env 6).1, 0, (cLo (lo1 ⟨sd, s⟩) ++ cLo ⟨gs.lo, gs.hi, s, s⟩), some 92, 2 * 4⟩]
  | 8 => [⟨(env 8).1, 0, cLo (lo1 ⟨sd, s⟩), some 92, 1 * 4⟩]
  | 14 => [⟨(env 14).1, 0, cTm Tz pz, some 99, 11⟩]
  | 15 => [⟨(env 14).1, 0, cTm TX q, some 99, 11⟩]
  | _ => []
theorem locAk (b4 b6 b11 : Nat) (T TX : Tm) (p q : Pt) (gs : Sp) (sd s e : Int) : ∀ k env i q9, i ≠ k → (tAt tsAk k).sup.contains i = false → valAk b4 b6 b11 T TX p q gs sd s e k (upd env i q9) = valAk b4 b6 b11 T TX p q gs sd s e k env ∧ rowsAk b4 b6 b11 T TX p q gs sd s e k (upd env i q9) = rowsAk b4 b6 b11 T TX p q gs sd s e k env := by
  intro k env i q hk hs
  have hu : ∀ j, j ≠ i → upd env i q j = env j := fun j hj => by unfold upd; rw [if_neg hj]
  match k, hk, hs with
  | 0, _, _ => exact ⟨rfl, rfl⟩
  | 1, _, _ => exact ⟨rfl, rfl⟩
  | 2, _, _ => exact ⟨rfl, rfl⟩
  | 3, _, _ => exact ⟨rfl, rfl⟩
  | 4, _, _ => exact ⟨rfl, rfl⟩
  | 5, _, _ => exact ⟨rfl, rfl⟩
  | 6, hk, hs => exact ⟨by simp only [valAk, hu 6 (fun e => hk e.symm)], by simp only [rowsAk, hu 6 (fun e => hk e.symm)]⟩
  | 7, _, _ => exact ⟨rfl, rfl⟩
  | 8, hk, hs => exact ⟨by simp only [valAk, hu 8 (fun e => hk e.symm)], by simp only [rowsAk, hu 8 (fun e => hk e.symm)]⟩
  | 9, hk, hs => exact ⟨by simp only [valAk, hu 6 (by rintro rfl; cases hs), hu 8 (by rintro rfl; cases hs)], by simp only [rowsAk, hu 6 (by rintro rfl; cases hs), hu 8 (by rintro rfl; cases hs)]⟩
  | 10, _, _ => exact ⟨rfl, rfl⟩
  | 11, _, _ => exact ⟨rfl, rfl⟩
  | 12, _, _ => exact ⟨rfl, rfl⟩
  | 13, _, _ => exact ⟨rfl, rfl⟩
  | 14, hk, hs => exact ⟨by simp only [valAk, hu 14 (fun e => hk e.symm)], by simp only [rowsAk, hu 14 (fun e => hk e.symm)]⟩
  | 15, hk, hs => exact ⟨by simp only [valAk, hu 14 (by rintro rfl; cases hs)], by simp only [rowsAk, hu 14 (by rintro rfl; cases hs)]⟩
  | 16, _, _ => exact ⟨rfl, rfl⟩
  | _ + 17, _, _ => exact ⟨rfl, rfl⟩
set_option maxHeartbeats 16000000 in
theorem kAsk_spec (T : Tm) (p : Pt) (sd s : Int) (gs : Sp) (H : List Row) (hT : TmOk H T p) :
    Fc Tryz.prog 21 [.agg (cTm T p).toArray, .int .i64 sd, .agg (cSp gs).toArray, .int .i64 s] H (fun v H' => v = .tuple #[.bool (askA T sd s gs), .int .i64 (askL T sd s gs), .int .i64 (askE T sd s gs)] ∧ H' = H) := by
  have hT1 : ∀ Z : List Row, TmOk (Z ++ H) T p := fun Z => hT.sub (fun _ h => List.mem_append_right _ h)
  obtain ⟨TX, q, hTX, hop⟩ := open_fn T p (abG sd s gs) (fun d hd => absurd hd List.not_mem_nil) HI1
  rw [openAsk] at hTX hop
  have hz := @askE_zero T sd s gs
  unfold askA askL
  obtain ⟨e, he⟩ : ∃ e, askE T sd s gs = e := ⟨_, rfl⟩
  rw [he] at hTX hop hz ⊢
  refine Fc.mk (callable Tryz.call21) Tryz.func21 rfl Tryz.ntmps21 rfl ?_; dsimp only [fr]
  repeat' (first | (refine XO.op rfl ?_; (first | ((first | refine Xo.ng rfl ?_); (first | (refine Xg.call (EnF.st rfl (Args.cons rfl (Args.cons rfl Args.nil))) rfl rfl (class_spec _ _ _) ?_; rintro _ H9 ⟨rfl, hH9⟩; subst H9) | (refine Xg.call (EnF.st rfl (Args.cons rfl Args.nil)) rfl rfl (only_spec ⟨sd, s⟩ _) ?_; rintro _ H9 ⟨rfl, hH9⟩; subst H9) | (refine Xg.ev (EvF.move rfl rfl) rfl rfl ?_) | (refine Xg.ev (EvF.assign rfl rfl) rfl rfl ?_) | (refine Xg.st (StF.boxAgg rfl rfl) rfl rfl ?_; rintro _ _ ⟨bx, rfl, rfl⟩) | (refine Xg.st (StF.alloc rfl Tryz.zeroValue92 rfl) rfl rfl ?_; rintro _ _ ⟨bx, rfl, rfl⟩) | (refine Xg.st0 (StF.storeAll (i := 0) rfl rfl rfl (te rfl) rfl rfl rfl rfl) rfl ?_; rintro _ _ ⟨rfl, rfl⟩; dsimp only [List.set]))))) | (refine XO.done rfl ?_; refine hK _ _ ?_; clear hK K) | refine X.seq rfl ?_ | refine X.region rfl (fun K hK => ?_))
  rename_i b4 b6
  obtain ⟨b11, hb11⟩ : ∃ b, b = bx := ⟨_, rfl⟩
  rw [← hb11]
  clear hb11
  refine X.weakR (H' := ⟨b11, 0, cLo (lo1 ⟨sd, s⟩), some 92, 4⟩ :: ⟨b6, 0, cSp gs, some 30, 2⟩ :: ⟨b4, 0, cTm T p, some 32, 11⟩ :: H) (by (repeat (first | exact List.Sublist.refl _ | apply List.Sublist.cons_cons | apply List.Sublist.cons)); done) ?_
  refine X.regionOb tsAk [1, 3, 4, 6, 11] [(1, .int .i64 sd), (3, .int .i64 s), (4, .pointer (some ⟨b4, 0, none⟩)), (6, .pointer (some ⟨b6, 0, none⟩)), (11, .pointer (some ⟨b11, 0, none⟩))] (valAk b4 b6 b11 T TX p q gs sd s e) (rowsAk b4 b6 b11 T TX p q gs sd s e) (fun _ => (0, 0)) (⟨b11, 0, cLo (lo1 ⟨sd, s⟩), some 92, 4⟩ :: ⟨b6, 0, cSp gs, some 30, 2⟩ :: ⟨b4, 0, cTm T p, some 32, 11⟩ :: H) rfl mixed (by (repeat (first | exact Sub.nil _ | refine Sub.cons rfl ?_)); done) rfl (by kernel_rfl) (locAk b4 b6 b11 T TX p q gs sd s e) (List.Sublist.refl _) ?_ ?_
  · have hs : ∀ (Y Z : List Row), (∀ r ∈ ⟨b11, 0, cLo (lo1 ⟨sd, s⟩), some 92, 4⟩ :: ⟨b6, 0, cSp gs, some 30, 2⟩ :: ⟨b4, 0, cTm T p, some 32, 11⟩ :: H, r ∈ Y) → TmOk (Z ++ Y) T p := fun Y Z hS => hT.sub (fun r hr => List.mem_append_right _ (hS r (List.mem_append_right [_, _, _] hr)))
    repeat' (first | exact AllF.done rfl | (refine AllF.step rfl ?_ ?_; · (first | fail | ((first | refine Ob.ng rfl ?_); (first | exact ObK.pure (fun env R hR => by exact ⟨_, EvF.move rfl rfl, rfl⟩) rfl (fun _ => rfl) | exact ObK.pure (fun env R hR => by exact ⟨_, EvF.assign rfl rfl, rfl⟩) rfl (fun _ => rfl) | exact ObK.pure (fun env R hR => by exact ⟨_, EvF.loadV rfl rfl (LoadV.whole (te rfl) rfl (hR _ (List.Mem.head _)) rfl), rfl⟩) rfl (fun _ => rfl) | exact ObK.pure (fun env R hR => by exact ⟨_, EvF.loadV rfl rfl (LoadV.whole (te rfl) rfl (hR _ (List.Mem.tail _ (List.Mem.head _))) rfl), rfl⟩) rfl (fun _ => rfl) | exact ObK.pure (fun env R hR => by exact ⟨_, EvF.loadV rfl rfl (LoadV.whole (te rfl) rfl (hR _ (List.Mem.tail _ (List.Mem.tail _ (List.Mem.head _)))) rfl), rfl⟩) rfl (fun _ => rfl) | (exact fun env S hS => OpF.callV (Z := []) (EnF.st rfl (Args.cons rfl Args.nil)) (just_spec s _) rfl rfl) | (exact ObK.pure (fun env S hS => ⟨_, EvF.build (cs := cLo ⟨gs.lo, gs.hi, s, s⟩) rfl (ArgsP.cons rfl (ArgsP.cons rfl ArgsP.nil)) (te rfl) (Places.cons (te rfl) (Places.cons (te rfl) Places.nil)) Tryz.zeroValue92 rfl, rfl⟩) rfl (fun _ => rfl)) | (exact fun env S hS => (StF.buildTwo rfl elLo rfl rfl rfl rfl rfl rfl (by decide) (by decide)).op.mono (fun v H' ⟨b, hv, hH⟩ => ⟨(b, 0), fun _ => hv, by rw [hH]; exact List.Perm.refl _⟩)) | (exact fun env S hS => (StF.buildOne rfl elLo rfl rfl rfl (by decide) (by decide)).op.mono (fun v H' ⟨b, hv, hH⟩ => ⟨(b, 0), fun _ => hv, by rw [hH]; exact List.Perm.refl _⟩)) | (exact ObK.pure (fun env S hS => ⟨_, EvF.build (cs := cAb (abG sd s gs) ⟨none, 0, some ⟨(env 6).1, 0, none⟩, 2, none, 0, some ⟨(env 8).1, 0, none⟩, 1⟩) rfl (ArgsP.cons rfl (ArgsP.cons rfl ArgsP.nil)) (te rfl) (Places.cons (te rfl) (Places.cons (te rfl) (Places.cons (te rfl) (Places.cons (te rfl) Places.nil)))) Tryz.zeroValue97 rfl, rfl⟩) rfl (fun _ => rfl)) | (exact fun env S hS => OpF.callV (Z := [_, _]) (EnF.st rfl (Args.cons rfl (Args.cons rfl Args.nil))) (hop ⟨none, 0, some ⟨(env 6).1, 0, none⟩, 2, none, 0, some ⟨(env 8).1, 0, none⟩, 1⟩ _ (hs S [_, _] hS) ⟨sleNil, SlE.ofRow (List.Mem.head _) (fun _ _ => rfl), sleNil, SlE.ofRow (List.Mem.tail _ (List.Mem.head _)) (fun _ _ => rfl), (fun d hd => absurd hd List.not_mem_nil), Nat.zero_le _, Nat.le_of_ble_eq_true rfl, Nat.zero_le _, Nat.le_of_ble_eq_true rfl⟩) rfl rfl) | (exact ObK.pure (fun env S hS => ⟨_, EvF.extract rfl rfl rfl, rfl⟩) rfl (fun _ => rfl)) | (exact fun env S hS => (StF.alloc rfl Tryz.zeroValue99 rfl).op.mono (fun v H' ⟨b, hv, hH⟩ => ⟨(b, 0), fun _ => hv, by rw [hH]; exact List.Perm.refl _⟩)) | (exact fun env S hS => (StF.storeAll (i := 0) (vs := cTm TX q) (cs := cTm Tz pz) rfl rfl rfl (te rfl) rfl rfl rfl rfl).op.mono (fun v H' ⟨hv, hH⟩ => ⟨(0, 0), fun h => absurd rfl h, by rw [hH]; exact List.Perm.refl _⟩)))))))
  intro env t ha hv
  refine ⟨_, (ha.cons (hv 14 12 (Nat.le_of_ble_eq_true rfl) rfl)).cons (hv 16 10 (Nat.le_of_ble_eq_true rfl) rfl), ?_⟩
  clear hv ha
  show X _ _ _ ((10, .int .i64 e) :: (12, .pointer (some ⟨(env 14).1, 0, none⟩)) :: _) (⟨(env 14).1, 0, cTm TX q, some 99, 11⟩ :: ⟨b11, 0, cLo (lo1 ⟨sd, s⟩), some 92, 4⟩ :: ⟨b6, 0, cSp gs, some 30, 2⟩ :: ⟨b4, 0, cTm T p, some 32, 11⟩ :: H) _
  by_cases h0 : e = 0
  · obtain ⟨rfl, rfl⟩ := hTX h0
    obtain ⟨hok, h1, h2, h3⟩ := hz h0
    subst h0
    rw [if_pos rfl, if_pos rfl]
    repeat' (first | (refine XO.op rfl ?_; (first | ((first | refine Xo.ng rfl ?_); (first | (refine Xg.ev (EvF.build (cs := cGm TX q gs s) rfl (ArgsP.cons rfl (ArgsP.cons rfl (ArgsP.cons rfl ArgsP.nil))) (te rfl) (Places.cons (te rfl) (Places.cons (te rfl) (Places.cons (te rfl) Places.nil))) Tryz.zeroValue119 rfl) rfl rfl ?_) | (refine Xg.call (EnF.st rfl (Args.cons rfl (Args.cons rfl Args.nil))) rfl rfl (choice_spec TX q sd s gs _ (hT1 [_, _, _, _]) hok h1 h2 h3) ?_; rintro _ H9 ⟨rfl, hH9⟩; subst H9) | (refine Xg.ev (EvF.move rfl rfl) rfl rfl ?_) | (refine Xg.ev (EvF.assign rfl rfl) rfl rfl ?_) | (refine Xg.ev (EvF.cmp rfl rfl rfl rfl) rfl rfl ?_) | (refine Xg.ev (EvF.loadV rfl rfl (LoadV.whole (te rfl) rfl (List.Mem.head _) rfl)) rfl rfl ?_) | (refine Xg.ev (EvF.loadV rfl rfl (LoadV.whole (te rfl) rfl (List.Mem.tail _ (List.Mem.tail _ (List.Mem.head _))) rfl)) rfl rfl ?_) | (refine Xg.ev (EvF.extract rfl rfl rfl) rfl rfl ?_))))) | (refine XO.done rfl ?_; refine hK _ _ ?_; clear hK K) | refine X.seq rfl ?_ | refine X.region rfl (fun K hK => ?_) | refine X.skip rfl ?_ | refine X.ret rfl ?_ | (refine X.ite rfl rfl (fun hc => ?_); (first | (with_reducible refine Xb.caseN hc (fun h => ?_) (fun h => ?_))) <;> clear hc))
    all_goals try (exfalso; contradiction)
    exact ret_three (by first | exact .inr rfl | exact .inl rfl) Tryz.results21 rfl rfl rfl (H' := H) (by (repeat (first | exact List.Sublist.refl _ | apply List.Sublist.cons)); done) ⟨rfl, rfl⟩
  · rw [if_neg h0, if_neg h0]
    repeat' (first | (refine XO.op rfl ?_; (first | ((first | refine Xo.ng rfl ?_); (first | (refine Xg.ev (EvF.move rfl rfl) rfl rfl ?_) | (refine Xg.ev (EvF.assign rfl rfl) rfl rfl ?_) | (refine Xg.ev (EvF.cmp rfl rfl rfl rfl) rfl rfl ?_) | (refine Xg.ev (EvF.loadV rfl rfl (LoadV.whole (te rfl) rfl (List.Mem.head _) rfl)) rfl rfl ?_) | (refine Xg.ev (EvF.loadV rfl rfl (LoadV.whole (te rfl) rfl (List.Mem.tail _ (List.Mem.tail _ (List.Mem.head _))) rfl)) rfl rfl ?_))))) | (refine XO.done rfl ?_; refine hK _ _ ?_; clear hK K) | refine X.seq rfl ?_ | refine X.region rfl (fun K hK => ?_) | refine X.skip rfl ?_ | refine X.ret rfl ?_ | (refine X.ite rfl rfl (fun hc => ?_); (first | (with_reducible refine Xb.caseN hc (fun h => ?_) (fun h => ?_))) <;> clear hc))
    all_goals try (exfalso; contradiction)
    exact ret_three (by first | exact .inr rfl | exact .inl rfl) Tryz.results21 rfl rfl rfl (H' := H) (by (repeat (first | exact List.Sublist.refl _ | apply List.Sublist.cons)); done) ⟨rfl, rfl⟩
end Go.Proofs.YtcjlegjchllgjaaGreat
end
section
set_option linter.unusedVariables false
set_option linter.unusedSimpArgs false
namespace Go.Proofs.YtcjlegjchllgjaaGreat
open Go Go.Fw
set_option maxRecDepth 10000
/-- what who says a grade gets at least -/
def gnL (T : Tm) (sd s : Int) (gs : Sp) : Int := minL ((outs T sd s gs (shA T sd s gs)).map (fun o => o.gets))
set_option maxHeartbeats 4000000 in
theorem gains_spec (T : Tm) (p : Pt) (sd s : Int) (gs : Sp) (H : List Row) (hT : TmOk H T p) (hok : tmOk T) (h1 : 1 ≤ sd ∧ sd ≤ 9) (h2 : 1 ≤ s ∧ s ≤ 9) (h3 : (1 ≤ gs.lo ∧ gs.lo ≤ gs.hi) ∧ gs.hi ≤ 9) :
    Fc Tryz.prog 96 [.agg (cGm T p gs s).toArray, .int .i64 sd] H (fun v H' => v = .int .i64 (gnL T sd s gs) ∧ H' = H) := by
  have hT1 : ∀ Z : List Row, TmOk (Z ++ H) T p := fun Z => hT.sub (fun _ h => List.mem_append_right _ h)
  have hch := fun H h => choice_spec T p sd s gs H h hok h1 h2 h3
  unfold gnL
  obtain ⟨ask, hask⟩ : ∃ a, shA T sd s gs = a := ⟨_, rfl⟩
  rw [hask] at hch ⊢
  have hl := outs_len T sd s gs ask
  have hl0 : ((outs T sd s gs ask).map (fun o => o.gets)).length = (outs T sd s gs ask).length := List.length_map ..
  have hmx := fun a c H h => minI_spec ((outs T sd s gs ask).map (fun o => o.gets)) a c H h (by rw [hl0, hl]; omega) (by rw [hl0, hl]; omega)
  rw [hl0] at hmx
  refine Fc.mk (callable Tryz.call96) Tryz.func96 rfl Tryz.ntmps96 rfl ?_; dsimp only [fr]
  repeat' (first | (refine XO.op rfl ?_; (first | ((first | refine Xo.ng rfl ?_); (first | (refine Xg.call (EnF.st rfl (Args.cons rfl (Args.cons rfl Args.nil))) rfl rfl (hch _ (hT1 [_])) ?_; rintro _ H9 ⟨rfl, hH9⟩; subst H9) | (refine Xg.call (EnF.st rfl (Args.cons rfl (Args.cons rfl (Args.cons rfl Args.nil)))) rfl rfl (outcomes_spec T p sd s gs ask _ (hT1 [_]) hok h1 h2 h3) ?_; rintro _ _ ⟨bo, qo, rfl, rfl⟩) | (refine Xg.call (EnF.st rfl (Args.cons rfl (Args.cons rfl Args.nil))) rfl rfl (numbersOut_spec 130 [] [] (fun o => o.gets) (outs T sd s gs ask) _ _ _ (SlE.ofRow (List.Mem.head _) (fun _ _ => rfl)) (by rw [hl]; omega) (by rw [hl]; omega) (fun e he Z => got_spec e _)) ?_; rintro _ _ ⟨bn, qn, rfl, rfl⟩) | (refine Xg.call (EnF.st rfl (Args.cons rfl Args.nil)) rfl rfl (hmx _ _ _ (SlE.ofRow (List.Mem.head _) (fun _ _ => rfl))) ?_; rintro _ H9 ⟨rfl, hH9⟩; subst H9) | (refine Xg.ev (EvF.move rfl rfl) rfl rfl ?_) | (refine Xg.ev (EvF.assign rfl rfl) rfl rfl ?_) | (refine Xg.ev (EvF.loadV rfl rfl (LoadV.whole (te rfl) rfl (List.Mem.head _) rfl)) rfl rfl ?_) | (refine Xg.ev (EvF.extract rfl rfl rfl) rfl rfl ?_) | (refine Xg.st (StF.boxAgg rfl rfl) rfl rfl ?_; rintro _ _ ⟨bx, rfl, rfl⟩))))) | (refine XO.done rfl ?_; refine hK _ _ ?_; clear hK K) | refine X.seq rfl ?_ | refine X.region rfl (fun K hK => ?_) | refine X.ret rfl ?_)
  exact ret_one (by first | exact .inr rfl | exact .inl rfl) Tryz.results96 rfl (H' := H) (by (repeat (first | exact List.Sublist.refl _ | apply List.Sublist.cons)); done) ⟨rfl, rfl⟩
end Go.Proofs.YtcjlegjchllgjaaGreat
end
section
set_option linter.unusedVariables false
set_option linter.unusedSimpArgs false
namespace Go.Proofs.YtcjlegjchllgjaaGreat
open Go Go.Fw
set_option maxRecDepth 10000
/-- the grade by which who delivers gets most, and that, of the first grades -/
def byS (T : Tm) (s : Int) (gs : Sp) : Nat → Int × Int
  | 0 => (0, 0)
  | k + 1 => if may T ⟨1 + k, s⟩ = true then (if (byS T s gs k).1 = 0 ∨ (byS T s gs k).2 < gnL T (1 + k) s gs then (1 + (k : Int), gnL T (1 + k) s gs) else byS T s gs k) else byS T s gs k
noncomputable def sayE (T : Tm) (s : Int) (gs : Sp) : Int := if tmOk T then (if partOk gs.lo gs.hi then (if 1 ≤ s ∧ s ≤ 9 then (if (byS T s gs 9).1 = 0 then 6 else 0) else 42) else 41) else 40
noncomputable def sayS (T : Tm) (s : Int) (gs : Sp) : Int := if sayE T s gs = 0 then (byS T s gs 9).1 else 0
noncomputable def sayG (T : Tm) (s : Int) (gs : Sp) : Int := if sayE T s gs = 0 then (byS T s gs 9).2 else 0
end Go.Proofs.YtcjlegjchllgjaaGreat
end
section
set_option linter.unusedVariables false
set_option linter.unusedSimpArgs false
namespace Go.Proofs.YtcjlegjchllgjaaGreat
open Go Go.Fw
set_option maxRecDepth 10000
theorem byS_none {T : Tm} {s : Int} {gs : Sp} (h : ¬ T.short ≤ s) : ∀ k, byS T s gs k = (0, 0)
  | 0 => rfl
  | k + 1 => by
    show (if may T ⟨1 + k, s⟩ = true then _ else _) = _
    rw [if_neg (by unfold may; rw [decide_eq_false (fun q => h q.2)]; decide), byS_none h k]
theorem byS_some {T : Tm} {s : Int} {gs : Sp} (hw : 1 ≤ T.worst) (h : T.short ≤ s) : ∀ k, 1 ≤ (byS T s gs (k + 1)).1
  | 0 => by
    show 1 ≤ (if may T ⟨1 + (0 : Nat), s⟩ = true then (if (byS T s gs 0).1 = 0 ∨ (byS T s gs 0).2 < gnL T (1 + (0 : Nat)) s gs then (1 + ((0 : Nat) : Int), gnL T (1 + (0 : Nat)) s gs) else byS T s gs 0) else byS T s gs 0).1
    rw [if_pos (by unfold may; exact decide_eq_true ⟨by dsimp only; omega, h⟩), if_pos (.inl rfl)]
    show (1 : Int) ≤ 1 + ((0 : Nat) : Int)
    omega
  | k + 1 => by
    have := byS_some (gs := gs) hw h k
    show 1 ≤ (if may T ⟨1 + (k + 1 : Nat), s⟩ = true then (if (byS T s gs (k + 1)).1 = 0 ∨ (byS T s gs (k + 1)).2 < gnL T (1 + (k + 1 : Nat)) s gs then (1 + ((k + 1 : Nat) : Int), gnL T (1 + (k + 1 : Nat)) s gs) else byS T s gs (k + 1)) else byS T s gs (k + 1)).1
    split
    · split
      · dsimp only; omega
      · exact this
    · exact this
def abY (s : Int) (gs : Sp) : Ab := ⟨[], [⟨gs.lo, gs.hi, s, s⟩], [], [⟨1, 9, s, s⟩]⟩
theorem cls_say {T : Tm} {s : Int} (hw : 1 ≤ T.worst) (h2 : 1 ≤ s ∧ s ≤ 9) : (cls T ⟨1, 9, s, s⟩).length ≠ 0 ↔ T.short ≤ s := by
  constructor
  · intro h
    by_cases hs : T.short ≤ s
    · exact hs
    · exfalso
      apply h
      rw [cls_all]
      rw [List.length_eq_zero_iff, List.filter_eq_nil_iff]
      intro c hc
      have hcs : c.s = s := by
        unfold allC allI rowA at hc
        obtain ⟨g, _, hc⟩ := List.mem_flatMap.1 hc
        obtain ⟨x, hx, rfl⟩ := List.mem_map.1 hc
        have := ir_bd hx
        dsimp only at this ⊢
        omega
      unfold may
      rw [decide_eq_false (fun q => hs (by rw [← hcs]; exact q.2))]
      decide
  · intro h h0
    have := mem_cls (T := T) (l := ⟨1, 9, s, s⟩) (c := ⟨1, s⟩) ⟨by dsimp only; omega, by dsimp only; omega⟩ ⟨Int.le_refl _, Int.le_refl _⟩ (by unfold may; exact decide_eq_true ⟨hw, h⟩)
    rw [List.length_eq_zero_iff] at h0
    rw [h0] at this
    cases this
theorem openSay (T : Tm) (s : Int) (gs : Sp) : openE T (abY s gs) = sayE T s gs := by
  unfold openE sayE
  have h1 : askD (abY s gs) := fun d hd => absurd hd List.not_mem_nil
  have h2 : askG (abY s gs) ↔ partOk gs.lo gs.hi := by simp [askG, abY]
  have h3 : askS (abY s gs) ↔ 1 ≤ s ∧ s ≤ 9 := by simp [askS, abY, partOk]
  have h4 : askM (abY s gs) := fun d hd => absurd hd List.not_mem_nil
  have h5 : askN T (abY s gs) ↔ (cls T ⟨1, 9, s, s⟩).length ≠ 0 := by simp [askN, abY]
  simp only [h1, h2, h3, h4, h5, if_true]
  by_cases hok : tmOk T
  · by_cases hp : partOk gs.lo gs.hi
    · by_cases hss : 1 ≤ s ∧ s ≤ 9
      · have hw : 1 ≤ T.worst := by have := hok.cls; omega
        rw [if_pos hok, if_pos hp, if_pos hss, if_pos hok, if_pos hp, if_pos hss]
        by_cases hsh : T.short ≤ s
        · rw [if_pos ((cls_say hw hss).2 hsh), if_neg (fun q => by have := byS_some (gs := gs) hw hsh 8; rw [show 8 + 1 = 9 from rfl, q] at this; omega)]
        · rw [if_neg (fun q => hsh ((cls_say hw hss).1 q)), if_pos (by rw [byS_none hsh])]
      · simp [hok, hp, hss]
    · simp [hok, hp]
  · simp [hok]
end Go.Proofs.YtcjlegjchllgjaaGreat
end
section
set_option linter.unusedVariables false
set_option linter.unusedSimpArgs false
namespace Go.Proofs.YtcjlegjchllgjaaGreat
open Go Go.Fw
set_option maxRecDepth 10000
theorem minL_spec : ∀ {l : List Int}, l ≠ [] → minL l ∈ l ∧ ∀ x ∈ l, minL l ≤ x := by
  have key : ∀ (l : List Int) (a : Int), l.foldl min a ∈ a :: l ∧ ∀ x ∈ a :: l, l.foldl min a ≤ x := by
    intro l
    induction l with
    | nil => intro a; exact ⟨List.mem_cons_self, fun x hx => by rw [List.mem_singleton] at hx; rw [hx]; exact Int.le_refl _⟩
    | cons b l ih =>
      intro a
      obtain ⟨h1, h2⟩ := ih (min a b)
      rw [List.foldl_cons]
      refine ⟨?_, fun x hx => ?_⟩
      · rcases List.mem_cons.1 h1 with h | h
        · rw [h]
          by_cases q : a ≤ b
          · rw [Int.min_eq_left q]; exact List.mem_cons_self
          · rw [Int.min_eq_right (by omega)]; exact List.mem_cons_of_mem _ List.mem_cons_self
        · exact List.mem_cons_of_mem _ (List.mem_cons_of_mem _ h)
      · have h3 := h2 _ List.mem_cons_self
        rcases List.mem_cons.1 hx with rfl | hx
        · omega
        · rcases List.mem_cons.1 hx with rfl | hx
          · omega
          · exact h2 x (List.mem_cons_of_mem _ hx)
  intro l hl
  cases l with
  | nil => exact absurd rfl hl
  | cons a l => exact key l a
theorem maxL_spec : ∀ {l : List Int}, l ≠ [] → maxL l ∈ l ∧ ∀ x ∈ l, x ≤ maxL l := by
  have key : ∀ (l : List Int) (a : Int), l.foldl max a ∈ a :: l ∧ ∀ x ∈ a :: l, x ≤ l.foldl max a := by
    intro l
    induction l with
    | nil => intro a; exact ⟨List.mem_cons_self, fun x hx => by rw [List.mem_singleton] at hx; rw [hx]; exact Int.le_refl _⟩
    | cons b l ih =>
      intro a
      obtain ⟨h1, h2⟩ := ih (max a b)
      rw [List.foldl_cons]
      refine ⟨?_, fun x hx => ?_⟩
      · rcases List.mem_cons.1 h1 with h | h
        · rw [h]
          by_cases q : b ≤ a
          · rw [Int.max_eq_left q]; exact List.mem_cons_self
          · rw [Int.max_eq_right (by omega)]; exact List.mem_cons_of_mem _ List.mem_cons_self
        · exact List.mem_cons_of_mem _ (List.mem_cons_of_mem _ h)
      · have h3 := h2 _ List.mem_cons_self
        rcases List.mem_cons.1 hx with rfl | hx
        · omega
        · rcases List.mem_cons.1 hx with rfl | hx
          · omega
          · exact h2 x (List.mem_cons_of_mem _ hx)
  intro l hl
  cases l with
  | nil => exact absurd rfl hl
  | cons a l => exact key l a
/-- b is the least of the grades up to k that may be said and gain the most, m -/
def BK (T : Tm) (s : Int) (gs : Sp) (k : Nat) (b m : Int) : Prop := ((1 ≤ b ∧ b ≤ k) ∧ may T ⟨b, s⟩ = true ∧ gnL T b s gs = m) ∧ ∀ g : Int, 1 ≤ g → g ≤ k → may T ⟨g, s⟩ = true → gnL T g s gs ≤ m ∧ (gnL T g s gs = m → b ≤ g)
theorem byS_bk (T : Tm) (s : Int) (gs : Sp) : ∀ k : Nat, (byS T s gs k = (0, 0) ∧ ∀ g : Int, 1 ≤ g → g ≤ k → may T ⟨g, s⟩ = false) ∨ BK T s gs k (byS T s gs k).1 (byS T s gs k).2
  | 0 => .inl ⟨rfl, fun g h1 h2 => by exfalso; simp at h2; omega⟩
  | k + 1 => by
    have ih := byS_bk T s gs k
    unfold byS
    by_cases hm : may T ⟨1 + k, s⟩ = true
    · rw [if_pos hm]
      right
      rcases ih with ⟨h0, hn⟩ | hb
      · rw [h0, if_pos (.inl rfl)]
        refine ⟨⟨by dsimp only; push_cast; omega, hm, rfl⟩, fun g h1 h2 h3 => ?_⟩
        by_cases hg : g = 1 + k
        · subst hg; exact ⟨Int.le_refl _, fun _ => Int.le_refl _⟩
        · rw [hn g h1 (by push_cast at h2; omega)] at h3; cases h3
      · obtain ⟨⟨⟨a1, a2⟩, a3, a4⟩, a5⟩ := hb
        obtain ⟨b, m, hbm⟩ : ∃ b m, byS T s gs k = (b, m) := ⟨_, _, rfl⟩
        rw [hbm] at a1 a2 a3 a4 a5 ⊢
        dsimp only at a1 a2 a3 a4 a5 ⊢
        by_cases hlt : m < gnL T (1 + k) s gs
        · rw [if_pos (.inr hlt)]
          refine ⟨⟨by dsimp only; push_cast; omega, hm, rfl⟩, fun g h1 h2 h3 => ?_⟩
          dsimp only
          by_cases hg : g = 1 + k
          · subst hg; exact ⟨Int.le_refl _, fun _ => Int.le_refl _⟩
          · have := (a5 g h1 (by push_cast at h2; omega) h3).1
            exact ⟨by omega, fun q => by omega⟩
        · rw [if_neg (by rintro (q | q) <;> omega)]
          refine ⟨⟨by dsimp only; push_cast; omega, a3, a4⟩, fun g h1 h2 h3 => ?_⟩
          dsimp only
          by_cases hg : g = 1 + k
          · subst hg; exact ⟨by omega, fun _ => by omega⟩
          · exact a5 g h1 (by push_cast at h2; omega) h3
    · rw [if_neg hm]
      rcases ih with ⟨h0, hn⟩ | hb
      · left
        refine ⟨h0, fun g h1 h2 => ?_⟩
        by_cases hg : g = 1 + k
        · subst hg; simpa using hm
        · exact hn g h1 (by push_cast at h2; omega)
      · right
        obtain ⟨⟨⟨a1, a2⟩, a3, a4⟩, a5⟩ := hb
        refine ⟨⟨by push_cast; omega, a3, a4⟩, fun g h1 h2 h3 => ?_⟩
        by_cases hg : g = 1 + k
        · subst hg; exact absurd h3 hm
        · exact a5 g h1 (by push_cast at h2; omega) h3
theorem BK.uniq {T : Tm} {s : Int} {gs : Sp} {k : Nat} {b m b' m' : Int} (h : BK T s gs k b m) (h' : BK T s gs k b' m') : b = b' ∧ m = m' := by
  obtain ⟨⟨⟨a1, a2⟩, a3, a4⟩, a5⟩ := h
  obtain ⟨⟨⟨c1, c2⟩, c3, c4⟩, c5⟩ := h'
  have h1 := a5 b' c1 c2 c3
  have h2 := c5 b a1 a2 a3
  have hm : m = m' := by omega
  exact ⟨by have := h1.2 (by omega); have := h2.2 (by omega); omega, hm⟩
/-- the classes of a lot of one staple -/
theorem mem_cls1 {T : Tm} {s : Int} {c : Cl} : c ∈ cls T ⟨1, 9, s, s⟩ ↔ (1 ≤ c.g ∧ c.g ≤ 9) ∧ c.s = s ∧ may T c = true := by
  unfold cls clsI rowC
  constructor
  · intro h
    obtain ⟨g, hg, hc⟩ := List.mem_flatMap.1 h
    obtain ⟨hc, hm⟩ := List.mem_filter.1 hc
    obtain ⟨s', hs, rfl⟩ := List.mem_map.1 hc
    unfold ir at hg hs
    obtain ⟨i, hi, rfl⟩ := List.mem_map.1 hg
    obtain ⟨j, hj, rfl⟩ := List.mem_map.1 hs
    have := List.mem_range.1 hi
    have := List.mem_range.1 hj
    dsimp only at *
    exact ⟨by omega, by omega, hm⟩
  · rintro ⟨h1, h2, h3⟩
    refine List.mem_flatMap.2 ⟨c.g, ?_, List.mem_filter.2 ⟨List.mem_map.2 ⟨c.s, ?_, rfl⟩, h3⟩⟩
    · unfold ir
      exact List.mem_map.2 ⟨(c.g - 1).toNat, List.mem_range.2 (by dsimp only; omega), by dsimp only; omega⟩
    · unfold ir
      exact List.mem_map.2 ⟨0, List.mem_range.2 (by dsimp only; omega), by dsimp only; omega⟩
theorem nodup_flat (f : Int → List Cl) (hf : ∀ g, f g = [] ∨ ∃ c, f g = [c] ∧ c.g = g) : ∀ l : List Int, l.Nodup → ((l.flatMap f).map (·.g)).Nodup ∧ ∀ c ∈ l.flatMap f, c.g ∈ l
  | [], _ => ⟨List.nodup_nil, fun c h => absurd h List.not_mem_nil⟩
  | g :: l, hn => by
    have hn' := List.nodup_cons.1 hn
    obtain ⟨h1, h2⟩ := nodup_flat f hf l hn'.2
    rw [List.flatMap_cons]
    rcases hf g with h | ⟨c, h, hc⟩
    · rw [h, List.nil_append]
      exact ⟨h1, fun c hc => List.mem_cons_of_mem _ (h2 c hc)⟩
    · rw [h]
      refine ⟨?_, fun d hd => ?_⟩
      · show (c.g :: (l.flatMap f).map (·.g)).Nodup
        refine List.nodup_cons.2 ⟨fun hm => ?_, h1⟩
        obtain ⟨d, hd, he⟩ := List.mem_map.1 hm
        have := h2 d hd
        rw [he, hc] at this
        exact hn'.1 this
      · rcases List.mem_cons.1 hd with rfl | hd
        · rw [hc]; exact List.mem_cons_self
        · exact List.mem_cons_of_mem _ (h2 d hd)
theorem cls1_nodup (T : Tm) (s : Int) : ((cls T ⟨1, 9, s, s⟩).map (·.g)).Nodup := by
  unfold cls clsI
  refine (nodup_flat _ (fun g => ?_) _ ?_).1
  · unfold rowC ir
    dsimp only
    rw [show (s - s + 1).toNat = 1 by omega]
    rw [show ((List.range 1).map (fun i : Nat => s + (i : Int))) = [s + ((0 : Nat) : Int)] from rfl, List.map_cons, List.map_nil, List.filter_cons]
    split
    · exact .inr ⟨_, rfl, rfl⟩
    · exact .inl rfl
  · unfold ir
    dsimp only
    decide
/-- the entries: of each class its grade, and what it gains -/
def eG (T : Tm) (s : Int) (gs : Sp) (l : List Cl) : List Ent := l.zipIdx.map (fun ci => (ci.1.g, .int .i64 (gnL T ci.1.g s gs), ci.2))
theorem eG_snoc (T : Tm) (s : Int) (gs : Sp) (l : List Cl) (x : Cl) : eG T s gs (l ++ [x]) = eG T s gs l ++ [(x.g, .int .i64 (gnL T x.g s gs), l.length)] := by
  unfold eG
  rw [List.zipIdx_append, List.map_append]
  simp
theorem eG_keys (T : Tm) (s : Int) (gs : Sp) (l : List Cl) : (eG T s gs l).map (·.1) = l.map (·.g) := by
  unfold eG
  rw [List.map_map]
  have : ((fun e : Ent => e.1) ∘ fun ci : Cl × Nat => ((ci.1.g, .int .i64 (gnL T ci.1.g s gs), ci.2) : Ent)) = (fun c : Cl => c.g) ∘ Prod.fst := rfl
  rw [this, ← List.map_map, List.zipIdx_map_fst]
theorem eG_born (T : Tm) (s : Int) (gs : Sp) (l : List Cl) : (eG T s gs l).map (·.2.2) = List.range' 0 l.length := by
  unfold eG
  rw [List.map_map]
  have : ((fun e : Ent => e.2.2) ∘ fun ci : Cl × Nat => ((ci.1.g, .int .i64 (gnL T ci.1.g s gs), ci.2) : Ent)) = Prod.snd := rfl
  rw [this, List.zipIdx_map_snd]
theorem eG_len (T : Tm) (s : Int) (gs : Sp) (l : List Cl) : (eG T s gs l).length = l.length := by unfold eG; simp
theorem eG_mem {T : Tm} {s : Int} {gs : Sp} {l : List Cl} {e : Ent} (h : e ∈ eG T s gs l) : ∃ c ∈ l, e.1 = c.g ∧ e.2.1 = .int .i64 (gnL T c.g s gs) ∧ e.2.2 < l.length := by
  unfold eG at h
  obtain ⟨ci, hc, rfl⟩ := List.mem_map.1 h
  obtain ⟨c, i⟩ := ci
  have := List.mem_zipIdx hc
  exact ⟨c, by rw [this.2.2]; exact List.getElem_mem _, rfl, rfl, by dsimp only; omega⟩
theorem eG_of {T : Tm} {s : Int} {gs : Sp} {l : List Cl} {c : Cl} (h : c ∈ l) : ∃ e ∈ eG T s gs l, e.1 = c.g ∧ e.2.1 = .int .i64 (gnL T c.g s gs) := by
  have : c.g ∈ (eG T s gs l).map (·.1) := by rw [eG_keys]; exact List.mem_map_of_mem h
  obtain ⟨e, he, hk⟩ := List.mem_map.1 this
  obtain ⟨d, hd, h1, h2, _⟩ := eG_mem he
  exact ⟨e, he, hk, by rw [h2, ← h1, hk]⟩
def vI : Value → Int
  | .int _ n => n
  | _ => 0
/-- what is left in the map: all that was not yet looked at, and of the others what gains the most -/
def qfM (pre : List Ent) (m : Int) (e : Ent) : Bool := !((pre.map (·.2.2)).contains e.2.2 && decide (vI e.2.1 < m))
theorem qfM_nil (l : List Ent) (m : Int) : l.filter (qfM [] m) = l := List.filter_eq_self.2 fun e _ => by simp [qfM]
theorem born_eq {l : List Ent} (hn : (l.map (·.2.2)).Nodup) {x e : Ent} (hx : x ∈ l) (he : e ∈ l) (h : x.2.2 = e.2.2) : x = e := by
  obtain ⟨i, hi, rfl⟩ := List.mem_iff_getElem.1 hx
  obtain ⟨j, hj, rfl⟩ := List.mem_iff_getElem.1 he
  have hp := List.pairwise_iff_getElem.1 (List.nodup_iff_pairwise_ne.1 hn)
  rcases Nat.lt_trichotomy i j with q | q | q
  · exact absurd (by rw [List.getElem_map, List.getElem_map]; exact h) (hp i j (by simpa using hi) (by simpa using hj) q)
  · subst q; rfl
  · exact absurd (by rw [List.getElem_map, List.getElem_map]; exact h.symm) (hp j i (by simpa using hj) (by simpa using hi) q)
theorem seen_other {pre : List Ent} {e x : Ent} (h : ¬ x.2.2 = e.2.2) : ((pre ++ [e]).map (·.2.2)).contains x.2.2 = (pre.map (·.2.2)).contains x.2.2 := by
  rw [Bool.eq_iff_iff, List.contains_iff_mem, List.contains_iff_mem, List.map_append, List.mem_append]
  exact ⟨fun q => q.elim id (fun q => absurd (List.mem_singleton.1 q) h), .inl⟩
theorem qfM_keep {l pre : List Ent} {m : Int} (hn : (l.map (·.2.2)).Nodup) {e : Ent} (he : e ∈ l) (hv : ¬ vI e.2.1 < m) : l.filter (qfM pre m) = l.filter (qfM (pre ++ [e]) m) := by
  refine List.filter_congr fun x hx => ?_
  unfold qfM
  congr 1
  by_cases h : x.2.2 = e.2.2
  · obtain rfl := born_eq hn hx he h
    simp [hv]
  · rw [seen_other h]
theorem qfM_del {l pre : List Ent} {m : Int} (hn : (l.map (·.2.2)).Nodup) (hk : keysM l) {e : Ent} (he : e ∈ l) (hv : vI e.2.1 < m) : delM (l.filter (qfM pre m)) e.1 = l.filter (qfM (pre ++ [e]) m) := by
  unfold delM
  rw [List.filter_filter]
  refine List.filter_congr fun x hx => ?_
  unfold qfM
  by_cases h : x.2.2 = e.2.2
  · obtain rfl := born_eq hn hx he h
    simp [hv]
  · have : x.1 ≠ e.1 := by
      intro q
      obtain ⟨i, hi, rfl⟩ := List.mem_iff_getElem.1 hx
      obtain ⟨j, hj, rfl⟩ := List.mem_iff_getElem.1 he
      have := keys_inj hk (List.getElem?_eq_getElem hi) (List.getElem?_eq_getElem hj) q
      subst this
      exact h rfl
    rw [seen_other h]
    simp [this]
theorem keys_filter {l : List Ent} (hk : keysM l) (p : Ent → Bool) : keysM (l.filter p) := (List.filter_sublist.map _).nodup hk
/-- the end: what is left gains the most -/
theorem best_end {T : Tm} {s : Int} {gs : Sp} {ys1 ys2 : List Ent} (h0 : cls T ⟨1, 9, s, s⟩ ≠ []) (h1 : ys1.Perm (eG T s gs (cls T ⟨1, 9, s, s⟩))) {pre : List Ent}
    (h2 : ys2.Perm ((eG T s gs (cls T ⟨1, 9, s, s⟩)).filter (qfM pre (maxL (ys1.map (fun e => vI e.2.1)))))) (h3 : ∀ e ∈ (eG T s gs (cls T ⟨1, 9, s, s⟩)).filter (qfM pre (maxL (ys1.map (fun e => vI e.2.1)))), e.2.2 ∈ pre.map (·.2.2)) :
    minL (ys2.map (·.1)) = (byS T s gs 9).1 ∧ maxL (ys1.map (fun e => vI e.2.1)) = (byS T s gs 9).2 := by
  obtain ⟨m, hm⟩ : ∃ m, maxL (ys1.map (fun e => vI e.2.1)) = m := ⟨_, rfl⟩
  rw [hm] at h2 h3 ⊢
  have hne1 : ys1.map (fun e => vI e.2.1) ≠ [] := by
    intro q
    have hl := h1.length_eq
    rw [eG_len] at hl
    rw [List.map_eq_nil_iff] at q
    rw [q] at hl
    exact h0 (List.eq_nil_of_length_eq_zero hl.symm)
  obtain ⟨hm1, hm2⟩ := maxL_spec hne1
  rw [hm] at hm1 hm2
  -- each class gains no more
  have hle : ∀ c ∈ cls T ⟨1, 9, s, s⟩, gnL T c.g s gs ≤ m := by
    intro c hc
    obtain ⟨e, he, _, hv⟩ := eG_of (T := T) (s := s) (gs := gs) hc
    have := hm2 (vI e.2.1) (List.mem_map.2 ⟨e, h1.mem_iff.2 he, rfl⟩)
    rw [hv] at this
    exact this
  -- what is left
  have hleft : ∀ e ∈ eG T s gs (cls T ⟨1, 9, s, s⟩), (e ∈ ys2 ↔ vI e.2.1 = m) := by
    intro e he
    obtain ⟨c, hc, hk, hv, _⟩ := eG_mem he
    have hle' := hle c hc
    have hvi : vI e.2.1 = gnL T c.g s gs := by rw [hv]; rfl
    rw [h2.mem_iff, List.mem_filter]
    constructor
    · rintro ⟨_, hq⟩
      have hin := h3 e (List.mem_filter.2 ⟨he, hq⟩)
      unfold qfM at hq
      simp only [Bool.not_eq_true', Bool.and_eq_false_iff, decide_eq_false_iff_not] at hq
      rcases hq with hq | hq
      · rw [List.contains_iff_mem.2 hin] at hq; cases hq
      · omega
    · intro q
      refine ⟨he, ?_⟩
      unfold qfM
      simp only [Bool.not_eq_true', Bool.and_eq_false_iff, decide_eq_false_iff_not]
      right; omega
  obtain ⟨em, hem, hvm⟩ := List.mem_map.1 hm1
  have hem' := h1.mem_iff.1 hem
  have hem2 := (hleft em hem').2 hvm
  have hne2 : ys2.map (·.1) ≠ [] := by
    intro q
    rw [List.map_eq_nil_iff] at q
    rw [q] at hem2
    cases hem2
  obtain ⟨hb1, hb2⟩ := minL_spec hne2
  obtain ⟨b, hb⟩ : ∃ b, minL (ys2.map (·.1)) = b := ⟨_, rfl⟩
  rw [hb] at hb1 hb2 ⊢
  obtain ⟨eb, heb, hkb⟩ := List.mem_map.1 hb1
  have heb' := (List.mem_filter.1 (h2.mem_iff.1 heb)).1
  obtain ⟨cb, hcb, hkc, hvc, _⟩ := eG_mem heb'
  have hcm := mem_cls1.1 hcb
  have hbk : BK T s gs 9 b m := by
    have hgb : cb.g = b := by rw [← hkc, hkb]
    have hcs : cb = ⟨b, s⟩ := by cases cb; dsimp only at hgb hcm; rw [hgb, hcm.2.1]
    refine ⟨⟨by rw [← hgb]; exact hcm.1, by rw [← hcs]; exact hcm.2.2, ?_⟩, fun g g1 g2 g3 => ?_⟩
    · have := (hleft eb heb').1 heb
      rw [hvc, hgb] at this
      exact this
    · have hc : (⟨g, s⟩ : Cl) ∈ cls T ⟨1, 9, s, s⟩ := mem_cls1.2 ⟨⟨g1, g2⟩, rfl, g3⟩
      refine ⟨hle ⟨g, s⟩ hc, fun q => ?_⟩
      obtain ⟨e, he, hk, hv⟩ := eG_of (T := T) (s := s) (gs := gs) hc
      have := (hleft e he).2 (by rw [hv]; exact q)
      have := hb2 e.1 (List.mem_map.2 ⟨e, this, rfl⟩)
      rw [hk] at this
      exact this
  have h9 := byS_bk T s gs 9
  obtain ⟨B, hB⟩ : ∃ B, byS T s gs 9 = B := ⟨_, rfl⟩
  rw [hB] at h9 ⊢
  rcases h9 with ⟨h00, hn⟩ | h
  · exfalso
    have := hn cb.g hcm.1.1 (by have := hcm.1.2; push_cast; omega)
    have hcs : (⟨cb.g, s⟩ : Cl) = cb := by cases cb; dsimp only at hcm; rw [hcm.2.1]
    rw [hcs, hcm.2.2] at this
    cases this
  · exact hbk.uniq h
end Go.Proofs.YtcjlegjchllgjaaGreat
end
section
set_option linter.unusedVariables false
set_option linter.unusedSimpArgs false
namespace Go.Proofs.YtcjlegjchllgjaaGreat
open Go Go.Fw
set_option maxRecDepth 10000
theorem sayE_zero {T : Tm} {s : Int} {gs : Sp} (h : sayE T s gs = 0) : tmOk T ∧ (1 ≤ s ∧ s ≤ 9) ∧ ((1 ≤ gs.lo ∧ gs.lo ≤ gs.hi) ∧ gs.hi ≤ 9) ∧ T.short ≤ s := by
  unfold sayE at h
  by_cases h1 : tmOk T
  · by_cases h2 : partOk gs.lo gs.hi
    · by_cases h3 : 1 ≤ s ∧ s ≤ 9
      · refine ⟨h1, h3, by unfold partOk at h2; omega, ?_⟩
        by_cases h4 : T.short ≤ s
        · exact h4
        · rw [if_pos h1, if_pos h2, if_pos h3, if_pos (by rw [byS_none h4])] at h; cases h
      · simp [h1, h2, h3] at h
    · simp [h1, h2] at h
  · simp [h1] at h
def tsSa : List TOp := [⟨some 11, [], [], []⟩, ⟨some 12, [], [], []⟩, ⟨some 13, [], [], []⟩, ⟨some 14, [2], [2], []⟩, ⟨some 15, [1, 2, 3], [1, 3], []⟩, ⟨some 16, [1, 2, 3, 4], [4], []⟩, ⟨some 17, [2, 3], [], []⟩, ⟨some 18, [], [], []⟩, ⟨some 19, [2, 3, 6, 7], [7], []⟩, ⟨some 20, [2, 3, 6, 7, 8], [6, 8], []⟩, ⟨some 21, [2, 3, 6, 7, 8, 9], [9], []⟩, ⟨some 22, [1, 2, 3, 4, 5, 6, 7, 8, 9, 10], [5, 10], []⟩, ⟨some 23, [0, 1, 2, 3, 4, 5, 6, 7, 8, 9, 10, 11], [0, 11], [5, 10]⟩, ⟨some 10, [0, 1, 2, 3, 4, 5, 6, 7, 8, 9, 10, 11, 12], [12], []⟩, ⟨some 24, [0, 1, 2, 3, 4, 5, 6, 7, 8, 9, 10, 11, 12, 13], [13], []⟩, ⟨some 25, [0, 1, 2, 3, 4, 5, 6, 7, 8, 9, 10, 11, 12, 13], [13], []⟩, ⟨some 9, [], [], []⟩, ⟨none, [0, 1, 2, 3, 4, 5, 6, 7, 8, 9, 10, 11, 12, 13, 14, 16], [16, 14], [16]⟩, ⟨some 8, [0, 1, 2, 3, 4, 5, 6, 7, 8, 9, 10, 11, 12, 13, 14, 15, 16, 17], [15], []⟩]
def valSa (b3 b4 : Nat) (T TX : Tm) (p q : Pt) (gs : Sp) (s e : Int) (k : Nat) (env : Env) : Value :=
  match k with
  | 0 => .agg (cTm T p).toArray
  | 1 => .agg (cSp gs).toArray
  | 2 => .int .i64 s
  | 3 => .agg (cSp ⟨s, s⟩).toArray
  | 4 => .agg (cLo ⟨gs.lo, gs.hi, s, s⟩).toArray
  | 5 => .slice (some ⟨(env 5).1, 0, none⟩) 1 1
  | 6 => .agg (cSp ⟨1, 9⟩).toArray
  | 7 => .int .i64 s
  | 8 => .agg (cSp ⟨s, s⟩).toArray
  | 9 => .agg (cLo ⟨1, 9, s, s⟩).toArray
  | 10 => .slice (some ⟨(env 10).1, 0, none⟩) 1 1
  | 11 => .agg (cAb (abY s gs) ⟨none, 0, some ⟨(env 5).1, 0, none⟩, 1, none, 0, some ⟨(env 10).1, 0, none⟩, 1⟩).toArray
  | 12 => .tuple #[.agg (cTm TX q).toArray, .int .i64 e]
  | 13 => .tuple #[.agg (cTm TX q).toArray, .int .i64 e]
  | 14 => .agg (cTm TX q).toArray
  | 15 => .int .i64 e
  | 16 => .pointer (some ⟨(env 16).1, 0, none⟩)
  | 17 => undef
  | 18 => .int .i64 e
  | _ => undef
def rowsSa (b3 b4 : Nat) (T TX : Tm) (p q : Pt) (gs : Sp) (s e : Int) (k : Nat) (env : Env) : List Row :=
  match k with
  | 5 => [⟨(env 5).1, 0, cLo ⟨gs.lo, gs.hi, s, s⟩, some 92, 1 * 4⟩]
  | 10 => [⟨(env 10).1, 0, cLo ⟨1, 9, s, s⟩, some 92, 1 * 4⟩]
  | 16 => [⟨(env 16).1, 0, cTm Tz pz, some 99, 11⟩]
  | 17 => [⟨(env 16).1, 0, cTm TX q, some 99, 11⟩]
  | _ => []
theorem locSa (b3 b4 : Nat) (T TX : Tm) (p q : Pt) (gs : Sp) (s e : Int) : ∀ k env i q9, i ≠ k → (tAt tsSa k).sup.contains i = false → valSa b3 b4 T TX p q gs s e k (upd env i q9) = valSa b3 b4 T TX p q gs s e k env ∧ rowsSa b3 b4 T TX p q gs s e k (upd env i q9) = rowsSa b3 b4 T TX p q gs s e k env := by
  intro k env i q hk hs
  have hu : ∀ j, j ≠ i → upd env i q j = env j := fun j hj => by unfold upd; rw [if_neg hj]
  match k, hk, hs with
  | 0, _, _ => exact ⟨rfl, rfl⟩
  | 1, _, _ => exact ⟨rfl, rfl⟩
  | 2, _, _ => exact ⟨rfl, rfl⟩
  | 3, _, _ => exact ⟨rfl, rfl⟩
  | 4, _, _ => exact ⟨rfl, rfl⟩
  | 5, hk, hs => exact ⟨by simp only [valSa, hu 5 (fun e => hk e.symm)], by simp only [rowsSa, hu 5 (fun e => hk e.symm)]⟩
  | 6, _, _ => exact ⟨rfl, rfl⟩
  | 7, _, _ => exact ⟨rfl, rfl⟩
  | 8, _, _ => exact ⟨rfl, rfl⟩
  | 9, _, _ => exact ⟨rfl, rfl⟩
  | 10, hk, hs => exact ⟨by simp only [valSa, hu 10 (fun e => hk e.symm)], by simp only [rowsSa, hu 10 (fun e => hk e.symm)]⟩
  | 11, hk, hs => exact ⟨by simp only [valSa, hu 5 (by rintro rfl; cases hs), hu 10 (by rintro rfl; cases hs)], by simp only [rowsSa, hu 5 (by rintro rfl; cases hs), hu 10 (by rintro rfl; cases hs)]⟩
  | 12, _, _ => exact ⟨rfl, rfl⟩
  | 13, _, _ => exact ⟨rfl, rfl⟩
  | 14, _, _ => exact ⟨rfl, rfl⟩
  | 15, _, _ => exact ⟨rfl, rfl⟩
  | 16, hk, hs => exact ⟨by simp only [valSa, hu 16 (fun e => hk e.symm)], by simp only [rowsSa, hu 16 (fun e => hk e.symm)]⟩
  | 17, hk, hs => exact ⟨by simp only [valSa, hu 16 (by rintro rfl; cases hs)], by simp only [rowsSa, hu 16 (by rintro rfl; cases hs)]⟩
  | 18, _, _ => exact ⟨rfl, rfl⟩
  | _ + 19, _, _ => exact ⟨rfl, rfl⟩
set_option maxHeartbeats 16000000 in
theorem kSay_of (hBest : ∀ (T : Tm) (p : Pt) (s : Int) (gs : Sp) (H : List Row), TmOk H T p → tmOk T → (1 ≤ s ∧ s ≤ 9) → ((1 ≤ gs.lo ∧ gs.lo ≤ gs.hi) ∧ gs.hi ≤ 9) → T.short ≤ s → Fc Tryz.prog 64 [.agg (cGm T p gs s).toArray] H (fun v H' => v = .tuple #[.int .i64 (byS T s gs 9).1, .int .i64 (byS T s gs 9).2] ∧ H' = H))
    (T : Tm) (p : Pt) (s : Int) (gs : Sp) (H : List Row) (hT : TmOk H T p) :
    Fc Tryz.prog 22 [.agg (cTm T p).toArray, .agg (cSp gs).toArray, .int .i64 s] H (fun v H' => v = .tuple #[.int .i64 (sayS T s gs), .int .i64 (sayG T s gs), .int .i64 (sayE T s gs)] ∧ H' = H) := by
  have hT1 : ∀ Z : List Row, TmOk (Z ++ H) T p := fun Z => hT.sub (fun _ h => List.mem_append_right _ h)
  have hHI : HI (abY s gs) := by
    intro hG hS l hl
    have := hS _ (show (⟨gs.lo, gs.hi, s, s⟩ : Lo) ∈ (abY s gs).lots from List.mem_cons_self)
    unfold partOk at this
    have hl' : l = ⟨1, 9, s, s⟩ := by simpa [abY] using hl
    subst hl'
    unfold inb
    dsimp only at this ⊢
    omega
  obtain ⟨TX, q, hTX, hop⟩ := open_fn T p (abY s gs) (fun d hd => absurd hd List.not_mem_nil) hHI
  rw [openSay] at hTX hop
  have hz := @sayE_zero T s gs
  unfold sayS sayG
  obtain ⟨e, he⟩ : ∃ e, sayE T s gs = e := ⟨_, rfl⟩
  rw [he] at hTX hop hz ⊢
  refine Fc.mk (callable Tryz.call22) Tryz.func22 rfl Tryz.ntmps22 rfl ?_; dsimp only [fr]
  repeat' (first | (refine XO.op rfl ?_; (first | ((first | refine Xo.ng rfl ?_); (first | (refine Xg.ev (EvF.assign rfl rfl) rfl rfl ?_) | (refine Xg.st (StF.boxAgg rfl rfl) rfl rfl ?_; rintro _ _ ⟨bx, rfl, rfl⟩))))) | (refine XO.done rfl ?_; refine hK _ _ ?_; clear hK K) | refine X.seq rfl ?_ | refine X.region rfl (fun K hK => ?_))
  rename_i b3
  obtain ⟨b4, hb4⟩ : ∃ b, b = bx := ⟨_, rfl⟩
  rw [← hb4]
  clear hb4
  refine X.weakR (H' := ⟨b4, 0, cSp gs, some 30, 2⟩ :: ⟨b3, 0, cTm T p, some 32, 11⟩ :: H) (by (repeat (first | exact List.Sublist.refl _ | apply List.Sublist.cons_cons | apply List.Sublist.cons)); done) ?_
  refine X.regionOb tsSa [2, 3, 4] [(2, .int .i64 s), (3, .pointer (some ⟨b3, 0, none⟩)), (4, .pointer (some ⟨b4, 0, none⟩))] (valSa b3 b4 T TX p q gs s e) (rowsSa b3 b4 T TX p q gs s e) (fun _ => (0, 0)) (⟨b4, 0, cSp gs, some 30, 2⟩ :: ⟨b3, 0, cTm T p, some 32, 11⟩ :: H) rfl mixed (by (repeat (first | exact Sub.nil _ | refine Sub.cons rfl ?_)); done) rfl (by kernel_rfl) (locSa b3 b4 T TX p q gs s e) (List.Sublist.refl _) ?_ ?_
  · have hs : ∀ (Y Z : List Row), (∀ r ∈ ⟨b4, 0, cSp gs, some 30, 2⟩ :: ⟨b3, 0, cTm T p, some 32, 11⟩ :: H, r ∈ Y) → TmOk (Z ++ Y) T p := fun Y Z hS => hT.sub (fun r hr => List.mem_append_right _ (hS r (List.mem_append_right [_, _] hr)))
    repeat' (first | exact AllF.done rfl | (refine AllF.step rfl ?_ ?_; · (first | fail | ((first | refine Ob.ng rfl ?_); (first | exact ObK.pure (fun env R hR => by exact ⟨_, EvF.move rfl rfl, rfl⟩) rfl (fun _ => rfl) | exact ObK.pure (fun env R hR => by exact ⟨_, EvF.assign rfl rfl, rfl⟩) rfl (fun _ => rfl) | exact ObK.pure (fun env R hR => by exact ⟨_, EvF.loadV rfl rfl (LoadV.whole (te rfl) rfl (hR _ (List.Mem.head _)) rfl), rfl⟩) rfl (fun _ => rfl) | exact ObK.pure (fun env R hR => by exact ⟨_, EvF.loadV rfl rfl (LoadV.whole (te rfl) rfl (hR _ (List.Mem.tail _ (List.Mem.head _))) rfl), rfl⟩) rfl (fun _ => rfl) | (exact fun env S hS => OpF.callV (Z := []) (EnF.st rfl (Args.cons rfl Args.nil)) (just_spec s _) rfl rfl) | (exact fun env S hS => OpF.callV (Z := []) (EnF.st rfl Args.nil) (anyGrade_spec _) rfl rfl) | (exact ObK.pure (fun env S hS => ⟨_, EvF.build (cs := cLo ⟨gs.lo, gs.hi, s, s⟩) rfl (ArgsP.cons rfl (ArgsP.cons rfl ArgsP.nil)) (te rfl) (Places.cons (te rfl) (Places.cons (te rfl) Places.nil)) Tryz.zeroValue92 rfl, rfl⟩) rfl (fun _ => rfl)) | (exact ObK.pure (fun env S hS => ⟨_, EvF.build (cs := cLo ⟨1, 9, s, s⟩) rfl (ArgsP.cons rfl (ArgsP.cons rfl ArgsP.nil)) (te rfl) (Places.cons (te rfl) (Places.cons (te rfl) Places.nil)) Tryz.zeroValue92 rfl, rfl⟩) rfl (fun _ => rfl)) | (exact fun env S hS => (StF.buildOne rfl elLo rfl rfl rfl (by decide) (by decide)).op.mono (fun v H' ⟨b, hv, hH⟩ => ⟨(b, 0), fun _ => hv, by rw [hH]; exact List.Perm.refl _⟩)) | (exact ObK.pure (fun env S hS => ⟨_, EvF.build (cs := cAb (abY s gs) ⟨none, 0, some ⟨(env 5).1, 0, none⟩, 1, none, 0, some ⟨(env 10).1, 0, none⟩, 1⟩) rfl (ArgsP.cons rfl (ArgsP.cons rfl ArgsP.nil)) (te rfl) (Places.cons (te rfl) (Places.cons (te rfl) (Places.cons (te rfl) (Places.cons (te rfl) Places.nil)))) Tryz.zeroValue97 rfl, rfl⟩) rfl (fun _ => rfl)) | (exact fun env S hS => OpF.callV (Z := [_, _]) (EnF.st rfl (Args.cons rfl (Args.cons rfl Args.nil))) (hop ⟨none, 0, some ⟨(env 5).1, 0, none⟩, 1, none, 0, some ⟨(env 10).1, 0, none⟩, 1⟩ _ (hs S [_, _] hS) ⟨sleNil, SlE.ofRow (List.Mem.head _) (fun _ _ => rfl), sleNil, SlE.ofRow (List.Mem.tail _ (List.Mem.head _)) (fun _ _ => rfl), (fun d hd => absurd hd List.not_mem_nil), Nat.zero_le _, Nat.le_of_ble_eq_true rfl, Nat.zero_le _, Nat.le_of_ble_eq_true rfl⟩) rfl rfl) | (exact ObK.pure (fun env S hS => ⟨_, EvF.extract rfl rfl rfl, rfl⟩) rfl (fun _ => rfl)) | (exact fun env S hS => (StF.alloc rfl Tryz.zeroValue99 rfl).op.mono (fun v H' ⟨b, hv, hH⟩ => ⟨(b, 0), fun _ => hv, by rw [hH]; exact List.Perm.refl _⟩)) | (exact fun env S hS => (StF.storeAll (i := 0) (vs := cTm TX q) (cs := cTm Tz pz) rfl rfl rfl (te rfl) rfl rfl rfl rfl).op.mono (fun v H' ⟨hv, hH⟩ => ⟨(0, 0), fun h => absurd rfl h, by rw [hH]; exact List.Perm.refl _⟩)))))))
  intro env t ha hv
  refine ⟨_, (ha.cons (hv 16 9 (Nat.le_of_ble_eq_true rfl) rfl)).cons (hv 18 8 (Nat.le_of_ble_eq_true rfl) rfl), ?_⟩
  clear hv ha
  show X _ _ _ ((8, .int .i64 e) :: (9, .pointer (some ⟨(env 16).1, 0, none⟩)) :: _) (⟨(env 16).1, 0, cTm TX q, some 99, 11⟩ :: ⟨b4, 0, cSp gs, some 30, 2⟩ :: ⟨b3, 0, cTm T p, some 32, 11⟩ :: H) _
  by_cases h0 : e = 0
  · obtain ⟨rfl, rfl⟩ := hTX h0
    obtain ⟨hok, h2, h3, h4⟩ := hz h0
    subst h0
    rw [if_pos rfl, if_pos rfl]
    repeat' (first | (refine XO.op rfl ?_; (first | ((first | refine Xo.ng rfl ?_); (first | (refine Xg.ev (EvF.build (cs := cGm TX q gs s) rfl (ArgsP.cons rfl (ArgsP.cons rfl (ArgsP.cons rfl ArgsP.nil))) (te rfl) (Places.cons (te rfl) (Places.cons (te rfl) (Places.cons (te rfl) Places.nil))) Tryz.zeroValue119 rfl) rfl rfl ?_) | (refine Xg.call (EnF.st rfl (Args.cons rfl Args.nil)) rfl rfl (hBest TX q s gs _ (hT1 [_, _, _]) hok h2 h3 h4) ?_; rintro _ H9 ⟨rfl, hH9⟩; subst H9) | (refine Xg.ev (EvF.move rfl rfl) rfl rfl ?_) | (refine Xg.ev (EvF.assign rfl rfl) rfl rfl ?_) | (refine Xg.ev (EvF.cmp rfl rfl rfl rfl) rfl rfl ?_) | (refine Xg.ev (EvF.loadV rfl rfl (LoadV.whole (te rfl) rfl (List.Mem.head _) rfl)) rfl rfl ?_) | (refine Xg.ev (EvF.loadV rfl rfl (LoadV.whole (te rfl) rfl (List.Mem.tail _ (List.Mem.head _)) rfl)) rfl rfl ?_) | (refine Xg.ev (EvF.extract rfl rfl rfl) rfl rfl ?_))))) | (refine XO.done rfl ?_; refine hK _ _ ?_; clear hK K) | refine X.seq rfl ?_ | refine X.region rfl (fun K hK => ?_) | refine X.skip rfl ?_ | refine X.ret rfl ?_ | (refine X.ite rfl rfl (fun hc => ?_); (first | (with_reducible refine Xb.caseN hc (fun h => ?_) (fun h => ?_))) <;> clear hc))
    all_goals try (exfalso; contradiction)
    exact ret_three (by first | exact .inr rfl | exact .inl rfl) Tryz.results22 rfl rfl rfl (H' := H) (by (repeat (first | exact List.Sublist.refl _ | apply List.Sublist.cons)); done) ⟨rfl, rfl⟩
  · rw [if_neg h0, if_neg h0]
    repeat' (first | (refine XO.op rfl ?_; (first | ((first | refine Xo.ng rfl ?_); (first | (refine Xg.ev (EvF.move rfl rfl) rfl rfl ?_) | (refine Xg.ev (EvF.assign rfl rfl) rfl rfl ?_) | (refine Xg.ev (EvF.cmp rfl rfl rfl rfl) rfl rfl ?_) | (refine Xg.ev (EvF.loadV rfl rfl (LoadV.whole (te rfl) rfl (List.Mem.head _) rfl)) rfl rfl ?_) | (refine Xg.ev (EvF.loadV rfl rfl (LoadV.whole (te rfl) rfl (List.Mem.tail _ (List.Mem.head _)) rfl)) rfl rfl ?_))))) | (refine XO.done rfl ?_; refine hK _ _ ?_; clear hK K) | refine X.seq rfl ?_ | refine X.region rfl (fun K hK => ?_) | refine X.skip rfl ?_ | refine X.ret rfl ?_ | (refine X.ite rfl rfl (fun hc => ?_); (first | (with_reducible refine Xb.caseN hc (fun h => ?_) (fun h => ?_))) <;> clear hc))
    all_goals try (exfalso; contradiction)
    exact ret_three (by first | exact .inr rfl | exact .inl rfl) Tryz.results22 rfl rfl rfl (H' := H) (by (repeat (first | exact List.Sublist.refl _ | apply List.Sublist.cons)); done) ⟨rfl, rfl⟩
end Go.Proofs.YtcjlegjchllgjaaGreat
end
section
set_option linter.unusedVariables false
set_option linter.unusedSimpArgs false
namespace Go.Proofs.YtcjlegjchllgjaaGreat
open Go Go.Fw
set_option maxRecDepth 10000
theorem ItfG.congr {P : Program} {α : Type} {f : FuncId} {cap : List Value} {E : List Row} {Gd Dn : List α → Prop} {en en' : α → List Value} (h : ItfG P f cap E Gd Dn en) (he : ∀ pre x, Gd (pre ++ [x]) → en x = en' x) : ItfG P f cap E Gd Dn en' :=
  ⟨h.1, fun l J Jx Hc h0 hy => h.2 l J Jx Hc h0 (fun pre x Hc hg hj E' => by rw [he pre x hg]; exact hy pre x Hc hg hj E')⟩
theorem GdM_mem {l pre : List Ent} {x : Ent} (h : GdM l (pre ++ [x])) : x ∈ l := by
  obtain ⟨rest, hp⟩ := h
  exact hp.mem_iff.1 (List.mem_append_left _ (List.mem_append_right _ List.mem_cons_self))
theorem GdM_len {l pre : List Ent} (h : GdM l pre) : pre.length ≤ l.length := by obtain ⟨rest, hp⟩ := h; exact it_len hp
def tsBe : List TOp := [⟨some 10, [], [], []⟩, ⟨some 11, [0], [0], []⟩, ⟨some 12, [], [], []⟩, ⟨some 13, [], [], []⟩, ⟨some 14, [3], [3], []⟩, ⟨some 15, [2, 3, 4], [4], []⟩, ⟨some 16, [2, 3, 4, 5], [2, 5], []⟩, ⟨some 17, [0, 1, 2, 3, 4, 5, 6], [1, 6], []⟩]
def valBe (b1 b4 : Nat) (T : Tm) (p : Pt) (gs : Sp) (s : Int) (k : Nat) (env : Env) : Value :=
  match k with
  | 0 => .pointer (some ⟨b1, 0, none⟩)
  | 1 => .agg (cTm T p).toArray
  | 2 => .agg (cSp ⟨1, 9⟩).toArray
  | 3 => .pointer (some ⟨b1, 13, none⟩)
  | 4 => .int .i64 s
  | 5 => .agg (cSp ⟨s, s⟩).toArray
  | 6 => .agg (cLo ⟨1, 9, s, s⟩).toArray
  | 7 => .func (.func 106) #[] #[.pointer (some ⟨(env 7).1, 0, none⟩), .pointer (some ⟨(env 7).2, 0, none⟩)]
  | _ => undef
def rowsBe (b1 b4 : Nat) (T : Tm) (p : Pt) (gs : Sp) (s : Int) (k : Nat) (env : Env) : List Row :=
  match k with
  | 7 => [⟨(env 7).1, 0, cLo ⟨1, 9, s, s⟩, some 92, 4⟩, ⟨(env 7).2, 0, cTm T p, some 99, 11⟩]
  | _ => []
theorem locBe (b1 b4 : Nat) (T : Tm) (p : Pt) (gs : Sp) (s : Int) : ∀ k env i q9, i ≠ k → (tAt tsBe k).sup.contains i = false → valBe b1 b4 T p gs s k (upd env i q9) = valBe b1 b4 T p gs s k env ∧ rowsBe b1 b4 T p gs s k (upd env i q9) = rowsBe b1 b4 T p gs s k env := by
  intro k env i q hk hs
  have hu : ∀ j, j ≠ i → upd env i q j = env j := fun j hj => by unfold upd; rw [if_neg hj]
  match k, hk, hs with
  | 0, _, _ => exact ⟨rfl, rfl⟩
  | 1, _, _ => exact ⟨rfl, rfl⟩
  | 2, _, _ => exact ⟨rfl, rfl⟩
  | 3, _, _ => exact ⟨rfl, rfl⟩
  | 4, _, _ => exact ⟨rfl, rfl⟩
  | 5, _, _ => exact ⟨rfl, rfl⟩
  | 6, _, _ => exact ⟨rfl, rfl⟩
  | 7, hk, hs => exact ⟨by simp only [valBe, hu 7 (fun e => hk e.symm)], by simp only [rowsBe, hu 7 (fun e => hk e.symm)]⟩
  | _ + 8, _, _ => exact ⟨rfl, rfl⟩
def tsBg : List TOp := [⟨some 19, [], [], []⟩, ⟨some 20, [], [], []⟩, ⟨some 21, [1], [1], []⟩, ⟨some 22, [], [], []⟩, ⟨some 23, [], [], []⟩, ⟨some 24, [4], [4], []⟩, ⟨some 25, [3, 4, 5], [3, 5], []⟩, ⟨none, [0, 1, 2, 3, 4, 5, 6], [0, 2, 6], [8]⟩, ⟨none, [], [], []⟩]
def valBg (b1 b4 b5 bm clk clkq : Nat) (T : Tm) (p : Pt) (gs : Sp) (s : Int) (c : Cl) (l lq : List Ent) (k : Nat) (env : Env) : Value :=
  match k with
  | 0 => .map (some bm)
  | 1 => .pointer (some ⟨b5, 0, none⟩)
  | 2 => .int .i64 c.g
  | 3 => .agg (cGm T p gs s).toArray
  | 4 => .pointer (some ⟨b5, 0, none⟩)
  | 5 => .int .i64 c.g
  | 6 => .int .i64 (gnL T c.g s gs)
  | 7 => undef
  | _ => undef
def rowsBg (b1 b4 b5 bm clk clkq : Nat) (T : Tm) (p : Pt) (gs : Sp) (s : Int) (c : Cl) (l lq : List Ent) (k : Nat) (env : Env) : List Row :=
  match k with
  | 7 => [mRow bm .i64 lq clkq]
  | 8 => [mRow bm .i64 l clk]
  | _ => []
theorem locBg (b1 b4 b5 bm clk clkq : Nat) (T : Tm) (p : Pt) (gs : Sp) (s : Int) (c : Cl) (l lq : List Ent) : ∀ k env i q9, i ≠ k → (tAt tsBg k).sup.contains i = false → valBg b1 b4 b5 bm clk clkq T p gs s c l lq k (upd env i q9) = valBg b1 b4 b5 bm clk clkq T p gs s c l lq k env ∧ rowsBg b1 b4 b5 bm clk clkq T p gs s c l lq k (upd env i q9) = rowsBg b1 b4 b5 bm clk clkq T p gs s c l lq k env := by
  intro k env i q hk hs
  have hu : ∀ j, j ≠ i → upd env i q j = env j := fun j hj => by unfold upd; rw [if_neg hj]
  match k, hk, hs with
  | 0, _, _ => exact ⟨rfl, rfl⟩
  | 1, _, _ => exact ⟨rfl, rfl⟩
  | 2, _, _ => exact ⟨rfl, rfl⟩
  | 3, _, _ => exact ⟨rfl, rfl⟩
  | 4, _, _ => exact ⟨rfl, rfl⟩
  | 5, _, _ => exact ⟨rfl, rfl⟩
  | 6, _, _ => exact ⟨rfl, rfl⟩
  | 7, _, _ => exact ⟨rfl, rfl⟩
  | 8, _, _ => exact ⟨rfl, rfl⟩
  | _ + 9, _, _ => exact ⟨rfl, rfl⟩
set_option maxHeartbeats 16000000 in
theorem best_spec (T : Tm) (p : Pt) (s : Int) (gs : Sp) (H : List Row) (hT : TmOk H T p) (hok : tmOk T) (h2 : 1 ≤ s ∧ s ≤ 9) (h3 : (1 ≤ gs.lo ∧ gs.lo ≤ gs.hi) ∧ gs.hi ≤ 9) (hs : T.short ≤ s) :
    Fc Tryz.prog 64 [.agg (cGm T p gs s).toArray] H (fun v H' => v = .tuple #[.int .i64 (byS T s gs 9).1, .int .i64 (byS T s gs 9).2] ∧ H' = H) := by
  refine Fc.mkT (callable Tryz.call64) Tryz.func64 rfl Tryz.ntmps64 rfl ?_
  dsimp only [fr]
  refine XT.seq rfl (XT.of0 ?_)
  repeat' (first | (refine XO.op rfl ?_; (first | ((first | refine Xo.ng rfl ?_); (first | (refine Xg.ev (EvF.assign rfl rfl) rfl rfl ?_) | (refine Xg.st (StF.boxAgg rfl rfl) rfl rfl ?_; rintro _ _ ⟨bx, rfl, rfl⟩) | (refine Xg.st (StF.alloc rfl Tryz.zeroValue30 rfl) rfl rfl ?_; rintro _ _ ⟨bx, rfl, rfl⟩) | (refine Xg.st0 (StF.storeAll (i := 0) rfl rfl rfl (te rfl) rfl rfl rfl rfl) rfl ?_; rintro _ _ ⟨rfl, rfl⟩; dsimp only [List.set]))))) | (refine XO.done rfl ?_; refine hK _ _ ?_; clear hK K) | refine X.region rfl (fun K hK => ?_))
  refine XT.seq rfl (XT.of0 ?_)
  repeat' (first | (refine XO.op rfl ?_; (first | ((first | refine Xo.ng rfl ?_); (first | (refine Xg.st (StF.makeMap .i64 rfl) rfl rfl ?_; rintro _ _ ⟨bm, rfl, rfl⟩) | (refine Xg.st0 (StF.storeOne (i := 0) rfl rfl rfl rfl (te rfl) rfl rfl (Nat.le_of_ble_eq_true rfl)) rfl ?_; rintro _ _ ⟨rfl, rfl⟩; dsimp only [List.set]) | (refine Xg.st (StF.alloc rfl Tryz.zeroValue155 rfl) rfl rfl ?_; rintro _ _ ⟨bx, rfl, rfl⟩))))) | (refine XO.done rfl ?_; refine hK _ _ ?_; clear hK K) | refine X.region rfl (fun K hK => ?_))
  rename_i b1
  obtain ⟨b4, hb4⟩ : ∃ b, b = bx := ⟨_, rfl⟩
  rw [← hb4]
  clear hb4
  refine XT.weak (F' := [(1, .pointer (some ⟨b1, 0, none⟩)), (4, .pointer (some ⟨b4, 0, none⟩))]) (H' := ⟨b4, 0, [.map (some bm)], some 155, 1⟩ :: mRow bm .i64 [] 0 :: ⟨b1, 0, cGm T p gs s, some 119, 14⟩ :: H) (by (repeat (first | exact Sub.nil _ | refine Sub.cons rfl ?_)); done) (by (repeat (first | exact List.Sublist.refl _ | apply List.Sublist.cons_cons | apply List.Sublist.cons)); done) ?_
  refine XT.seq rfl (XT.seq rfl (XT.of0 ?_))
  refine X.regionOb tsBe [1, 4] [(1, .pointer (some ⟨b1, 0, none⟩)), (4, .pointer (some ⟨b4, 0, none⟩))] (valBe b1 b4 T p gs s) (rowsBe b1 b4 T p gs s) (fun _ => (0, 0)) (⟨b4, 0, [.map (some bm)], some 155, 1⟩ :: mRow bm .i64 [] 0 :: ⟨b1, 0, cGm T p gs s, some 119, 14⟩ :: H) rfl mixed (by (repeat (first | exact Sub.nil _ | refine Sub.cons rfl ?_)); done) rfl (by kernel_rfl) (locBe b1 b4 T p gs s) (List.Sublist.refl _) ?_ ?_
  · repeat' (first | exact AllF.done rfl | (refine AllF.step rfl ?_ ?_; · (first | fail | ((first | refine Ob.ng rfl ?_); (first | exact ObK.pure (fun env R hR => by exact ⟨_, EvF.fieldAddr rfl rfl (te rfl) rfl (te rfl) (by decide), rfl⟩) rfl (fun _ => rfl) | exact ObK.pure (fun env R hR => by exact ⟨_, EvF.loadV rfl rfl (LoadV.own (te rfl) rfl (hR _ (List.Mem.tail _ (List.Mem.tail _ (List.Mem.head _)))) rfl), rfl⟩) rfl (fun _ => rfl) | exact ObK.pure (fun env R hR => by exact ⟨_, EvF.loadV rfl rfl (LoadV.ownAgg (te rfl) rfl (hR _ (List.Mem.tail _ (List.Mem.tail _ (List.Mem.head _)))) rfl rfl), rfl⟩) rfl (fun _ => rfl) | (exact fun env S hS => OpF.callV (Z := []) (EnF.st rfl (Args.cons rfl Args.nil)) (just_spec s _) rfl rfl) | (exact fun env S hS => OpF.callV (Z := []) (EnF.st rfl Args.nil) (anyGrade_spec _) rfl rfl) | (exact ObK.pure (fun env S hS => ⟨_, EvF.build (cs := cLo ⟨1, 9, s, s⟩) rfl (ArgsP.cons rfl (ArgsP.cons rfl ArgsP.nil)) (te rfl) (Places.cons (te rfl) (Places.cons (te rfl) Places.nil)) Tryz.zeroValue92 rfl, rfl⟩) rfl (fun _ => rfl)) | (exact fun env S hS => (OpF.call (EnF.st rfl (Args.cons rfl (Args.cons rfl Args.nil))) (classes_spec T p ⟨1, 9, s, s⟩ _)).mono (fun v H' ⟨x, y, hv, hH⟩ => ⟨(x, y), fun _ => hv, by rw [hH]; exact List.Perm.refl _⟩)))))))
  intro env t ha hv
  refine ⟨_, ha.cons (hv 7 17 (Nat.le_of_ble_eq_true rfl) rfl), ?_⟩
  clear hv ha
  obtain ⟨bl, hbl⟩ : ∃ b, b = (env 7).1 := ⟨_, rfl⟩
  obtain ⟨bo, hbo⟩ : ∃ b, b = (env 7).2 := ⟨_, rfl⟩
  refine XT.weak (F' := [(1, .pointer (some ⟨b1, 0, none⟩)), (4, .pointer (some ⟨b4, 0, none⟩)), (17, .func (.func 106) #[] #[.pointer (some ⟨bl, 0, none⟩), .pointer (some ⟨bo, 0, none⟩)])]) (H' := [⟨bl, 0, cLo ⟨1, 9, s, s⟩, some 92, 4⟩, ⟨bo, 0, cTm T p, some 99, 11⟩] ++ (⟨b4, 0, [.map (some bm)], some 155, 1⟩ :: mRow bm .i64 [] 0 :: ⟨b1, 0, cGm T p gs s, some 119, 14⟩ :: H)) (by rw [hbl, hbo]; exact (by (repeat (first | exact Sub.nil _ | refine Sub.cons rfl ?_)); done)) (by rw [hbl, hbo]; exact (by (repeat (first | exact List.Sublist.refl _ | apply List.Sublist.cons_cons | apply List.Sublist.cons)); done)) ?_
  clear hbl hbo
  refine XT.perm (H' := (mRow bm .i64 (eG T s gs []) 0 :: ⟨b4, 0, [.map (some bm)], some 155, 1⟩ :: ⟨b1, 0, cGm T p gs s, some 119, 14⟩ :: H) ++ [⟨bl, 0, cLo ⟨1, 9, s, s⟩, some 92, 4⟩, ⟨bo, 0, cTm T p, some 99, 11⟩]) (List.Perm.trans (List.Perm.append_right _ (List.Perm.swap _ _ _)) List.perm_append_comm) ?_
  refine XT.block rfl ?_
  have hin : ∀ x ∈ cls T ⟨1, 9, s, s⟩, 1 ≤ x.g ∧ x.g ≤ 9 := fun x hx => (mem_cls1.1 hx).1
  refine XT.range (ps := [18]) rfl rfl (classes1_it T p ⟨1, 9, s, s⟩ bl bo 4 11 _ _ _ (List.Mem.head _) (List.Mem.tail _ (List.Mem.head _)) (by dsimp only; omega)) rfl (fun _ => rfl) (fun pre Hb => Hb = mRow bm .i64 (eG T s gs pre) pre.length :: ⟨b4, 0, [.map (some bm)], some 155, 1⟩ :: ⟨b1, 0, cGm T p gs s, some 119, 14⟩ :: H) (fun _ _ => False) _ rfl rfl ?_ ?_ (fun _ _ h => h.elim) (fun _ _ _ h => h.elim) (fun _ _ h => h.elim)
  · rintro pre x _ hpre rfl Z
    have hxm : x ∈ cls T ⟨1, 9, s, s⟩ := hpre.subset (List.mem_append_right _ List.mem_cons_self)
    have hxg := hin x hxm
    have hnd : ((pre ++ [x]).map (·.g)).Nodup := ((hpre.map _).sublist).nodup (cls1_nodup T s)
    have hkm : keysM (eG T s gs pre) := by
      unfold keysM; rw [eG_keys]
      rw [List.map_append] at hnd
      exact (List.nodup_append.1 hnd).1
    have hnew : ∀ e ∈ eG T s gs pre, e.1 ≠ x.g := by
      intro e he q
      obtain ⟨c, hc, h1, _⟩ := eG_mem he
      rw [List.map_append] at hnd
      exact (List.nodup_append.1 hnd).2.2 _ (List.mem_map.2 ⟨c, hc, rfl⟩) _ List.mem_cons_self (by rw [← h1, q])
    have hany : (eG T s gs pre).any (fun e => e.1 == x.g) = false := List.any_eq_false.2 fun e he => by simpa using hnew e he
    simp only [List.cons_append]
    repeat' (first | (refine XO.op rfl ?_; (first | ((first | refine Xo.ng rfl ?_); (first | (refine Xg.ev (EvF.assign rfl rfl) rfl rfl ?_) | (refine Xg.st (StF.boxAgg rfl rfl) rfl rfl ?_; rintro _ _ ⟨bx, rfl, rfl⟩) | (refine Xg.st (StF.alloc rfl Tryz.zeroValue30 rfl) rfl rfl ?_; rintro _ _ ⟨bx, rfl, rfl⟩) | (refine Xg.st0 (StF.storeAll (i := 0) rfl rfl rfl (te rfl) rfl rfl rfl rfl) rfl ?_; rintro _ _ ⟨rfl, rfl⟩; dsimp only [List.set]))))) | (refine XO.done rfl ?_; refine hK _ _ ?_; clear hK K) | refine X.region rfl (fun K hK => ?_))
    refine ⟨rfl, ⟨bx, 0, cCl x, some 27, 2⟩ :: mRow bm .i64 (eG T s gs pre) pre.length :: ⟨b4, 0, [.map (some bm)], some 155, 1⟩ :: ⟨b1, 0, cGm T p gs s, some 119, 14⟩ :: H, List.Sublist.refl _, fun Z' => ?_⟩
    simp only [List.cons_append]
    refine X.permH (H' := mRow bm .i64 (eG T s gs pre) pre.length :: ⟨bx, 0, cCl x, some 27, 2⟩ :: ⟨b4, 0, [.map (some bm)], some 155, 1⟩ :: ⟨b1, 0, cGm T p gs s, some 119, 14⟩ :: (H ++ Z')) (List.Perm.swap _ _ _) ?_
    refine X.weak (F' := [(1, .pointer (some ⟨b1, 0, none⟩)), (4, .pointer (some ⟨b4, 0, none⟩)), (5, .pointer (some ⟨bx, 0, none⟩))]) (by (repeat (first | exact Sub.nil _ | refine Sub.cons rfl ?_)); done) (List.Sublist.refl _) ?_
    refine X.block rfl ?_
    refine X.regionOb tsBg [1, 4, 5] [(1, .pointer (some ⟨b1, 0, none⟩)), (4, .pointer (some ⟨b4, 0, none⟩)), (5, .pointer (some ⟨bx, 0, none⟩))] (valBg b1 b4 bx bm pre.length (clkM (eG T s gs pre) pre.length x.g) T p gs s x (eG T s gs pre) (insM (eG T s gs pre) pre.length x.g (.int .i64 (gnL T x.g s gs)))) (rowsBg b1 b4 bx bm pre.length (clkM (eG T s gs pre) pre.length x.g) T p gs s x (eG T s gs pre) (insM (eG T s gs pre) pre.length x.g (.int .i64 (gnL T x.g s gs)))) (fun _ => (0, 0)) (⟨bx, 0, cCl x, some 27, 2⟩ :: ⟨b4, 0, [.map (some bm)], some 155, 1⟩ :: ⟨b1, 0, cGm T p gs s, some 119, 14⟩ :: (H ++ Z')) rfl mixed (by (repeat (first | exact Sub.nil _ | refine Sub.cons rfl ?_)); done) rfl (by kernel_rfl) (locBg b1 b4 bx bm pre.length (clkM (eG T s gs pre) pre.length x.g) T p gs s x (eG T s gs pre) (insM (eG T s gs pre) pre.length x.g (.int .i64 (gnL T x.g s gs)))) (List.Sublist.refl _) ?_ ?_
    · have hTS : ∀ (Y : List Row), (∀ r ∈ ⟨bx, 0, cCl x, some 27, 2⟩ :: ⟨b4, 0, [.map (some bm)], some 155, 1⟩ :: ⟨b1, 0, cGm T p gs s, some 119, 14⟩ :: (H ++ Z'), r ∈ Y) → TmOk Y T p := fun Y hS => hT.sub (fun r hr => hS r (List.mem_append_right [_, _, _] (List.mem_append_left _ hr)))
      repeat' (first | exact AllF.done rfl | (refine AllF.step rfl ?_ ?_; · (first | fail | ((first | refine Ob.ng rfl ?_); (first | exact ObK.pure (fun env R hR => by exact ⟨_, EvF.fieldAddr rfl rfl (te rfl) rfl (te rfl) (by decide), rfl⟩) rfl (fun _ => rfl) | exact ObK.pure (fun env R hR => by exact ⟨_, EvF.loadV rfl rfl (LoadV.own (te rfl) rfl (hR _ (List.Mem.head _)) rfl), rfl⟩) rfl (fun _ => rfl) | exact ObK.pure (fun env R hR => by exact ⟨_, EvF.loadV rfl rfl (LoadV.own (te rfl) rfl (hR _ (List.Mem.tail _ (List.Mem.head _))) rfl), rfl⟩) rfl (fun _ => rfl) | exact ObK.pure (fun env R hR => by exact ⟨_, EvF.loadV rfl rfl (LoadV.whole (te rfl) rfl (hR _ (List.Mem.tail _ (List.Mem.tail _ (List.Mem.head _)))) rfl), rfl⟩) rfl (fun _ => rfl) | (exact fun env S hS => OpF.callV (Z := []) (EnF.st rfl (Args.cons rfl (Args.cons rfl Args.nil))) (gains_spec T p x.g s gs _ (hTS S hS) hok hxg h2 h3) rfl rfl) | (exact fun env S hS => (StF.mapUpdate (i := 0) (l := eG T s gs pre) (clock := pre.length) rfl maps_und int_und rfl rfl rfl rfl hkm).op.mono (fun v H' ⟨hv, hH⟩ => ⟨(0, 0), fun h => absurd rfl h, by rw [hH]; exact List.Perm.refl _⟩)))))))
    intro env t ha hv
    refine ⟨_, ha, ?_⟩
    clear hv ha
    refine ⟨mRow bm .i64 (eG T s gs (pre ++ [x])) (pre ++ [x]).length :: ⟨b4, 0, [.map (some bm)], some 155, 1⟩ :: ⟨b1, 0, cGm T p gs s, some 119, 14⟩ :: H, ?_, rfl⟩
    have hi1 : insM (eG T s gs pre) pre.length x.g (.int .i64 (gnL T x.g s gs)) = eG T s gs (pre ++ [x]) := by
      unfold insM; rw [if_neg (by rw [hany]; decide), eG_snoc]
    have hi2 : clkM (eG T s gs pre) pre.length x.g = (pre ++ [x]).length := by
      unfold clkM; rw [if_neg (by rw [hany]; decide), List.length_append]; rfl
    rw [hi1, hi2]
    exact List.Sublist.cons_cons _ (List.sublist_cons_self _ _)
  · rintro D _ rfl
    refine XT.of1 ?_
    simp only [List.cons_append, List.append_assoc]
    obtain ⟨HX, hHX⟩ : ∃ q, q = H ++ ([⟨bl, 0, cLo ⟨1, 9, s, s⟩, some 92, 4⟩, ⟨bo, 0, cTm T p, some 99, 11⟩] ++ [dRow D]) := ⟨_, rfl⟩
    have hsub : (H ++ [dRow D]).Sublist HX := by rw [hHX]; exact List.Sublist.append (List.Sublist.refl _) (List.sublist_append_right _ _)
    simp only [List.cons_append, List.nil_append] at hHX ⊢
    rw [← hHX]
    clear hHX
    have hne : cls T ⟨1, 9, s, s⟩ ≠ [] := by
      have := hok.cls
      exact List.ne_nil_of_mem (a := ⟨1, s⟩) (mem_cls1.2 ⟨⟨Int.le_refl 1, by dsimp only; omega⟩, rfl, by unfold may; exact decide_eq_true ⟨by dsimp only; omega, hs⟩⟩)
    have hend := fun (ys1 ys2 pre : List Ent) h1 h2 h3 => @best_end T s gs ys1 ys2 hne h1 pre h2 h3
    obtain ⟨cn, hcn⟩ : ∃ n, (cls T ⟨1, 9, s, s⟩).length = n := ⟨_, rfl⟩
    have hlen9 : cn ≤ 1000000 := by
      have := cls_len T (l := ⟨1, 9, s, s⟩) (by unfold inb; dsimp only; omega)
      omega
    have hkey : keysM (eG T s gs (cls T ⟨1, 9, s, s⟩)) := by unfold keysM; rw [eG_keys]; exact cls1_nodup T s
    have hborn : ((eG T s gs (cls T ⟨1, 9, s, s⟩)).map (·.2.2)).Nodup := by rw [eG_born]; exact List.nodup_range'
    have hclk : ∀ e ∈ eG T s gs (cls T ⟨1, 9, s, s⟩), e.2.2 < cn := fun e he => by obtain ⟨c, _, _, _, h⟩ := eG_mem he; rw [← hcn]; exact h
    have hint : ∀ e ∈ eG T s gs (cls T ⟨1, 9, s, s⟩), ∃ n, e.2.1 = .int .i64 n := fun e he => by obtain ⟨c, _, _, h, _⟩ := eG_mem he; exact ⟨_, h⟩
    have hll : (eG T s gs (cls T ⟨1, 9, s, s⟩)).length = cn := by rw [eG_len, hcn]
    rw [hcn]
    have hl0 : 0 < cn := by rw [← hcn]; exact List.length_pos_iff.2 hne
    obtain ⟨l, hl⟩ : ∃ l, eG T s gs (cls T ⟨1, 9, s, s⟩) = l := ⟨_, rfl⟩
    rw [hl] at hend hkey hborn hclk hint hll ⊢
    clear hl
    have hval : ∀ bb : Nat, ItfG Tryz.prog 132 [.pointer (some ⟨bb, 0, none⟩)] (⟨bb, 0, [.map (some bm)], some 155, 1⟩ :: mRow bm .i64 l cn :: ⟨b4, 0, [.map (some bm)], some 155, 1⟩ :: ⟨b1, 0, cGm T p gs s, some 119, 14⟩ :: HX) (GdM l) (DnM l) (fun e => [.int .i64 (vI e.2.1)]) := fun bb => ItfG.congr (values1_it bm bb cn _ _ l (⟨bb, 0, [.map (some bm)], some 155, 1⟩ :: mRow bm .i64 l cn :: ⟨b4, 0, [.map (some bm)], some 155, 1⟩ :: ⟨b1, 0, cGm T p gs s, some 119, 14⟩ :: HX) (List.Mem.head _) (List.Mem.tail _ (List.Mem.head _)) hborn hclk) (fun pre x hg => by obtain ⟨n, hn⟩ := hint x (GdM_mem hg); rw [hn]; rfl)
    repeat' (first | (refine XO.op rfl ?_; (first | ((first | refine Xo.ng rfl ?_); (first | (refine Xg.call (EnF.st rfl (by (repeat (first | exact Args.nil | refine Args.cons rfl ?_)); done)) rfl rfl (values_spec bm _) ?_; rintro _ _ ⟨bb, rfl, rfl⟩) | (refine Xg.call (EnF.st rfl (Args.cons rfl Args.nil)) rfl rfl (collectI_spec 132 [.pointer (some ⟨bb, 0, none⟩)] _ (GdM l) (DnM l) (fun e => vI e.2.1) (hval bb) (fun pre hg => by have := GdM_len hg; omega)) ?_; rintro _ _ ⟨ys1, Z1, hys1, hO1, rfl⟩) | (refine Xg.ev (EvF.loadV rfl rfl (LoadV.own (te rfl) rfl (List.Mem.tail _ (List.Mem.head _)) rfl)) rfl rfl ?_))))) | refine X.seq rfl ?_ | refine X.region rfl (fun K hK => ?_))
    have hym : 0 < (ys1.map (fun e => vI e.2.1)).length := by rw [List.length_map, hys1.length_eq]; omega
    have hym2 : (ys1.map (fun e => vI e.2.1)).length ≤ 1000000 := by rw [List.length_map, hys1.length_eq]; omega
    rcases hO1 with ⟨hn0, _, _⟩ | ⟨bs, qs, rfl, rfl⟩
    · rw [hn0] at hym; exact absurd hym (Nat.lt_irrefl 0)
    simp only [List.cons_append, List.nil_append]
    obtain ⟨m, hm⟩ : ∃ m, maxL (ys1.map (fun e => vI e.2.1)) = m := ⟨_, rfl⟩
    have hmax := fun a c H h => maxI_spec (ys1.map (fun e => vI e.2.1)) a c H h hym2 hym
    rw [hm] at hmax
    replace hend := fun ys2 pre => hend ys1 ys2 pre hys1
    rw [hm] at hend
    repeat' (first | (refine XO.op rfl ?_; (first | ((first | refine Xo.ng rfl ?_); (first | (refine Xg.call (EnF.st rfl (Args.cons rfl Args.nil)) rfl rfl (hmax _ _ _ (SlE.ofRow (List.Mem.head _) (fun _ _ => rfl))) ?_; rintro _ H9 ⟨rfl, hH9⟩; subst H9) | (refine Xg.st (StF.rangeMap (kd := .i64) (l := l) (clock := cn) rfl maps_und rfl (List.Mem.tail _ (List.Mem.tail _ (List.Mem.head _)))) rfl rfl ?_; rintro _ _ ⟨r, rfl, rfl⟩) | (refine Xg.ev (EvF.loadV rfl rfl (LoadV.own (te rfl) rfl (List.Mem.tail _ (List.Mem.tail _ (List.Mem.tail _ (List.Mem.head _)))) rfl)) rfl rfl ?_) | (refine Xg.ev (EvF.assign rfl rfl) rfl rfl ?_))))) | (refine XO.done rfl ?_; refine hK _ _ ?_; clear hK K) | refine X.seq rfl ?_ | refine X.region rfl (fun K hK => ?_) | refine X.block rfl ?_)
    refine X.lp rfl (fun q F' H' => ∃ (pre rest : List Ent), q = l.length - pre.length ∧ (pre ++ rest).Perm l ∧ H' = iRow r bm cn pre :: mRow bm .i64 (l.filter (qfM pre m)) cn :: ⟨b4, 0, [.map (some bm)], some 155, 1⟩ :: HX ∧
        F' = [(4, .pointer (some ⟨b4, 0, none⟩)), (6, .int .i64 m), (31, .pointer (some ⟨r, 0, none⟩))])
      _ [(4, .pointer (some ⟨b4, 0, none⟩)), (6, .int .i64 m), (31, .pointer (some ⟨r, 0, none⟩))] (iRow r bm cn [] :: mRow bm .i64 (l.filter (qfM [] m)) cn :: ⟨b4, 0, [.map (some bm)], some 155, 1⟩ :: HX) (by (repeat (first | exact Sub.nil _ | refine Sub.cons rfl ?_)); done) (by rw [qfM_nil]; exact (by (repeat (first | exact List.Sublist.refl _ | apply List.Sublist.cons_cons | apply List.Sublist.cons)); done)) ⟨[], l, rfl, List.Perm.refl _, rfl, rfl⟩ ?_
    rintro _ _ _ ⟨pre, rest, rfl, hp, rfl, rfl⟩
    have hle := it_len hp
    have hcf : ∀ e ∈ l.filter (qfM pre m), e.2.2 < cn := fun e he => hclk e (List.mem_filter.1 he).1
    have hkf := keys_filter hkey (qfM pre m)
    have hbf : ((l.filter (qfM pre m)).map (·.2.2)).Nodup := (List.filter_sublist.map _).nodup hborn
    repeat' (first | (refine XO.op rfl ?_; (first | ((first | refine Xo.ng rfl ?_); (first | (refine Xg.st (StF.nextMap (i := 0) (kd := .i64) (l := l.filter (qfM pre m)) rfl rfl rfl (List.Mem.tail _ (List.Mem.head _)) hcf) rfl rfl ?_; rintro _ _ (⟨rfl, rfl, hx⟩ | ⟨⟨ek, ev, eb⟩, he, hes, rfl, rfl⟩); all_goals try (obtain ⟨nv, rfl⟩ : ∃ n, ev = .int .i64 n := hint _ (List.mem_filter.1 he).1; dsimp only [List.set])) | (refine Xg.ev (EvF.entry (pre := pre) rfl rfl (List.Mem.head _) (List.Mem.tail _ (List.Mem.head _)) he hbf) rfl rfl ?_) | (refine Xg.st0 (StF.delete (i := 1) (l := l.filter (qfM pre m)) (clock := cn) rfl maps_und int_und rfl rfl rfl hkf) rfl ?_; rintro _ _ ⟨rfl, rfl⟩; dsimp only [List.set]) | (refine Xg.ev (EvF.loadV rfl rfl (LoadV.own (te rfl) rfl (List.Mem.tail _ (List.Mem.tail _ (List.Mem.head _))) rfl)) rfl rfl ?_) | (refine Xg.call (EnF.st rfl (by (repeat (first | exact Args.nil | refine Args.cons rfl ?_)); done)) rfl rfl (keys_spec bm _) ?_; rintro _ _ ⟨bk, rfl, rfl⟩) | (refine Xg.call (EnF.st rfl (Args.cons rfl (Args.cons rfl Args.nil))) rfl rfl (firstI_spec 133 [.pointer (some ⟨bk, 0, none⟩)] _ (GdM (l.filter (qfM pre m))) (DnM (l.filter (qfM pre m))) (fun e => e.1) (keys1_it bm bk cn _ _ (l.filter (qfM pre m)) (⟨bk, 0, [.map (some bm)], some 155, 1⟩ :: iRow r bm cn pre :: mRow bm .i64 (l.filter (qfM pre m)) cn :: ⟨b4, 0, [.map (some bm)], some 155, 1⟩ :: HX) (List.Mem.head _) (List.Mem.tail _ (List.Mem.tail _ (List.Mem.head _))) hbf hcf)) ?_; rintro _ _ ⟨ys2, hys2, rfl, rfl⟩) | (refine Xg.ev (EvF.move rfl rfl) rfl rfl ?_) | (refine Xg.ev (EvF.assign rfl rfl) rfl rfl ?_) | (refine Xg.ev (EvF.cmp rfl rfl rfl rfl) rfl rfl ?_) | (refine Xg.ev (EvF.extract rfl rfl rfl) rfl rfl ?_))))) | (refine XO.done rfl ?_; refine hK _ _ ?_; clear hK K) | refine X.seq rfl ?_ | refine X.region rfl (fun K hK => ?_) | refine X.block rfl ?_ | (refine X.brk rfl ?_; repeat (first | refine blockX_hit rfl ?_ | refine blockX_miss (by decide) ?_)) | refine X.skip rfl ?_ | refine X.ret rfl ?_ | (refine X.ite rfl rfl (fun hc => ?_); (first | (with_reducible refine Xb.t hc ?_) | (with_reducible refine Xb.f hc ?_) | (with_reducible refine Xb.case hc (fun h => ?_) (fun h => ?_))) <;> clear hc))
    all_goals try (exfalso; contradiction)
    · obtain ⟨e1, e2⟩ := hend ys2 pre hys2 hx
      rw [← e1, ← e2]
      refine ⟨H, ?_, retT_two (by first | exact .inr rfl | exact .inl rfl) Tryz.results64 rfl rfl (List.Sublist.refl _) ⟨rfl, rfl⟩⟩
      exact List.Sublist.cons _ (List.Sublist.cons _ (List.Sublist.cons _ (List.Sublist.cons _ hsub)))
    · obtain ⟨rest', hp'⟩ := it_more hp (List.mem_filter.1 he).1 hes
      have hl' := it_len hp'
      rw [List.length_append] at hl'
      refine ⟨_, _, _, (by (repeat (first | exact Sub.nil _ | refine Sub.cons rfl ?_)); done), List.Sublist.refl _, ⟨pre ++ [(ek, .int .i64 nv, eb)], rest', rfl, hp', ?_, rfl⟩, by simp only [List.length_append, List.length_cons, List.length_nil] at hl' ⊢; omega⟩
      rw [← qfM_del hborn hkey (List.mem_filter.1 he).1 (by assumption)]
    · obtain ⟨rest', hp'⟩ := it_more hp (List.mem_filter.1 he).1 hes
      have hl' := it_len hp'
      rw [List.length_append] at hl'
      refine ⟨_, _, _, (by (repeat (first | exact Sub.nil _ | refine Sub.cons rfl ?_)); done), List.Sublist.refl _, ⟨pre ++ [(ek, .int .i64 nv, eb)], rest', rfl, hp', ?_, rfl⟩, by simp only [List.length_append, List.length_cons, List.length_nil] at hl' ⊢; omega⟩
      rw [← qfM_keep hborn (List.mem_filter.1 he).1 (by assumption)]
theorem kSay_spec (T : Tm) (p : Pt) (s : Int) (gs : Sp) (H : List Row) (hT : TmOk H T p) :
    Fc Tryz.prog 22 [.agg (cTm T p).toArray, .agg (cSp gs).toArray, .int .i64 s] H (fun v H' => v = .tuple #[.int .i64 (sayS T s gs), .int .i64 (sayG T s gs), .int .i64 (sayE T s gs)] ∧ H' = H) :=
  kSay_of (fun T p s gs H hT hok h2 h3 hs => best_spec T p s gs H hT hok h2 h3 hs) T p s gs H hT
end Go.Proofs.YtcjlegjchllgjaaGreat
end
section
set_option linter.unusedVariables false
namespace Go.Fw
open Go Go.RowKit
section
variable {P : Program} {H : List Row} {F : FS} {n : Nat} {o : Oper}
/-- a slice that is written out -/
theorem StF.buildLit {T e : TypeId} {len sz y : Nat} {l : List (Nat × Operand)} {vs : List (Nat × Value)} {z : Value} {cs : List Value} (h : o.op = .buildSlice T len l.toArray) (hT : ElT P T e sz y) (hz : ∀ w, (zeroValue e).run P w = .ok z w) (hv : ArgsP F l vs)
    (hf : fillL (fun i => some (i * sz, sz)) ((Array.range (len * sz)).map (z.cells[· % z.cells.size]!)).toList vs = some cs) (h0 : Nat.ble 1 (len * sz) = true) (h1 : Nat.ble (len * sz) 16777216 = true) (hl : cs.length = len * sz) :
    StF P n H F o (fun v H' => ∃ b, v = .slice (some ⟨b, 0, none⟩) len len ∧ H' = ⟨b, 0, cs, some e, len * sz⟩ :: H) := by
  unfold StF StepOp
  intro t ha B w0 w hS
  have hS' := hS.alloc cs e
  refine ⟨.slice (some ⟨w.heap.size, 0, none⟩) len len, _, _, .inl ?_, hS', _, rfl, by rw [hl]⟩
  have hf' := fill_eq (fun i => some (i * sz, sz)) vs ((Array.range (len * sz)).map (z.cells[· % z.cells.size]!)) cs hf
  have h6 : l.map (fun x => (x.1, Fw.ev t x.2)) = vs := hv.ev ha
  have h00 := Nat.le_of_ble_eq_true h0
  have h11 := Nat.le_of_ble_eq_true h1
  have h2 : ¬ (len * sz = 0) := by omega
  have h3 : ¬ (16777216 < len * sz) := by omega
  simp [execOp, h, Instr.buildSlice, hT.un, hT.sz, hz, h3, h6, hf', newRow, newObj, Sem.run, World.alloc_eq]
  exact fun q => absurd q h2
theorem EvF.conv {S D : TypeId} {x : Operand} {k : IntKind} {q : Int} (h : o.op = .convert S D x) (hx : evF F x = some (.int k q)) (hs : (P.underlying S).isSome = true) (hd : P.underlying D = some (.int .i64)) (h1 : -9223372036854775808 ≤ q) (h2 : q ≤ 9223372036854775807) : EvF P n H F o (.int .i64 q) := by
  unfold EvF EvOp
  intro t ha B w0 w hS
  have hw := wrap_i64 h1 h2
  have e := ha.ev hx
  obtain ⟨d, hd'⟩ := Option.isSome_iff_exists.mp hs
  simp [execOp, h, e, convert, run_underlying hd', run_underlying hd, Conv.intToInt, hw]
theorem EvF.rem64 {T T' : TypeId} {x y : Operand} {p q : Int} (h : o.op = .binOp .rem T x y T') (hx : evF F x = some (.int .i64 p)) (hy : evF F y = some (.int .i64 q))
    (h0 : 0 ≤ p) (hq : 0 < q) : EvF P n H F o (.int .i64 (p % q)) := by
  unfold EvF EvOp
  intro t ha B w0 w hS
  have e : p.tmod q = p % q := Int.tmod_eq_emod_of_nonneg h0
  have hz : ¬ q = 0 := by omega
  simp [execOp, h, ha.ev hx, ha.ev hy, eqGuard, binOp, Op.intDiv, hz, e]
end
end Go.Fw
end
section
set_option linter.unusedVariables false
set_option linter.unusedSimpArgs false
namespace Go.Proofs.YtcjlegjchllgjaaGreat
open Go Go.Fw
set_option maxRecDepth 10000
/-- the terms of the examples -/
def ctn (f : Int) : Tm := ⟨4, 5, 500, 6, 4, [60, 45, 20, 0, -25, -60, -100, -160, -240], [-90, -60, -40, -15, 0, 10, 25, 30, 30], 8, 10, 5, f⟩
theorem ctn_ok {f : Int} (h : 0 ≤ f ∧ f ≤ 1000) : tmOk (ctn f) where
  cls := by unfold ctn; dsimp only; omega
  num := by unfold ctn; dsimp only; omega
  gr := ⟨rfl, by intro n hn; revert n; show ∀ n ∈ [(60 : Int), 45, 20, 0, -25, -60, -100, -160, -240], _; decide⟩
  st := ⟨rfl, by intro n hn; revert n; show ∀ n ∈ [(-90 : Int), -60, -40, -15, 0, 10, 25, 30, 30], _; decide⟩
  ord := by unfold ctn falls grows; simp [falls, grows]
  zero := ⟨rfl, rfl⟩
  least := by show (1 : Int) ≤ 500 + (-60) + (-15); decide
/-- the day of the examples -/
def dyE (n : Int) (a1 a2 : Option Addr) : Dy := ⟨n, [70, 50, 22, 0, -40, -55, -90, -150, -200], [-80, -50, -30, -20, 0, 12, 30, 40, 40], a1, 9, a2, 9⟩
theorem dyE_ok {n : Int} (h : 280 ≤ n ∧ n ≤ 1000000) (a1 a2 : Option Addr) : dayOk (dyE n a1 a2) := by
  refine ⟨by unfold dyE; dsimp only; omega, ⟨rfl, ?_⟩, ⟨rfl, ?_⟩, fun g s hg hs => ?_⟩
  · show ∀ n ∈ [(70 : Int), 50, 22, 0, -40, -55, -90, -150, -200], _; decide
  · show ∀ n ∈ [(-80 : Int), -50, -30, -20, 0, 12, 30, 40, 40], _; decide
  · have e1 : -200 ≤ at1 (dyE n a1 a2).G g := by
      obtain rfl | rfl | rfl | rfl | rfl | rfl | rfl | rfl | rfl : g = 1 ∨ g = 2 ∨ g = 3 ∨ g = 4 ∨ g = 5 ∨ g = 6 ∨ g = 7 ∨ g = 8 ∨ g = 9 := by omega
      all_goals (show -200 ≤ at1 [(70 : Int), 50, 22, 0, -40, -55, -90, -150, -200] _; decide)
    have e2 : -80 ≤ at1 (dyE n a1 a2).S s := by
      obtain rfl | rfl | rfl | rfl | rfl | rfl | rfl | rfl | rfl : s = 1 ∨ s = 2 ∨ s = 3 ∨ s = 4 ∨ s = 5 ∨ s = 6 ∨ s = 7 ∨ s = 8 ∨ s = 9 := by omega
      all_goals (show -80 ≤ at1 [(-80 : Int), -50, -30, -20, 0, 12, 30, 40, 40] _; decide)
    have e3 : (dyE n a1 a2).price = n := rfl
    omega
theorem oI {T : Tm} {c : Cl} (hok : tmOk T) (hc : in9 c) : openE T (abI c) = if may T c = true then 0 else 6 := by
  unfold openE
  have h1 : askD (abI c) := fun d hd => absurd hd List.not_mem_nil
  have h2 : askG (abI c) := fun l hl => by rw [List.mem_singleton.1 hl]; exact ⟨Int.le_refl _, hc.1, hc.1⟩
  have h3 : askS (abI c) := fun l hl => by rw [List.mem_singleton.1 hl]; exact ⟨Int.le_refl _, hc.2, hc.2⟩
  have h4 : askM (abI c) := fun d hd => absurd hd List.not_mem_nil
  have h5 : askN T (abI c) ↔ may T c = true := by
    simp only [askN, abI, List.mem_cons, List.not_mem_nil, or_false, forall_eq, cls_lo1]
    split <;> simp_all
  simp only [hok, h1, h2, h3, h4, h5, if_true]
theorem oA {T : Tm} {c : Cl} {m : Int} (hok : tmOk T) (hc : in9 c) (hm : 0 ≤ m ∧ m ≤ 60) : openE T (abA c m) = 0 := by
  unfold openE
  have h1 : askD (abA c m) := fun d hd => absurd hd List.not_mem_nil
  have h2 : askG (abA c m) := fun l hl => by rw [List.mem_singleton.1 hl]; exact ⟨Int.le_refl _, hc.1, hc.1⟩
  have h3 : askS (abA c m) := fun l hl => by rw [List.mem_singleton.1 hl]; exact ⟨Int.le_refl _, hc.2, hc.2⟩
  have h4 : askM (abA c m) := fun d hd => by rw [List.mem_singleton.1 hd]; exact hm
  have h5 : askN T (abA c m) := fun l hl => absurd hl List.not_mem_nil
  simp only [hok, h1, h2, h3, h4, h5, if_true]
theorem oK {T : Tm} {l : Lo} {m : Int} (hok : tmOk T) (hg : partOk l.g1 l.g2) (hs : partOk l.s1 l.s2) (hm : 0 ≤ m ∧ m ≤ 60) : openE T (abK l m) = 0 := by
  unfold openE
  have h1 : askD (abK l m) := fun d hd => absurd hd List.not_mem_nil
  have h2 : askG (abK l m) := fun l hl => by rw [List.mem_singleton.1 hl]; exact hg
  have h3 : askS (abK l m) := fun l hl => by rw [List.mem_singleton.1 hl]; exact hs
  have h4 : askM (abK l m) := fun d hd => by rw [List.mem_singleton.1 hd]; exact hm
  have h5 : askN T (abK l m) := fun l hl => absurd hl List.not_mem_nil
  simp only [hok, h1, h2, h3, h4, h5, if_true]
theorem oR {T : Tm} {l : Lo} (hok : tmOk T) (hg : partOk l.g1 l.g2) (hs : partOk l.s1 l.s2) : openE T (abR l) = if (cls T l).length ≠ 0 then 0 else 6 := by
  unfold openE
  have h1 : askD (abR l) := fun d hd => absurd hd List.not_mem_nil
  have h2 : askG (abR l) := fun l hl => by rw [List.mem_singleton.1 hl]; exact hg
  have h3 : askS (abR l) := fun l hl => by rw [List.mem_singleton.1 hl]; exact hs
  have h4 : askM (abR l) := fun d hd => absurd hd List.not_mem_nil
  have h5 : askN T (abR l) ↔ (cls T l).length ≠ 0 := by simp [askN, abR]
  simp only [hok, h1, h2, h3, h4, h5, if_true]
def c12 : Tm := ctn 12
def c40 : Tm := ctn 40
theorem ok12 : tmOk c12 := ctn_ok (by decide)
theorem ok40 : tmOk c40 := ctn_ok (by decide)
theorem i9 {g s : Int} (h : (1 ≤ g ∧ g ≤ 9) ∧ (1 ≤ s ∧ s ≤ 9)) : in9 ⟨g, s⟩ := h
theorem al1 : invR c12 ⟨6, 4⟩ = 425 ∧ openE c12 (abI ⟨6, 4⟩) = 0 := by
  have h : openE c12 (abI ⟨6, 4⟩) = 0 := by rw [oI ok12 (i9 (by decide)), if_pos (by decide)]
  exact ⟨by unfold invR; rw [if_pos h]; decide, h⟩
theorem al2 : allowsR c12 ⟨6, 4⟩ 8 = true ∧ openE c12 (abA ⟨6, 4⟩ 8) = 0 := by
  have h : openE c12 (abA ⟨6, 4⟩ 8) = 0 := oA ok12 (i9 (by decide)) (by decide)
  exact ⟨by unfold allowsR; rw [if_pos h]; decide, h⟩
theorem al3 : knoR c12 (lotOf ⟨5, 7⟩ ⟨5, 5⟩) 9 = 1 ∧ openE c12 (abK (lotOf ⟨5, 7⟩ ⟨5, 5⟩) 9) = 0 := by
  have h : openE c12 (abK (lotOf ⟨5, 7⟩ ⟨5, 5⟩) 9) = 0 := oK ok12 (by decide) (by decide) (by decide)
  exact ⟨by unfold knoR; rw [if_pos h]; decide, h⟩
theorem al4 : rngR c12 (lotOf ⟨3, 7⟩ ⟨4, 6⟩) = ⟨425, 530⟩ ∧ openE c12 (abR (lotOf ⟨3, 7⟩ ⟨4, 6⟩)) = 0 := by
  have h : openE c12 (abR (lotOf ⟨3, 7⟩ ⟨4, 6⟩)) = 0 := by rw [oR ok12 (by decide) (by decide), if_pos (by decide)]
  exact ⟨by unfold rngR; rw [if_pos h]; rfl, h⟩
theorem al5 : payG c12 4 6 5 true = 428 ∧ payP c12 4 6 5 true = 440 ∧ payE c12 4 6 5 = 0 := by
  have h : payE c12 4 6 5 = 0 := by unfold payE; rw [if_pos ok12]; decide
  exact ⟨by unfold payG; rw [if_pos h]; decide, by unfold payP; rw [if_pos h]; decide, h⟩
theorem al6 : askA c12 4 5 ⟨4, 6⟩ = true ∧ askL c12 4 5 ⟨4, 6⟩ = 12 ∧ askE c12 4 5 ⟨4, 6⟩ = 0 := by
  have h : askE c12 4 5 ⟨4, 6⟩ = 0 := by unfold askE; rw [if_pos ok12]; decide
  exact ⟨by unfold askA; rw [if_pos h]; decide, by unfold askL; rw [if_pos h]; decide, h⟩
theorem al7 : sayS c40 5 ⟨5, 6⟩ = 5 ∧ sayG c40 5 ⟨5, 6⟩ = 475 ∧ sayE c40 5 ⟨5, 6⟩ = 0 := by
  have hb : byS c40 5 ⟨5, 6⟩ 9 = (5, 475) := by decide +kernel
  have h : sayE c40 5 ⟨5, 6⟩ = 0 := by unfold sayE; rw [if_pos ok40, if_pos (by decide), if_pos (by decide), if_neg (by rw [hb]; decide)]
  exact ⟨by unfold sayS; rw [if_pos h, hb], by unfold sayG; rw [if_pos h, hb], h⟩
theorem dE {n : Int} (h : 280 ≤ n ∧ n ≤ 1000000) (a1 a2 : Option Addr) : dayE c12 (dyE n a1 a2) = 0 := by unfold dayE; rw [if_pos ok12, if_pos (dyE_ok h a1 a2)]
theorem chp_dy (n : Int) (a1 a2 : Option Addr) : chp c12 (dyE n a1 a2) = chp c12 (dyE n none none) := rfl
theorem al10 (a1 a2 : Option Addr) : chC c12 (dyE 510 a1 a2) = ⟨5, 4⟩ ∧ chN c12 (dyE 510 a1 a2) = -10 ∧ dayE c12 (dyE 510 a1 a2) = 0 := by
  have h := dE (n := 510) (by decide) a1 a2
  have hc : chp c12 (dyE 510 a1 a2) = ⟨5, 4⟩ := by rw [chp_dy]; rfl
  exact ⟨by unfold chC; rw [if_pos h, hc], by unfold chN; rw [if_pos h, hc]; rfl, h⟩
theorem al11 (a1 a2 : Option Addr) : deN c12 (dyE 510 a1 a2) ⟨4, 5⟩ = 20 ∧ deaE c12 (dyE 510 a1 a2) ⟨4, 5⟩ = 0 := by
  have h := dE (n := 510) (by decide) a1 a2
  have hc : chp c12 (dyE 510 a1 a2) = ⟨5, 4⟩ := by rw [chp_dy]; rfl
  have h1 : deaE c12 (dyE 510 a1 a2) ⟨4, 5⟩ = 0 := by unfold deaE; rw [if_pos h, if_pos (by decide), if_pos (by decide)]
  exact ⟨by unfold deN; rw [if_pos h1, hc]; rfl, h1⟩
theorem al12 (a1 a2 a3 a4 a5 a6 : Option Addr) : monR c12 [dyE 510 a1 a2, dyE 505 a3 a4, dyE 520 a5 a6] = (9, ⟨5, 4⟩, -15) ∧ monE c12 [dyE 510 a1 a2, dyE 505 a3 a4, dyE 520 a5 a6] = 0 := by
  have h : monE c12 [dyE 510 a1 a2, dyE 505 a3 a4, dyE 520 a5 a6] = 0 := by
    unfold monE
    rw [if_pos ok12, if_pos (by rfl), if_pos]
    intro d hd
    rcases List.mem_cons.1 hd with rfl | hd
    · exact dyE_ok (by decide) _ _
    · rcases List.mem_cons.1 hd with rfl | hd
      · exact dyE_ok (by decide) _ _
      · rw [List.mem_singleton.1 hd]; exact dyE_ok (by decide) _ _
  refine ⟨?_, h⟩
  unfold monR
  rw [if_pos h]
  have c1 : ∀ a b, chp c12 (dyE 510 a b) = ⟨5, 4⟩ := fun a b => by rw [chp_dy]; rfl
  have c2 : ∀ a b, chp c12 (dyE 505 a b) = ⟨5, 4⟩ := fun a b => by rw [chp_dy]; rfl
  have c3 : ∀ a b, chp c12 (dyE 520 a b) = ⟨5, 4⟩ := fun a b => by rw [chp_dy]; rfl
  have l1 : ∀ a b, lstN c12 (dyE 510 a b) = -10 := fun a b => by unfold lstN; rw [c1]; rfl
  have l2 : ∀ a b, lstN c12 (dyE 505 a b) = -15 := fun a b => by unfold lstN; rw [c2]; rfl
  have l3 : ∀ a b, lstN c12 (dyE 520 a b) = 0 := fun a b => by unfold lstN; rw [c3]; rfl
  show mst c12 [dyE 510 a1 a2, dyE 505 a3 a4, dyE 520 a5 a6] 3 = _
  have m1 : mst c12 [dyE 510 a1 a2, dyE 505 a3 a4, dyE 520 a5 a6] 1 = (8, ⟨5, 4⟩, -10) := by rw [mst_step (k := 0) rfl, if_pos (.inl rfl), c1, l1]; rfl
  have m2 : mst c12 [dyE 510 a1 a2, dyE 505 a3 a4, dyE 520 a5 a6] 2 = (9, ⟨5, 4⟩, -15) := by rw [mst_step (k := 1) rfl, m1, l2, c2, if_pos (.inr (by decide))]; rfl
  rw [mst_step (k := 2) rfl, m2, l3, if_neg (by decide)]
theorem al13 : totS c12 9 [⟨4, 5⟩, ⟨7, 5⟩, ⟨5, 4⟩] = 960 ∧ totI c12 9 [⟨4, 5⟩, ⟨7, 5⟩, ⟨5, 4⟩] = [1] ∧ totE c12 9 [⟨4, 5⟩, ⟨7, 5⟩, ⟨5, 4⟩] = 0 := by
  have h : totE c12 9 [⟨4, 5⟩, ⟨7, 5⟩, ⟨5, 4⟩] = 0 := by unfold totE; rw [if_pos ok12]; decide
  exact ⟨by unfold totS; rw [if_pos h]; rfl, by unfold totI; rw [if_pos h]; rfl, h⟩
theorem al15 : splF c12 2 = (withB c12 2, withB c12 3, 0) := by unfold splF; rw [if_pos ok12, if_pos (by decide)]; rfl
theorem ok2 : tmOk (withB c12 2) ∧ tmOk (withB c12 3) := by
  have h := ok12
  exact ⟨⟨h.cls, by decide, h.gr, h.st, h.ord, h.zero, h.least⟩, ⟨h.cls, by decide, h.gr, h.st, h.ord, h.zero, h.least⟩⟩
theorem al16 : joinF (withB c12 2) (withB c12 3) = (c12, 0) := by unfold joinF; rw [if_pos ok2, if_pos (by rfl), if_neg (by decide)]; rfl
theorem al17 : stepF c12 5 (-30) = (stepT c12 5 (-30), 0) := by
  have h : tmOk (stepT c12 5 (-30)) := by
    refine ⟨by decide, by decide, ⟨rfl, by decide⟩, ⟨rfl, by decide⟩, ?_, by decide, by decide⟩
    show falls [(60 : Int), 45, 20, 0, -30, -60, -100, -160, -240] ∧ grows [(-90 : Int), -60, -40, -15, 0, 10, 25, 30, 30]
    simp [falls, grows]
  unfold stepF vld; rw [if_pos ok12, if_pos (by decide), if_pos h]
end Go.Proofs.YtcjlegjchllgjaaGreat
end
section
set_option linter.unusedVariables false
set_option linter.unusedSimpArgs false
namespace Go.Proofs.YtcjlegjchllgjaaGreat
open Go Go.Fw
set_option maxRecDepth 10000
theorem zI : ∀ w, (zeroValue 3).run Tryz.prog w = .ok (.int .i64 0) w := Tryz.zeroValue3
theorem lclass_spec (g s : Int) (H : List Row) : Fc Tryz.prog 16 [.int .i64 g, .int .i64 s] H (fun v H' => v = .agg (cCl ⟨g, s⟩).toArray ∧ H' = H) := by
  refine Fc.mk (callable Tryz.call16) Tryz.func16 rfl Tryz.ntmps16 rfl ?_; dsimp only [fr]
  repeat' (first | (refine XO.op rfl ?_; (first | ((first | refine Xo.ng rfl ?_); (first | (refine Xg.ev (EvF.build (cs := cCl ⟨g, s⟩) rfl (ArgsP.cons rfl (ArgsP.cons rfl ArgsP.nil)) (te rfl) (Places.cons (te rfl) (Places.cons (te rfl) Places.nil)) Tryz.zeroValue27 rfl) rfl rfl ?_) | (refine Xg.ev (EvF.move rfl rfl) rfl rfl ?_) | (refine Xg.st (StF.alloc rfl Tryz.zeroValue30 rfl) rfl rfl ?_; rintro _ _ ⟨bx, rfl, rfl⟩) | (refine Xg.st0 (StF.storeAll (i := 0) rfl rfl rfl (te rfl) rfl rfl rfl rfl) rfl ?_; rintro _ _ ⟨rfl, rfl⟩; dsimp only [List.set]))))) | (refine XO.done rfl ?_; refine hK _ _ ?_; clear hK K) | refine X.seq rfl ?_ | refine X.region rfl (fun K hK => ?_) | refine X.ret rfl ?_)
  exact ret_one (v := .agg (cCl ⟨g, s⟩).toArray) (by first | exact .inr rfl | exact .inl rfl) Tryz.results16 ⟨_, rfl, LoadV.whole (te rfl) rfl (List.Mem.head _) rfl⟩ (H' := H) (by (repeat (first | exact List.Sublist.refl _ | apply List.Sublist.cons)); done) ⟨rfl, rfl⟩
theorem lspan_spec (a b : Int) (H : List Row) : Fc Tryz.prog 19 [.int .i64 a, .int .i64 b] H (fun v H' => v = .agg (cSp ⟨a, b⟩).toArray ∧ H' = H) := by
  refine Fc.mk (callable Tryz.call19) Tryz.func19 rfl Tryz.ntmps19 rfl ?_; dsimp only [fr]
  repeat' (first | (refine XO.op rfl ?_; (first | ((first | refine Xo.ng rfl ?_); (first | (refine Xg.ev (EvF.build (cs := cSp ⟨a, b⟩) rfl (ArgsP.cons rfl (ArgsP.cons rfl ArgsP.nil)) (te rfl) (Places.cons (te rfl) (Places.cons (te rfl) Places.nil)) Tryz.zeroValue30 rfl) rfl rfl ?_) | (refine Xg.ev (EvF.move rfl rfl) rfl rfl ?_) | (refine Xg.st (StF.alloc rfl Tryz.zeroValue30 rfl) rfl rfl ?_; rintro _ _ ⟨bx, rfl, rfl⟩) | (refine Xg.st0 (StF.storeAll (i := 0) rfl rfl rfl (te rfl) rfl rfl rfl rfl) rfl ?_; rintro _ _ ⟨rfl, rfl⟩; dsimp only [List.set]))))) | (refine XO.done rfl ?_; refine hK _ _ ?_; clear hK K) | refine X.seq rfl ?_ | refine X.region rfl (fun K hK => ?_) | refine X.ret rfl ?_)
  exact ret_one (v := .agg (cSp ⟨a, b⟩).toArray) (by first | exact .inr rfl | exact .inl rfl) Tryz.results19 ⟨_, rfl, LoadV.whole (te rfl) rfl (List.Mem.head _) rfl⟩ (H' := H) (by (repeat (first | exact List.Sublist.refl _ | apply List.Sublist.cons)); done) ⟨rfl, rfl⟩
theorem litG (f : Int) : fillL (fun i => some (i * 1, 1)) ((Array.range (9 * 1)).map (fun x => (Value.int .i64 0).cells[x % (Value.int .i64 0).cells.size]!)).toList [(0, .int .i64 60), (1, .int .i64 45), (2, .int .i64 20), (3, .int .i64 0), (4, .int .i64 (-25)), (5, .int .i64 (-60)), (6, .int .i64 (-100)), (7, .int .i64 (-160)), (8, .int .i64 (-240))] = some ((ctn f).G.flatMap cI) := by kernel_rfl
theorem litS (f : Int) : fillL (fun i => some (i * 1, 1)) ((Array.range (9 * 1)).map (fun x => (Value.int .i64 0).cells[x % (Value.int .i64 0).cells.size]!)).toList [(0, .int .i64 (-90)), (1, .int .i64 (-60)), (2, .int .i64 (-40)), (3, .int .i64 (-15)), (4, .int .i64 0), (5, .int .i64 10), (6, .int .i64 25), (7, .int .i64 30), (8, .int .i64 30)] = some ((ctn f).S.flatMap cI) := by kernel_rfl
theorem litDG (n : Int) (a1 a2 : Option Addr) : fillL (fun i => some (i * 1, 1)) ((Array.range (9 * 1)).map (fun x => (Value.int .i64 0).cells[x % (Value.int .i64 0).cells.size]!)).toList [(0, .int .i64 70), (1, .int .i64 50), (2, .int .i64 22), (3, .int .i64 0), (4, .int .i64 (-40)), (5, .int .i64 (-55)), (6, .int .i64 (-90)), (7, .int .i64 (-150)), (8, .int .i64 (-200))] = some ((dyE n a1 a2).G.flatMap cI) := by kernel_rfl
theorem litDS (n : Int) (a1 a2 : Option Addr) : fillL (fun i => some (i * 1, 1)) ((Array.range (9 * 1)).map (fun x => (Value.int .i64 0).cells[x % (Value.int .i64 0).cells.size]!)).toList [(0, .int .i64 (-80)), (1, .int .i64 (-50)), (2, .int .i64 (-30)), (3, .int .i64 (-20)), (4, .int .i64 0), (5, .int .i64 12), (6, .int .i64 30), (7, .int .i64 40), (8, .int .i64 40)] = some ((dyE n a1 a2).S.flatMap cI) := by kernel_rfl
set_option maxHeartbeats 4000000 in
theorem cotton_spec (f : Int) (H : List Row) : Fc Tryz.prog 15 [.int .i64 f] H (fun v H' => ∃ b1 b2, v = .agg (cTm (ctn f) (plT b1 9 b2 9)).toArray ∧ H' = rI (ctn f).S b2 9 :: rI (ctn f).G b1 9 :: H) := by
  refine Fc.mk (callable Tryz.call15) Tryz.func15 rfl Tryz.ntmps15 rfl ?_; dsimp only [fr]
  repeat' (first | (refine XO.op rfl ?_; (first | ((first | refine Xo.ng rfl ?_); (first | (refine Xg.call (EnF.st rfl (Args.cons rfl (Args.cons rfl Args.nil))) rfl rfl (lclass_spec 4 5 _) ?_; rintro _ H9 ⟨rfl, hH9⟩; subst H9) | (refine Xg.call (EnF.st rfl (Args.cons rfl (Args.cons rfl Args.nil))) rfl rfl (lspan_spec 8 10 _) ?_; rintro _ H9 ⟨rfl, hH9⟩; subst H9) | (refine Xg.st (StF.buildLit (len := 9) (vs := [(0, .int .i64 60), (1, .int .i64 45), (2, .int .i64 20), (3, .int .i64 0), (4, .int .i64 (-25)), (5, .int .i64 (-60)), (6, .int .i64 (-100)), (7, .int .i64 (-160)), (8, .int .i64 (-240))]) (cs := (ctn f).G.flatMap cI) rfl elI zI (ArgsP.cons rfl (ArgsP.cons rfl (ArgsP.cons rfl (ArgsP.cons rfl (ArgsP.cons rfl (ArgsP.cons rfl (ArgsP.cons rfl (ArgsP.cons rfl (ArgsP.cons rfl ArgsP.nil))))))))) (litG f) rfl rfl rfl) rfl rfl ?_; rintro _ _ ⟨b1, rfl, rfl⟩) | (refine Xg.st (StF.buildLit (len := 9) (vs := [(0, .int .i64 (-90)), (1, .int .i64 (-60)), (2, .int .i64 (-40)), (3, .int .i64 (-15)), (4, .int .i64 0), (5, .int .i64 10), (6, .int .i64 25), (7, .int .i64 30), (8, .int .i64 30)]) (cs := (ctn f).S.flatMap cI) rfl elI zI (ArgsP.cons rfl (ArgsP.cons rfl (ArgsP.cons rfl (ArgsP.cons rfl (ArgsP.cons rfl (ArgsP.cons rfl (ArgsP.cons rfl (ArgsP.cons rfl (ArgsP.cons rfl ArgsP.nil))))))))) (litS f) rfl rfl rfl) rfl rfl ?_; rintro _ _ ⟨b2, rfl, rfl⟩) | (refine Xg.ev (EvF.build (cs := cTm (ctn f) (plT b1 9 b2 9)) rfl (ArgsP.cons rfl (ArgsP.cons rfl (ArgsP.cons rfl (ArgsP.cons rfl (ArgsP.cons rfl (ArgsP.cons rfl (ArgsP.cons rfl (ArgsP.cons rfl (ArgsP.cons rfl ArgsP.nil))))))))) (te rfl) (Places.cons (te rfl) (Places.cons (te rfl) (Places.cons (te rfl) (Places.cons (te rfl) (Places.cons (te rfl) (Places.cons (te rfl) (Places.cons (te rfl) (Places.cons (te rfl) (Places.cons (te rfl) Places.nil))))))))) Tryz.zeroValue32 rfl) rfl rfl ?_) | (refine Xg.st0 (StF.storeAll (i := 2) (vs := cTm (ctn f) (plT b1 9 b2 9)) rfl rfl rfl (te rfl) rfl rfl rfl rfl) rfl ?_; rintro _ _ ⟨rfl, rfl⟩; dsimp only [List.set]) | (refine Xg.ev (EvF.move rfl rfl) rfl rfl ?_) | (refine Xg.st (StF.alloc rfl Tryz.zeroValue32 rfl) rfl rfl ?_; rintro _ _ ⟨bx, rfl, rfl⟩))))) | (refine XO.done rfl ?_; refine hK _ _ ?_; clear hK K) | refine X.seq rfl ?_ | refine X.region rfl (fun K hK => ?_) | refine X.ret rfl ?_)
  exact ret_one (v := .agg (cTm (ctn f) (plT b1 9 b2 9)).toArray) (by first | exact .inr rfl | exact .inl rfl) Tryz.results15 ⟨_, rfl, LoadV.whole (te rfl) rfl (List.Mem.tail _ (List.Mem.tail _ (List.Mem.head _))) rfl⟩ (H' := rI (ctn f).S b2 9 :: rI (ctn f).G b1 9 :: H) (by (repeat (first | exact List.Sublist.refl _ | apply List.Sublist.cons_cons | apply List.Sublist.cons)); done) ⟨b1, b2, rfl, rfl⟩
theorem ctnOk (f : Int) (b1 b2 : Nat) (S : List Row) (h1 : rI (ctn f).G b1 9 ∈ S) (h2 : rI (ctn f).S b2 9 ∈ S) : TmOk S (ctn f) (plT b1 9 b2 9) := ⟨SlE.ofRow h1 (fun _ _ => rfl), SlE.ofRow h2 (fun _ _ => rfl), Nat.le_of_ble_eq_true rfl, Nat.le_of_ble_eq_true rfl⟩
set_option maxHeartbeats 4000000 in
theorem day_spec (n : Int) (H : List Row) : Fc Tryz.prog 24 [.int .i64 n] H (fun v H' => ∃ b1 b2, v = .agg (cDy (dyE n (some ⟨b1, 0, none⟩) (some ⟨b2, 0, none⟩))).toArray ∧ H' = rI (dyE n none none).S b2 9 :: rI (dyE n none none).G b1 9 :: H) := by
  refine Fc.mk (callable Tryz.call24) Tryz.func24 rfl Tryz.ntmps24 rfl ?_; dsimp only [fr]
  repeat' (first | (refine XO.op rfl ?_; (first | ((first | refine Xo.ng rfl ?_); (first | (refine Xg.st (StF.buildLit (len := 9) (vs := [(0, .int .i64 70), (1, .int .i64 50), (2, .int .i64 22), (3, .int .i64 0), (4, .int .i64 (-40)), (5, .int .i64 (-55)), (6, .int .i64 (-90)), (7, .int .i64 (-150)), (8, .int .i64 (-200))]) (cs := (dyE n none none).G.flatMap cI) rfl elI zI (ArgsP.cons rfl (ArgsP.cons rfl (ArgsP.cons rfl (ArgsP.cons rfl (ArgsP.cons rfl (ArgsP.cons rfl (ArgsP.cons rfl (ArgsP.cons rfl (ArgsP.cons rfl ArgsP.nil))))))))) (litDG n none none) rfl rfl rfl) rfl rfl ?_; rintro _ _ ⟨b1, rfl, rfl⟩) | (refine Xg.st (StF.buildLit (len := 9) (vs := [(0, .int .i64 (-80)), (1, .int .i64 (-50)), (2, .int .i64 (-30)), (3, .int .i64 (-20)), (4, .int .i64 0), (5, .int .i64 12), (6, .int .i64 30), (7, .int .i64 40), (8, .int .i64 40)]) (cs := (dyE n none none).S.flatMap cI) rfl elI zI (ArgsP.cons rfl (ArgsP.cons rfl (ArgsP.cons rfl (ArgsP.cons rfl (ArgsP.cons rfl (ArgsP.cons rfl (ArgsP.cons rfl (ArgsP.cons rfl (ArgsP.cons rfl ArgsP.nil))))))))) (litDS n none none) rfl rfl rfl) rfl rfl ?_; rintro _ _ ⟨b2, rfl, rfl⟩) | (refine Xg.ev (EvF.build (cs := cDy (dyE n (some ⟨b1, 0, none⟩) (some ⟨b2, 0, none⟩))) rfl (ArgsP.cons rfl (ArgsP.cons rfl (ArgsP.cons rfl ArgsP.nil))) (te rfl) (Places.cons (te rfl) (Places.cons (te rfl) (Places.cons (te rfl) Places.nil))) Tryz.zeroValue48 rfl) rfl rfl ?_) | (refine Xg.st0 (StF.storeAll (i := 2) (vs := cDy (dyE n (some ⟨b1, 0, none⟩) (some ⟨b2, 0, none⟩))) rfl rfl rfl (te rfl) rfl rfl rfl rfl) rfl ?_; rintro _ _ ⟨rfl, rfl⟩; dsimp only [List.set]) | (refine Xg.ev (EvF.move rfl rfl) rfl rfl ?_) | (refine Xg.st (StF.alloc rfl Tryz.zeroValue48 rfl) rfl rfl ?_; rintro _ _ ⟨bx, rfl, rfl⟩))))) | (refine XO.done rfl ?_; refine hK _ _ ?_; clear hK K) | refine X.seq rfl ?_ | refine X.region rfl (fun K hK => ?_) | refine X.ret rfl ?_)
  exact ret_one (v := .agg (cDy (dyE n (some ⟨b1, 0, none⟩) (some ⟨b2, 0, none⟩))).toArray) (by first | exact .inr rfl | exact .inl rfl) Tryz.results24 ⟨_, rfl, LoadV.whole (te rfl) rfl (List.Mem.tail _ (List.Mem.tail _ (List.Mem.head _))) rfl⟩ (H' := rI (dyE n none none).S b2 9 :: rI (dyE n none none).G b1 9 :: H) (by (repeat (first | exact List.Sublist.refl _ | apply List.Sublist.cons_cons | apply List.Sublist.cons)); done) ⟨b1, b2, rfl, rfl⟩
theorem dyEOk (n : Int) (b1 b2 : Nat) (S : List Row) (h1 : rI (dyE n none none).G b1 9 ∈ S) (h2 : rI (dyE n none none).S b2 9 ∈ S) : DyOk S (dyE n (some ⟨b1, 0, none⟩) (some ⟨b2, 0, none⟩)) := ⟨SlE.ofRow h1 (fun _ _ => rfl), SlE.ofRow h2 (fun _ _ => rfl), Nat.le_of_ble_eq_true rfl, Nat.le_of_ble_eq_true rfl⟩
def u8 (n : Int) : Prop := 0 ≤ n ∧ n ≤ 255
/-- a span of two numbers -/
def smS (a b : Int) : Sp := ⟨min (1 + a % 9) (1 + b % 9), max (1 + a % 9) (1 + b % 9)⟩
theorem smS_ok (a b : Int) : (1 ≤ (smS a b).lo ∧ (smS a b).lo ≤ (smS a b).hi) ∧ (smS a b).hi ≤ 9 := by
  unfold smS; dsimp only; omega
theorem int8_und : (Tryz.prog.underlying 5).isSome = true := by kernel_rfl
theorem int64_und : Tryz.prog.underlying 3 = some (.int .i64) := by kernel_rfl
theorem some_spec (a b : Int) (ha : u8 a) (hb : u8 b) (H : List Row) : Fc Tryz.prog 35 [.int .u8 a, .int .u8 b] H (fun v H' => v = .agg (cSp (smS a b)).toArray ∧ H' = H) := by
  unfold u8 at ha hb
  refine Fc.mk (callable Tryz.call35) Tryz.func35 rfl Tryz.ntmps35 rfl ?_; dsimp only [fr]
  repeat' (first | (refine XO.op rfl ?_; (first | ((first | refine Xo.ng rfl ?_); (first | (refine Xg.ev (EvF.conv rfl rfl int8_und int64_und (by omega) (by omega)) rfl rfl ?_) | (refine Xg.ev (EvF.rem64 rfl rfl rfl (by omega) (by omega)) rfl rfl ?_) | (refine Xg.call (EnF.st rfl (Args.cons rfl (Args.cons rfl Args.nil))) rfl rfl (lspan_spec _ _ _) ?_; rintro _ H9 ⟨rfl, hH9⟩; subst H9) | (refine Xg.ev (EvF.move rfl rfl) rfl rfl ?_) | (refine Xg.ev (EvF.assign rfl rfl) rfl rfl ?_) | (refine Xg.ev (EvF.add64 rfl rfl rfl (by omega) (by omega)) rfl rfl ?_) | (refine Xg.ev (EvF.min64 rfl rfl rfl) rfl rfl ?_) | (refine Xg.ev (EvF.max64 rfl rfl rfl) rfl rfl ?_) | (refine Xg.st (StF.alloc rfl Tryz.zeroValue30 rfl) rfl rfl ?_; rintro _ _ ⟨bx, rfl, rfl⟩) | (refine Xg.st0 (StF.storeAll (i := 0) rfl rfl rfl (te rfl) rfl rfl rfl rfl) rfl ?_; rintro _ _ ⟨rfl, rfl⟩; dsimp only [List.set]))))) | (refine XO.done rfl ?_; refine hK _ _ ?_; clear hK K) | refine X.seq rfl ?_ | refine X.region rfl (fun K hK => ?_) | refine X.ret rfl ?_)
  exact ret_one (v := .agg (cSp (smS a b)).toArray) (by first | exact .inr rfl | exact .inl rfl) Tryz.results35 ⟨_, rfl, LoadV.whole (te rfl) rfl (List.Mem.head _) rfl⟩ (H' := H) (by (repeat (first | exact List.Sublist.refl _ | apply List.Sublist.cons)); done) ⟨rfl, rfl⟩
def pkI (s : Sp) (n : Int) : Int := s.lo + n % (s.hi - s.lo + 1)
theorem pkI_in {s : Sp} {n : Int} (h : s.lo ≤ s.hi) : s.lo ≤ pkI s n ∧ pkI s n ≤ s.hi := by
  unfold pkI
  have h1 := Int.emod_nonneg n (show s.hi - s.lo + 1 ≠ 0 by omega)
  have h2 := Int.emod_lt_of_pos n (show 0 < s.hi - s.lo + 1 by omega)
  omega
theorem pick_spec (s : Sp) (n : Int) (hn : u8 n) (hs : s.lo ≤ s.hi ∧ -1000 ≤ s.lo ∧ s.hi ≤ 1000) (H : List Row) : Fc Tryz.prog 36 [.agg (cSp s).toArray, .int .u8 n] H (fun v H' => v = .int .i64 (pkI s n) ∧ H' = H) := by
  unfold u8 at hn
  have h1 := Int.emod_nonneg n (show s.hi - s.lo + 1 ≠ 0 by omega)
  have h2 := Int.emod_lt_of_pos n (show 0 < s.hi - s.lo + 1 by omega)
  refine Fc.mk (callable Tryz.call36) Tryz.func36 rfl Tryz.ntmps36 rfl ?_; dsimp only [fr]
  repeat' (first | (refine XO.op rfl ?_; (first | ((first | refine Xo.ng rfl ?_); (first | (refine Xg.ev (EvF.assign rfl rfl) rfl rfl ?_) | (refine Xg.st (StF.boxAgg rfl rfl) rfl rfl ?_; rintro _ _ ⟨bx, rfl, rfl⟩))))) | (refine XO.done rfl ?_; refine hK _ _ ?_; clear hK K) | (refine XQ.op rfl ?_; (first | ((first | refine Yo.ng rfl ?_); (first | (refine Yg.ev (EvF.conv rfl rfl int8_und int64_und (by omega) (by omega)) rfl rfl ?_) | (refine Yg.ev (EvF.rem64 rfl rfl rfl (by omega) (by omega)) rfl rfl ?_) | (refine Yg.ev (EvF.move rfl rfl) rfl rfl ?_) | (refine Yg.ev (EvF.assign rfl rfl) rfl rfl ?_) | (refine Yg.ev (EvF.add64 rfl rfl rfl (by omega) (by omega)) rfl rfl ?_) | (refine Yg.ev (EvF.sub64 rfl rfl rfl (by omega) (by omega)) rfl rfl ?_) | (refine Yg.ev (EvF.fieldAddr rfl rfl (te rfl) rfl (te rfl) (by decide)) rfl rfl ?_) | (refine Yg.ev (EvF.loadV rfl rfl (LoadV.own (te rfl) rfl (List.Mem.head _) rfl)) rfl rfl ?_))))) | (refine XQ.done rfl ?_; refine hK _ ?_; clear hK K) | refine X.seq rfl ?_ | refine X.region rfl (fun K hK => ?_) | refine X.regionD rfl mixed (by kernel_rfl) (fun K hK => ?_) | refine X.ret rfl ?_)
  exact ret_one (by first | exact .inr rfl | exact .inl rfl) Tryz.results36 rfl (H' := H) (by (repeat (first | exact List.Sublist.refl _ | apply List.Sublist.cons)); done) ⟨rfl, rfl⟩
/-- valid, and not great -/
def rdy (T : Tm) : Prop := ¬ (T.G.length > 30 ∨ T.S.length > 30) ∧ tmOk T
theorem readyT (T : Tm) (p : Pt) (hrd : rdy T) (H : List Row) (hT : TmOk H T p) : Fc Tryz.prog 34 [.agg (cTm T p).toArray] H (fun v H' => v = .bool true ∧ H' = H) := by
  have hT1 : ∀ Z : List Row, TmOk (Z ++ H) T p := fun Z => hT.sub (fun _ h => List.mem_append_right _ h)
  refine Fc.mk (callable Tryz.call34) Tryz.func34 rfl Tryz.ntmps34 rfl ?_; dsimp only [fr]
  repeat' (first | (refine XO.op rfl ?_; (first | ((first | refine Xo.ng rfl ?_ | (refine Xo.g rfl rfl ?_; with_reducible refine Xw.tt ?_)); (first | (refine Xg.call (EnF.st rfl (Args.cons rfl Args.nil)) rfl rfl (greatF T p hrd.1 _) ?_; rintro _ H9 ⟨rfl, hH9⟩; subst H9) | (refine Xg.call (EnF.st rfl (Args.cons rfl Args.nil)) rfl rfl (rtermsT T p hrd.2 _ (hT1 [_])) ?_; rintro _ H9 ⟨rfl, hH9⟩; subst H9) | (refine Xg.ev (EvF.move rfl rfl) rfl rfl ?_) | (refine Xg.ev (EvF.assign rfl rfl) rfl rfl ?_) | (refine Xg.ev (EvF.pickT rfl rfl rfl) rfl rfl ?_) | (refine Xg.ev (EvF.pickF rfl rfl rfl) rfl rfl ?_) | (refine Xg.ev (EvF.not rfl rfl) rfl rfl ?_) | (refine Xg.ev (EvF.loadV rfl rfl (LoadV.whole (te rfl) rfl (List.Mem.head _) rfl)) rfl rfl ?_) | (refine Xg.st (StF.boxAgg rfl rfl) rfl rfl ?_; rintro _ _ ⟨bx, rfl, rfl⟩))) | (refine Xo.g rfl rfl ?_; (first | (with_reducible refine Xw.ft rfl rfl ?_) | (with_reducible refine Xw.caseB (fun h => ?_) (fun h => ?_) <;> simp only [h, decide_true, decide_false, Bool.not_true, Bool.not_false, and_self, and_true, true_and, and_false, false_and]))))) | (refine XO.done rfl ?_; refine hK _ _ ?_; clear hK K) | refine X.seq rfl ?_ | refine X.region rfl (fun K hK => ?_) | refine X.ret rfl ?_)
  all_goals try (exfalso; contradiction)
  exact ret_one (by first | exact .inr rfl | exact .inl rfl) Tryz.results34 rfl (H' := H) (by (repeat (first | exact List.Sublist.refl _ | apply List.Sublist.cons)); done) ⟨rfl, rfl⟩
theorem readyF (T : Tm) (p : Pt) (hrd : ¬ rdy T) (H : List Row) (hg : SlE H p.a1 cI 1 T.G) (hs : SlE H p.a2 cI 1 T.S) : Fc Tryz.prog 34 [.agg (cTm T p).toArray] H (fun v H' => v = .bool false ∧ H' = H) := by
  by_cases hgr : T.G.length > 30 ∨ T.S.length > 30
  · refine Fc.mk (callable Tryz.call34) Tryz.func34 rfl Tryz.ntmps34 rfl ?_; dsimp only [fr]
    repeat' (first | (refine XO.op rfl ?_; (first | ((first | refine Xo.ng rfl ?_ | (refine Xo.g rfl rfl ?_; with_reducible refine Xw.tt ?_)); (first | (refine Xg.call (EnF.st rfl (Args.cons rfl Args.nil)) rfl rfl (greatT T p hgr _) ?_; rintro _ H9 ⟨rfl, hH9⟩; subst H9) | (refine Xg.ev (EvF.move rfl rfl) rfl rfl ?_) | (refine Xg.ev (EvF.assign rfl rfl) rfl rfl ?_) | (refine Xg.ev (EvF.pickF rfl rfl rfl) rfl rfl ?_) | (refine Xg.ev (EvF.not rfl rfl) rfl rfl ?_) | (refine Xg.ev (EvF.loadV rfl rfl (LoadV.whole (te rfl) rfl (List.Mem.head _) rfl)) rfl rfl ?_) | (refine Xg.st (StF.boxAgg rfl rfl) rfl rfl ?_; rintro _ _ ⟨bx, rfl, rfl⟩))) | (refine Xo.g rfl rfl ?_; (first | (with_reducible refine Xw.ft rfl rfl ?_) | (with_reducible refine Xw.caseB (fun h => ?_) (fun h => ?_) <;> simp only [h, decide_true, decide_false, Bool.not_true, Bool.not_false, and_self, and_true, true_and, and_false, false_and]))))) | (refine XO.done rfl ?_; refine hK _ _ ?_; clear hK K) | refine X.seq rfl ?_ | refine X.region rfl (fun K hK => ?_) | refine X.ret rfl ?_)
    all_goals try (exfalso; contradiction)
    exact ret_one (by first | exact .inr rfl | exact .inl rfl) Tryz.results34 rfl (H' := H) (by (repeat (first | exact List.Sublist.refl _ | apply List.Sublist.cons)); done) ⟨rfl, rfl⟩
  · have hT : TmOk H T p := ⟨hg, hs, by omega, by omega⟩
    have hn : ¬ tmOk T := fun q => hrd ⟨hgr, q⟩
    have hT1 : ∀ Z : List Row, TmOk (Z ++ H) T p := fun Z => hT.sub (fun _ h => List.mem_append_right _ h)
    refine Fc.mk (callable Tryz.call34) Tryz.func34 rfl Tryz.ntmps34 rfl ?_; dsimp only [fr]
    repeat' (first | (refine XO.op rfl ?_; (first | ((first | refine Xo.ng rfl ?_ | (refine Xo.g rfl rfl ?_; with_reducible refine Xw.tt ?_)); (first | (refine Xg.call (EnF.st rfl (Args.cons rfl Args.nil)) rfl rfl (greatF T p hgr _) ?_; rintro _ H9 ⟨rfl, hH9⟩; subst H9) | (refine Xg.call (EnF.st rfl (Args.cons rfl Args.nil)) rfl rfl (rtermsF T p hn _ (hT1 [_])) ?_; rintro _ H9 ⟨rfl, hH9⟩; subst H9) | (refine Xg.ev (EvF.move rfl rfl) rfl rfl ?_) | (refine Xg.ev (EvF.assign rfl rfl) rfl rfl ?_) | (refine Xg.ev (EvF.pickT rfl rfl rfl) rfl rfl ?_) | (refine Xg.ev (EvF.pickF rfl rfl rfl) rfl rfl ?_) | (refine Xg.ev (EvF.not rfl rfl) rfl rfl ?_) | (refine Xg.ev (EvF.loadV rfl rfl (LoadV.whole (te rfl) rfl (List.Mem.head _) rfl)) rfl rfl ?_) | (refine Xg.st (StF.boxAgg rfl rfl) rfl rfl ?_; rintro _ _ ⟨bx, rfl, rfl⟩))) | (refine Xo.g rfl rfl ?_; (first | (with_reducible refine Xw.ft rfl rfl ?_) | (with_reducible refine Xw.caseB (fun h => ?_) (fun h => ?_) <;> simp only [h, decide_true, decide_false, Bool.not_true, Bool.not_false, and_self, and_true, true_and, and_false, false_and]))))) | (refine XO.done rfl ?_; refine hK _ _ ?_; clear hK K) | refine X.seq rfl ?_ | refine X.region rfl (fun K hK => ?_) | refine X.ret rfl ?_)
    all_goals try (exfalso; contradiction)
    exact ret_one (by first | exact .inr rfl | exact .inl rfl) Tryz.results34 rfl (H' := H) (by (repeat (first | exact List.Sublist.refl _ | apply List.Sublist.cons)); done) ⟨rfl, rfl⟩
end Go.Proofs.YtcjlegjchllgjaaGreat
end
section
set_option linter.unusedVariables false
set_option linter.unusedSimpArgs false
namespace Go.Proofs.YtcjlegjchllgjaaGreat
open Go Go.Fw
set_option maxRecDepth 10000
theorem eqSpT (s : Sp) (w : World) : (Op.equalIn 10000 30 (.agg (cSp s).toArray) (.agg (cSp s).toArray)).run Tryz.prog w = .ok true w := by
  rw [show (10000 : Nat) = 9998 + 2 from rfl, eqSp 9998 s s w]; simp
theorem eqClT (s : Cl) (w : World) : (Op.equalIn 10000 27 (.agg (cCl s).toArray) (.agg (cCl s).toArray)).run Tryz.prog w = .ok true w := by
  rw [show (10000 : Nat) = 9998 + 2 from rfl, eqCl 9998 s s w]; simp
theorem x1 (p : Pt) (H : List Row) (hT : TmOk H c12 p) : Fc Tryz.prog 14 [.agg (cTm c12 p).toArray, .agg (cCl ⟨6, 4⟩).toArray] H (fun v H' => v = .tuple #[.int .i64 425, .int .i64 0] ∧ H' = H) := by
  have := kinvoice_spec c12 p ⟨6, 4⟩ H hT
  rwa [al1.1, al1.2] at this
theorem x2 (p : Pt) (H : List Row) (hT : TmOk H c12 p) : Fc Tryz.prog 17 [.agg (cTm c12 p).toArray, .agg (cCl ⟨6, 4⟩).toArray, .int .i64 8] H (fun v H' => v = .tuple #[.bool true, .int .i64 0] ∧ H' = H) := by
  have := kallows_spec c12 p ⟨6, 4⟩ 8 H hT
  rwa [al2.1, al2.2] at this
theorem x3 (p : Pt) (H : List Row) (hT : TmOk H c12 p) : Fc Tryz.prog 18 [.agg (cTm c12 p).toArray, .agg (cSp ⟨5, 7⟩).toArray, .agg (cSp ⟨5, 5⟩).toArray, .int .i64 9] H (fun v H' => v = .tuple #[.int .u8 1, .int .i64 0] ∧ H' = H) := by
  have := kknown_spec c12 p ⟨5, 7⟩ ⟨5, 5⟩ 9 H hT
  rwa [al3.1, al3.2] at this
theorem x4 (p : Pt) (H : List Row) (hT : TmOk H c12 p) : Fc Tryz.prog 25 [.agg (cTm c12 p).toArray, .agg (cSp ⟨3, 7⟩).toArray, .agg (cSp ⟨4, 6⟩).toArray] H (fun v H' => v = .tuple #[.agg (cSp ⟨425, 530⟩).toArray, .int .i64 0] ∧ H' = H) := by
  have := krange_spec c12 p ⟨3, 7⟩ ⟨4, 6⟩ H hT
  rwa [al4.1, al4.2] at this
theorem x5 (p : Pt) (H : List Row) (hT : TmOk H c12 p) : Fc Tryz.prog 20 [.agg (cTm c12 p).toArray, .int .i64 4, .int .i64 6, .int .i64 5, .bool true] H (fun v H' => v = .tuple #[.int .i64 428, .int .i64 440, .int .i64 0] ∧ H' = H) := by
  have := kPays_spec c12 p 4 6 5 true H hT
  rwa [al5.1, al5.2.1, al5.2.2] at this
theorem x6 (p : Pt) (H : List Row) (hT : TmOk H c12 p) : Fc Tryz.prog 21 [.agg (cTm c12 p).toArray, .int .i64 4, .agg (cSp ⟨4, 6⟩).toArray, .int .i64 5] H (fun v H' => v = .tuple #[.bool true, .int .i64 12, .int .i64 0] ∧ H' = H) := by
  have := kAsk_spec c12 p 4 5 ⟨4, 6⟩ H hT
  rwa [al6.1, al6.2.1, al6.2.2] at this
theorem x7 (p : Pt) (H : List Row) (hT : TmOk H c40 p) : Fc Tryz.prog 22 [.agg (cTm c40 p).toArray, .agg (cSp ⟨5, 6⟩).toArray, .int .i64 5] H (fun v H' => v = .tuple #[.int .i64 5, .int .i64 475, .int .i64 0] ∧ H' = H) := by
  have := kSay_spec c40 p 5 ⟨5, 6⟩ H hT
  rwa [al7.1, al7.2.1, al7.2.2] at this
theorem x10 (p : Pt) (a1 a2 : Option Addr) (H : List Row) (hT : TmOk H c12 p) (hD : DyOk H (dyE 510 a1 a2)) : Fc Tryz.prog 26 [.agg (cTm c12 p).toArray, .agg (cDy (dyE 510 a1 a2)).toArray] H (fun v H' => v = .tuple #[.agg (cCl ⟨5, 4⟩).toArray, .int .i64 (-10), .int .i64 0] ∧ H' = H) := by
  have := kCheapest_spec c12 p (dyE 510 a1 a2) H hT hD
  rwa [(al10 a1 a2).1, (al10 a1 a2).2.1, (al10 a1 a2).2.2] at this
theorem x11 (p : Pt) (a1 a2 : Option Addr) (H : List Row) (hT : TmOk H c12 p) (hD : DyOk H (dyE 510 a1 a2)) : Fc Tryz.prog 27 [.agg (cTm c12 p).toArray, .agg (cDy (dyE 510 a1 a2)).toArray, .agg (cCl ⟨4, 5⟩).toArray] H (fun v H' => v = .tuple #[.int .i64 20, .int .i64 0] ∧ H' = H) := by
  have := kDearer_spec c12 p (dyE 510 a1 a2) ⟨4, 5⟩ H hT hD
  rwa [(al11 a1 a2).1, (al11 a1 a2).2] at this
theorem x12 (p : Pt) (a1 a2 a3 a4 a5 a6 a : Option Addr) (cc : Nat) (H : List Row) (hT : TmOk H c12 p) (hl : DsOk H [dyE 510 a1 a2, dyE 505 a3 a4, dyE 520 a5 a6] a) : Fc Tryz.prog 28 [.agg (cTm c12 p).toArray, .slice a 3 cc] H (fun v H' => v = .tuple #[.int .i64 9, .agg (cCl ⟨5, 4⟩).toArray, .int .i64 (-15), .int .i64 0] ∧ H' = H) := by
  have := kMonth_spec c12 p [dyE 510 a1 a2, dyE 505 a3 a4, dyE 520 a5 a6] a cc H hT hl (Nat.le_of_ble_eq_true rfl)
  unfold MonRes at this
  rwa [(al12 a1 a2 a3 a4 a5 a6).1, (al12 a1 a2 a3 a4 a5 a6).2] at this
theorem x13 (p : Pt) (a : Option Addr) (cc : Nat) (H : List Row) (hT : TmOk H c12 p) (hl : SlE H a cCl 2 [⟨4, 5⟩, ⟨7, 5⟩, ⟨5, 4⟩]) : Fc Tryz.prog 29 [.agg (cTm c12 p).toArray, .int .i64 9, .slice a 3 cc] H (fun v H' => ∃ b q, v = .tuple #[.int .i64 960, .slice (some ⟨b, 0, none⟩) 1 q, .int .i64 0] ∧ H' = ⟨b, 0, [.int .i64 1], some 3, q * 1⟩ :: H) := by
  refine (ktotal_spec c12 p 9 [⟨4, 5⟩, ⟨7, 5⟩, ⟨5, 4⟩] a cc H hT hl (by decide)).mono ?_
  rintro v H' ⟨w, Z, rfl, hO, rfl⟩
  rw [al13.1, al13.2.2]
  rw [al13.2.1] at hO
  rcases hO with ⟨h, _⟩ | ⟨b, q, rfl, rfl⟩
  · cases h
  · exact ⟨b, q, rfl, rfl⟩
theorem own_ne {Z : List Row} {T : Tm} {p : Pt} (h : OwnTm Z T p) (hT : tmOk T) : ∃ t1 k1 t2 k2, p = plT t1 k1 t2 k2 ∧ Z.Perm [rI T.G t1 k1, rI T.S t2 k2] := by
  rcases h with ⟨rfl, _, _⟩ | h
  · exact absurd hT.cls.1.1 (by decide)
  · exact h
theorem Fc.out {P : Program} {f : FuncId} {args : List Value} {H : List Row} {R R' : Value → List Row → Prop} (h : Fc P f args H R) (hr : ∀ v H', R v H' → ∃ H3 H'', H3.Perm H' ∧ H''.Sublist H3 ∧ R' v H'') : Fc P f args H R' := by
  unfold Fc at h ⊢
  refine ⟨h.1, fun B w0 w hS => (h.2 B w0 w hS).mono ?_⟩
  rintro e w' ⟨v, H', he, hR, hS'⟩
  obtain ⟨H3, H'', h1, h2, h3⟩ := hr v H' hR
  exact ⟨v, H'', he, h3, (hS'.perm h1).sub h2⟩
theorem progT_two {f : FuncId} {args : List Value} {H : List Row} {F : Tm × Int} {U : Tm} (h : Fc Tryz.prog f args H (ProgT F H)) (hF : F = (U, 0)) (hU : tmOk U) :
    Fc Tryz.prog f args H (fun v H' => ∃ t1 k1 t2 k2, v = .tuple #[.agg (cTm U (plT t1 k1 t2 k2)).toArray, .int .i64 0] ∧ H' = rI U.G t1 k1 :: rI U.S t2 k2 :: H) := by
  subst hF
  refine Fc.out h ?_
  rintro v H' ⟨p, Z, rfl, hO, rfl⟩
  obtain ⟨t1, k1, t2, k2, rfl, hZ⟩ := own_ne hO hU
  exact ⟨[_, _] ++ H, _, (hZ.append_right H).symm, List.Sublist.refl _, t1, k1, t2, k2, rfl, rfl⟩
theorem ok14 : tmOk (rebT c12 ⟨5, 4⟩) := by
  refine ⟨by decide, by decide, ⟨rfl, by decide⟩, ⟨rfl, by decide⟩, ?_, by decide, by decide⟩
  show falls [(85 : Int), 70, 45, 25, 0, -35, -75, -135, -215] ∧ grows [(-75 : Int), -45, -25, 0, 15, 25, 40, 45, 45]
  simp [falls, grows]
theorem x14 (p : Pt) (H : List Row) (hT : TmOk H c12 p) : Fc Tryz.prog 23 [.agg (cTm c12 p).toArray, .agg (cCl ⟨5, 4⟩).toArray] H (fun v H' => ∃ t1 k1 t2 k2, v = .tuple #[.agg (cTm (rebT c12 ⟨5, 4⟩) (plT t1 k1 t2 k2)).toArray, .int .i64 0] ∧ H' = rI (rebT c12 ⟨5, 4⟩).G t1 k1 :: rI (rebT c12 ⟨5, 4⟩).S t2 k2 :: H) :=
  progT_two (kreb_spec c12 p ⟨5, 4⟩ H hT) (by unfold rebF askedE vld; rw [if_pos ok12, if_pos (by decide), if_pos (by decide), if_pos ok14]) ok14
theorem x15 (p : Pt) (H : List Row) (hT : TmOk H c12 p) : Fc Tryz.prog 32 [.agg (cTm c12 p).toArray, .int .i64 2] H (fun v H' => ∃ t1 k1 t2 k2 t3 k3 t4 k4, v = .tuple #[.agg (cTm (withB c12 2) (plT t1 k1 t2 k2)).toArray, .agg (cTm (withB c12 3) (plT t3 k3 t4 k4)).toArray, .int .i64 0] ∧ H' = rI c12.G t1 k1 :: rI c12.S t2 k2 :: rI c12.G t3 k3 :: rI c12.S t4 k4 :: H) := by
  refine Fc.out (ksplit_spec c12 p 2 H hT) ?_
  rw [al15]
  rintro v H' ⟨p1, p2, Z1, Z2, rfl, h1, h2, rfl⟩
  obtain ⟨t1, k1, t2, k2, rfl, hZ1⟩ := own_ne h1 ok2.1
  obtain ⟨t3, k3, t4, k4, rfl, hZ2⟩ := own_ne h2 ok2.2
  exact ⟨[_, _] ++ ([_, _] ++ H), _, (List.Perm.append hZ1 (hZ2.append_right H)).symm, List.Sublist.refl _, t1, k1, t2, k2, t3, k3, t4, k4, rfl, rfl⟩
theorem x16 (p q : Pt) (H : List Row) (hT : TmOk H (withB c12 2) p) (hU : TmOk H (withB c12 3) q) : Fc Tryz.prog 31 [.agg (cTm (withB c12 2) p).toArray, .agg (cTm (withB c12 3) q).toArray] H (fun v H' => ∃ t1 k1 t2 k2, v = .tuple #[.agg (cTm c12 (plT t1 k1 t2 k2)).toArray, .int .i64 0] ∧ H' = rI c12.G t1 k1 :: rI c12.S t2 k2 :: H) :=
  progT_two (kjoin_spec _ _ p q H hT hU) al16 ok12
theorem ok17 : tmOk (stepT c12 5 (-30)) := by
  refine ⟨by decide, by decide, ⟨rfl, by decide⟩, ⟨rfl, by decide⟩, ?_, by decide, by decide⟩
  show falls [(60 : Int), 45, 20, 0, -30, -60, -100, -160, -240] ∧ grows [(-90 : Int), -60, -40, -15, 0, 10, 25, 30, 30]
  simp [falls, grows]
theorem x17 (p : Pt) (H : List Row) (hT : TmOk H c12 p) : Fc Tryz.prog 30 [.agg (cTm c12 p).toArray, .int .i64 5, .int .i64 (-30)] H (fun v H' => ∃ t1 k1 t2 k2, v = .tuple #[.agg (cTm (stepT c12 5 (-30)) (plT t1 k1 t2 k2)).toArray, .int .i64 0] ∧ H' = rI (stepT c12 5 (-30)).G t1 k1 :: rI (stepT c12 5 (-30)).S t2 k2 :: H) :=
  progT_two (kstep_spec c12 p 5 (-30) H hT) al17 ok17
end Go.Proofs.YtcjlegjchllgjaaGreat
end
section
set_option linter.unusedVariables false
set_option linter.unusedSimpArgs false
namespace Go.Proofs.YtcjlegjchllgjaaGreat
open Go Go.Fw
set_option maxRecDepth 20000
def tsAl18 : List TOp := [⟨some 202, [], [], []⟩, ⟨some 203, [0], [0], []⟩, ⟨some 204, [0, 1], [1], []⟩, ⟨some 205, [0, 1, 2], [], []⟩, ⟨some 206, [0, 1, 2], [], []⟩, ⟨some 207, [0, 1, 2, 3, 4], [3, 4], []⟩, ⟨some 208, [0, 1, 2, 3, 4, 5], [2, 5], []⟩, ⟨some 209, [0, 1, 2, 3, 4, 5, 6], [6], []⟩, ⟨some 210, [0, 1, 2, 3, 4, 5, 6, 7], [], []⟩, ⟨some 211, [0, 1, 2, 3, 4, 5, 6, 7, 8], [8], []⟩, ⟨some 212, [0, 1, 2, 3, 4, 5, 6, 7, 8, 9], [7, 9], []⟩, ⟨some 213, [0, 1, 2, 3, 4, 5, 6, 7, 8, 9, 10], [10], []⟩, ⟨some 214, [0, 1, 2, 3, 4, 5, 6, 7, 8, 9, 10, 11], [], []⟩, ⟨some 215, [0, 1, 2, 3, 4, 5, 6, 7, 8, 9, 10, 11, 12], [12], []⟩, ⟨some 216, [0, 1, 2, 3, 4, 5, 6, 7, 8, 9, 10, 11, 12, 13], [11, 13], []⟩, ⟨some 217, [0, 1, 2, 3, 4, 5, 6, 7, 8, 9, 10, 11, 12, 13, 14], [14], []⟩, ⟨some 218, [0, 1, 2, 3, 4, 5, 6, 7, 8, 9, 10, 11, 12, 13, 14, 15], [], []⟩, ⟨some 219, [0, 1, 2, 3, 4, 5, 6, 7, 8, 9, 10, 11, 12, 13, 14, 15, 16], [16], []⟩, ⟨some 220, [0, 1, 2, 3, 4, 5, 6, 7, 8, 9, 10, 11, 12, 13, 14, 15, 16, 17], [15, 17], []⟩, ⟨some 221, [0, 1, 2, 3, 4, 5, 6, 7, 8, 9, 10, 11, 12, 13, 14, 15, 16, 17, 18], [18], []⟩, ⟨some 222, [0, 1, 2, 3, 4, 5, 6, 7, 8, 9, 10, 11, 12, 13, 14, 15, 16, 17, 18, 19], [], []⟩, ⟨some 223, [0, 1, 2, 3, 4, 5, 6, 7, 8, 9, 10, 11, 12, 13, 14, 15, 16, 17, 18, 19, 20], [20], []⟩, ⟨some 224, [0, 1, 2, 3, 4, 5, 6, 7, 8, 9, 10, 11, 12, 13, 14, 15, 16, 17, 18, 19, 20, 21], [19, 21], []⟩, ⟨some 225, [0, 1, 2, 3, 4, 5, 6, 7, 8, 9, 10, 11, 12, 13, 14, 15, 16, 17, 18, 19, 20, 21, 22], [22], []⟩, ⟨some 226, [0, 1, 2, 3, 4, 5, 6, 7, 8, 9, 10, 11, 12, 13, 14, 15, 16, 17, 18, 19, 20, 21, 22, 23], [], []⟩, ⟨some 227, [0, 1, 2, 3, 4, 5, 6, 7, 8, 9, 10, 11, 12, 13, 14, 15, 16, 17, 18, 19, 20, 21, 22, 23, 24], [24], []⟩, ⟨some 228, [0, 1, 2, 3, 4, 5, 6, 7, 8, 9, 10, 11, 12, 13, 14, 15, 16, 17, 18, 19, 20, 21, 22, 23, 24, 25], [23, 25], []⟩, ⟨some 229, [0, 1, 2, 3, 4, 5, 6, 7, 8, 9, 10, 11, 12, 13, 14, 15, 16, 17, 18, 19, 20, 21, 22, 23, 24, 25, 26], [26], []⟩, ⟨some 230, [0, 1, 2, 3, 4, 5, 6, 7, 8, 9, 10, 11, 12, 13, 14, 15, 16, 17, 18, 19, 20, 21, 22, 23, 24, 25, 26, 27], [], []⟩, ⟨some 231, [0, 1, 2, 3, 4, 5, 6, 7, 8, 9, 10, 11, 12, 13, 14, 15, 16, 17, 18, 19, 20, 21, 22, 23, 24, 25, 26, 27], [], []⟩, ⟨some 232, [0, 1, 2, 3, 4, 5, 6, 7, 8, 9, 10, 11, 12, 13, 14, 15, 16, 17, 18, 19, 20, 21, 22, 23, 24, 25, 26, 27, 28, 29], [28, 29], []⟩, ⟨some 233, [0, 1, 2, 3, 4, 5, 6, 7, 8, 9, 10, 11, 12, 13, 14, 15, 16, 17, 18, 19, 20, 21, 22, 23, 24, 25, 26, 27, 28, 29, 30], [27, 30], []⟩, ⟨some 234, [0, 1, 2, 3, 4, 5, 6, 7, 8, 9, 10, 11, 12, 13, 14, 15, 16, 17, 18, 19, 20, 21, 22, 23, 24, 25, 26, 27, 28, 29, 30, 31], [31], []⟩, ⟨some 235, [0, 1, 2, 3, 4, 5, 6, 7, 8, 9, 10, 11, 12, 13, 14, 15, 16, 17, 18, 19, 20, 21, 22, 23, 24, 25, 26, 27, 28, 29, 30, 31, 32], [], []⟩, ⟨some 236, [0, 1, 2, 3, 4, 5, 6, 7, 8, 9, 10, 11, 12, 13, 14, 15, 16, 17, 18, 19, 20, 21, 22, 23, 24, 25, 26, 27, 28, 29, 30, 31, 32, 33], [33], []⟩, ⟨some 237, [0, 1, 2, 3, 4, 5, 6, 7, 8, 9, 10, 11, 12, 13, 14, 15, 16, 17, 18, 19, 20, 21, 22, 23, 24, 25, 26, 27, 28, 29, 30, 31, 32, 33, 34], [32, 34], []⟩, ⟨some 238, [0, 1, 2, 3, 4, 5, 6, 7, 8, 9, 10, 11, 12, 13, 14, 15, 16, 17, 18, 19, 20, 21, 22, 23, 24, 25, 26, 27, 28, 29, 30, 31, 32, 33, 34, 35], [35], []⟩, ⟨some 239, [0, 1, 2, 3, 4, 5, 6, 7, 8, 9, 10, 11, 12, 13, 14, 15, 16, 17, 18, 19, 20, 21, 22, 23, 24, 25, 26, 27, 28, 29, 30, 31, 32, 33, 34, 35, 36], [], []⟩, ⟨some 240, [0, 1, 2, 3, 4, 5, 6, 7, 8, 9, 10, 11, 12, 13, 14, 15, 16, 17, 18, 19, 20, 21, 22, 23, 24, 25, 26, 27, 28, 29, 30, 31, 32, 33, 34, 35, 36, 37], [37], []⟩, ⟨some 241, [0, 1, 2, 3, 4, 5, 6, 7, 8, 9, 10, 11, 12, 13, 14, 15, 16, 17, 18, 19, 20, 21, 22, 23, 24, 25, 26, 27, 28, 29, 30, 31, 32, 33, 34, 35, 36, 37, 38], [36, 38], []⟩, ⟨some 242, [0, 1, 2, 3, 4, 5, 6, 7, 8, 9, 10, 11, 12, 13, 14, 15, 16, 17, 18, 19, 20, 21, 22, 23, 24, 25, 26, 27, 28, 29, 30, 31, 32, 33, 34, 35, 36, 37, 38, 39], [39], []⟩, ⟨some 243, [0, 1, 2, 3, 4, 5, 6, 7, 8, 9, 10, 11, 12, 13, 14, 15, 16, 17, 18, 19, 20, 21, 22, 23, 24, 25, 26, 27, 28, 29, 30, 31, 32, 33, 34, 35, 36, 37, 38, 39, 40], [], []⟩, ⟨some 244, [0, 1, 2, 3, 4, 5, 6, 7, 8, 9, 10, 11, 12, 13, 14, 15, 16, 17, 18, 19, 20, 21, 22, 23, 24, 25, 26, 27, 28, 29, 30, 31, 32, 33, 34, 35, 36, 37, 38, 39, 40, 41], [41], []⟩, ⟨some 245, [0, 1, 2, 3, 4, 5, 6, 7, 8, 9, 10, 11, 12, 13, 14, 15, 16, 17, 18, 19, 20, 21, 22, 23, 24, 25, 26, 27, 28, 29, 30, 31, 32, 33, 34, 35, 36, 37, 38, 39, 40, 41, 42], [40, 42], []⟩, ⟨some 246, [0, 1, 2, 3, 4, 5, 6, 7, 8, 9, 10, 11, 12, 13, 14, 15, 16, 17, 18, 19, 20, 21, 22, 23, 24, 25, 26, 27, 28, 29, 30, 31, 32, 33, 34, 35, 36, 37, 38, 39, 40, 41, 42, 43], [43], []⟩, ⟨some 247, [0, 1, 2, 3, 4, 5, 6, 7, 8, 9, 10, 11, 12, 13, 14, 15, 16, 17, 18, 19, 20, 21, 22, 23, 24, 25, 26, 27, 28, 29, 30, 31, 32, 33, 34, 35, 36, 37, 38, 39, 40, 41, 42, 43, 44], [], []⟩, ⟨some 248, [0, 1, 2, 3, 4, 5, 6, 7, 8, 9, 10, 11, 12, 13, 14, 15, 16, 17, 18, 19, 20, 21, 22, 23, 24, 25, 26, 27, 28, 29, 30, 31, 32, 33, 34, 35, 36, 37, 38, 39, 40, 41, 42, 43, 44], [], []⟩, ⟨some 249, [0, 1, 2, 3, 4, 5, 6, 7, 8, 9, 10, 11, 12, 13, 14, 15, 16, 17, 18, 19, 20, 21, 22, 23, 24, 25, 26, 27, 28, 29, 30, 31, 32, 33, 34, 35, 36, 37, 38, 39, 40, 41, 42, 43, 44, 45, 46], [45, 46], [46]⟩, ⟨some 250, [0, 1, 2, 3, 4, 5, 6, 7, 8, 9, 10, 11, 12, 13, 14, 15, 16, 17, 18, 19, 20, 21, 22, 23, 24, 25, 26, 27, 28, 29, 30, 31, 32, 33, 34, 35, 36, 37, 38, 39, 40, 41, 42, 43, 44, 45, 46, 47], [44, 47], []⟩, ⟨some 251, [0, 1, 2, 3, 4, 5, 6, 7, 8, 9, 10, 11, 12, 13, 14, 15, 16, 17, 18, 19, 20, 21, 22, 23, 24, 25, 26, 27, 28, 29, 30, 31, 32, 33, 34, 35, 36, 37, 38, 39, 40, 41, 42, 43, 44, 45, 46, 47, 48], [48], []⟩, ⟨some 252, [0, 1, 2, 3, 4, 5, 6, 7, 8, 9, 10, 11, 12, 13, 14, 15, 16, 17, 18, 19, 20, 21, 22, 23, 24, 25, 26, 27, 28, 29, 30, 31, 32, 33, 34, 35, 36, 37, 38, 39, 40, 41, 42, 43, 44, 45, 46, 47, 48, 49], [], []⟩, ⟨some 253, [0, 1, 2, 3, 4, 5, 6, 7, 8, 9, 10, 11, 12, 13, 14, 15, 16, 17, 18, 19, 20, 21, 22, 23, 24, 25, 26, 27, 28, 29, 30, 31, 32, 33, 34, 35, 36, 37, 38, 39, 40, 41, 42, 43, 44, 45, 46, 47, 48, 49, 50], [50], []⟩, ⟨some 254, [0, 1, 2, 3, 4, 5, 6, 7, 8, 9, 10, 11, 12, 13, 14, 15, 16, 17, 18, 19, 20, 21, 22, 23, 24, 25, 26, 27, 28, 29, 30, 31, 32, 33, 34, 35, 36, 37, 38, 39, 40, 41, 42, 43, 44, 45, 46, 47, 48, 49, 50, 51], [49, 51], []⟩, ⟨some 255, [0, 1, 2, 3, 4, 5, 6, 7, 8, 9, 10, 11, 12, 13, 14, 15, 16, 17, 18, 19, 20, 21, 22, 23, 24, 25, 26, 27, 28, 29, 30, 31, 32, 33, 34, 35, 36, 37, 38, 39, 40, 41, 42, 43, 44, 45, 46, 47, 48, 49, 50, 51, 52], [52], []⟩, ⟨some 256, [0, 1, 2, 3, 4, 5, 6, 7, 8, 9, 10, 11, 12, 13, 14, 15, 16, 17, 18, 19, 20, 21, 22, 23, 24, 25, 26, 27, 28, 29, 30, 31, 32, 33, 34, 35, 36, 37, 38, 39, 40, 41, 42, 43, 44, 45, 46, 47, 48, 49, 50, 51, 52, 53], [], []⟩, ⟨some 257, [0, 1, 2, 3, 4, 5, 6, 7, 8, 9, 10, 11, 12, 13, 14, 15, 16, 17, 18, 19, 20, 21, 22, 23, 24, 25, 26, 27, 28, 29, 30, 31, 32, 33, 34, 35, 36, 37, 38, 39, 40, 41, 42, 43, 44, 45, 46, 47, 48, 49, 50, 51, 52, 53, 54], [54], []⟩, ⟨some 258, [0, 1, 2, 3, 4, 5, 6, 7, 8, 9, 10, 11, 12, 13, 14, 15, 16, 17, 18, 19, 20, 21, 22, 23, 24, 25, 26, 27, 28, 29, 30, 31, 32, 33, 34, 35, 36, 37, 38, 39, 40, 41, 42, 43, 44, 45, 46, 47, 48, 49, 50, 51, 52, 53, 54, 55], [55], []⟩, ⟨some 259, [0, 1, 2, 3, 4, 5, 6, 7, 8, 9, 10, 11, 12, 13, 14, 15, 16, 17, 18, 19, 20, 21, 22, 23, 24, 25, 26, 27, 28, 29, 30, 31, 32, 33, 34, 35, 36, 37, 38, 39, 40, 41, 42, 43, 44, 45, 46, 47, 48, 49, 50, 51, 52, 53, 54, 55, 56], [53, 56], []⟩, ⟨some 260, [0, 1, 2, 3, 4, 5, 6, 7, 8, 9, 10, 11, 12, 13, 14, 15, 16, 17, 18, 19, 20, 21, 22, 23, 24, 25, 26, 27, 28, 29, 30, 31, 32, 33, 34, 35, 36, 37, 38, 39, 40, 41, 42, 43, 44, 45, 46, 47, 48, 49, 50, 51, 52, 53, 54, 55, 56, 57], [57], []⟩, ⟨some 261, [0, 1, 2, 3, 4, 5, 6, 7, 8, 9, 10, 11, 12, 13, 14, 15, 16, 17, 18, 19, 20, 21, 22, 23, 24, 25, 26, 27, 28, 29, 30, 31, 32, 33, 34, 35, 36, 37, 38, 39, 40, 41, 42, 43, 44, 45, 46, 47, 48, 49, 50, 51, 52, 53, 54, 55, 56, 57, 58], [], []⟩, ⟨some 262, [0, 1, 2, 3, 4, 5, 6, 7, 8, 9, 10, 11, 12, 13, 14, 15, 16, 17, 18, 19, 20, 21, 22, 23, 24, 25, 26, 27, 28, 29, 30, 31, 32, 33, 34, 35, 36, 37, 38, 39, 40, 41, 42, 43, 44, 45, 46, 47, 48, 49, 50, 51, 52, 53, 54, 55, 56, 57, 58, 59], [59], []⟩, ⟨some 263, [0, 1, 2, 3, 4, 5, 6, 7, 8, 9, 10, 11, 12, 13, 14, 15, 16, 17, 18, 19, 20, 21, 22, 23, 24, 25, 26, 27, 28, 29, 30, 31, 32, 33, 34, 35, 36, 37, 38, 39, 40, 41, 42, 43, 44, 45, 46, 47, 48, 49, 50, 51, 52, 53, 54, 55, 56, 57, 58, 59, 60], [58, 60], []⟩, ⟨some 264, [0, 1, 2, 3, 4, 5, 6, 7, 8, 9, 10, 11, 12, 13, 14, 15, 16, 17, 18, 19, 20, 21, 22, 23, 24, 25, 26, 27, 28, 29, 30, 31, 32, 33, 34, 35, 36, 37, 38, 39, 40, 41, 42, 43, 44, 45, 46, 47, 48, 49, 50, 51, 52, 53, 54, 55, 56, 57, 58, 59, 60, 61], [61], []⟩, ⟨some 265, [0, 1, 2, 3, 4, 5, 6, 7, 8, 9, 10, 11, 12, 13, 14, 15, 16, 17, 18, 19, 20, 21, 22, 23, 24, 25, 26, 27, 28, 29, 30, 31, 32, 33, 34, 35, 36, 37, 38, 39, 40, 41, 42, 43, 44, 45, 46, 47, 48, 49, 50, 51, 52, 53, 54, 55, 56, 57, 58, 59, 60, 61, 62], [], []⟩, ⟨some 266, [0, 1, 2, 3, 4, 5, 6, 7, 8, 9, 10, 11, 12, 13, 14, 15, 16, 17, 18, 19, 20, 21, 22, 23, 24, 25, 26, 27, 28, 29, 30, 31, 32, 33, 34, 35, 36, 37, 38, 39, 40, 41, 42, 43, 44, 45, 46, 47, 48, 49, 50, 51, 52, 53, 54, 55, 56, 57, 58, 59, 60, 61, 62, 63], [63], []⟩, ⟨some 267, [0, 1, 2, 3, 4, 5, 6, 7, 8, 9, 10, 11, 12, 13, 14, 15, 16, 17, 18, 19, 20, 21, 22, 23, 24, 25, 26, 27, 28, 29, 30, 31, 32, 33, 34, 35, 36, 37, 38, 39, 40, 41, 42, 43, 44, 45, 46, 47, 48, 49, 50, 51, 52, 53, 54, 55, 56, 57, 58, 59, 60, 61, 62, 63, 64], [64], []⟩, ⟨some 268, [0, 1, 2, 3, 4, 5, 6, 7, 8, 9, 10, 11, 12, 13, 14, 15, 16, 17, 18, 19, 20, 21, 22, 23, 24, 25, 26, 27, 28, 29, 30, 31, 32, 33, 34, 35, 36, 37, 38, 39, 40, 41, 42, 43, 44, 45, 46, 47, 48, 49, 50, 51, 52, 53, 54, 55, 56, 57, 58, 59, 60, 61, 62, 63, 64, 65], [62, 65], []⟩, ⟨some 269, [0, 1, 2, 3, 4, 5, 6, 7, 8, 9, 10, 11, 12, 13, 14, 15, 16, 17, 18, 19, 20, 21, 22, 23, 24, 25, 26, 27, 28, 29, 30, 31, 32, 33, 34, 35, 36, 37, 38, 39, 40, 41, 42, 43, 44, 45, 46, 47, 48, 49, 50, 51, 52, 53, 54, 55, 56, 57, 58, 59, 60, 61, 62, 63, 64, 65, 66], [66], []⟩, ⟨some 270, [0, 1, 2, 3, 4, 5, 6, 7, 8, 9, 10, 11, 12, 13, 14, 15, 16, 17, 18, 19, 20, 21, 22, 23, 24, 25, 26, 27, 28, 29, 30, 31, 32, 33, 34, 35, 36, 37, 38, 39, 40, 41, 42, 43, 44, 45, 46, 47, 48, 49, 50, 51, 52, 53, 54, 55, 56, 57, 58, 59, 60, 61, 62, 63, 64, 65, 66, 67], [], []⟩, ⟨some 271, [0, 1, 2, 3, 4, 5, 6, 7, 8, 9, 10, 11, 12, 13, 14, 15, 16, 17, 18, 19, 20, 21, 22, 23, 24, 25, 26, 27, 28, 29, 30, 31, 32, 33, 34, 35, 36, 37, 38, 39, 40, 41, 42, 43, 44, 45, 46, 47, 48, 49, 50, 51, 52, 53, 54, 55, 56, 57, 58, 59, 60, 61, 62, 63, 64, 65, 66, 67, 68], [68], []⟩, ⟨some 272, [0, 1, 2, 3, 4, 5, 6, 7, 8, 9, 10, 11, 12, 13, 14, 15, 16, 17, 18, 19, 20, 21, 22, 23, 24, 25, 26, 27, 28, 29, 30, 31, 32, 33, 34, 35, 36, 37, 38, 39, 40, 41, 42, 43, 44, 45, 46, 47, 48, 49, 50, 51, 52, 53, 54, 55, 56, 57, 58, 59, 60, 61, 62, 63, 64, 65, 66, 67, 68, 69], [67, 69], []⟩, ⟨some 273, [0, 1, 2, 3, 4, 5, 6, 7, 8, 9, 10, 11, 12, 13, 14, 15, 16, 17, 18, 19, 20, 21, 22, 23, 24, 25, 26, 27, 28, 29, 30, 31, 32, 33, 34, 35, 36, 37, 38, 39, 40, 41, 42, 43, 44, 45, 46, 47, 48, 49, 50, 51, 52, 53, 54, 55, 56, 57, 58, 59, 60, 61, 62, 63, 64, 65, 66, 67, 68, 69, 70], [70], []⟩, ⟨some 274, [0, 1, 2, 3, 4, 5, 6, 7, 8, 9, 10, 11, 12, 13, 14, 15, 16, 17, 18, 19, 20, 21, 22, 23, 24, 25, 26, 27, 28, 29, 30, 31, 32, 33, 34, 35, 36, 37, 38, 39, 40, 41, 42, 43, 44, 45, 46, 47, 48, 49, 50, 51, 52, 53, 54, 55, 56, 57, 58, 59, 60, 61, 62, 63, 64, 65, 66, 67, 68, 69, 70, 71], [], []⟩, ⟨some 275, [0, 1, 2, 3, 4, 5, 6, 7, 8, 9, 10, 11, 12, 13, 14, 15, 16, 17, 18, 19, 20, 21, 22, 23, 24, 25, 26, 27, 28, 29, 30, 31, 32, 33, 34, 35, 36, 37, 38, 39, 40, 41, 42, 43, 44, 45, 46, 47, 48, 49, 50, 51, 52, 53, 54, 55, 56, 57, 58, 59, 60, 61, 62, 63, 64, 65, 66, 67, 68, 69, 70, 71], [], []⟩, ⟨some 276, [0, 1, 2, 3, 4, 5, 6, 7, 8, 9, 10, 11, 12, 13, 14, 15, 16, 17, 18, 19, 20, 21, 22, 23, 24, 25, 26, 27, 28, 29, 30, 31, 32, 33, 34, 35, 36, 37, 38, 39, 40, 41, 42, 43, 44, 45, 46, 47, 48, 49, 50, 51, 52, 53, 54, 55, 56, 57, 58, 59, 60, 61, 62, 63, 64, 65, 66, 67, 68, 69, 70, 71, 72, 73], [72, 73], [73]⟩, ⟨some 277, [0, 1, 2, 3, 4, 5, 6, 7, 8, 9, 10, 11, 12, 13, 14, 15, 16, 17, 18, 19, 20, 21, 22, 23, 24, 25, 26, 27, 28, 29, 30, 31, 32, 33, 34, 35, 36, 37, 38, 39, 40, 41, 42, 43, 44, 45, 46, 47, 48, 49, 50, 51, 52, 53, 54, 55, 56, 57, 58, 59, 60, 61, 62, 63, 64, 65, 66, 67, 68, 69, 70, 71, 72, 73, 74], [71, 74], []⟩, ⟨some 278, [0, 1, 2, 3, 4, 5, 6, 7, 8, 9, 10, 11, 12, 13, 14, 15, 16, 17, 18, 19, 20, 21, 22, 23, 24, 25, 26, 27, 28, 29, 30, 31, 32, 33, 34, 35, 36, 37, 38, 39, 40, 41, 42, 43, 44, 45, 46, 47, 48, 49, 50, 51, 52, 53, 54, 55, 56, 57, 58, 59, 60, 61, 62, 63, 64, 65, 66, 67, 68, 69, 70, 71, 72, 73, 74, 75], [75], []⟩, ⟨some 279, [0, 1, 2, 3, 4, 5, 6, 7, 8, 9, 10, 11, 12, 13, 14, 15, 16, 17, 18, 19, 20, 21, 22, 23, 24, 25, 26, 27, 28, 29, 30, 31, 32, 33, 34, 35, 36, 37, 38, 39, 40, 41, 42, 43, 44, 45, 46, 47, 48, 49, 50, 51, 52, 53, 54, 55, 56, 57, 58, 59, 60, 61, 62, 63, 64, 65, 66, 67, 68, 69, 70, 71, 72, 73, 74, 75, 76], [], []⟩, ⟨some 280, [0, 1, 2, 3, 4, 5, 6, 7, 8, 9, 10, 11, 12, 13, 14, 15, 16, 17, 18, 19, 20, 21, 22, 23, 24, 25, 26, 27, 28, 29, 30, 31, 32, 33, 34, 35, 36, 37, 38, 39, 40, 41, 42, 43, 44, 45, 46, 47, 48, 49, 50, 51, 52, 53, 54, 55, 56, 57, 58, 59, 60, 61, 62, 63, 64, 65, 66, 67, 68, 69, 70, 71, 72, 73, 74, 75, 76, 77], [77], []⟩, ⟨some 281, [0, 1, 2, 3, 4, 5, 6, 7, 8, 9, 10, 11, 12, 13, 14, 15, 16, 17, 18, 19, 20, 21, 22, 23, 24, 25, 26, 27, 28, 29, 30, 31, 32, 33, 34, 35, 36, 37, 38, 39, 40, 41, 42, 43, 44, 45, 46, 47, 48, 49, 50, 51, 52, 53, 54, 55, 56, 57, 58, 59, 60, 61, 62, 63, 64, 65, 66, 67, 68, 69, 70, 71, 72, 73, 74, 75, 76, 77, 78], [76, 78], []⟩, ⟨some 282, [0, 1, 2, 3, 4, 5, 6, 7, 8, 9, 10, 11, 12, 13, 14, 15, 16, 17, 18, 19, 20, 21, 22, 23, 24, 25, 26, 27, 28, 29, 30, 31, 32, 33, 34, 35, 36, 37, 38, 39, 40, 41, 42, 43, 44, 45, 46, 47, 48, 49, 50, 51, 52, 53, 54, 55, 56, 57, 58, 59, 60, 61, 62, 63, 64, 65, 66, 67, 68, 69, 70, 71, 72, 73, 74, 75, 76, 77, 78, 79], [79], []⟩, ⟨some 283, [0, 1, 2, 3, 4, 5, 6, 7, 8, 9, 10, 11, 12, 13, 14, 15, 16, 17, 18, 19, 20, 21, 22, 23, 24, 25, 26, 27, 28, 29, 30, 31, 32, 33, 34, 35, 36, 37, 38, 39, 40, 41, 42, 43, 44, 45, 46, 47, 48, 49, 50, 51, 52, 53, 54, 55, 56, 57, 58, 59, 60, 61, 62, 63, 64, 65, 66, 67, 68, 69, 70, 71, 72, 73, 74, 75, 76, 77, 78, 79, 80], [], []⟩, ⟨some 284, [0, 1, 2, 3, 4, 5, 6, 7, 8, 9, 10, 11, 12, 13, 14, 15, 16, 17, 18, 19, 20, 21, 22, 23, 24, 25, 26, 27, 28, 29, 30, 31, 32, 33, 34, 35, 36, 37, 38, 39, 40, 41, 42, 43, 44, 45, 46, 47, 48, 49, 50, 51, 52, 53, 54, 55, 56, 57, 58, 59, 60, 61, 62, 63, 64, 65, 66, 67, 68, 69, 70, 71, 72, 73, 74, 75, 76, 77, 78, 79, 80, 81], [81], []⟩, ⟨some 285, [0, 1, 2, 3, 4, 5, 6, 7, 8, 9, 10, 11, 12, 13, 14, 15, 16, 17, 18, 19, 20, 21, 22, 23, 24, 25, 26, 27, 28, 29, 30, 31, 32, 33, 34, 35, 36, 37, 38, 39, 40, 41, 42, 43, 44, 45, 46, 47, 48, 49, 50, 51, 52, 53, 54, 55, 56, 57, 58, 59, 60, 61, 62, 63, 64, 65, 66, 67, 68, 69, 70, 71, 72, 73, 74, 75, 76, 77, 78, 79, 80, 81, 82], [82], []⟩, ⟨some 286, [0, 1, 2, 3, 4, 5, 6, 7, 8, 9, 10, 11, 12, 13, 14, 15, 16, 17, 18, 19, 20, 21, 22, 23, 24, 25, 26, 27, 28, 29, 30, 31, 32, 33, 34, 35, 36, 37, 38, 39, 40, 41, 42, 43, 44, 45, 46, 47, 48, 49, 50, 51, 52, 53, 54, 55, 56, 57, 58, 59, 60, 61, 62, 63, 64, 65, 66, 67, 68, 69, 70, 71, 72, 73, 74, 75, 76, 77, 78, 79, 80, 81, 82, 83], [83], []⟩, ⟨some 287, [0, 1, 2, 3, 4, 5, 6, 7, 8, 9, 10, 11, 12, 13, 14, 15, 16, 17, 18, 19, 20, 21, 22, 23, 24, 25, 26, 27, 28, 29, 30, 31, 32, 33, 34, 35, 36, 37, 38, 39, 40, 41, 42, 43, 44, 45, 46, 47, 48, 49, 50, 51, 52, 53, 54, 55, 56, 57, 58, 59, 60, 61, 62, 63, 64, 65, 66, 67, 68, 69, 70, 71, 72, 73, 74, 75, 76, 77, 78, 79, 80, 81, 82, 83, 84], [80, 84], []⟩, ⟨some 288, [0, 1, 2, 3, 4, 5, 6, 7, 8, 9, 10, 11, 12, 13, 14, 15, 16, 17, 18, 19, 20, 21, 22, 23, 24, 25, 26, 27, 28, 29, 30, 31, 32, 33, 34, 35, 36, 37, 38, 39, 40, 41, 42, 43, 44, 45, 46, 47, 48, 49, 50, 51, 52, 53, 54, 55, 56, 57, 58, 59, 60, 61, 62, 63, 64, 65, 66, 67, 68, 69, 70, 71, 72, 73, 74, 75, 76, 77, 78, 79, 80, 81, 82, 83, 84, 85], [85], []⟩, ⟨some 289, [0, 1, 2, 3, 4, 5, 6, 7, 8, 9, 10, 11, 12, 13, 14, 15, 16, 17, 18, 19, 20, 21, 22, 23, 24, 25, 26, 27, 28, 29, 30, 31, 32, 33, 34, 35, 36, 37, 38, 39, 40, 41, 42, 43, 44, 45, 46, 47, 48, 49, 50, 51, 52, 53, 54, 55, 56, 57, 58, 59, 60, 61, 62, 63, 64, 65, 66, 67, 68, 69, 70, 71, 72, 73, 74, 75, 76, 77, 78, 79, 80, 81, 82, 83, 84, 85, 86], [], []⟩, ⟨some 290, [0, 1, 2, 3, 4, 5, 6, 7, 8, 9, 10, 11, 12, 13, 14, 15, 16, 17, 18, 19, 20, 21, 22, 23, 24, 25, 26, 27, 28, 29, 30, 31, 32, 33, 34, 35, 36, 37, 38, 39, 40, 41, 42, 43, 44, 45, 46, 47, 48, 49, 50, 51, 52, 53, 54, 55, 56, 57, 58, 59, 60, 61, 62, 63, 64, 65, 66, 67, 68, 69, 70, 71, 72, 73, 74, 75, 76, 77, 78, 79, 80, 81, 82, 83, 84, 85, 86, 87], [87], []⟩, ⟨some 291, [0, 1, 2, 3, 4, 5, 6, 7, 8, 9, 10, 11, 12, 13, 14, 15, 16, 17, 18, 19, 20, 21, 22, 23, 24, 25, 26, 27, 28, 29, 30, 31, 32, 33, 34, 35, 36, 37, 38, 39, 40, 41, 42, 43, 44, 45, 46, 47, 48, 49, 50, 51, 52, 53, 54, 55, 56, 57, 58, 59, 60, 61, 62, 63, 64, 65, 66, 67, 68, 69, 70, 71, 72, 73, 74, 75, 76, 77, 78, 79, 80, 81, 82, 83, 84, 85, 86, 87, 88], [88], []⟩, ⟨some 292, [0, 1, 2, 3, 4, 5, 6, 7, 8, 9, 10, 11, 12, 13, 14, 15, 16, 17, 18, 19, 20, 21, 22, 23, 24, 25, 26, 27, 28, 29, 30, 31, 32, 33, 34, 35, 36, 37, 38, 39, 40, 41, 42, 43, 44, 45, 46, 47, 48, 49, 50, 51, 52, 53, 54, 55, 56, 57, 58, 59, 60, 61, 62, 63, 64, 65, 66, 67, 68, 69, 70, 71, 72, 73, 74, 75, 76, 77, 78, 79, 80, 81, 82, 83, 84, 85, 86, 87, 88, 89], [89], []⟩, ⟨some 293, [0, 1, 2, 3, 4, 5, 6, 7, 8, 9, 10, 11, 12, 13, 14, 15, 16, 17, 18, 19, 20, 21, 22, 23, 24, 25, 26, 27, 28, 29, 30, 31, 32, 33, 34, 35, 36, 37, 38, 39, 40, 41, 42, 43, 44, 45, 46, 47, 48, 49, 50, 51, 52, 53, 54, 55, 56, 57, 58, 59, 60, 61, 62, 63, 64, 65, 66, 67, 68, 69, 70, 71, 72, 73, 74, 75, 76, 77, 78, 79, 80, 81, 82, 83, 84, 85, 86, 87, 88, 89, 90], [90], []⟩, ⟨some 294, [0, 1, 2, 3, 4, 5, 6, 7, 8, 9, 10, 11, 12, 13, 14, 15, 16, 17, 18, 19, 20, 21, 22, 23, 24, 25, 26, 27, 28, 29, 30, 31, 32, 33, 34, 35, 36, 37, 38, 39, 40, 41, 42, 43, 44, 45, 46, 47, 48, 49, 50, 51, 52, 53, 54, 55, 56, 57, 58, 59, 60, 61, 62, 63, 64, 65, 66, 67, 68, 69, 70, 71, 72, 73, 74, 75, 76, 77, 78, 79, 80, 81, 82, 83, 84, 85, 86, 87, 88, 89, 90, 91], [86, 91], []⟩, ⟨some 0, [0, 1, 2, 3, 4, 5, 6, 7, 8, 9, 10, 11, 12, 13, 14, 15, 16, 17, 18, 19, 20, 21, 22, 23, 24, 25, 26, 27, 28, 29, 30, 31, 32, 33, 34, 35, 36, 37, 38, 39, 40, 41, 42, 43, 44, 45, 46, 47, 48, 49, 50, 51, 52, 53, 54, 55, 56, 57, 58, 59, 60, 61, 62, 63, 64, 65, 66, 67, 68, 69, 70, 71, 72, 73, 74, 75, 76, 77, 78, 79, 80, 81, 82, 83, 84, 85, 86, 87, 88, 89, 90, 91, 92], [92], []⟩]
def valAl18 (b18 b21 b25 b26 b28 b29 br qr s1 n1 s2 n2 j1 m1 j2 m2 t1 k1 t2 k2 z1 z2 z3 z4 : Nat) (k : Nat) (env : Env) : Value :=
  match k with
  | 0 => .int .i64 0
  | 1 => .bool true
  | 2 => .bool true
  | 3 => gt (!true) (.agg (cCl ⟨5, 4⟩).toArray)
  | 4 => gt (!true) (.agg (cCl ⟨5, 4⟩).toArray)
  | 5 => gt (!true) (.bool true)
  | 6 => .bool true
  | 7 => .bool true
  | 8 => gt (!true) (.int .i64 (-10))
  | 9 => gt (!true) (.bool true)
  | 10 => .bool true
  | 11 => .bool true
  | 12 => gt (!true) (.int .i64 0)
  | 13 => gt (!true) (.bool true)
  | 14 => .bool true
  | 15 => .bool true
  | 16 => gt (!true) (.int .i64 20)
  | 17 => gt (!true) (.bool true)
  | 18 => .bool true
  | 19 => .bool true
  | 20 => gt (!true) (.int .i64 0)
  | 21 => gt (!true) (.bool true)
  | 22 => .bool true
  | 23 => .bool true
  | 24 => gt (!true) (.int .i64 9)
  | 25 => gt (!true) (.bool true)
  | 26 => .bool true
  | 27 => .bool true
  | 28 => gt (!true) (.agg (cCl ⟨5, 4⟩).toArray)
  | 29 => gt (!true) (.agg (cCl ⟨5, 4⟩).toArray)
  | 30 => gt (!true) (.bool true)
  | 31 => .bool true
  | 32 => .bool true
  | 33 => gt (!true) (.int .i64 (-15))
  | 34 => gt (!true) (.bool true)
  | 35 => .bool true
  | 36 => .bool true
  | 37 => gt (!true) (.int .i64 0)
  | 38 => gt (!true) (.bool true)
  | 39 => .bool true
  | 40 => .bool true
  | 41 => gt (!true) (.int .i64 960)
  | 42 => gt (!true) (.bool true)
  | 43 => .bool true
  | 44 => .bool true
  | 45 => gt (!true) (.slice (some ⟨br, 0, none⟩) 1 qr)
  | 46 => gt (!true) (.slice (some ⟨(env 46).1, 0, none⟩) 1 1)
  | 47 => gt (!true) (.bool true)
  | 48 => .bool true
  | 49 => .bool true
  | 50 => gt (!true) (.int .i64 0)
  | 51 => gt (!true) (.bool true)
  | 52 => .bool true
  | 53 => .bool true
  | 54 => gt (!true) (.pointer (some ⟨b25, 2, none⟩))
  | 55 => gt (!true) (.int .i64 460)
  | 56 => gt (!true) (.bool true)
  | 57 => .bool true
  | 58 => .bool true
  | 59 => gt (!true) (.int .i64 0)
  | 60 => gt (!true) (.bool true)
  | 61 => .bool true
  | 62 => .bool true
  | 63 => gt (!true) (.pointer (some ⟨b26, 9, none⟩))
  | 64 => gt (!true) (.int .i64 2)
  | 65 => gt (!true) (.bool true)
  | 66 => .bool true
  | 67 => .bool true
  | 68 => gt (!true) (.int .i64 0)
  | 69 => gt (!true) (.bool true)
  | 70 => .bool true
  | 71 => .bool true
  | 72 => gt (!true) (.agg (cTm c12 (plT j1 m1 j2 m2)).toArray)
  | 73 => gt (!true) (.agg (cTm (ctn 12) (plT (env 73).1 9 (env 73).2 9)).toArray)
  | 74 => gt (!true) (.bool true)
  | 75 => .bool true
  | 76 => .bool true
  | 77 => gt (!true) (.int .i64 0)
  | 78 => gt (!true) (.bool true)
  | 79 => .bool true
  | 80 => .bool true
  | 81 => gt (!true) (.pointer (some ⟨b29, 5, none⟩))
  | 82 => gt (!true) (.slice (some ⟨s1, 0, none⟩) 9 n1)
  | 83 => gt (!true) (.int .i64 9)
  | 84 => gt (!true) (.bool true)
  | 85 => .bool true
  | 86 => .bool true
  | 87 => gt (!true) (.pointer (some ⟨b29, 5, none⟩))
  | 88 => gt (!true) (.slice (some ⟨s1, 0, none⟩) 9 n1)
  | 89 => gt (!true) (.pointer (some ⟨s1, 4, none⟩))
  | 90 => gt (!true) (.int .i64 (-30))
  | 91 => gt (!true) (.bool true)
  | 92 => .bool true
  | 93 => .bool true
  | _ => undef
def rowsAl18 (b18 b21 b25 b26 b28 b29 br qr s1 n1 s2 n2 j1 m1 j2 m2 t1 k1 t2 k2 z1 z2 z3 z4 : Nat) (k : Nat) (env : Env) : List Row :=
  match k with
  | 46 => gr (!true) [⟨(env 46).1, 0, [.int .i64 1], some 3, 1 * 1⟩]
  | 73 => gr (!true) [rI (ctn 12).S (env 73).2 9, rI (ctn 12).G (env 73).1 9]
  | _ => []
theorem locAl18 (b18 b21 b25 b26 b28 b29 br qr s1 n1 s2 n2 j1 m1 j2 m2 t1 k1 t2 k2 z1 z2 z3 z4 : Nat) : ∀ k env i q9, i ≠ k → (tAt tsAl18 k).sup.contains i = false → valAl18 b18 b21 b25 b26 b28 b29 br qr s1 n1 s2 n2 j1 m1 j2 m2 t1 k1 t2 k2 z1 z2 z3 z4 k (upd env i q9) = valAl18 b18 b21 b25 b26 b28 b29 br qr s1 n1 s2 n2 j1 m1 j2 m2 t1 k1 t2 k2 z1 z2 z3 z4 k env ∧ rowsAl18 b18 b21 b25 b26 b28 b29 br qr s1 n1 s2 n2 j1 m1 j2 m2 t1 k1 t2 k2 z1 z2 z3 z4 k (upd env i q9) = rowsAl18 b18 b21 b25 b26 b28 b29 br qr s1 n1 s2 n2 j1 m1 j2 m2 t1 k1 t2 k2 z1 z2 z3 z4 k env := by
  intro k env i q hk hs
  have hu : ∀ j, j ≠ i → upd env i q j = env j := fun j hj => by unfold upd; rw [if_neg hj]
  match k, hk, hs with
  | 0, _, _ => exact ⟨rfl, rfl⟩
  | 1, _, _ => exact ⟨rfl, rfl⟩
  | 2, _, _ => exact ⟨rfl, rfl⟩
  | 3, _, _ => exact ⟨rfl, rfl⟩
  | 4, _, _ => exact ⟨rfl, rfl⟩
  | 5, _, _ => exact ⟨rfl, rfl⟩
  | 6, _, _ => exact ⟨rfl, rfl⟩
  | 7, _, _ => exact ⟨rfl, rfl⟩
  | 8, _, _ => exact ⟨rfl, rfl⟩
  | 9, _, _ => exact ⟨rfl, rfl⟩
  | 10, _, _ => exact ⟨rfl, rfl⟩
  | 11, _, _ => exact ⟨rfl, rfl⟩
  | 12, _, _ => exact ⟨rfl, rfl⟩
  | 13, _, _ => exact ⟨rfl, rfl⟩
  | 14, _, _ => exact ⟨rfl, rfl⟩
  | 15, _, _ => exact ⟨rfl, rfl⟩
  | 16, _, _ => exact ⟨rfl, rfl⟩
  | 17, _, _ => exact ⟨rfl, rfl⟩
  | 18, _, _ => exact ⟨rfl, rfl⟩
  | 19, _, _ => exact ⟨rfl, rfl⟩
  | 20, _, _ => exact ⟨rfl, rfl⟩
  | 21, _, _ => exact ⟨rfl, rfl⟩
  | 22, _, _ => exact ⟨rfl, rfl⟩
  | 23, _, _ => exact ⟨rfl, rfl⟩
  | 24, _, _ => exact ⟨rfl, rfl⟩
  | 25, _, _ => exact ⟨rfl, rfl⟩
  | 26, _, _ => exact ⟨rfl, rfl⟩
  | 27, _, _ => exact ⟨rfl, rfl⟩
  | 28, _, _ => exact ⟨rfl, rfl⟩
  | 29, _, _ => exact ⟨rfl, rfl⟩
  | 30, _, _ => exact ⟨rfl, rfl⟩
  | 31, _, _ => exact ⟨rfl, rfl⟩
  | 32, _, _ => exact ⟨rfl, rfl⟩
  | 33, _, _ => exact ⟨rfl, rfl⟩
  | 34, _, _ => exact ⟨rfl, rfl⟩
  | 35, _, _ => exact ⟨rfl, rfl⟩
  | 36, _, _ => exact ⟨rfl, rfl⟩
  | 37, _, _ => exact ⟨rfl, rfl⟩
  | 38, _, _ => exact ⟨rfl, rfl⟩
  | 39, _, _ => exact ⟨rfl, rfl⟩
  | 40, _, _ => exact ⟨rfl, rfl⟩
  | 41, _, _ => exact ⟨rfl, rfl⟩
  | 42, _, _ => exact ⟨rfl, rfl⟩
  | 43, _, _ => exact ⟨rfl, rfl⟩
  | 44, _, _ => exact ⟨rfl, rfl⟩
  | 45, _, _ => exact ⟨rfl, rfl⟩
  | 46, hk, hs => exact ⟨by simp only [valAl18, hu 46 (fun e => hk e.symm)], by simp only [rowsAl18, hu 46 (fun e => hk e.symm)]⟩
  | 47, _, _ => exact ⟨rfl, rfl⟩
  | 48, _, _ => exact ⟨rfl, rfl⟩
  | 49, _, _ => exact ⟨rfl, rfl⟩
  | 50, _, _ => exact ⟨rfl, rfl⟩
  | 51, _, _ => exact ⟨rfl, rfl⟩
  | 52, _, _ => exact ⟨rfl, rfl⟩
  | 53, _, _ => exact ⟨rfl, rfl⟩
  | 54, _, _ => exact ⟨rfl, rfl⟩
  | 55, _, _ => exact ⟨rfl, rfl⟩
  | 56, _, _ => exact ⟨rfl, rfl⟩
  | 57, _, _ => exact ⟨rfl, rfl⟩
  | 58, _, _ => exact ⟨rfl, rfl⟩
  | 59, _, _ => exact ⟨rfl, rfl⟩
  | 60, _, _ => exact ⟨rfl, rfl⟩
  | 61, _, _ => exact ⟨rfl, rfl⟩
  | 62, _, _ => exact ⟨rfl, rfl⟩
  | 63, _, _ => exact ⟨rfl, rfl⟩
  | 64, _, _ => exact ⟨rfl, rfl⟩
  | 65, _, _ => exact ⟨rfl, rfl⟩
  | 66, _, _ => exact ⟨rfl, rfl⟩
  | 67, _, _ => exact ⟨rfl, rfl⟩
  | 68, _, _ => exact ⟨rfl, rfl⟩
  | 69, _, _ => exact ⟨rfl, rfl⟩
  | 70, _, _ => exact ⟨rfl, rfl⟩
  | 71, _, _ => exact ⟨rfl, rfl⟩
  | 72, _, _ => exact ⟨rfl, rfl⟩
  | 73, hk, hs => exact ⟨by simp only [valAl18, hu 73 (fun e => hk e.symm)], by simp only [rowsAl18, hu 73 (fun e => hk e.symm)]⟩
  | 74, _, _ => exact ⟨rfl, rfl⟩
  | 75, _, _ => exact ⟨rfl, rfl⟩
  | 76, _, _ => exact ⟨rfl, rfl⟩
  | 77, _, _ => exact ⟨rfl, rfl⟩
  | 78, _, _ => exact ⟨rfl, rfl⟩
  | 79, _, _ => exact ⟨rfl, rfl⟩
  | 80, _, _ => exact ⟨rfl, rfl⟩
  | 81, _, _ => exact ⟨rfl, rfl⟩
  | 82, _, _ => exact ⟨rfl, rfl⟩
  | 83, _, _ => exact ⟨rfl, rfl⟩
  | 84, _, _ => exact ⟨rfl, rfl⟩
  | 85, _, _ => exact ⟨rfl, rfl⟩
  | 86, _, _ => exact ⟨rfl, rfl⟩
  | 87, _, _ => exact ⟨rfl, rfl⟩
  | 88, _, _ => exact ⟨rfl, rfl⟩
  | 89, _, _ => exact ⟨rfl, rfl⟩
  | 90, _, _ => exact ⟨rfl, rfl⟩
  | 91, _, _ => exact ⟨rfl, rfl⟩
  | 92, _, _ => exact ⟨rfl, rfl⟩
  | 93, _, _ => exact ⟨rfl, rfl⟩
  | _ + 94, _, _ => exact ⟨rfl, rfl⟩
set_option maxHeartbeats 64000000 in
theorem alive3 (b18 b21 b25 b26 b28 b29 br qr s1 n1 s2 n2 j1 m1 j2 m2 t1 k1 t2 k2 z1 z2 z3 z4 : Nat) (H : List Row) : X Tryz.prog 295 (cfst (csnd (csnd (csnd (csnd (csnd (csnd (csnd (csnd (csnd (csnd (csnd (csnd (csnd (csnd (csnd (csnd (csnd (cof Tryz.f13))))))))))))))))))) [(2, .int .i64 0), (18, .pointer (some ⟨b18, 0, none⟩)), (13, .int .i64 (-10)), (4, .int .i64 0), (19, .int .i64 20), (6, .int .i64 0), (20, .int .i64 9), (21, .pointer (some ⟨b21, 0, none⟩)), (22, .int .i64 (-15)), (8, .int .i64 0), (23, .int .i64 960), (24, .slice (some ⟨br, 0, none⟩) 1 qr), (11, .int .i64 0), (25, .pointer (some ⟨b25, 0, none⟩)), (14, .int .i64 0), (26, .pointer (some ⟨b26, 0, none⟩)), (17, .int .i64 0), (28, .pointer (some ⟨b28, 0, none⟩)), (30, .int .i64 0), (29, .pointer (some ⟨b29, 0, none⟩))] (⟨b29, 0, cTm (stepT c12 5 (-30)) (plT s1 n1 s2 n2), some 32, 11⟩ :: rI (stepT c12 5 (-30)).G s1 n1 :: ⟨b28, 0, cTm c12 (plT j1 m1 j2 m2), some 32, 11⟩ :: rI c12.G j1 m1 :: rI c12.S j2 m2 :: ⟨b26, 0, cTm (withB c12 2) (plT t1 k1 t2 k2), some 32, 11⟩ :: ⟨b25, 0, cTm (rebT c12 ⟨5, 4⟩) (plT z1 z2 z3 z4), some 32, 11⟩ :: ⟨br, 0, [.int .i64 1], some 3, qr * 1⟩ :: ⟨b21, 0, cCl ⟨5, 4⟩, some 27, 2⟩ :: ⟨b18, 0, cCl ⟨5, 4⟩, some 27, 2⟩ :: H) (thenX (fun F1 H1 => X Tryz.prog 295 (csnd (csnd (csnd (csnd (csnd (csnd (csnd (csnd (csnd (csnd (csnd (csnd (csnd (csnd (csnd (csnd (csnd (csnd (cof Tryz.f13))))))))))))))))))) F1 H1 (retX Tryz.prog Tryz.f13 (fun v H' => v = .bool true ∧ H' = H))) (retX Tryz.prog Tryz.f13 (fun v H' => v = .bool true ∧ H' = H))) := by
  refine X.regionOb tsAl18 [2, 4, 6, 8, 11, 13, 14, 17, 18, 19, 20, 21, 22, 23, 24, 25, 26, 28, 29, 30] [(2, .int .i64 0), (4, .int .i64 0), (6, .int .i64 0), (8, .int .i64 0), (11, .int .i64 0), (13, .int .i64 (-10)), (14, .int .i64 0), (17, .int .i64 0), (18, .pointer (some ⟨b18, 0, none⟩)), (19, .int .i64 20), (20, .int .i64 9), (21, .pointer (some ⟨b21, 0, none⟩)), (22, .int .i64 (-15)), (23, .int .i64 960), (24, .slice (some ⟨br, 0, none⟩) 1 qr), (25, .pointer (some ⟨b25, 0, none⟩)), (26, .pointer (some ⟨b26, 0, none⟩)), (28, .pointer (some ⟨b28, 0, none⟩)), (29, .pointer (some ⟨b29, 0, none⟩)), (30, .int .i64 0)] (valAl18 b18 b21 b25 b26 b28 b29 br qr s1 n1 s2 n2 j1 m1 j2 m2 t1 k1 t2 k2 z1 z2 z3 z4) (rowsAl18 b18 b21 b25 b26 b28 b29 br qr s1 n1 s2 n2 j1 m1 j2 m2 t1 k1 t2 k2 z1 z2 z3 z4) (fun _ => (0, 0)) (⟨b29, 0, cTm (stepT c12 5 (-30)) (plT s1 n1 s2 n2), some 32, 11⟩ :: rI (stepT c12 5 (-30)).G s1 n1 :: ⟨b28, 0, cTm c12 (plT j1 m1 j2 m2), some 32, 11⟩ :: rI c12.G j1 m1 :: rI c12.S j2 m2 :: ⟨b26, 0, cTm (withB c12 2) (plT t1 k1 t2 k2), some 32, 11⟩ :: ⟨b25, 0, cTm (rebT c12 ⟨5, 4⟩) (plT z1 z2 z3 z4), some 32, 11⟩ :: ⟨br, 0, [.int .i64 1], some 3, qr * 1⟩ :: ⟨b21, 0, cCl ⟨5, 4⟩, some 27, 2⟩ :: ⟨b18, 0, cCl ⟨5, 4⟩, some 27, 2⟩ :: H) rfl mixed (by (repeat (first | exact Sub.nil _ | refine Sub.cons rfl ?_)); done) rfl (by kernel_rfl) (locAl18 b18 b21 b25 b26 b28 b29 br qr s1 n1 s2 n2 j1 m1 j2 m2 t1 k1 t2 k2 z1 z2 z3 z4) (List.Sublist.refl _) ?_ ?_
  · repeat' (first | exact AllF.done rfl | (refine AllF.step rfl ?_ ?_; · (first | fail | ((first | refine Ob.ng rfl ?_ | refine Ob.g rfl rfl (fun _ => rfl) ?_); (first | exact ObK.pure (fun env R hR => by exact ⟨_, EvF.move rfl rfl, rfl⟩) rfl (fun _ => rfl) | exact ObK.pure (fun env R hR => by exact ⟨_, EvF.assign rfl rfl, rfl⟩) rfl (fun _ => rfl) | exact ObK.pure (fun env R hR => by exact ⟨_, EvF.pickT rfl rfl rfl, rfl⟩) rfl (fun _ => rfl) | exact ObK.pure (fun env R hR => by exact ⟨_, EvF.fieldAddr rfl rfl (te rfl) rfl (te rfl) (by decide), rfl⟩) rfl (fun _ => rfl) | exact ObK.pure (fun env R hR => by exact ⟨_, EvF.cmp rfl rfl rfl rfl, rfl⟩) rfl (fun _ => rfl) | exact ObK.pure (fun env R hR => by exact ⟨_, EvF.lenSlice rfl rfl (te rfl), rfl⟩) rfl (fun _ => rfl) | exact ObK.pure (fun env R hR => by exact ⟨_, EvF.loadV rfl rfl (LoadV.own (te rfl) rfl (hR _ (List.Mem.head _)) rfl), rfl⟩) rfl (fun _ => rfl) | exact ObK.pure (fun env R hR => by exact ⟨_, EvF.loadV rfl rfl (LoadV.own (te rfl) rfl (hR _ (List.Mem.tail _ (List.Mem.head _))) rfl), rfl⟩) rfl (fun _ => rfl) | exact ObK.pure (fun env R hR => by exact ⟨_, EvF.loadV rfl rfl (LoadV.whole (te rfl) rfl (hR _ (List.Mem.tail _ (List.Mem.tail _ (List.Mem.head _)))) rfl), rfl⟩) rfl (fun _ => rfl) | (exact ObK.pure (fun env S hS => ⟨_, EvF.loadV rfl rfl (LoadV.whole (te rfl) rfl (hS _ (List.Mem.tail _ (List.Mem.tail _ (List.Mem.tail _ (List.Mem.tail _ (List.Mem.tail _ (List.Mem.tail _ (List.Mem.tail _ (List.Mem.tail _ (List.Mem.tail _ (List.Mem.head _))))))))))) rfl), rfl⟩) rfl (fun _ => rfl)) | (exact ObK.pure (fun env S hS => ⟨_, EvF.loadV rfl rfl (LoadV.whole (te rfl) rfl (hS _ (List.Mem.tail _ (List.Mem.tail _ (List.Mem.tail _ (List.Mem.tail _ (List.Mem.tail _ (List.Mem.tail _ (List.Mem.tail _ (List.Mem.tail _ (List.Mem.head _)))))))))) rfl), rfl⟩) rfl (fun _ => rfl)) | (exact ObK.pure (fun env S hS => ⟨_, EvF.loadV rfl rfl (LoadV.own (te rfl) rfl (hS _ (List.Mem.tail _ (List.Mem.tail _ (List.Mem.tail _ (List.Mem.tail _ (List.Mem.tail _ (List.Mem.tail _ (List.Mem.head _)))))))) rfl), rfl⟩) rfl (fun _ => rfl)) | (exact ObK.pure (fun env S hS => ⟨_, EvF.loadV rfl rfl (LoadV.own (te rfl) rfl (hS _ (List.Mem.tail _ (List.Mem.tail _ (List.Mem.tail _ (List.Mem.tail _ (List.Mem.tail _ (List.Mem.head _))))))) rfl), rfl⟩) rfl (fun _ => rfl)) | (exact ObK.pure (fun env S hS => ⟨_, EvF.indexSlice (i := 4) rfl rfl rfl (te rfl) (te rfl) (by decide) (by decide), rfl⟩) rfl (fun _ => rfl)) | (exact ObK.pure (fun env S hS => ⟨_, EvF.eqSt (r := true) (b := true) rfl rfl rfl (by kernel_rfl) (eqClT ⟨5, 4⟩) rfl, rfl⟩) rfl (fun _ => rfl)) | (exact fun env S hS => OpF.callV (Z := []) (EnF.st rfl (Args.cons rfl (Args.cons rfl Args.nil))) (lclass_spec 5 4 _) rfl rfl) | (exact fun env S hS => (StF.buildOne rfl elI rfl rfl rfl (by decide) (by decide)).op.mono (fun v H' ⟨b, hv, hH⟩ => ⟨(b, 0), fun _ => hv, by rw [hH]; exact List.Perm.refl _⟩)) | (exact fun env S hS => OpF.callV (Z := [_]) (EnF.st rfl (Args.cons rfl (Args.cons rfl Args.nil))) (sameI_self [1] _ _ _ _ _ (SlE.ofRow (List.Mem.tail _ (hS _ (List.Mem.tail _ (List.Mem.tail _ (List.Mem.tail _ (List.Mem.tail _ (List.Mem.tail _ (List.Mem.tail _ (List.Mem.tail _ (List.Mem.head _)))))))))) (fun _ _ => rfl)) (SlE.ofRow (List.Mem.head _) (fun _ _ => rfl)) (by decide)) rfl rfl) | (exact fun env S hS => (OpF.call (EnF.st rfl (Args.cons rfl Args.nil)) (cotton_spec 12 _)).mono (fun v H' ⟨x, y, hv, hH⟩ => ⟨(x, y), fun _ => hv, by rw [hH]; exact List.Perm.refl _⟩)) | (exact fun env S hS => OpF.callV (Z := [_, _]) (EnF.st rfl (Args.cons rfl (Args.cons rfl Args.nil))) (sameT_self c12 (plT j1 m1 j2 m2) (plT (env 73).1 9 (env 73).2 9) _ ⟨SlE.ofRow (List.Mem.tail _ (List.Mem.tail _ (hS _ (List.Mem.tail _ (List.Mem.tail _ (List.Mem.tail _ (List.Mem.head _))))))) (fun _ _ => rfl), SlE.ofRow (List.Mem.tail _ (List.Mem.tail _ (hS _ (List.Mem.tail _ (List.Mem.tail _ (List.Mem.tail _ (List.Mem.tail _ (List.Mem.head _)))))))) (fun _ _ => rfl), by decide, by decide⟩ (ctnOk 12 _ _ _ (List.Mem.tail _ (List.Mem.head _)) (List.Mem.head _))) rfl rfl))))))
  intro env t ha hv
  refine ⟨_, ha.cons (hv 93 0 (Nat.le_of_ble_eq_true rfl) rfl), ?_⟩
  clear hv ha
  repeat' (first | refine X.ret rfl ?_)
  exact ret_one (by first | exact .inr rfl | exact .inl rfl) Tryz.results13 rfl (H' := H) (by (repeat (first | exact List.Sublist.refl _ | apply List.Sublist.cons)); done) ⟨rfl, rfl⟩
end Go.Proofs.YtcjlegjchllgjaaGreat
end
