/- TermsLooks: for all terms, numbers, a choice and a span of grades the law returns true (what is got and paid with another look and without one, whether to ask for one, and which grade should be said, or the errors, are those of the reference, and the terms stay), and each argument reads afterwards as before. No condition. -/
import Derived.Test.YtjejppodhpdckaaW04
section
set_option linter.unusedVariables false
set_option linter.unusedSimpArgs false
namespace Go.Proofs.Ytjejppodhpdckaa
open Go Go.Fw
set_option maxRecDepth 10000
theorem ItfG.congr {P : Program} {α : Type} {f : FuncId} {cap : List Value} {E : List Row} {Gd Dn : List α → Prop} {en en' : α → List Value} (h : ItfG P f cap E Gd Dn en) (he : ∀ pre x, Gd (pre ++ [x]) → en x = en' x) : ItfG P f cap E Gd Dn en' :=
  ⟨h.1, fun l J Jx Hc h0 hy => h.2 l J Jx Hc h0 (fun pre x Hc hg hj E' => by rw [he pre x hg]; exact hy pre x Hc hg hj E')⟩
theorem GdM_mem {l pre : List Ent} {x : Ent} (h : GdM l (pre ++ [x])) : x ∈ l := by
  obtain ⟨rest, hp⟩ := h
  exact hp.mem_iff.1 (List.mem_append_left _ (List.mem_append_right _ List.mem_cons_self))
theorem GdM_len {l pre : List Ent} (h : GdM l pre) : pre.length ≤ l.length := by obtain ⟨rest, hp⟩ := h; exact it_len hp
def tsBe : List TOp := [⟨some 10, [], [], []⟩, ⟨some 11, [0], [0], []⟩, ⟨some 12, [], [], []⟩, ⟨some 13, [], [], []⟩, ⟨some 14, [3], [3], []⟩, ⟨some 15, [2, 3, 4], [4], []⟩, ⟨some 16, [2, 3, 4, 5], [2, 5], []⟩, ⟨some 17, [0, 1, 2, 3, 4, 5, 6], [1, 6], []⟩]
def valBe (b1 b4 : Nat) (T : Tm) (p : Pt) (gs : Sp) (s : Int) (k : Nat) (env : Env) : Value :=
  match k with
  | 0 => .pointer (some ⟨b1, 0, none⟩)
  | 1 => .agg (cTm T p).toArray
  | 2 => .agg (cSp ⟨1, 9⟩).toArray
  | 3 => .pointer (some ⟨b1, 13, none⟩)
  | 4 => .int .i64 s
  | 5 => .agg (cSp ⟨s, s⟩).toArray
  | 6 => .agg (cLo ⟨1, 9, s, s⟩).toArray
  | 7 => .func (.func 115) #[] #[.pointer (some ⟨(env 7).1, 0, none⟩), .pointer (some ⟨(env 7).2, 0, none⟩)]
  | _ => undef
def rowsBe (b1 b4 : Nat) (T : Tm) (p : Pt) (gs : Sp) (s : Int) (k : Nat) (env : Env) : List Row :=
  match k with
  | 7 => [⟨(env 7).1, 0, cLo ⟨1, 9, s, s⟩, some 105, 4⟩, ⟨(env 7).2, 0, cTm T p, some 111, 11⟩]
  | _ => []
theorem locBe (b1 b4 : Nat) (T : Tm) (p : Pt) (gs : Sp) (s : Int) : ∀ k env i q9, i ≠ k → (tAt tsBe k).sup.contains i = false → valBe b1 b4 T p gs s k (upd env i q9) = valBe b1 b4 T p gs s k env ∧ rowsBe b1 b4 T p gs s k (upd env i q9) = rowsBe b1 b4 T p gs s k env := by
  intro k env i q hk hs
  have hu : ∀ j, j ≠ i → upd env i q j = env j := fun j hj => by unfold upd; rw [if_neg hj]
  match k, hk, hs with
  | 0, _, _ => exact ⟨rfl, rfl⟩
  | 1, _, _ => exact ⟨rfl, rfl⟩
  | 2, _, _ => exact ⟨rfl, rfl⟩
  | 3, _, _ => exact ⟨rfl, rfl⟩
  | 4, _, _ => exact ⟨rfl, rfl⟩
  | 5, _, _ => exact ⟨rfl, rfl⟩
  | 6, _, _ => exact ⟨rfl, rfl⟩
  | 7, hk, hs => exact ⟨by simp only [valBe, hu 7 (fun e => hk e.symm)], by simp only [rowsBe, hu 7 (fun e => hk e.symm)]⟩
  | _ + 8, _, _ => exact ⟨rfl, rfl⟩
def tsBg : List TOp := [⟨some 19, [], [], []⟩, ⟨some 20, [], [], []⟩, ⟨some 21, [1], [1], []⟩, ⟨some 22, [], [], []⟩, ⟨some 23, [], [], []⟩, ⟨some 24, [4], [4], []⟩, ⟨some 25, [3, 4, 5], [3, 5], []⟩, ⟨none, [0, 1, 2, 3, 4, 5, 6], [0, 2, 6], [8]⟩, ⟨none, [], [], []⟩]
def valBg (b1 b4 b5 bm clk clkq : Nat) (T : Tm) (p : Pt) (gs : Sp) (s : Int) (c : Cl) (l lq : List Ent) (k : Nat) (env : Env) : Value :=
  match k with
  | 0 => .map (some bm)
  | 1 => .pointer (some ⟨b5, 0, none⟩)
  | 2 => .int .i64 c.g
  | 3 => .agg (cGm T p gs s).toArray
  | 4 => .pointer (some ⟨b5, 0, none⟩)
  | 5 => .int .i64 c.g
  | 6 => .int .i64 (gnL T c.g s gs)
  | 7 => undef
  | _ => undef
def rowsBg (b1 b4 b5 bm clk clkq : Nat) (T : Tm) (p : Pt) (gs : Sp) (s : Int) (c : Cl) (l lq : List Ent) (k : Nat) (env : Env) : List Row :=
  match k with
  | 7 => [mRow bm .i64 lq clkq]
  | 8 => [mRow bm .i64 l clk]
  | _ => []
theorem locBg (b1 b4 b5 bm clk clkq : Nat) (T : Tm) (p : Pt) (gs : Sp) (s : Int) (c : Cl) (l lq : List Ent) : ∀ k env i q9, i ≠ k → (tAt tsBg k).sup.contains i = false → valBg b1 b4 b5 bm clk clkq T p gs s c l lq k (upd env i q9) = valBg b1 b4 b5 bm clk clkq T p gs s c l lq k env ∧ rowsBg b1 b4 b5 bm clk clkq T p gs s c l lq k (upd env i q9) = rowsBg b1 b4 b5 bm clk clkq T p gs s c l lq k env := by
  intro k env i q hk hs
  have hu : ∀ j, j ≠ i → upd env i q j = env j := fun j hj => by unfold upd; rw [if_neg hj]
  match k, hk, hs with
  | 0, _, _ => exact ⟨rfl, rfl⟩
  | 1, _, _ => exact ⟨rfl, rfl⟩
  | 2, _, _ => exact ⟨rfl, rfl⟩
  | 3, _, _ => exact ⟨rfl, rfl⟩
  | 4, _, _ => exact ⟨rfl, rfl⟩
  | 5, _, _ => exact ⟨rfl, rfl⟩
  | 6, _, _ => exact ⟨rfl, rfl⟩
  | 7, _, _ => exact ⟨rfl, rfl⟩
  | 8, _, _ => exact ⟨rfl, rfl⟩
  | _ + 9, _, _ => exact ⟨rfl, rfl⟩
set_option maxHeartbeats 16000000 in
theorem best_spec (T : Tm) (p : Pt) (s : Int) (gs : Sp) (H : List Row) (hT : TmOk H T p) (hok : tmOk T) (h2 : 1 ≤ s ∧ s ≤ 9) (h3 : (1 ≤ gs.lo ∧ gs.lo ≤ gs.hi) ∧ gs.hi ≤ 9) (hs : T.short ≤ s) :
    Fc Try.prog 89 [.agg (cGm T p gs s).toArray] H (fun v H' => v = .tuple #[.int .i64 (byS T s gs 9).1, .int .i64 (byS T s gs 9).2] ∧ H' = H) := by
  refine Fc.mkT (callable Try.call89) Try.func89 rfl Try.ntmps89 rfl ?_
  dsimp only [fr]
  refine XT.seq rfl (XT.of0 ?_)
  repeat' (first | (refine XO.op rfl ?_; (first | ((first | refine Xo.ng rfl ?_); (first | (refine Xg.ev (EvF.assign rfl rfl) rfl rfl ?_) | (refine Xg.st (StF.boxAgg rfl rfl) rfl rfl ?_; rintro _ _ ⟨bx, rfl, rfl⟩) | (refine Xg.st (StF.alloc rfl Try.zeroValue26 rfl) rfl rfl ?_; rintro _ _ ⟨bx, rfl, rfl⟩) | (refine Xg.st0 (StF.storeAll (i := 0) rfl rfl rfl (te rfl) rfl rfl rfl rfl) rfl ?_; rintro _ _ ⟨rfl, rfl⟩; dsimp only [List.set]))))) | (refine XO.done rfl ?_; refine hK _ _ ?_; clear hK K) | refine X.region rfl (fun K hK => ?_))
  refine XT.seq rfl (XT.of0 ?_)
  repeat' (first | (refine XO.op rfl ?_; (first | ((first | refine Xo.ng rfl ?_); (first | (refine Xg.st (StF.makeMap .i64 rfl) rfl rfl ?_; rintro _ _ ⟨bm, rfl, rfl⟩) | (refine Xg.st0 (StF.storeOne (i := 0) rfl rfl rfl rfl (te rfl) rfl rfl (Nat.le_of_ble_eq_true rfl)) rfl ?_; rintro _ _ ⟨rfl, rfl⟩; dsimp only [List.set]) | (refine Xg.st (StF.alloc rfl Try.zeroValue181 rfl) rfl rfl ?_; rintro _ _ ⟨bx, rfl, rfl⟩))))) | (refine XO.done rfl ?_; refine hK _ _ ?_; clear hK K) | refine X.region rfl (fun K hK => ?_))
  rename_i b1
  obtain ⟨b4, hb4⟩ : ∃ b, b = bx := ⟨_, rfl⟩
  rw [← hb4]
  clear hb4
  refine XT.weak (F' := [(1, .pointer (some ⟨b1, 0, none⟩)), (4, .pointer (some ⟨b4, 0, none⟩))]) (H' := ⟨b4, 0, [.map (some bm)], some 181, 1⟩ :: mRow bm .i64 [] 0 :: ⟨b1, 0, cGm T p gs s, some 144, 14⟩ :: H) (by (repeat (first | exact Sub.nil _ | refine Sub.cons rfl ?_)); done) (by (repeat (first | exact List.Sublist.refl _ | apply List.Sublist.cons_cons | apply List.Sublist.cons)); done) ?_
  refine XT.seq rfl (XT.seq rfl (XT.of0 ?_))
  refine X.regionOb tsBe [1, 4] [(1, .pointer (some ⟨b1, 0, none⟩)), (4, .pointer (some ⟨b4, 0, none⟩))] (valBe b1 b4 T p gs s) (rowsBe b1 b4 T p gs s) (fun _ => (0, 0)) (⟨b4, 0, [.map (some bm)], some 181, 1⟩ :: mRow bm .i64 [] 0 :: ⟨b1, 0, cGm T p gs s, some 144, 14⟩ :: H) rfl mixed (by (repeat (first | exact Sub.nil _ | refine Sub.cons rfl ?_)); done) rfl (by kernel_rfl) (locBe b1 b4 T p gs s) (List.Sublist.refl _) ?_ ?_
  · repeat' (first | exact AllF.done rfl | (refine AllF.step rfl ?_ ?_; · (first | fail | ((first | refine Ob.ng rfl ?_); (first | exact ObK.pure (fun env R hR => by exact ⟨_, EvF.fieldAddr rfl rfl (te rfl) rfl (te rfl) (by decide), rfl⟩) rfl (fun _ => rfl) | exact ObK.pure (fun env R hR => by exact ⟨_, EvF.loadV rfl rfl (LoadV.own (te rfl) rfl (hR _ (List.Mem.tail _ (List.Mem.tail _ (List.Mem.head _)))) rfl), rfl⟩) rfl (fun _ => rfl) | exact ObK.pure (fun env R hR => by exact ⟨_, EvF.loadV rfl rfl (LoadV.ownAgg (te rfl) rfl (hR _ (List.Mem.tail _ (List.Mem.tail _ (List.Mem.head _)))) rfl rfl), rfl⟩) rfl (fun _ => rfl) | (exact fun env S hS => OpF.callV (Z := []) (EnF.st rfl (Args.cons rfl Args.nil)) (just_spec s _) rfl rfl) | (exact fun env S hS => OpF.callV (Z := []) (EnF.st rfl Args.nil) (anyGrade_spec _) rfl rfl) | (exact ObK.pure (fun env S hS => ⟨_, EvF.build (cs := cLo ⟨1, 9, s, s⟩) rfl (ArgsP.cons rfl (ArgsP.cons rfl ArgsP.nil)) (te rfl) (Places.cons (te rfl) (Places.cons (te rfl) Places.nil)) Try.zeroValue105 rfl, rfl⟩) rfl (fun _ => rfl)) | (exact fun env S hS => (OpF.call (EnF.st rfl (Args.cons rfl (Args.cons rfl Args.nil))) (classes_spec T p ⟨1, 9, s, s⟩ _)).mono (fun v H' ⟨x, y, hv, hH⟩ => ⟨(x, y), fun _ => hv, by rw [hH]; exact List.Perm.refl _⟩)))))))
  intro env t ha hv
  refine ⟨_, ha.cons (hv 7 17 (Nat.le_of_ble_eq_true rfl) rfl), ?_⟩
  clear hv ha
  obtain ⟨bl, hbl⟩ : ∃ b, b = (env 7).1 := ⟨_, rfl⟩
  obtain ⟨bo, hbo⟩ : ∃ b, b = (env 7).2 := ⟨_, rfl⟩
  refine XT.weak (F' := [(1, .pointer (some ⟨b1, 0, none⟩)), (4, .pointer (some ⟨b4, 0, none⟩)), (17, .func (.func 115) #[] #[.pointer (some ⟨bl, 0, none⟩), .pointer (some ⟨bo, 0, none⟩)])]) (H' := [⟨bl, 0, cLo ⟨1, 9, s, s⟩, some 105, 4⟩, ⟨bo, 0, cTm T p, some 111, 11⟩] ++ (⟨b4, 0, [.map (some bm)], some 181, 1⟩ :: mRow bm .i64 [] 0 :: ⟨b1, 0, cGm T p gs s, some 144, 14⟩ :: H)) (by rw [hbl, hbo]; exact (by (repeat (first | exact Sub.nil _ | refine Sub.cons rfl ?_)); done)) (by rw [hbl, hbo]; exact (by (repeat (first | exact List.Sublist.refl _ | apply List.Sublist.cons_cons | apply List.Sublist.cons)); done)) ?_
  clear hbl hbo
  refine XT.perm (H' := (mRow bm .i64 (eG T s gs []) 0 :: ⟨b4, 0, [.map (some bm)], some 181, 1⟩ :: ⟨b1, 0, cGm T p gs s, some 144, 14⟩ :: H) ++ [⟨bl, 0, cLo ⟨1, 9, s, s⟩, some 105, 4⟩, ⟨bo, 0, cTm T p, some 111, 11⟩]) (List.Perm.trans (List.Perm.append_right _ (List.Perm.swap _ _ _)) List.perm_append_comm) ?_
  refine XT.block rfl ?_
  have hin : ∀ x ∈ cls T ⟨1, 9, s, s⟩, 1 ≤ x.g ∧ x.g ≤ 9 := fun x hx => (mem_cls1.1 hx).1
  refine XT.range (ps := [18]) rfl rfl (classes1_it T p ⟨1, 9, s, s⟩ bl bo 4 11 _ _ _ (List.Mem.head _) (List.Mem.tail _ (List.Mem.head _)) (by dsimp only; omega)) rfl (fun _ => rfl) (fun pre Hb => Hb = mRow bm .i64 (eG T s gs pre) pre.length :: ⟨b4, 0, [.map (some bm)], some 181, 1⟩ :: ⟨b1, 0, cGm T p gs s, some 144, 14⟩ :: H) (fun _ _ => False) _ rfl rfl ?_ ?_ (fun _ _ h => h.elim) (fun _ _ _ h => h.elim) (fun _ _ h => h.elim)
  · rintro pre x _ hpre rfl Z
    have hxm : x ∈ cls T ⟨1, 9, s, s⟩ := hpre.subset (List.mem_append_right _ List.mem_cons_self)
    have hxg := hin x hxm
    have hnd : ((pre ++ [x]).map (·.g)).Nodup := ((hpre.map _).sublist).nodup (cls1_nodup T s)
    have hkm : keysM (eG T s gs pre) := by
      unfold keysM; rw [eG_keys]
      rw [List.map_append] at hnd
      exact (List.nodup_append.1 hnd).1
    have hnew : ∀ e ∈ eG T s gs pre, e.1 ≠ x.g := by
      intro e he q
      obtain ⟨c, hc, h1, _⟩ := eG_mem he
      rw [List.map_append] at hnd
      exact (List.nodup_append.1 hnd).2.2 _ (List.mem_map.2 ⟨c, hc, rfl⟩) _ List.mem_cons_self (by rw [← h1, q])
    have hany : (eG T s gs pre).any (fun e => e.1 == x.g) = false := List.any_eq_false.2 fun e he => by simpa using hnew e he
    simp only [List.cons_append]
    repeat' (first | (refine XO.op rfl ?_; (first | ((first | refine Xo.ng rfl ?_); (first | (refine Xg.ev (EvF.assign rfl rfl) rfl rfl ?_) | (refine Xg.st (StF.boxAgg rfl rfl) rfl rfl ?_; rintro _ _ ⟨bx, rfl, rfl⟩) | (refine Xg.st (StF.alloc rfl Try.zeroValue26 rfl) rfl rfl ?_; rintro _ _ ⟨bx, rfl, rfl⟩) | (refine Xg.st0 (StF.storeAll (i := 0) rfl rfl rfl (te rfl) rfl rfl rfl rfl) rfl ?_; rintro _ _ ⟨rfl, rfl⟩; dsimp only [List.set]))))) | (refine XO.done rfl ?_; refine hK _ _ ?_; clear hK K) | refine X.region rfl (fun K hK => ?_))
    refine ⟨rfl, ⟨bx, 0, cCl x, some 23, 2⟩ :: mRow bm .i64 (eG T s gs pre) pre.length :: ⟨b4, 0, [.map (some bm)], some 181, 1⟩ :: ⟨b1, 0, cGm T p gs s, some 144, 14⟩ :: H, List.Sublist.refl _, fun Z' => ?_⟩
    simp only [List.cons_append]
    refine X.permH (H' := mRow bm .i64 (eG T s gs pre) pre.length :: ⟨bx, 0, cCl x, some 23, 2⟩ :: ⟨b4, 0, [.map (some bm)], some 181, 1⟩ :: ⟨b1, 0, cGm T p gs s, some 144, 14⟩ :: (H ++ Z')) (List.Perm.swap _ _ _) ?_
    refine X.weak (F' := [(1, .pointer (some ⟨b1, 0, none⟩)), (4, .pointer (some ⟨b4, 0, none⟩)), (5, .pointer (some ⟨bx, 0, none⟩))]) (by (repeat (first | exact Sub.nil _ | refine Sub.cons rfl ?_)); done) (List.Sublist.refl _) ?_
    refine X.block rfl ?_
    refine X.regionOb tsBg [1, 4, 5] [(1, .pointer (some ⟨b1, 0, none⟩)), (4, .pointer (some ⟨b4, 0, none⟩)), (5, .pointer (some ⟨bx, 0, none⟩))] (valBg b1 b4 bx bm pre.length (clkM (eG T s gs pre) pre.length x.g) T p gs s x (eG T s gs pre) (insM (eG T s gs pre) pre.length x.g (.int .i64 (gnL T x.g s gs)))) (rowsBg b1 b4 bx bm pre.length (clkM (eG T s gs pre) pre.length x.g) T p gs s x (eG T s gs pre) (insM (eG T s gs pre) pre.length x.g (.int .i64 (gnL T x.g s gs)))) (fun _ => (0, 0)) (⟨bx, 0, cCl x, some 23, 2⟩ :: ⟨b4, 0, [.map (some bm)], some 181, 1⟩ :: ⟨b1, 0, cGm T p gs s, some 144, 14⟩ :: (H ++ Z')) rfl mixed (by (repeat (first | exact Sub.nil _ | refine Sub.cons rfl ?_)); done) rfl (by kernel_rfl) (locBg b1 b4 bx bm pre.length (clkM (eG T s gs pre) pre.length x.g) T p gs s x (eG T s gs pre) (insM (eG T s gs pre) pre.length x.g (.int .i64 (gnL T x.g s gs)))) (List.Sublist.refl _) ?_ ?_
    · have hTS : ∀ (Y : List Row), (∀ r ∈ ⟨bx, 0, cCl x, some 23, 2⟩ :: ⟨b4, 0, [.map (some bm)], some 181, 1⟩ :: ⟨b1, 0, cGm T p gs s, some 144, 14⟩ :: (H ++ Z'), r ∈ Y) → TmOk Y T p := fun Y hS => hT.sub (fun r hr => hS r (List.mem_append_right [_, _, _] (List.mem_append_left _ hr)))
      repeat' (first | exact AllF.done rfl | (refine AllF.step rfl ?_ ?_; · (first | fail | ((first | refine Ob.ng rfl ?_); (first | exact ObK.pure (fun env R hR => by exact ⟨_, EvF.fieldAddr rfl rfl (te rfl) rfl (te rfl) (by decide), rfl⟩) rfl (fun _ => rfl) | exact ObK.pure (fun env R hR => by exact ⟨_, EvF.loadV rfl rfl (LoadV.own (te rfl) rfl (hR _ (List.Mem.head _)) rfl), rfl⟩) rfl (fun _ => rfl) | exact ObK.pure (fun env R hR => by exact ⟨_, EvF.loadV rfl rfl (LoadV.own (te rfl) rfl (hR _ (List.Mem.tail _ (List.Mem.head _))) rfl), rfl⟩) rfl (fun _ => rfl) | exact ObK.pure (fun env R hR => by exact ⟨_, EvF.loadV rfl rfl (LoadV.whole (te rfl) rfl (hR _ (List.Mem.tail _ (List.Mem.tail _ (List.Mem.head _)))) rfl), rfl⟩) rfl (fun _ => rfl) | (exact fun env S hS => OpF.callV (Z := []) (EnF.st rfl (Args.cons rfl (Args.cons rfl Args.nil))) (gains_spec T p x.g s gs _ (hTS S hS) hok hxg h2 h3) rfl rfl) | (exact fun env S hS => (StF.mapUpdate (i := 0) (l := eG T s gs pre) (clock := pre.length) rfl maps_und int_und rfl rfl rfl rfl hkm).op.mono (fun v H' ⟨hv, hH⟩ => ⟨(0, 0), fun h => absurd rfl h, by rw [hH]; exact List.Perm.refl _⟩)))))))
    intro env t ha hv
    refine ⟨_, ha, ?_⟩
    clear hv ha
    refine ⟨mRow bm .i64 (eG T s gs (pre ++ [x])) (pre ++ [x]).length :: ⟨b4, 0, [.map (some bm)], some 181, 1⟩ :: ⟨b1, 0, cGm T p gs s, some 144, 14⟩ :: H, ?_, rfl⟩
    have hi1 : insM (eG T s gs pre) pre.length x.g (.int .i64 (gnL T x.g s gs)) = eG T s gs (pre ++ [x]) := by
      unfold insM; rw [if_neg (by rw [hany]; decide), eG_snoc]
    have hi2 : clkM (eG T s gs pre) pre.length x.g = (pre ++ [x]).length := by
      unfold clkM; rw [if_neg (by rw [hany]; decide), List.length_append]; rfl
    rw [hi1, hi2]
    exact List.Sublist.cons_cons _ (List.sublist_cons_self _ _)
  · rintro D _ rfl
    refine XT.of1 ?_
    simp only [List.cons_append, List.append_assoc]
    obtain ⟨HX, hHX⟩ : ∃ q, q = H ++ ([⟨bl, 0, cLo ⟨1, 9, s, s⟩, some 105, 4⟩, ⟨bo, 0, cTm T p, some 111, 11⟩] ++ [dRow D]) := ⟨_, rfl⟩
    have hsub : (H ++ [dRow D]).Sublist HX := by rw [hHX]; exact List.Sublist.append (List.Sublist.refl _) (List.sublist_append_right _ _)
    simp only [List.cons_append, List.nil_append] at hHX ⊢
    rw [← hHX]
    clear hHX
    have hne : cls T ⟨1, 9, s, s⟩ ≠ [] := by
      have := hok.cls
      exact List.ne_nil_of_mem (a := ⟨1, s⟩) (mem_cls1.2 ⟨⟨Int.le_refl 1, by dsimp only; omega⟩, rfl, by unfold may; exact decide_eq_true ⟨by dsimp only; omega, hs⟩⟩)
    have hend := fun (ys1 ys2 pre : List Ent) h1 h2 h3 => @best_end T s gs ys1 ys2 hne h1 pre h2 h3
    obtain ⟨cn, hcn⟩ : ∃ n, (cls T ⟨1, 9, s, s⟩).length = n := ⟨_, rfl⟩
    have hlen9 : cn ≤ 1000000 := by
      have := cls_len T (l := ⟨1, 9, s, s⟩) (by unfold inb; dsimp only; omega)
      omega
    have hkey : keysM (eG T s gs (cls T ⟨1, 9, s, s⟩)) := by unfold keysM; rw [eG_keys]; exact cls1_nodup T s
    have hborn : ((eG T s gs (cls T ⟨1, 9, s, s⟩)).map (·.2.2)).Nodup := by rw [eG_born]; exact List.nodup_range'
    have hclk : ∀ e ∈ eG T s gs (cls T ⟨1, 9, s, s⟩), e.2.2 < cn := fun e he => by obtain ⟨c, _, _, _, h⟩ := eG_mem he; rw [← hcn]; exact h
    have hint : ∀ e ∈ eG T s gs (cls T ⟨1, 9, s, s⟩), ∃ n, e.2.1 = .int .i64 n := fun e he => by obtain ⟨c, _, _, h, _⟩ := eG_mem he; exact ⟨_, h⟩
    have hll : (eG T s gs (cls T ⟨1, 9, s, s⟩)).length = cn := by rw [eG_len, hcn]
    rw [hcn]
    have hl0 : 0 < cn := by rw [← hcn]; exact List.length_pos_iff.2 hne
    obtain ⟨l, hl⟩ : ∃ l, eG T s gs (cls T ⟨1, 9, s, s⟩) = l := ⟨_, rfl⟩
    rw [hl] at hend hkey hborn hclk hint hll ⊢
    clear hl
    have hval : ∀ bb : Nat, ItfG Try.prog 146 [.pointer (some ⟨bb, 0, none⟩)] (⟨bb, 0, [.map (some bm)], some 181, 1⟩ :: mRow bm .i64 l cn :: ⟨b4, 0, [.map (some bm)], some 181, 1⟩ :: ⟨b1, 0, cGm T p gs s, some 144, 14⟩ :: HX) (GdM l) (DnM l) (fun e => [.int .i64 (vI e.2.1)]) := fun bb => ItfG.congr (values1_it bm bb cn _ _ l (⟨bb, 0, [.map (some bm)], some 181, 1⟩ :: mRow bm .i64 l cn :: ⟨b4, 0, [.map (some bm)], some 181, 1⟩ :: ⟨b1, 0, cGm T p gs s, some 144, 14⟩ :: HX) (List.Mem.head _) (List.Mem.tail _ (List.Mem.head _)) hborn hclk) (fun pre x hg => by obtain ⟨n, hn⟩ := hint x (GdM_mem hg); rw [hn]; rfl)
    repeat' (first | (refine XO.op rfl ?_; (first | ((first | refine Xo.ng rfl ?_); (first | (refine Xg.call (EnF.st rfl (by (repeat (first | exact Args.nil | refine Args.cons rfl ?_)); done)) rfl rfl (values_spec bm _) ?_; rintro _ _ ⟨bb, rfl, rfl⟩) | (refine Xg.call (EnF.st rfl (Args.cons rfl Args.nil)) rfl rfl (collectI_spec 146 [.pointer (some ⟨bb, 0, none⟩)] _ (GdM l) (DnM l) (fun e => vI e.2.1) (hval bb) (fun pre hg => by have := GdM_len hg; omega)) ?_; rintro _ _ ⟨ys1, Z1, hys1, hO1, rfl⟩) | (refine Xg.ev (EvF.loadV rfl rfl (LoadV.own (te rfl) rfl (List.Mem.tail _ (List.Mem.head _)) rfl)) rfl rfl ?_))))) | refine X.seq rfl ?_ | refine X.region rfl (fun K hK => ?_))
    have hym : 0 < (ys1.map (fun e => vI e.2.1)).length := by rw [List.length_map, hys1.length_eq]; omega
    have hym2 : (ys1.map (fun e => vI e.2.1)).length ≤ 1000000 := by rw [List.length_map, hys1.length_eq]; omega
    rcases hO1 with ⟨hn0, _, _⟩ | ⟨bs, qs, rfl, rfl⟩
    · rw [hn0] at hym; exact absurd hym (Nat.lt_irrefl 0)
    simp only [List.cons_append, List.nil_append]
    obtain ⟨m, hm⟩ : ∃ m, maxL (ys1.map (fun e => vI e.2.1)) = m := ⟨_, rfl⟩
    have hmax := fun a c H h => maxI_spec (ys1.map (fun e => vI e.2.1)) a c H h hym2 hym
    rw [hm] at hmax
    replace hend := fun ys2 pre => hend ys1 ys2 pre hys1
    rw [hm] at hend
    repeat' (first | (refine XO.op rfl ?_; (first | ((first | refine Xo.ng rfl ?_); (first | (refine Xg.call (EnF.st rfl (Args.cons rfl Args.nil)) rfl rfl (hmax _ _ _ (SlE.ofRow (List.Mem.head _) (fun _ _ => rfl))) ?_; rintro _ H9 ⟨rfl, hH9⟩; subst H9) | (refine Xg.st (StF.rangeMap (kd := .i64) (l := l) (clock := cn) rfl maps_und rfl (List.Mem.tail _ (List.Mem.tail _ (List.Mem.head _)))) rfl rfl ?_; rintro _ _ ⟨r, rfl, rfl⟩) | (refine Xg.ev (EvF.loadV rfl rfl (LoadV.own (te rfl) rfl (List.Mem.tail _ (List.Mem.tail _ (List.Mem.tail _ (List.Mem.head _)))) rfl)) rfl rfl ?_) | (refine Xg.ev (EvF.assign rfl rfl) rfl rfl ?_))))) | (refine XO.done rfl ?_; refine hK _ _ ?_; clear hK K) | refine X.seq rfl ?_ | refine X.region rfl (fun K hK => ?_) | refine X.block rfl ?_)
    refine X.lp rfl (fun q F' H' => ∃ (pre rest : List Ent), q = l.length - pre.length ∧ (pre ++ rest).Perm l ∧ H' = iRow r bm cn pre :: mRow bm .i64 (l.filter (qfM pre m)) cn :: ⟨b4, 0, [.map (some bm)], some 181, 1⟩ :: HX ∧
        F' = [(4, .pointer (some ⟨b4, 0, none⟩)), (6, .int .i64 m), (31, .pointer (some ⟨r, 0, none⟩))])
      _ [(4, .pointer (some ⟨b4, 0, none⟩)), (6, .int .i64 m), (31, .pointer (some ⟨r, 0, none⟩))] (iRow r bm cn [] :: mRow bm .i64 (l.filter (qfM [] m)) cn :: ⟨b4, 0, [.map (some bm)], some 181, 1⟩ :: HX) (by (repeat (first | exact Sub.nil _ | refine Sub.cons rfl ?_)); done) (by rw [qfM_nil]; exact (by (repeat (first | exact List.Sublist.refl _ | apply List.Sublist.cons_cons | apply List.Sublist.cons)); done)) ⟨[], l, rfl, List.Perm.refl _, rfl, rfl⟩ ?_
    rintro _ _ _ ⟨pre, rest, rfl, hp, rfl, rfl⟩
    have hle := it_len hp
    have hcf : ∀ e ∈ l.filter (qfM pre m), e.2.2 < cn := fun e he => hclk e (List.mem_filter.1 he).1
    have hkf := keys_filter hkey (qfM pre m)
    have hbf : ((l.filter (qfM pre m)).map (·.2.2)).Nodup := (List.filter_sublist.map _).nodup hborn
    repeat' (first | (refine XO.op rfl ?_; (first | ((first | refine Xo.ng rfl ?_); (first | (refine Xg.st (StF.nextMap (i := 0) (kd := .i64) (l := l.filter (qfM pre m)) rfl rfl rfl (List.Mem.tail _ (List.Mem.head _)) hcf) rfl rfl ?_; rintro _ _ (⟨rfl, rfl, hx⟩ | ⟨⟨ek, ev, eb⟩, he, hes, rfl, rfl⟩); all_goals try (obtain ⟨nv, rfl⟩ : ∃ n, ev = .int .i64 n := hint _ (List.mem_filter.1 he).1; dsimp only [List.set])) | (refine Xg.ev (EvF.entry (pre := pre) rfl rfl (List.Mem.head _) (List.Mem.tail _ (List.Mem.head _)) he hbf) rfl rfl ?_) | (refine Xg.st0 (StF.delete (i := 1) (l := l.filter (qfM pre m)) (clock := cn) rfl maps_und int_und rfl rfl rfl hkf) rfl ?_; rintro _ _ ⟨rfl, rfl⟩; dsimp only [List.set]) | (refine Xg.ev (EvF.loadV rfl rfl (LoadV.own (te rfl) rfl (List.Mem.tail _ (List.Mem.tail _ (List.Mem.head _))) rfl)) rfl rfl ?_) | (refine Xg.call (EnF.st rfl (by (repeat (first | exact Args.nil | refine Args.cons rfl ?_)); done)) rfl rfl (keys_spec bm _) ?_; rintro _ _ ⟨bk, rfl, rfl⟩) | (refine Xg.call (EnF.st rfl (Args.cons rfl (Args.cons rfl Args.nil))) rfl rfl (firstI_spec 147 [.pointer (some ⟨bk, 0, none⟩)] _ (GdM (l.filter (qfM pre m))) (DnM (l.filter (qfM pre m))) (fun e => e.1) (keys1_it bm bk cn _ _ (l.filter (qfM pre m)) (⟨bk, 0, [.map (some bm)], some 181, 1⟩ :: iRow r bm cn pre :: mRow bm .i64 (l.filter (qfM pre m)) cn :: ⟨b4, 0, [.map (some bm)], some 181, 1⟩ :: HX) (List.Mem.head _) (List.Mem.tail _ (List.Mem.tail _ (List.Mem.head _))) hbf hcf)) ?_; rintro _ _ ⟨ys2, hys2, rfl, rfl⟩) | (refine Xg.ev (EvF.move rfl rfl) rfl rfl ?_) | (refine Xg.ev (EvF.assign rfl rfl) rfl rfl ?_) | (refine Xg.ev (EvF.cmp rfl rfl rfl rfl) rfl rfl ?_) | (refine Xg.ev (EvF.extract rfl rfl rfl) rfl rfl ?_))))) | (refine XO.done rfl ?_; refine hK _ _ ?_; clear hK K) | refine X.seq rfl ?_ | refine X.region rfl (fun K hK => ?_) | refine X.block rfl ?_ | (refine X.brk rfl ?_; repeat (first | refine blockX_hit rfl ?_ | refine blockX_miss (by decide) ?_)) | refine X.skip rfl ?_ | refine X.ret rfl ?_ | (refine X.ite rfl rfl (fun hc => ?_); (first | (with_reducible refine Xb.t hc ?_) | (with_reducible refine Xb.f hc ?_) | (with_reducible refine Xb.case hc (fun h => ?_) (fun h => ?_))) <;> clear hc))
    all_goals try (exfalso; contradiction)
    · obtain ⟨e1, e2⟩ := hend ys2 pre hys2 hx
      rw [← e1, ← e2]
      refine ⟨H, ?_, retT_two (by first | exact .inr rfl | exact .inl rfl) Try.results89 rfl rfl (List.Sublist.refl _) ⟨rfl, rfl⟩⟩
      exact List.Sublist.cons _ (List.Sublist.cons _ (List.Sublist.cons _ (List.Sublist.cons _ hsub)))
    · obtain ⟨rest', hp'⟩ := it_more hp (List.mem_filter.1 he).1 hes
      have hl' := it_len hp'
      rw [List.length_append] at hl'
      refine ⟨_, _, _, (by (repeat (first | exact Sub.nil _ | refine Sub.cons rfl ?_)); done), List.Sublist.refl _, ⟨pre ++ [(ek, .int .i64 nv, eb)], rest', rfl, hp', ?_, rfl⟩, by simp only [List.length_append, List.length_cons, List.length_nil] at hl' ⊢; omega⟩
      rw [← qfM_del hborn hkey (List.mem_filter.1 he).1 (by assumption)]
    · obtain ⟨rest', hp'⟩ := it_more hp (List.mem_filter.1 he).1 hes
      have hl' := it_len hp'
      rw [List.length_append] at hl'
      refine ⟨_, _, _, (by (repeat (first | exact Sub.nil _ | refine Sub.cons rfl ?_)); done), List.Sublist.refl _, ⟨pre ++ [(ek, .int .i64 nv, eb)], rest', rfl, hp', ?_, rfl⟩, by simp only [List.length_append, List.length_cons, List.length_nil] at hl' ⊢; omega⟩
      rw [← qfM_keep hborn (List.mem_filter.1 he).1 (by assumption)]
theorem kSay_spec (T : Tm) (p : Pt) (s : Int) (gs : Sp) (H : List Row) (hT : TmOk H T p) :
    Fc Try.prog 27 [.agg (cTm T p).toArray, .agg (cSp gs).toArray, .int .i64 s] H (fun v H' => v = .tuple #[.int .i64 (sayS T s gs), .int .i64 (sayG T s gs), .int .i64 (sayE T s gs)] ∧ H' = H) :=
  kSay_of (fun T p s gs H hT hok h2 h3 hs => best_spec T p s gs H hT hok h2 h3 hs) T p s gs H hT
end Go.Proofs.Ytjejppodhpdckaa
end
section
set_option linter.unusedVariables false
set_option linter.unusedSimpArgs false
namespace Go.Proofs.Ytjejppodhpdckaa
open Go Go.Fw
set_option maxRecDepth 10000
set_option maxHeartbeats 16000000 in
theorem termsLooks_of (hSay : ∀ (T : Tm) (p : Pt) (s : Int) (gs : Sp) (H : List Row), TmOk H T p → Fc Try.prog 27 [.agg (cTm T p).toArray, .agg (cSp gs).toArray, .int .i64 s] H (fun v H' => v = .tuple #[.int .i64 (sayS T s gs), .int .i64 (sayG T s gs), .int .i64 (sayE T s gs)] ∧ H' = H))
    (T : Tm) (p : Pt) (sd g s : Int) (ask : Bool) (gs : Sp) (H : List Row) (hg : SlE H p.a1 cI 1 T.G) (hs : SlE H p.a2 cI 1 T.S) :
    Fc Try.prog 5 [.agg (cTm T p).toArray, .int .i64 sd, .int .i64 g, .int .i64 s, .bool ask, .agg (cSp gs).toArray] H (fun v _ => v = .bool true) := by
  by_cases hgr : T.G.length > 30 ∨ T.S.length > 30
  · have hG := greatT T p hgr
    refine Fc.mk (callable Try.call5) Try.func5 rfl Try.ntmps5 rfl ?_; dsimp only [fr]
    repeat' (first | (refine XO.op rfl ?_; (first | ((first | refine Xo.ng rfl ?_); (first | (refine Xg.call (EnF.st rfl (Args.cons rfl Args.nil)) rfl rfl (hG _) ?_; rintro _ H9 ⟨rfl, hH9⟩; subst H9) | (refine Xg.ev (EvF.assign rfl rfl) rfl rfl ?_) | (refine Xg.ev (EvF.loadV rfl rfl (LoadV.whole (te rfl) rfl (List.Mem.tail _ (List.Mem.head _)) rfl)) rfl rfl ?_) | (refine Xg.st (StF.boxAgg rfl rfl) rfl rfl ?_; rintro _ _ ⟨bx, rfl, rfl⟩))))) | (refine XO.done rfl ?_; refine hK _ _ ?_; clear hK K) | refine X.seq rfl ?_ | refine X.region rfl (fun K hK => ?_) | refine X.ret rfl ?_ | (refine X.ite rfl rfl (fun hc => ?_); (first | (with_reducible refine Xb.t hc ?_)) <;> clear hc))
    all_goals try (exfalso; contradiction)
    exact ret_one (by first | exact .inr rfl | exact .inl rfl) Try.results5 rfl (H' := _) (List.Sublist.refl _) rfl
  · have hG := greatF T p hgr
    have hT : TmOk H T p := ⟨hg, hs, by omega, by omega⟩
    have k1 := fun p H (h : TmOk H T p) => kPays_spec T p sd g s ask H h
    have r1 := fun p H (h : TmOk H T p) => rPays_spec T p sd g s ask H h
    have k2 := fun p H (h : TmOk H T p) => kAsk_spec T p sd s gs H h
    have r2 := fun p H (h : TmOk H T p) => rAsk_spec T p sd s gs H h
    have k3 := fun p H (h : TmOk H T p) => hSay T p s gs H h
    have r3 := fun p H (h : TmOk H T p) => rSay_spec T p s gs H h
    generalize payG T sd g s ask = v1 at k1 r1
    generalize payP T sd g s ask = v2 at k1 r1
    generalize payE T sd g s = v3 at k1 r1
    generalize askA T sd s gs = v4 at k2 r2
    generalize askL T sd s gs = v5 at k2 r2
    generalize askE T sd s gs = v6 at k2 r2
    generalize sayS T s gs = v7 at k3 r3
    generalize sayG T s gs = v8 at k3 r3
    generalize sayE T s gs = v9 at k3 r3
    clear hSay
    refine Fc.mk (callable Try.call5) Try.func5 rfl Try.ntmps5 rfl ?_; dsimp only [fr]
    repeat' (first | (refine XO.op rfl ?_; (first | ((first | refine Xo.ng rfl ?_); (first | (refine Xg.call (EnF.st rfl (Args.cons rfl Args.nil)) rfl rfl (hG _) ?_; rintro _ H9 ⟨rfl, hH9⟩; subst H9) | (refine Xg.call (EnF.st rfl (by (repeat (first | exact Args.nil | refine Args.cons rfl ?_)); done)) rfl rfl (twin_spec T p _ (hT.sub (fun _ hm => List.Mem.tail _ (List.Mem.tail _ hm)))) ?_; rintro _ _ ⟨t1, k1', t2, k2', rfl, rfl⟩) | (refine Xg.ev (EvF.move rfl rfl) rfl rfl ?_) | (refine Xg.ev (EvF.assign rfl rfl) rfl rfl ?_) | (refine Xg.ev (EvF.loadV rfl rfl (LoadV.whole (te rfl) rfl (List.Mem.head _) rfl)) rfl rfl ?_) | (refine Xg.ev (EvF.loadV rfl rfl (LoadV.whole (te rfl) rfl (List.Mem.tail _ (List.Mem.head _)) rfl)) rfl rfl ?_) | (refine Xg.st (StF.boxAgg rfl rfl) rfl rfl ?_; rintro _ _ ⟨bx, rfl, rfl⟩) | (refine Xg.st (StF.alloc rfl Try.zeroValue28 rfl) rfl rfl ?_; rintro _ _ ⟨bx, rfl, rfl⟩) | (refine Xg.st0 (StF.storeAll (i := 0) rfl rfl rfl (te rfl) rfl rfl rfl rfl) rfl ?_; rintro _ _ ⟨rfl, rfl⟩; dsimp only [List.set]))))) | (refine XO.done rfl ?_; refine hK _ _ ?_; clear hK K) | refine X.seq rfl ?_ | refine X.region rfl (fun K hK => ?_) | refine X.skip rfl ?_ | (refine X.ite rfl rfl (fun hc => ?_); (first | (with_reducible refine Xb.f hc ?_)) <;> clear hc))
    all_goals try (exfalso; contradiction)
    obtain ⟨b13, hb13⟩ : ∃ b, b = bx := ⟨_, rfl⟩
    rw [← hb13]
    clear hb13
    rename_i b6 b11
    obtain ⟨HH, hHH⟩ : ∃ HH : List Row, HH = (⟨b13, 0, cTm T (plT t1 k1' t2 k2'), some 28, 11⟩ :: rI T.G t1 k1' :: rI T.S t2 k2' :: ⟨b11, 0, cSp gs, some 26, 2⟩ :: ⟨b6, 0, cTm T p, some 28, 11⟩ :: H) := ⟨_, rfl⟩
    have m13 : ∀ Z : List Row, ⟨b13, 0, cTm T (plT t1 k1' t2 k2'), some 28, 11⟩ ∈ Z ++ HH := fun Z => List.mem_append_right _ (by rw [hHH]; exact (List.Mem.head _))
    have m11 : ∀ Z : List Row, ⟨b11, 0, cSp gs, some 26, 2⟩ ∈ Z ++ HH := fun Z => List.mem_append_right _ (by rw [hHH]; exact (List.Mem.tail _ (List.Mem.tail _ (List.Mem.tail _ (List.Mem.head _)))))
    have m6 : ∀ Z : List Row, ⟨b6, 0, cTm T p, some 28, 11⟩ ∈ Z ++ HH := fun Z => List.mem_append_right _ (by rw [hHH]; exact (List.Mem.tail _ (List.Mem.tail _ (List.Mem.tail _ (List.Mem.tail _ (List.Mem.head _))))))
    have hO : ∀ Z : List Row, TmOk (Z ++ HH) T (plT t1 k1' t2 k2') := fun Z => ownT T t1 k1' t2 k2' _ (by omega) (by omega) (List.mem_append_right _ (by rw [hHH]; exact (List.Mem.tail _ (List.Mem.head _)))) (List.mem_append_right _ (by rw [hHH]; exact (List.Mem.tail _ (List.Mem.tail _ (List.Mem.head _)))))
    have hI : ∀ Z : List Row, TmOk (Z ++ HH) T p := fun Z => hT.sub (fun r hr => List.mem_append_right _ (by rw [hHH]; exact List.mem_append_right [_, _, _, _, _] hr))
    show XO _ _ _ _ _ (⟨b13, 0, cTm T (plT t1 k1' t2 k2'), some 28, 11⟩ :: rI T.G t1 k1' :: rI T.S t2 k2' :: ⟨b11, 0, cSp gs, some 26, 2⟩ :: ⟨b6, 0, cTm T p, some 28, 11⟩ :: H) _
    rw [← hHH]
    clear hHH hT hg hs
    repeat' (first | (refine XO.op rfl ?_; (first | ((first | refine Xo.ng rfl ?_ | (refine Xo.g rfl rfl ?_; with_reducible refine Xw.tt ?_)); (first | (refine Xg.ev (EvF.loadV rfl rfl (LoadV.whole (te rfl) rfl (m13 []) rfl)) rfl rfl ?_) | (refine Xg.ev (EvF.loadV rfl rfl (LoadV.whole (te rfl) rfl (m11 []) rfl)) rfl rfl ?_) | (refine Xg.ev (EvF.loadV rfl rfl (LoadV.whole (te rfl) rfl (m6 []) rfl)) rfl rfl ?_) | (refine Xg.call (EnF.st rfl (by (repeat (first | exact Args.nil | refine Args.cons rfl ?_)); done)) rfl rfl (k1 _ _ (hO [])) ?_; rintro _ H9 ⟨rfl, hH9⟩; subst H9) | (refine Xg.call (EnF.st rfl (by (repeat (first | exact Args.nil | refine Args.cons rfl ?_)); done)) rfl rfl (r1 _ _ (hI [])) ?_; rintro _ H9 ⟨rfl, hH9⟩; subst H9) | (refine Xg.call (EnF.st rfl (by (repeat (first | exact Args.nil | refine Args.cons rfl ?_)); done)) rfl rfl (k2 _ _ (hO [])) ?_; rintro _ H9 ⟨rfl, hH9⟩; subst H9) | (refine Xg.call (EnF.st rfl (by (repeat (first | exact Args.nil | refine Args.cons rfl ?_)); done)) rfl rfl (r2 _ _ (hI [])) ?_; rintro _ H9 ⟨rfl, hH9⟩; subst H9) | (refine Xg.call (EnF.st rfl (Args.cons rfl (Args.cons rfl (Args.cons rfl Args.nil)))) rfl rfl (k3 _ _ (hO [])) ?_; rintro _ H9 ⟨rfl, hH9⟩; subst H9) | (refine Xg.call (EnF.st rfl (Args.cons rfl (Args.cons rfl (Args.cons rfl Args.nil)))) rfl rfl (r3 _ _ (hI [])) ?_; rintro _ H9 ⟨rfl, hH9⟩; subst H9) | (refine Xg.ev (EvF.eqSelf rfl rfl rfl) rfl rfl ?_) | (refine Xg.ev (EvF.eqSelfB rfl rfl rfl (by kernel_rfl)) rfl rfl ?_) | (refine Xg.call (EnF.st rfl (Args.cons rfl (Args.cons rfl Args.nil))) rfl rfl (sameT_self T _ p _ (hO []) (hI [])) ?_; rintro _ H9 ⟨rfl, hH9⟩; subst H9) | (refine Xg.ev (EvF.move rfl rfl) rfl rfl ?_) | (refine Xg.ev (EvF.assign rfl rfl) rfl rfl ?_) | (refine Xg.ev (EvF.pickT rfl rfl rfl) rfl rfl ?_) | (refine Xg.ev (EvF.extract rfl rfl rfl) rfl rfl ?_))))) | (refine XO.done rfl ?_; refine hK _ _ ?_; clear hK K) | refine X.seq rfl ?_ | refine X.region rfl (fun K hK => ?_) | refine X.ret rfl ?_)
    exact ret_one (by first | exact .inr rfl | exact .inl rfl) Try.results5 rfl (H' := _) (List.Sublist.refl _) rfl
end Go.Proofs.Ytjejppodhpdckaa
end
section
set_option linter.unusedVariables false
set_option linter.unusedSimpArgs false
namespace Go.Proofs.Ytjejppodhpdckaa
open Go Go.Fw
theorem termsLooks_spec (T : Tm) (p : Pt) (sd g s : Int) (ask : Bool) (gs : Sp) (H : List Row) (hg : SlE H p.a1 cI 1 T.G) (hs : SlE H p.a2 cI 1 T.S) :
    Fc Try.prog 5 [.agg (cTm T p).toArray, .int .i64 sd, .int .i64 g, .int .i64 s, .bool ask, .agg (cSp gs).toArray] H (fun v _ => v = .bool true) :=
  termsLooks_of kSay_spec T p sd g s ask gs H hg hs
end Go.Proofs.Ytjejppodhpdckaa
end
section
set_option linter.unusedVariables false
namespace Go.Proofs.Ytjejppodhpdckaa
open Go Go.Fw Go.ChangeShapes Go.WideShapes Go.ChangeAt Go.RowKit
set_option linter.unusedVariables false
set_option maxRecDepth 100000
theorem termsLooks_run (T : Tm) (pT : Pt) (sd : Int) (g : Int) (s : Int) (ask : Bool) (gs : Sp) (w : World) (hT : InTm w T pT) :
    Calls Try.prog 5 #[.agg (cTm T pT).toArray, .int .i64 sd, .int .i64 g, .int .i64 s, .bool ask, .agg (cSp gs).toArray] w fun e w' => e = .returned (.bool true) ∧ Below w.heap.size w w' :=
  Fc.calls (H := rowsTm T pT) (termsLooks_spec T pT sd g s ask gs _ (hT.g (fun _ h => h)) (hT.s (fun _ h => h))) (fun r hr => by
    exact hT.ok r hr
  )
theorem termsLooks_lifted (os : Os) (started : os.Started) (H : Type) (enc : TypeId × Value → H) :
    ReturnsInHanded {} Try.checked os 5 .any (Rows.termsLooksSpec.pre6 enc Try.prog Try.f5 Rows.termsLooksRow.domain false) (Rows.termsLooksSpec.post enc Try.prog Try.f5 false true false false) := by
  refine returnsInHanded_of_change (C := Try.checked) ownK started (by kernel_rfl) Try.func5
    (ChangeSpec.witness6 (enc := enc) (C := Try.checked) false ⟨#[], #[.agg (cTm Tz pz).toArray, .int .i64 0, .int .i64 0, .int .i64 0, .bool false, .agg (cSp ⟨0, 0⟩).toArray], []⟩ 8 (by kernel_rfl) (by kernel_rfl) (by kernel_rfl) (by kernel_rfl)) ?_
  intro W base args ds gs before hval0 hW hcnd _
  have hval : ∀ (j : Nat) t v, Try.f5.params[j]? = some t → args[j]? = some v → Value.okWide Try.prog W .any base t v := hval0
  have hW' := hW
  obtain ⟨p, q, hA0, hV, rfl, hfz, hnd⟩ := hW
  have hA : DataW.TrodAll enc Try.prog W 0 (fun _ => true) true Try.f5.params.toList args.toList ds p := hA0
  rw [Try.params5] at hA hval
  obtain ⟨v0, vs0, d0, ds0, p0, q0, hargs, rfl, rfl, h0, r0⟩ := trodAll_cons hA
  obtain ⟨v1, vs1, d1, ds1, p1, q1, rfl, rfl, rfl, h1, r1⟩ := trodAll_cons r0
  obtain ⟨v2, vs2, d2, ds2, p2, q2, rfl, rfl, rfl, h2, r2⟩ := trodAll_cons r1
  obtain ⟨v3, vs3, d3, ds3, p3, q3, rfl, rfl, rfl, h3, r3⟩ := trodAll_cons r2
  obtain ⟨v4, vs4, d4, ds4, p4, q4, rfl, rfl, rfl, h4, r4⟩ := trodAll_cons r3
  obtain ⟨v5, vs5, d5, ds5, p5, q5, rfl, rfl, rfl, h5, r5⟩ := trodAll_cons r4
  obtain ⟨rfl, rfl, rfl⟩ := trodAll_nil r5
  obtain rfl : args = #[v0, v1, v2, v3, v4, v5] := by cases args; simp_all
  obtain ⟨rfl, rfl⟩ := trodVars_none hV
  have lt : ∀ {t v d ps}, DataW.Trod enc Try.prog W 0 (fun _ => true) true t v d ps → ∀ x ∈ ps, x.block < W.heap.size := fun h => by obtain ⟨m, hm⟩ := h; exact DataW.trod_lt m _ _ _ hm
  obtain ⟨T, pT, rfl, hT⟩ := open_terms (hval 0 _ v0 rfl rfl) h0
  obtain ⟨sd, rfl⟩ := open_int (hval 1 _ v1 rfl rfl)
  obtain ⟨g, rfl⟩ := open_int (hval 2 _ v2 rfl rfl)
  obtain ⟨s, rfl⟩ := open_int (hval 3 _ v3 rfl rfl)
  obtain ⟨ask, rfl, _, _⟩ := open_bool Try.underlying4 (hval 4 _ v4 rfl rfl) h4
  obtain ⟨gs, rfl⟩ := open_span (hval 5 _ v5 rfl rfl) h5
  clear hA0 hval0
  refine (termsLooks_run T pT sd g s ask gs W hT).mono fun e W' ⟨he, bel⟩ => ?_
  subst he
  exact ⟨_, rfl, _, _, _, [], _, [], hW', trodAll_mk1 (shut_bool Try.underlying4 _), (trodAll_cons_mk (Below.trod laidO (by kernel_rfl) (of_decide_eq_true (by kernel_rfl)) h0 bel (lt h0)) (trodAll_cons_mk (Below.trod laidO (by kernel_rfl) (of_decide_eq_true (by kernel_rfl)) h1 bel (lt h1)) (trodAll_cons_mk (Below.trod laidO (by kernel_rfl) (of_decide_eq_true (by kernel_rfl)) h2 bel (lt h2)) (trodAll_cons_mk (Below.trod laidO (by kernel_rfl) (of_decide_eq_true (by kernel_rfl)) h3 bel (lt h3)) (trodAll_cons_mk (Below.trod laidO (by kernel_rfl) (of_decide_eq_true (by kernel_rfl)) h4 bel (lt h4)) (trodAll_cons_mk (Below.trod laidO (by kernel_rfl) (of_decide_eq_true (by kernel_rfl)) h5 bel (lt h5)) trodAll_mk0)))))), rfl, bel.frame _, fun h => by cases h⟩
theorem termsLooks_over : Rows.termsLooksRow.holds Try.pinned (OpenSpec.ofChange Rows.termsLooksSpec) :=
  OpenClaim.holds_of_wide 5 Try.f5 rfl rfl rfl rfl rfl rfl rfl ⟨rfl, rfl, rfl, rfl, rfl⟩ rfl rfl rfl rfl rfl (by kernel_rfl) Try.func5 (by kernel_rfl)
    (of_decide_eq_true (by kernel_rfl)) (by unfold Func.isWrapper; first | (rw [if_pos (by decide +kernel)]; kernel_rfl) | (rw [if_neg (by decide +kernel)]; exact ⟨rfl, rfl⟩))
    (fun os started H enc _ => termsLooks_lifted os started H enc)
theorem termsLooks_proved : Rows.TermsLooksSaid := termsLooks_over
#print axioms termsLooks_proved
end Go.Proofs.Ytjejppodhpdckaa
end
