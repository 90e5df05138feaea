/- Own work: contracts of functions, from rows of what is known of the memory; contracts of functions, from rows of what is known of the memory; contracts of functions, from rows of what is known of the memory; contracts of functions, from rows of what is known of the memory; contracts of functions, from rows of what is known of the memory; contracts of functions, from rows of what is known of the memory; contracts of functions, from rows of what is known of the memory; contracts of functions, from rows of what is known of the memory; contracts of functions, from rows of what is known of the memory -/
import Derived.Test.YtfpmhdjhcoogpaaW03
section
set_option linter.unusedVariables false
set_option linter.unusedSimpArgs false
namespace Go.Proofs.Ytfpmhdjhcoogpaa
open Go Go.Fw
set_option maxRecDepth 10000
/-- the least, the greatest of some numbers -/
def minL : List Int → Int
  | [] => 0
  | x :: l => l.foldl min x
theorem minL_snoc : ∀ {l : List Int} (x : Int), 0 < l.length → minL (l ++ [x]) = min (minL l) x
  | y :: l, x, _ => by
    show (l ++ [x]).foldl min y = min (l.foldl min y) x
    rw [List.foldl_append]; rfl
def maxL : List Int → Int
  | [] => 0
  | x :: l => l.foldl max x
theorem maxL_snoc : ∀ {l : List Int} (x : Int), 0 < l.length → maxL (l ++ [x]) = max (maxL l) x
  | y :: l, x, _ => by
    show (l ++ [x]).foldl max y = max (l.foldl max y) x
    rw [List.foldl_append]; rfl
theorem minI_spec (l : List Int) (a : Option Addr) (c : Nat) (H : List Row) (hl : SlE H a cI 1 l) (hb : l.length ≤ 1000000) (h0 : 0 < l.length) :
    Fc Try.prog 78 [.slice a l.length c] H (fun v H' => v = .int .i64 (minL l) ∧ H' = H) := by
  obtain ⟨b, off, x, rfl, hx⟩ := hl.elem (i := 0) (by omega)
  refine Fc.mk (callable Try.call78) Try.func78 rfl Try.ntmps78 rfl ?_; dsimp only [fr]
  repeat' (first | (refine XO.op rfl ?_; (first | ((first | refine Xo.ng rfl ?_); (first | (refine Xg.ev (EvF.indexSlice rfl rfl rfl (te rfl) (te rfl) (by omega) (by omega)) rfl rfl ?_) | (refine Xg.ev (EvF.loadV rfl rfl (LoadV.el1 hl hx (te rfl) rfl (fun _ hm => hm) rfl)) rfl rfl ?_) | (refine Xg.ev (EvF.move rfl rfl) rfl rfl ?_) | (refine Xg.ev (EvF.assign rfl rfl) rfl rfl ?_) | (refine Xg.ev (EvF.cmp rfl rfl rfl rfl) rfl rfl ?_) | (refine Xg.ev (EvF.lenSlice rfl rfl (te rfl)) rfl rfl ?_))))) | (refine XO.done rfl ?_; refine hK _ _ ?_; clear hK K) | refine X.seq rfl ?_ | refine X.region rfl (fun K hK => ?_) | refine X.block rfl ?_ | refine X.skip rfl ?_ | (refine X.ite rfl rfl (fun hc => ?_); (first | (with_reducible refine Xb.case hc (fun h => ?_) (fun h => ?_))) <;> clear hc))
  all_goals try (exfalso; omega)
  have h1 : minL (l.take 1) = x := by rw [show (1 : Nat) = 0 + 1 from rfl, take_snoc hx]; rfl
  refine X.lp rfl (fun q F' H' => ∃ k : Nat, q = l.length - k ∧ 1 ≤ k ∧ k ≤ l.length ∧ H = H' ∧
      F' = [(0, .slice (some ⟨b, off, none⟩) l.length c), (3, .int .i64 (minL (l.take k))), (4, .int .i64 k)])
    (l.length - 1) [(0, .slice (some ⟨b, off, none⟩) l.length c), (3, .int .i64 (minL (l.take 1))), (4, .int .i64 (1 : Nat))] _ (by rw [h1]; exact (by (repeat (first | exact Sub.nil _ | refine Sub.cons rfl ?_)); done)) (by (repeat (first | exact List.Sublist.refl _ | apply List.Sublist.cons_cons | apply List.Sublist.cons)); done) ⟨1, rfl, by omega, by omega, rfl, rfl⟩ ?_
  rintro _ _ H2 ⟨k, rfl, hk1, hk, hH, rfl⟩
  subst hH
  repeat' (first | (refine XO.op rfl ?_; (first | ((first | refine Xo.ng rfl ?_); (first | (refine Xg.ev (EvF.move rfl rfl) rfl rfl ?_) | (refine Xg.ev (EvF.assign rfl rfl) rfl rfl ?_) | (refine Xg.ev (EvF.cmp rfl rfl rfl rfl) rfl rfl ?_) | (refine Xg.ev (EvF.lenSlice rfl rfl (te rfl)) rfl rfl ?_) | (refine Xg.ev (EvF.indexSlice rfl rfl rfl (te rfl) (te rfl) (by omega) (by omega)) rfl rfl ?_))))) | (refine XO.done rfl ?_; refine hK _ _ ?_; clear hK K) | refine X.seq rfl ?_ | refine X.region rfl (fun K hK => ?_) | refine X.block rfl ?_ | (refine X.brk rfl ?_; repeat (first | refine blockX_hit rfl ?_ | refine blockX_miss (by decide) ?_)) | refine X.skip rfl ?_ | refine X.ret rfl ?_ | (refine X.ite rfl rfl (fun hc => ?_); (first | (with_reducible refine Xb.case hc (fun h => ?_) (fun h => ?_))) <;> clear hc))
  · obtain ⟨y, hy⟩ : ∃ y, l[k]? = some y := ⟨_, List.getElem?_eq_getElem (by omega)⟩
    repeat' (first | (refine XO.op rfl ?_; (first | ((first | refine Xo.ng rfl ?_); (first | (refine Xg.ev (EvF.loadV rfl rfl (LoadV.el0 hl hy (te rfl) rfl (fun _ hm => hm) rfl)) rfl rfl ?_) | (refine Xg.ev (EvF.move rfl rfl) rfl rfl ?_) | (refine Xg.ev (EvF.assign rfl rfl) rfl rfl ?_) | (refine Xg.ev (EvF.add64 rfl rfl rfl (by omega) (by omega)) rfl rfl ?_) | (refine Xg.ev (EvF.min64 rfl rfl rfl) rfl rfl ?_))))) | (refine XO.done rfl ?_; refine hK _ _ ?_; clear hK K) | refine X.region rfl (fun K hK => ?_))
    refine ⟨_, _, _, (by rw [take_snoc hy, minL_snoc y (by rw [List.length_take]; omega)]; exact (by (repeat (first | exact Sub.nil _ | refine Sub.cons rfl ?_)); done)), (by (repeat (first | exact List.Sublist.refl _ | apply List.Sublist.cons_cons | apply List.Sublist.cons)); done), ⟨k + 1, rfl, by omega, by omega, rfl, rfl⟩, by omega⟩
  · obtain rfl : k = l.length := by omega
    rw [List.take_length]
    refine ret_one (by first | exact .inr rfl | exact .inl rfl) Try.results78 rfl (H' := H) (by (repeat (first | exact List.Sublist.refl _ | apply List.Sublist.cons)); done) ?_; simp only [and_true, true_and]
theorem maxI_spec (l : List Int) (a : Option Addr) (c : Nat) (H : List Row) (hl : SlE H a cI 1 l) (hb : l.length ≤ 1000000) (h0 : 0 < l.length) :
    Fc Try.prog 79 [.slice a l.length c] H (fun v H' => v = .int .i64 (maxL l) ∧ H' = H) := by
  obtain ⟨b, off, x, rfl, hx⟩ := hl.elem (i := 0) (by omega)
  refine Fc.mk (callable Try.call79) Try.func79 rfl Try.ntmps79 rfl ?_; dsimp only [fr]
  repeat' (first | (refine XO.op rfl ?_; (first | ((first | refine Xo.ng rfl ?_); (first | (refine Xg.ev (EvF.indexSlice rfl rfl rfl (te rfl) (te rfl) (by omega) (by omega)) rfl rfl ?_) | (refine Xg.ev (EvF.loadV rfl rfl (LoadV.el1 hl hx (te rfl) rfl (fun _ hm => hm) rfl)) rfl rfl ?_) | (refine Xg.ev (EvF.move rfl rfl) rfl rfl ?_) | (refine Xg.ev (EvF.assign rfl rfl) rfl rfl ?_) | (refine Xg.ev (EvF.cmp rfl rfl rfl rfl) rfl rfl ?_) | (refine Xg.ev (EvF.lenSlice rfl rfl (te rfl)) rfl rfl ?_))))) | (refine XO.done rfl ?_; refine hK _ _ ?_; clear hK K) | refine X.seq rfl ?_ | refine X.region rfl (fun K hK => ?_) | refine X.block rfl ?_ | refine X.skip rfl ?_ | (refine X.ite rfl rfl (fun hc => ?_); (first | (with_reducible refine Xb.case hc (fun h => ?_) (fun h => ?_))) <;> clear hc))
  all_goals try (exfalso; omega)
  have h1 : maxL (l.take 1) = x := by rw [show (1 : Nat) = 0 + 1 from rfl, take_snoc hx]; rfl
  refine X.lp rfl (fun q F' H' => ∃ k : Nat, q = l.length - k ∧ 1 ≤ k ∧ k ≤ l.length ∧ H = H' ∧
      F' = [(0, .slice (some ⟨b, off, none⟩) l.length c), (3, .int .i64 (maxL (l.take k))), (4, .int .i64 k)])
    (l.length - 1) [(0, .slice (some ⟨b, off, none⟩) l.length c), (3, .int .i64 (maxL (l.take 1))), (4, .int .i64 (1 : Nat))] _ (by rw [h1]; exact (by (repeat (first | exact Sub.nil _ | refine Sub.cons rfl ?_)); done)) (by (repeat (first | exact List.Sublist.refl _ | apply List.Sublist.cons_cons | apply List.Sublist.cons)); done) ⟨1, rfl, by omega, by omega, rfl, rfl⟩ ?_
  rintro _ _ H2 ⟨k, rfl, hk1, hk, hH, rfl⟩
  subst hH
  repeat' (first | (refine XO.op rfl ?_; (first | ((first | refine Xo.ng rfl ?_); (first | (refine Xg.ev (EvF.move rfl rfl) rfl rfl ?_) | (refine Xg.ev (EvF.assign rfl rfl) rfl rfl ?_) | (refine Xg.ev (EvF.cmp rfl rfl rfl rfl) rfl rfl ?_) | (refine Xg.ev (EvF.lenSlice rfl rfl (te rfl)) rfl rfl ?_) | (refine Xg.ev (EvF.indexSlice rfl rfl rfl (te rfl) (te rfl) (by omega) (by omega)) rfl rfl ?_))))) | (refine XO.done rfl ?_; refine hK _ _ ?_; clear hK K) | refine X.seq rfl ?_ | refine X.region rfl (fun K hK => ?_) | refine X.block rfl ?_ | (refine X.brk rfl ?_; repeat (first | refine blockX_hit rfl ?_ | refine blockX_miss (by decide) ?_)) | refine X.skip rfl ?_ | refine X.ret rfl ?_ | (refine X.ite rfl rfl (fun hc => ?_); (first | (with_reducible refine Xb.case hc (fun h => ?_) (fun h => ?_))) <;> clear hc))
  · obtain ⟨y, hy⟩ : ∃ y, l[k]? = some y := ⟨_, List.getElem?_eq_getElem (by omega)⟩
    repeat' (first | (refine XO.op rfl ?_; (first | ((first | refine Xo.ng rfl ?_); (first | (refine Xg.ev (EvF.loadV rfl rfl (LoadV.el0 hl hy (te rfl) rfl (fun _ hm => hm) rfl)) rfl rfl ?_) | (refine Xg.ev (EvF.move rfl rfl) rfl rfl ?_) | (refine Xg.ev (EvF.assign rfl rfl) rfl rfl ?_) | (refine Xg.ev (EvF.add64 rfl rfl rfl (by omega) (by omega)) rfl rfl ?_) | (refine Xg.ev (EvF.max64 rfl rfl rfl) rfl rfl ?_))))) | (refine XO.done rfl ?_; refine hK _ _ ?_; clear hK K) | refine X.region rfl (fun K hK => ?_))
    refine ⟨_, _, _, (by rw [take_snoc hy, maxL_snoc y (by rw [List.length_take]; omega)]; exact (by (repeat (first | exact Sub.nil _ | refine Sub.cons rfl ?_)); done)), (by (repeat (first | exact List.Sublist.refl _ | apply List.Sublist.cons_cons | apply List.Sublist.cons)); done), ⟨k + 1, rfl, by omega, by omega, rfl, rfl⟩, by omega⟩
  · obtain rfl : k = l.length := by omega
    rw [List.take_length]
    refine ret_one (by first | exact .inr rfl | exact .inl rfl) Try.results79 rfl (H' := H) (by (repeat (first | exact List.Sublist.refl _ | apply List.Sublist.cons)); done) ?_; simp only [and_true, true_and]
/-- a list of classes of one's own, or none -/
def OutC (k : List Cl) (v : Value) (Z : List Row) : Prop := (k = [] ∧ v = .slice none 0 0 ∧ Z = []) ∨ ∃ b q, v = .slice (some ⟨b, 0, none⟩) k.length q ∧ Z = [⟨b, 0, k.flatMap cCl, some 23, q * 2⟩]
theorem OutC.nil : OutC [] (.slice none 0 0) [] := .inl ⟨rfl, rfl, rfl⟩
theorem lenCl (l : List Cl) : (l.flatMap cCl).length = l.length * 2 := flat_len (fun _ _ => rfl)
set_option maxHeartbeats 4000000 in
theorem appendSeq_spec (f : Nat) (cap : List Value) (E : List Row) (xs : List Cl) (hI : Itf Try.prog f cap E xs (fun c => [.agg (cCl c).toArray])) (hb : xs.length ≤ 1000000) :
    Fc Try.prog 110 [.slice none 0 0, .func (.func f) #[] cap.toArray] E (fun v H' => ∃ Z, OutC xs v Z ∧ H' = Z ++ E) := by
  refine Fc.mkT (callable Try.call110) Try.func110 rfl Try.ntmps110 rfl ?_
  dsimp only [fr]
  refine XT.seq rfl (XT.of0 ?_)
  repeat' (first | (refine XO.op rfl ?_; (first | ((first | refine Xo.ng rfl ?_); (first | (refine Xg.ev (EvF.move rfl rfl) rfl rfl ?_) | (refine Xg.ev (EvF.assign rfl rfl) rfl rfl ?_) | (refine Xg.ev (EvF.lenSlice rfl rfl (te rfl)) rfl rfl ?_) | (refine Xg.ev (EvF.loadV rfl rfl (LoadV.own (te rfl) rfl (List.Mem.head _) rfl)) rfl rfl ?_) | (refine Xg.ev (EvF.loadV rfl rfl (LoadV.own (te rfl) rfl (List.Mem.tail _ (List.Mem.head _)) rfl)) rfl rfl ?_) | (refine Xg.st (StF.boxOne rfl rfl rfl) rfl rfl ?_; rintro _ _ ⟨bx, rfl, rfl⟩) | (refine Xg.st (StF.alloc rfl Try.zeroValue26 rfl) rfl rfl ?_; rintro _ _ ⟨bx, rfl, rfl⟩) | (refine Xg.st0 (StF.storeAll (i := 0) rfl rfl rfl (te rfl) rfl rfl rfl rfl) rfl ?_; rintro _ _ ⟨rfl, rfl⟩; dsimp only [List.set]))))) | (refine XO.done rfl ?_; refine hK _ _ ?_; clear hK K) | refine X.seq rfl ?_ | refine X.region rfl (fun K hK => ?_) | refine X.block rfl ?_ | refine X.ret rfl ?_)
  refine XT.seq rfl (XT.seq rfl (XT.of0 ?_))
  repeat' (first | (refine XO.op rfl ?_; (first | ((first | refine Xo.ng rfl ?_); (first | (refine Xg.ev (EvF.move rfl rfl) rfl rfl ?_) | (refine Xg.ev (EvF.assign rfl rfl) rfl rfl ?_) | (refine Xg.ev (EvF.lenSlice rfl rfl (te rfl)) rfl rfl ?_) | (refine Xg.ev (EvF.loadV rfl rfl (LoadV.own (te rfl) rfl (List.Mem.head _) rfl)) rfl rfl ?_) | (refine Xg.ev (EvF.loadV rfl rfl (LoadV.own (te rfl) rfl (List.Mem.tail _ (List.Mem.head _)) rfl)) rfl rfl ?_) | (refine Xg.st (StF.boxOne rfl rfl rfl) rfl rfl ?_; rintro _ _ ⟨bx, rfl, rfl⟩) | (refine Xg.st (StF.alloc rfl Try.zeroValue26 rfl) rfl rfl ?_; rintro _ _ ⟨bx, rfl, rfl⟩) | (refine Xg.st0 (StF.storeAll (i := 0) rfl rfl rfl (te rfl) rfl rfl rfl rfl) rfl ?_; rintro _ _ ⟨rfl, rfl⟩; dsimp only [List.set]))))) | (refine XO.done rfl ?_; refine hK _ _ ?_; clear hK K) | refine X.seq rfl ?_ | refine X.region rfl (fun K hK => ?_) | refine X.block rfl ?_ | refine X.ret rfl ?_)
  refine XT.block rfl ?_
  refine XT.weak (F' := [(2, .pointer (some ⟨bx, 0, none⟩)), (6, .func (.func f) #[] cap.toArray)]) (H' := ⟨bx, 0, [.slice none 0 0], some 82, 1⟩ :: E) (by (repeat (first | exact Sub.nil _ | refine Sub.cons rfl ?_)); done) (by (repeat (first | exact List.Sublist.refl _ | apply List.Sublist.cons_cons | apply List.Sublist.cons)); done) ?_
  refine XT.range (ps := [7]) rfl rfl hI rfl (fun _ => rfl) (fun pre Hb => ∃ out Z, OutC pre out Z ∧ Hb = Z ++ [⟨bx, 0, [out], some 82, 1⟩]) (fun _ _ => False) [⟨bx, 0, [.slice none 0 0], some 82, 1⟩] rfl ⟨_, [], OutC.nil, rfl⟩ ?_ ?_ (fun _ _ h => h.elim) (fun _ _ _ h => h.elim) (fun _ _ h => h.elim)
  · rintro pre x _ hpre ⟨out, Z0, ⟨rfl, rfl, rfl⟩ | ⟨bo, qo, rfl, rfl⟩, rfl⟩ Z
    · simp only [List.cons_append, List.nil_append]
      repeat' (first | (refine XO.op rfl ?_; (first | ((first | refine Xo.ng rfl ?_); (first | (refine Xg.ev (EvF.move rfl rfl) rfl rfl ?_) | (refine Xg.ev (EvF.assign rfl rfl) rfl rfl ?_) | (refine Xg.ev (EvF.lenSlice rfl rfl (te rfl)) rfl rfl ?_) | (refine Xg.ev (EvF.loadV rfl rfl (LoadV.own (te rfl) rfl (List.Mem.head _) rfl)) rfl rfl ?_) | (refine Xg.ev (EvF.loadV rfl rfl (LoadV.own (te rfl) rfl (List.Mem.tail _ (List.Mem.head _)) rfl)) rfl rfl ?_) | (refine Xg.st (StF.boxOne rfl rfl rfl) rfl rfl ?_; rintro _ _ ⟨bx, rfl, rfl⟩) | (refine Xg.st (StF.alloc rfl Try.zeroValue26 rfl) rfl rfl ?_; rintro _ _ ⟨bx, rfl, rfl⟩) | (refine Xg.st0 (StF.storeAll (i := 0) rfl rfl rfl (te rfl) rfl rfl rfl rfl) rfl ?_; rintro _ _ ⟨rfl, rfl⟩; dsimp only [List.set]))))) | (refine XO.done rfl ?_; refine hK _ _ ?_; clear hK K) | refine X.seq rfl ?_ | refine X.region rfl (fun K hK => ?_) | refine X.block rfl ?_ | refine X.ret rfl ?_)
      refine ⟨rfl, [_, _], List.Sublist.refl _, fun Z' => ?_⟩
      simp only [List.cons_append, List.nil_append]
      repeat' (first | (refine XO.op rfl ?_; (first | ((first | refine Xo.ng rfl ?_); (first | (refine Xg.st (StF.buildOne rfl elCl rfl rfl rfl (by decide) (by decide)) rfl rfl ?_; rintro _ _ ⟨bs, rfl, rfl⟩) | (refine Xg.st (StF.appendNew rfl elCl rfl rfl (by decide) rfl (Rd.own (List.Mem.head _)) (by decide)) rfl rfl ?_; rintro _ _ ⟨bn, kn, rfl, rfl⟩) | (refine Xg.ev (EvF.loadV rfl rfl (LoadV.own (te rfl) rfl (List.Mem.tail _ (List.Mem.head _)) rfl)) rfl rfl ?_) | (refine Xg.ev (EvF.loadV rfl rfl (LoadV.whole (te rfl) rfl (List.Mem.head _) rfl)) rfl rfl ?_) | (refine Xg.st0 (StF.storeOne (i := 3) rfl rfl rfl rfl (te rfl) rfl rfl (Nat.le_of_ble_eq_true rfl)) rfl ?_; rintro _ _ ⟨rfl, rfl⟩; dsimp only [List.set]))))) | (refine XO.done rfl ?_; refine hK _ _ ?_; clear hK K) | refine X.region rfl (fun K hK => ?_) | refine X.block rfl ?_)
      exact ⟨[⟨bn, 0, cCl x, some 23, kn * 2⟩, _], List.Sublist.cons_cons _ (List.Sublist.cons _ (List.Sublist.cons _ (List.Sublist.refl _))), _, [⟨bn, 0, cCl x, some 23, kn * 2⟩], .inr ⟨bn, kn, rfl, rfl⟩, rfl⟩
    · have hlen := pre_len hpre
      have hlc := lenCl pre
      simp only [List.cons_append, List.nil_append]
      repeat' (first | (refine XO.op rfl ?_; (first | ((first | refine Xo.ng rfl ?_); (first | (refine Xg.ev (EvF.move rfl rfl) rfl rfl ?_) | (refine Xg.ev (EvF.assign rfl rfl) rfl rfl ?_) | (refine Xg.ev (EvF.lenSlice rfl rfl (te rfl)) rfl rfl ?_) | (refine Xg.ev (EvF.loadV rfl rfl (LoadV.own (te rfl) rfl (List.Mem.head _) rfl)) rfl rfl ?_) | (refine Xg.ev (EvF.loadV rfl rfl (LoadV.own (te rfl) rfl (List.Mem.tail _ (List.Mem.head _)) rfl)) rfl rfl ?_) | (refine Xg.st (StF.boxOne rfl rfl rfl) rfl rfl ?_; rintro _ _ ⟨bx, rfl, rfl⟩) | (refine Xg.st (StF.alloc rfl Try.zeroValue26 rfl) rfl rfl ?_; rintro _ _ ⟨bx, rfl, rfl⟩) | (refine Xg.st0 (StF.storeAll (i := 0) rfl rfl rfl (te rfl) rfl rfl rfl rfl) rfl ?_; rintro _ _ ⟨rfl, rfl⟩; dsimp only [List.set]))))) | (refine XO.done rfl ?_; refine hK _ _ ?_; clear hK K) | refine X.seq rfl ?_ | refine X.region rfl (fun K hK => ?_) | refine X.block rfl ?_ | refine X.ret rfl ?_)
      refine ⟨rfl, [_, _, _], List.Sublist.refl _, fun Z' => ?_⟩
      simp only [List.cons_append, List.nil_append]
      repeat' (first | (refine XO.op rfl ?_; (first | ((first | refine Xo.ng rfl ?_); (first | (refine Xg.st (StF.buildOne rfl elCl rfl rfl rfl (by decide) (by decide)) rfl rfl ?_; rintro _ _ ⟨bs, rfl, rfl⟩) | (refine Xg.st (StF.appendOwn (i := 2) rfl elCl rfl rfl rfl hlc rfl (Rd.own (List.Mem.head _)) rfl (by omega)) rfl rfl ?_; rintro _ _ ⟨bn, kn, rfl, rfl⟩; dsimp only [List.eraseIdx]) | (refine Xg.ev (EvF.loadV rfl rfl (LoadV.own (te rfl) rfl (List.Mem.tail _ (List.Mem.tail _ (List.Mem.head _))) rfl)) rfl rfl ?_) | (refine Xg.ev (EvF.loadV rfl rfl (LoadV.whole (te rfl) rfl (List.Mem.head _) rfl)) rfl rfl ?_) | (refine Xg.st0 (StF.storeOne (i := 3) rfl rfl rfl rfl (te rfl) rfl rfl (Nat.le_of_ble_eq_true rfl)) rfl ?_; rintro _ _ ⟨rfl, rfl⟩; dsimp only [List.set]))))) | (refine XO.done rfl ?_; refine hK _ _ ?_; clear hK K) | refine X.region rfl (fun K hK => ?_) | refine X.block rfl ?_)
      exact ⟨[⟨bn, 0, pre.flatMap cCl ++ cCl x, some 23, kn * 2⟩, _], List.Sublist.cons_cons _ (List.Sublist.cons _ (List.Sublist.cons _ (List.Sublist.refl _))), _, [⟨bn, 0, pre.flatMap cCl ++ cCl x, some 23, kn * 2⟩], .inr ⟨bn, kn, by rw [List.length_append]; rfl, by rw [List.flatMap_append]; rfl⟩, rfl⟩
  · rintro D _ ⟨out, Z0, ⟨rfl, rfl, rfl⟩ | ⟨bo, qo, rfl, rfl⟩, rfl⟩
    · refine XT.seq rfl (XT.of1 ?_)
      simp only [List.cons_append, List.nil_append]
      repeat' (first | (refine XO.op rfl ?_; (first | ((first | refine Xo.ng rfl ?_); (first | (refine Xg.ev (EvF.move rfl rfl) rfl rfl ?_) | (refine Xg.ev (EvF.assign rfl rfl) rfl rfl ?_) | (refine Xg.ev (EvF.lenSlice rfl rfl (te rfl)) rfl rfl ?_) | (refine Xg.ev (EvF.loadV rfl rfl (LoadV.own (te rfl) rfl (List.Mem.head _) rfl)) rfl rfl ?_) | (refine Xg.ev (EvF.loadV rfl rfl (LoadV.own (te rfl) rfl (List.Mem.tail _ (List.Mem.head _)) rfl)) rfl rfl ?_) | (refine Xg.st (StF.boxOne rfl rfl rfl) rfl rfl ?_; rintro _ _ ⟨bx, rfl, rfl⟩) | (refine Xg.st (StF.alloc rfl Try.zeroValue26 rfl) rfl rfl ?_; rintro _ _ ⟨bx, rfl, rfl⟩) | (refine Xg.st0 (StF.storeAll (i := 0) rfl rfl rfl (te rfl) rfl rfl rfl rfl) rfl ?_; rintro _ _ ⟨rfl, rfl⟩; dsimp only [List.set]))))) | (refine XO.done rfl ?_; refine hK _ _ ?_; clear hK K) | refine X.seq rfl ?_ | refine X.region rfl (fun K hK => ?_) | refine X.block rfl ?_ | refine X.ret rfl ?_)
      refine ⟨⟨bx, 0, [.slice none 0 0], some 82, 1⟩ :: E, List.Sublist.refl _, XT.of1 ?_⟩
      repeat' (first | (refine XO.op rfl ?_; (first | ((first | refine Xo.ng rfl ?_); (first | (refine Xg.ev (EvF.move rfl rfl) rfl rfl ?_) | (refine Xg.ev (EvF.assign rfl rfl) rfl rfl ?_) | (refine Xg.ev (EvF.lenSlice rfl rfl (te rfl)) rfl rfl ?_) | (refine Xg.ev (EvF.loadV rfl rfl (LoadV.own (te rfl) rfl (List.Mem.head _) rfl)) rfl rfl ?_) | (refine Xg.ev (EvF.loadV rfl rfl (LoadV.own (te rfl) rfl (List.Mem.tail _ (List.Mem.head _)) rfl)) rfl rfl ?_) | (refine Xg.st (StF.boxOne rfl rfl rfl) rfl rfl ?_; rintro _ _ ⟨bx, rfl, rfl⟩) | (refine Xg.st (StF.alloc rfl Try.zeroValue26 rfl) rfl rfl ?_; rintro _ _ ⟨bx, rfl, rfl⟩) | (refine Xg.st0 (StF.storeAll (i := 0) rfl rfl rfl (te rfl) rfl rfl rfl rfl) rfl ?_; rintro _ _ ⟨rfl, rfl⟩; dsimp only [List.set]))))) | (refine XO.done rfl ?_; refine hK _ _ ?_; clear hK K) | refine X.seq rfl ?_ | refine X.region rfl (fun K hK => ?_) | refine X.block rfl ?_ | refine X.ret rfl ?_)
      exact ⟨E, (by (repeat (first | exact List.Sublist.refl _ | apply List.Sublist.cons_cons | apply List.Sublist.cons)); done), retT_one (by first | exact .inr rfl | exact .inl rfl) Try.results110 rfl (List.Sublist.refl _) ⟨[], OutC.nil, rfl⟩⟩
    · refine XT.seq rfl (XT.of1 ?_)
      simp only [List.cons_append, List.nil_append]
      repeat' (first | (refine XO.op rfl ?_; (first | ((first | refine Xo.ng rfl ?_); (first | (refine Xg.ev (EvF.move rfl rfl) rfl rfl ?_) | (refine Xg.ev (EvF.assign rfl rfl) rfl rfl ?_) | (refine Xg.ev (EvF.lenSlice rfl rfl (te rfl)) rfl rfl ?_) | (refine Xg.ev (EvF.loadV rfl rfl (LoadV.own (te rfl) rfl (List.Mem.head _) rfl)) rfl rfl ?_) | (refine Xg.ev (EvF.loadV rfl rfl (LoadV.own (te rfl) rfl (List.Mem.tail _ (List.Mem.head _)) rfl)) rfl rfl ?_) | (refine Xg.st (StF.boxOne rfl rfl rfl) rfl rfl ?_; rintro _ _ ⟨bx, rfl, rfl⟩) | (refine Xg.st (StF.alloc rfl Try.zeroValue26 rfl) rfl rfl ?_; rintro _ _ ⟨bx, rfl, rfl⟩) | (refine Xg.st0 (StF.storeAll (i := 0) rfl rfl rfl (te rfl) rfl rfl rfl rfl) rfl ?_; rintro _ _ ⟨rfl, rfl⟩; dsimp only [List.set]))))) | (refine XO.done rfl ?_; refine hK _ _ ?_; clear hK K) | refine X.seq rfl ?_ | refine X.region rfl (fun K hK => ?_) | refine X.block rfl ?_ | refine X.ret rfl ?_)
      refine ⟨⟨bo, 0, xs.flatMap cCl, some 23, qo * 2⟩ :: ⟨bx, 0, [.slice (some ⟨bo, 0, none⟩) xs.length qo], some 82, 1⟩ :: E, List.Sublist.refl _, XT.of1 ?_⟩
      repeat' (first | (refine XO.op rfl ?_; (first | ((first | refine Xo.ng rfl ?_); (first | (refine Xg.ev (EvF.move rfl rfl) rfl rfl ?_) | (refine Xg.ev (EvF.assign rfl rfl) rfl rfl ?_) | (refine Xg.ev (EvF.lenSlice rfl rfl (te rfl)) rfl rfl ?_) | (refine Xg.ev (EvF.loadV rfl rfl (LoadV.own (te rfl) rfl (List.Mem.head _) rfl)) rfl rfl ?_) | (refine Xg.ev (EvF.loadV rfl rfl (LoadV.own (te rfl) rfl (List.Mem.tail _ (List.Mem.head _)) rfl)) rfl rfl ?_) | (refine Xg.st (StF.boxOne rfl rfl rfl) rfl rfl ?_; rintro _ _ ⟨bx, rfl, rfl⟩) | (refine Xg.st (StF.alloc rfl Try.zeroValue26 rfl) rfl rfl ?_; rintro _ _ ⟨bx, rfl, rfl⟩) | (refine Xg.st0 (StF.storeAll (i := 0) rfl rfl rfl (te rfl) rfl rfl rfl rfl) rfl ?_; rintro _ _ ⟨rfl, rfl⟩; dsimp only [List.set]))))) | (refine XO.done rfl ?_; refine hK _ _ ?_; clear hK K) | refine X.seq rfl ?_ | refine X.region rfl (fun K hK => ?_) | refine X.block rfl ?_ | refine X.ret rfl ?_)
      exact ⟨⟨bo, 0, xs.flatMap cCl, some 23, qo * 2⟩ :: E, (by (repeat (first | exact List.Sublist.refl _ | apply List.Sublist.cons_cons | apply List.Sublist.cons)); done), retT_one (by first | exact .inr rfl | exact .inl rfl) Try.results110 rfl (List.Sublist.refl _) ⟨[⟨bo, 0, xs.flatMap cCl, some 23, qo * 2⟩], .inr ⟨bo, qo, rfl, rfl⟩, rfl⟩⟩
theorem collect_spec (f : Nat) (cap : List Value) (E : List Row) (xs : List Cl) (hI : Itf Try.prog f cap E xs (fun c => [.agg (cCl c).toArray])) (hb : xs.length ≤ 1000000) :
    Fc Try.prog 76 [.func (.func f) #[] cap.toArray] E (fun v H' => ∃ Z, OutC xs v Z ∧ H' = Z ++ E) := by
  refine Fc.mk (callable Try.call76) Try.func76 rfl Try.ntmps76 rfl ?_; dsimp only [fr]
  repeat' (first | (refine XO.op rfl ?_; (first | ((first | refine Xo.ng rfl ?_); (first | (refine Xg.call (EnF.st rfl (Args.cons rfl (Args.cons rfl Args.nil))) rfl rfl (appendSeq_spec f cap E xs hI hb) ?_; rintro v _ ⟨Z, hO, rfl⟩) | (refine Xg.ev (EvF.move rfl rfl) rfl rfl ?_) | (refine Xg.ev (EvF.assign rfl rfl) rfl rfl ?_))))) | (refine XO.done rfl ?_; refine hK _ _ ?_; clear hK K) | refine X.seq rfl ?_ | refine X.region rfl (fun K hK => ?_) | refine X.ret rfl ?_)
  exact ret_one (by first | exact .inr rfl | exact .inl rfl) Try.results76 rfl (List.Sublist.refl _) ⟨Z, hO, rfl⟩
theorem numbersCl_spec (g : Nat) (first cap : List Value) (f : Cl → Int) (l : List Cl) (a : Option Addr) (c : Nat) (H : List Row) (hl : SlE H a cCl 2 l) (hb : l.length ≤ 1000000) (h0 : 0 < l.length) (hg : ∀ e ∈ l, ∀ Z : List Row, Fc Try.prog g (first ++ [.agg (cCl e).toArray] ++ cap) (Z ++ H) (fun v H' => v = .int .i64 (f e) ∧ H' = Z ++ H)) :
    Fc Try.prog 75 [.slice a l.length c, .func (.func g) first.toArray cap.toArray] H (fun v H' => ∃ b k, v = .slice (some ⟨b, 0, none⟩) l.length k ∧ H' = ⟨b, 0, (l.map f).flatMap cI, some 3, k * 1⟩ :: H) := by
  refine Fc.mk (callable Try.call75) Try.func75 rfl Try.ntmps75 rfl ?_; dsimp only [fr]
  repeat' (first | (refine XO.op rfl ?_; (first | ((first | refine Xo.ng rfl ?_); (first | (refine Xg.ev (EvF.move rfl rfl) rfl rfl ?_) | (refine Xg.ev (EvF.assign rfl rfl) rfl rfl ?_) | (refine Xg.ev (EvF.lenSlice rfl rfl (te rfl)) rfl rfl ?_) | (refine Xg.ev (EvF.loadV rfl rfl (LoadV.own (te rfl) rfl (List.Mem.head _) rfl)) rfl rfl ?_) | (refine Xg.ev (EvF.loadV rfl rfl (LoadV.own (te rfl) rfl (List.Mem.tail _ (List.Mem.head _)) rfl)) rfl rfl ?_) | (refine Xg.st (StF.boxOne rfl rfl rfl) rfl rfl ?_; rintro _ _ ⟨bx, rfl, rfl⟩) | (refine Xg.st (StF.alloc rfl Try.zeroValue26 rfl) rfl rfl ?_; rintro _ _ ⟨bx, rfl, rfl⟩) | (refine Xg.st0 (StF.storeAll (i := 0) rfl rfl rfl (te rfl) rfl rfl rfl rfl) rfl ?_; rintro _ _ ⟨rfl, rfl⟩; dsimp only [List.set]))))) | (refine XO.done rfl ?_; refine hK _ _ ?_; clear hK K) | refine X.seq rfl ?_ | refine X.region rfl (fun K hK => ?_) | refine X.block rfl ?_ | refine X.ret rfl ?_)
  refine X.lp rfl (fun q F' H' => ∃ (k : Nat) (out : Value) (Z : List Row), q = l.length - k ∧ k ≤ l.length ∧ ((k = 0 ∧ out = .slice none 0 0 ∧ Z = []) ∨ ∃ b q, out = .slice (some ⟨b, 0, none⟩) k q ∧ Z = [⟨b, 0, ((l.take k).map f).flatMap cI, some 3, q * 1⟩]) ∧ Z ++ H = H' ∧
      F' = [(1, .func (.func g) first.toArray cap.toArray), (5, out), (8, .slice a l.length c), (9, .int .i64 l.length), (10, .int .i64 k)])
    l.length [(1, .func (.func g) first.toArray cap.toArray), (5, .slice none 0 0), (8, .slice a l.length c), (9, .int .i64 l.length), (10, .int .i64 (0 : Nat))] _ (by (repeat (first | exact Sub.nil _ | refine Sub.cons rfl ?_)); done) (by (repeat (first | exact List.Sublist.refl _ | apply List.Sublist.cons_cons | apply List.Sublist.cons)); done) ⟨0, _, [], by omega, by omega, .inl ⟨rfl, rfl, rfl⟩, rfl, rfl⟩ ?_
  rintro _ _ H2 ⟨k, out, Z, rfl, hk, ⟨rfl, rfl, rfl⟩ | ⟨b0, q0, rfl, rfl⟩, hH, rfl⟩
  · rw [List.nil_append] at hH
    subst hH
    repeat' (first | (refine XO.op rfl ?_; (first | ((first | refine Xo.ng rfl ?_); (first | (refine Xg.ev (EvF.move rfl rfl) rfl rfl ?_) | (refine Xg.ev (EvF.assign rfl rfl) rfl rfl ?_) | (refine Xg.ev (EvF.cmp rfl rfl rfl rfl) rfl rfl ?_))))) | (refine XO.done rfl ?_; refine hK _ _ ?_; clear hK K) | refine X.seq rfl ?_ | refine X.region rfl (fun K hK => ?_) | refine X.block rfl ?_ | (refine X.brk rfl ?_; repeat (first | refine blockX_hit rfl ?_ | refine blockX_miss (by decide) ?_)) | refine X.skip rfl ?_ | refine X.ret rfl ?_ | (refine X.ite rfl rfl (fun hc => ?_); (first | (with_reducible refine Xb.case hc (fun h => ?_) (fun h => ?_))) <;> clear hc))
    · obtain ⟨b, off, e, rfl, he⟩ := hl.elem (i := 0) (by omega)
      have hge : ∀ r, Fc Try.prog g (first ++ [.agg (cCl e).toArray] ++ cap) (r :: H) (fun v H' => v = .int .i64 (f e) ∧ H' = r :: H) := fun r => hg e (List.mem_of_getElem? he) [r]
      repeat' (first | (refine XO.op rfl ?_; (first | ((first | refine Xo.ng rfl ?_); (first | (refine Xg.ev (EvF.loadV rfl rfl (LoadV.elA0 hl he (te rfl) rfl (fun _ hm => hm) rfl)) rfl rfl ?_) | (refine Xg.call (EnF.dyn (first := first) rfl rfl (Args.cons rfl Args.nil)) rfl rfl (hge _) ?_; rintro _ H9 ⟨rfl, hH9⟩; subst H9) | (refine Xg.st (StF.buildOne rfl elI rfl rfl rfl (by decide) (by decide)) rfl rfl ?_; rintro _ _ ⟨bs, rfl, rfl⟩) | (refine Xg.st (StF.appendNew rfl elI rfl rfl (by decide) rfl (Rd.own (List.Mem.head _)) (by decide)) rfl rfl ?_; rintro _ _ ⟨bn, kn, rfl, rfl⟩) | (refine Xg.ev (EvF.move rfl rfl) rfl rfl ?_) | (refine Xg.ev (EvF.assign rfl rfl) rfl rfl ?_) | (refine Xg.ev (EvF.add64 rfl rfl rfl (by omega) (by omega)) rfl rfl ?_) | (refine Xg.ev (EvF.indexSlice rfl rfl rfl (te rfl) (te rfl) (by omega) (by omega)) rfl rfl ?_) | (refine Xg.ev (EvF.loadV rfl rfl (LoadV.whole (te rfl) rfl (List.Mem.head _) rfl)) rfl rfl ?_) | (refine Xg.st (StF.alloc rfl Try.zeroValue26 rfl) rfl rfl ?_; rintro _ _ ⟨bx, rfl, rfl⟩) | (refine Xg.st0 (StF.storeAll (i := 0) rfl rfl rfl (te rfl) rfl rfl rfl rfl) rfl ?_; rintro _ _ ⟨rfl, rfl⟩; dsimp only [List.set]))))) | (refine XO.done rfl ?_; refine hK _ _ ?_; clear hK K) | refine X.region rfl (fun K hK => ?_))
      refine ⟨_, _, _, (by (repeat (first | exact Sub.nil _ | refine Sub.cons rfl ?_)); done), ?_, ⟨0 + 1, _, [⟨bn, 0, ((l.take (0 + 1)).map f).flatMap cI, some 3, kn * 1⟩], rfl, by omega, .inr ⟨_, _, rfl, rfl⟩, rfl, rfl⟩, by omega⟩
      rw [take_snoc he]
      exact (by (repeat (first | exact List.Sublist.refl _ | apply List.Sublist.cons_cons | apply List.Sublist.cons)); done)
    · exfalso; omega
  · have hlen : (((l.take k).map f).flatMap cI).length = k * 1 := by rw [lenI, List.length_map, List.length_take]; omega
    simp only [List.cons_append, List.nil_append] at hH
    subst hH
    repeat' (first | (refine XO.op rfl ?_; (first | ((first | refine Xo.ng rfl ?_); (first | (refine Xg.ev (EvF.move rfl rfl) rfl rfl ?_) | (refine Xg.ev (EvF.assign rfl rfl) rfl rfl ?_) | (refine Xg.ev (EvF.cmp rfl rfl rfl rfl) rfl rfl ?_))))) | (refine XO.done rfl ?_; refine hK _ _ ?_; clear hK K) | refine X.seq rfl ?_ | refine X.region rfl (fun K hK => ?_) | refine X.block rfl ?_ | (refine X.brk rfl ?_; repeat (first | refine blockX_hit rfl ?_ | refine blockX_miss (by decide) ?_)) | refine X.skip rfl ?_ | refine X.ret rfl ?_ | (refine X.ite rfl rfl (fun hc => ?_); (first | (with_reducible refine Xb.case hc (fun h => ?_) (fun h => ?_))) <;> clear hc))
    · obtain ⟨b, off, e, rfl, he⟩ := hl.elem (i := k) (by omega)
      have hl1 : ∀ r, SlE (r :: H) (some ⟨b, off, none⟩) cCl 2 l := fun r => hl.sub (fun _ h => List.mem_cons_of_mem _ h)
      have hge : ∀ r r', Fc Try.prog g (first ++ [.agg (cCl e).toArray] ++ cap) (r :: r' :: H) (fun v H' => v = .int .i64 (f e) ∧ H' = r :: r' :: H) := fun r r' => hg e (List.mem_of_getElem? he) [r, r']
      repeat' (first | (refine XO.op rfl ?_; (first | ((first | refine Xo.ng rfl ?_); (first | (refine Xg.ev (EvF.loadV rfl rfl (LoadV.elA0 (hl1 _) he (te rfl) rfl (fun _ hm => hm) rfl)) rfl rfl ?_) | (refine Xg.call (EnF.dyn (first := first) rfl rfl (Args.cons rfl Args.nil)) rfl rfl (hge _ _) ?_; rintro _ H9 ⟨rfl, hH9⟩; subst H9) | (refine Xg.st (StF.buildOne rfl elI rfl rfl rfl (by decide) (by decide)) rfl rfl ?_; rintro _ _ ⟨bs, rfl, rfl⟩) | (refine Xg.st (StF.appendOwn (i := 2) rfl elI rfl rfl rfl hlen rfl (Rd.own (List.Mem.head _)) rfl (by omega)) rfl rfl ?_; rintro _ _ ⟨bn, kn, rfl, rfl⟩; dsimp only [List.eraseIdx]) | (refine Xg.ev (EvF.move rfl rfl) rfl rfl ?_) | (refine Xg.ev (EvF.assign rfl rfl) rfl rfl ?_) | (refine Xg.ev (EvF.add64 rfl rfl rfl (by omega) (by omega)) rfl rfl ?_) | (refine Xg.ev (EvF.indexSlice rfl rfl rfl (te rfl) (te rfl) (by omega) (by omega)) rfl rfl ?_) | (refine Xg.ev (EvF.loadV rfl rfl (LoadV.whole (te rfl) rfl (List.Mem.head _) rfl)) rfl rfl ?_) | (refine Xg.st (StF.alloc rfl Try.zeroValue26 rfl) rfl rfl ?_; rintro _ _ ⟨bx, rfl, rfl⟩) | (refine Xg.st0 (StF.storeAll (i := 0) rfl rfl rfl (te rfl) rfl rfl rfl rfl) rfl ?_; rintro _ _ ⟨rfl, rfl⟩; dsimp only [List.set]))))) | (refine XO.done rfl ?_; refine hK _ _ ?_; clear hK K) | refine X.region rfl (fun K hK => ?_))
      refine ⟨_, _, _, (by (repeat (first | exact Sub.nil _ | refine Sub.cons rfl ?_)); done), ?_, ⟨k + 1, _, [⟨bn, 0, ((l.take (k + 1)).map f).flatMap cI, some 3, kn * 1⟩], rfl, by omega, .inr ⟨_, _, rfl, rfl⟩, rfl, rfl⟩, by omega⟩
      rw [take_snoc he, List.map_append, List.flatMap_append]
      exact (by (repeat (first | exact List.Sublist.refl _ | apply List.Sublist.cons_cons | apply List.Sublist.cons)); done)
    · obtain rfl : k = l.length := by omega
      rw [List.take_length]
      exact ret_one (by first | exact .inr rfl | exact .inl rfl) Try.results75 rfl (H' := ⟨b0, 0, (l.map f).flatMap cI, some 3, q0 * 1⟩ :: H) (by (repeat (first | exact List.Sublist.refl _ | apply List.Sublist.cons_cons | apply List.Sublist.cons)); done) ⟨b0, q0, rfl, rfl⟩
end Go.Proofs.Ytfpmhdjhcoogpaa
end
section
set_option linter.unusedVariables false
set_option linter.unusedSimpArgs false
namespace Go.Proofs.Ytfpmhdjhcoogpaa
open Go Go.Fw
set_option maxRecDepth 10000
set_option maxHeartbeats 8000000 in
theorem rtotal_spec (T : Tm) (p : Pt) (m : Int) (l : List Cl) (a : Option Addr) (cc : Nat) (H : List Row) (hT : TmOk H T p) (hl : SlE H a cCl 2 l) (hb : l.length ≤ 1000) :
    Fc Try.prog 39 [.agg (cTm T p).toArray, .int .i64 m, .slice a l.length cc] H (fun v H' => ∃ w Z, v = .tuple #[.int .i64 (totS T m l), w, .int .i64 (totE T m l)] ∧ OutI (totI T m l) w Z ∧ H' = Z ++ H) := by
  have hT1 : ∀ Z : List Row, TmOk (Z ++ H) T p := fun Z => hT.sub (fun _ h => List.mem_append_right _ h)
  have hl1 : ∀ Z : List Row, SlE (Z ++ H) a cCl 2 l := fun Z => hl.sub (fun _ h => List.mem_append_right _ h)
  refine Fc.mk (callable Try.call39) Try.func39 rfl Try.ntmps39 rfl ?_; dsimp only [fr]
  repeat' (first | (refine XO.op rfl ?_; (first | ((first | refine Xo.ng rfl ?_); (first | (refine Xg.call (EnF.st rfl (Args.cons rfl Args.nil)) rfl rfl (rterms_spec T p _ (hT1 [_])) ?_; rintro _ H9 ⟨rfl, hH9⟩; subst H9) | (refine Xg.call (EnF.st rfl (Args.cons rfl (Args.cons rfl (Args.cons rfl Args.nil)))) rfl rfl (w4_spec _ _ _ _) ?_; rintro _ H9 ⟨rfl, hH9⟩; subst H9) | (refine Xg.ev (EvF.move rfl rfl) rfl rfl ?_) | (refine Xg.ev (EvF.assign rfl rfl) rfl rfl ?_) | (refine Xg.ev (EvF.cmp rfl rfl rfl rfl) rfl rfl ?_) | (refine Xg.ev (EvF.not rfl rfl) rfl rfl ?_) | (refine Xg.ev (EvF.fieldAddr rfl rfl (te rfl) rfl (te rfl) (by decide)) rfl rfl ?_) | (refine Xg.ev (EvF.lenSlice rfl rfl (te rfl)) rfl rfl ?_) | (refine Xg.ev (EvF.loadV rfl rfl (LoadV.own (te rfl) rfl (List.Mem.head _) rfl)) rfl rfl ?_) | (refine Xg.ev (EvF.loadV rfl rfl (LoadV.whole (te rfl) rfl (List.Mem.head _) rfl)) rfl rfl ?_) | (refine Xg.st (StF.boxAgg rfl rfl) rfl rfl ?_; rintro _ _ ⟨bx, rfl, rfl⟩))))) | (refine XO.done rfl ?_; refine hK _ _ ?_; clear hK K) | refine X.seq rfl ?_ | refine X.region rfl (fun K hK => ?_) | refine X.block rfl ?_ | refine X.skip rfl ?_ | refine X.ret rfl ?_ | (refine X.ite rfl rfl (fun hc => ?_); (first | (with_reducible refine Xb.case hc (fun h => ?_) (fun h => ?_)) | (with_reducible refine Xb.caseN hc (fun h => ?_) (fun h => ?_))) <;> clear hc))
  · exact ret_three (by first | exact .inr rfl | exact .inl rfl) Try.results39 rfl rfl rfl (H' := H) (by (repeat (first | exact List.Sublist.refl _ | apply List.Sublist.cons)); done) (tot_err (by unfold totE; rw [if_neg (by assumption)]) (by decide) H)
  · exact ret_three (by first | exact .inr rfl | exact .inl rfl) Try.results39 rfl rfl rfl (H' := H) (by (repeat (first | exact List.Sublist.refl _ | apply List.Sublist.cons)); done) (tot_err (by unfold totE; rw [if_pos (by assumption), if_neg (by assumption)]) (by decide) H)
  · exact ret_three (by first | exact .inr rfl | exact .inl rfl) Try.results39 rfl rfl rfl (H' := H) (by (repeat (first | exact List.Sublist.refl _ | apply List.Sublist.cons)); done) (tot_err (by unfold totE; rw [if_pos (by assumption), if_pos (by assumption), if_neg (by omega)]) (by decide) H)
  have hok : tmOk T := by assumption
  have hm : T.dl ≤ m ∧ m ≤ T.dh := by assumption
  have hle : (l.length : Int) ≤ T.bales := by omega
  have hE : totE T m l = cErr l := by unfold totE; rw [if_pos hok, if_pos hm, if_pos hle]
  have hnum := hok.num
  obtain ⟨b3, hb3⟩ : ∃ b, b = bx := ⟨_, rfl⟩
  rw [← hb3]
  refine X.lp rfl (fun q F' H' => ∃ k : Nat, q = l.length - k ∧ k ≤ l.length ∧ cErr (l.take k) = 0 ∧ ⟨b3, 0, cTm T p, some 28, 11⟩ :: H = H' ∧
      F' = [(2, .slice a l.length cc), (3, .pointer (some ⟨b3, 0, none⟩)), (33, .slice a l.length cc), (34, .int .i64 l.length), (35, .int .i64 k)])
    l.length [(2, .slice a l.length cc), (3, .pointer (some ⟨b3, 0, none⟩)), (33, .slice a l.length cc), (34, .int .i64 l.length), (35, .int .i64 (0 : Nat))] _ (by (repeat (first | exact Sub.nil _ | refine Sub.cons rfl ?_)); done) (by (repeat (first | exact List.Sublist.refl _ | apply List.Sublist.cons_cons | apply List.Sublist.cons)); done) ⟨0, by omega, by omega, rfl, rfl, rfl⟩ ?_
  rintro _ _ H2 ⟨k, rfl, hk, hz, hH, rfl⟩
  subst hH
  repeat' (first | (refine XO.op rfl ?_; (first | ((first | refine Xo.ng rfl ?_); (first | (refine Xg.ev (EvF.move rfl rfl) rfl rfl ?_) | (refine Xg.ev (EvF.assign rfl rfl) rfl rfl ?_) | (refine Xg.ev (EvF.cmp rfl rfl rfl rfl) rfl rfl ?_) | (refine Xg.ev (EvF.lenSlice rfl rfl (te rfl)) rfl rfl ?_))))) | (refine XO.done rfl ?_; refine hK _ _ ?_; clear hK K) | refine X.seq rfl ?_ | refine X.region rfl (fun K hK => ?_) | refine X.block rfl ?_ | (refine X.brk rfl ?_; repeat (first | refine blockX_hit rfl ?_ | refine blockX_miss (by decide) ?_)) | refine X.skip rfl ?_ | (refine X.ite rfl rfl (fun hc => ?_); (first | (with_reducible refine Xb.case hc (fun h => ?_) (fun h => ?_))) <;> clear hc))
  · obtain ⟨b, off, c, rfl, he⟩ := hl.elem (i := k) (by omega)
    repeat' (first | (refine XO.op rfl ?_; (first | ((first | refine Xo.ng rfl ?_); (first | (refine Xg.ev (EvF.loadV rfl rfl (LoadV.elA0 (hl1 [_]) he (te rfl) rfl (fun _ hm => hm) rfl)) rfl rfl ?_) | (refine Xg.call (EnF.st rfl (Args.cons rfl Args.nil)) rfl rfl (rclass_spec c _) ?_; rintro _ H9 ⟨rfl, hH9⟩; subst H9) | (refine Xg.ev (EvF.move rfl rfl) rfl rfl ?_) | (refine Xg.ev (EvF.assign rfl rfl) rfl rfl ?_) | (refine Xg.ev (EvF.cmp rfl rfl rfl rfl) rfl rfl ?_) | (refine Xg.ev (EvF.add64 rfl rfl rfl (by omega) (by omega)) rfl rfl ?_) | (refine Xg.ev (EvF.indexSlice rfl rfl rfl (te rfl) (te rfl) (by omega) (by omega)) rfl rfl ?_) | (refine Xg.ev (EvF.loadV rfl rfl (LoadV.whole (te rfl) rfl (List.Mem.head _) rfl)) rfl rfl ?_) | (refine Xg.st (StF.alloc rfl Try.zeroValue26 rfl) rfl rfl ?_; rintro _ _ ⟨bx, rfl, rfl⟩) | (refine Xg.st0 (StF.storeAll (i := 0) rfl rfl rfl (te rfl) rfl rfl rfl rfl) rfl ?_; rintro _ _ ⟨rfl, rfl⟩; dsimp only [List.set]))))) | (refine XO.done rfl ?_; refine hK _ _ ?_; clear hK K) | refine X.seq rfl ?_ | refine X.region rfl (fun K hK => ?_) | refine X.skip rfl ?_ | refine X.ret rfl ?_ | (refine X.ite rfl rfl (fun hc => ?_); (first | (with_reducible refine Xb.caseN hc (fun h => ?_) (fun h => ?_))) <;> clear hc))
    · have hne : clsE c ≠ 0 := by assumption
      exact ret_three (by first | exact .inr rfl | exact .inl rfl) Try.results39 rfl rfl rfl (H' := H) (by (repeat (first | exact List.Sublist.refl _ | apply List.Sublist.cons)); done) (tot_err (by rw [hE, cErr_at hz he, if_neg hne]) hne H)
    · refine ⟨_, _, _, (by (repeat (first | exact Sub.nil _ | refine Sub.cons rfl ?_)); done), (by (repeat (first | exact List.Sublist.refl _ | apply List.Sublist.cons_cons | apply List.Sublist.cons)); done), ⟨k + 1, rfl, by omega, cErr_snoc hz he (by omega), rfl, rfl⟩, by omega⟩
  · obtain rfl : k = l.length := by omega
    rw [List.take_length] at hz
    have hE0 : totE T m l = 0 := by rw [hE, hz]
    have hS : totS T m l = sumV T l := by unfold totS; rw [if_pos hE0]
    have hI : totI T m l = refsA T 0 l := by unfold totI; rw [if_pos hE0]
    have hcl : ∀ (k : Nat) (c : Cl), l[k]? = some c → (1 ≤ c.g ∧ c.g ≤ 9) ∧ (1 ≤ c.s ∧ c.s ≤ 9) := fun k c hc => cErr_ok hz (List.mem_of_getElem? hc)
    rw [hS, hI, hE0]
    repeat' (first | fail)
    refine X.lp rfl (fun q F' H' => ∃ (k : Nat) (out : Value) (Z : List Row), q = l.length - k ∧ k ≤ l.length ∧ OutI (refsA T 0 (l.take k)) out Z ∧ Z ++ ⟨b3, 0, cTm T p, some 28, 11⟩ :: H = H' ∧
        F' = [(3, .pointer (some ⟨b3, 0, none⟩)), (12, .int .i64 (sumV T (l.take k))), (13, out), (45, .slice a l.length cc), (46, .int .i64 l.length), (47, .int .i64 k)])
      l.length [(3, .pointer (some ⟨b3, 0, none⟩)), (12, .int .i64 0), (13, .slice none 0 0), (45, .slice a l.length cc), (46, .int .i64 l.length), (47, .int .i64 (0 : Nat))] _ (by (repeat (first | exact Sub.nil _ | refine Sub.cons rfl ?_)); done) (by (repeat (first | exact List.Sublist.refl _ | apply List.Sublist.cons_cons | apply List.Sublist.cons)); done) ⟨0, _, [], by omega, by omega, OutI.nil, rfl, rfl⟩ ?_
    rintro _ _ H2 ⟨k, out, Z, rfl, hk, ⟨hr, rfl, rfl⟩ | ⟨bo, qo, rfl, rfl⟩, hH, rfl⟩
    · rw [List.nil_append] at hH
      subst hH
      repeat' (first | (refine XO.op rfl ?_; (first | ((first | refine Xo.ng rfl ?_); (first | (refine Xg.ev (EvF.move rfl rfl) rfl rfl ?_) | (refine Xg.ev (EvF.assign rfl rfl) rfl rfl ?_) | (refine Xg.ev (EvF.cmp rfl rfl rfl rfl) rfl rfl ?_))))) | (refine XO.done rfl ?_; refine hK _ _ ?_; clear hK K) | refine X.seq rfl ?_ | refine X.region rfl (fun K hK => ?_) | refine X.block rfl ?_ | (refine X.brk rfl ?_; repeat (first | refine blockX_hit rfl ?_ | refine blockX_miss (by decide) ?_)) | refine X.skip rfl ?_ | refine X.ret rfl ?_ | (refine X.ite rfl rfl (fun hc => ?_); (first | (with_reducible refine Xb.case hc (fun h => ?_) (fun h => ?_))) <;> clear hc))
      · obtain ⟨b, off, c, rfl, he⟩ := hl.elem (i := k) (by omega)
        have hv := val_bd hok c.g c.s
        have hs := sumV_bd hok (l.take k)
        rw [List.length_take] at hs
        have hsn := sumV_snoc (T := T) he
        have hrn := refsA_snoc (T := T) he
        rw [hr] at hrn
        repeat' (first | (refine XO.op rfl ?_; (first | ((first | refine Xo.ng rfl ?_); (first | (refine Xg.ev (EvF.loadV rfl rfl (LoadV.elA0 (hl1 [_]) he (te rfl) rfl (fun _ hm => hm) rfl)) rfl rfl ?_) | (refine Xg.call (EnF.st rfl (Args.cons rfl (Args.cons rfl Args.nil))) rfl rfl (rmay_spec T p c _) ?_; rintro _ H9 ⟨rfl, hH9⟩; subst H9) | (refine Xg.call (EnF.st rfl (Args.cons rfl (Args.cons rfl Args.nil))) rfl rfl (rvalue_spec T p c _ (hT1 [_, _]) hok.gr hok.st (by omega) (hcl k c he).1 (hcl k c he).2) ?_; rintro _ H9 ⟨rfl, hH9⟩; subst H9) | (refine Xg.st (StF.buildOne rfl elI rfl rfl rfl (by decide) (by decide)) rfl rfl ?_; rintro _ _ ⟨bs, rfl, rfl⟩) | (refine Xg.st (StF.appendNew rfl elI rfl rfl (by decide) rfl (Rd.own (List.Mem.head _)) (by decide)) rfl rfl ?_; rintro _ _ ⟨bn, kn, rfl, rfl⟩) | (refine Xg.ev (EvF.move rfl rfl) rfl rfl ?_) | (refine Xg.ev (EvF.assign rfl rfl) rfl rfl ?_) | (refine Xg.ev (EvF.add64 rfl rfl rfl (by omega) (by omega)) rfl rfl ?_) | (refine Xg.ev (EvF.indexSlice rfl rfl rfl (te rfl) (te rfl) (by omega) (by omega)) rfl rfl ?_) | (refine Xg.ev (EvF.loadV rfl rfl (LoadV.whole (te rfl) rfl (List.Mem.head _) rfl)) rfl rfl ?_) | (refine Xg.ev (EvF.loadV rfl rfl (LoadV.whole (te rfl) rfl (List.Mem.tail _ (List.Mem.head _)) rfl)) rfl rfl ?_) | (refine Xg.st (StF.alloc rfl Try.zeroValue26 rfl) rfl rfl ?_; rintro _ _ ⟨bx, rfl, rfl⟩) | (refine Xg.st0 (StF.storeAll (i := 0) rfl rfl rfl (te rfl) rfl rfl rfl rfl) rfl ?_; rintro _ _ ⟨rfl, rfl⟩; dsimp only [List.set]))))) | (refine XO.done rfl ?_; refine hK _ _ ?_; clear hK K) | refine X.seq rfl ?_ | refine X.region rfl (fun K hK => ?_) | (refine X.ite rfl rfl (fun hc => ?_); (first | (with_reducible refine Xb.caseB hc (fun h => ?_) (fun h => ?_))) <;> clear hc))
        · have hmay : may T c = true := by assumption
          rw [if_pos hmay] at hsn hrn
          refine ⟨_, [(3, .pointer (some ⟨b3, 0, none⟩)), (12, .int .i64 (sumV T (l.take (k + 1)))), (13, .slice none 0 0), (45, .slice (some ⟨b, off, none⟩) l.length cc), (46, .int .i64 l.length), (47, .int .i64 (k + 1 : Nat))], _, (by rw [hsn]; exact (by (repeat (first | exact Sub.nil _ | refine Sub.cons rfl ?_)); done)), (by (repeat (first | exact List.Sublist.refl _ | apply List.Sublist.cons_cons | apply List.Sublist.cons)); done), ⟨k + 1, _, [], rfl, by omega, .inl ⟨hrn, rfl, rfl⟩, rfl, rfl⟩, by omega⟩
        · have hmay : ¬ may T c = true := by simpa using (by assumption : may T c = false)
          rw [if_neg hmay] at hsn hrn
          rw [Int.add_zero] at hsn
          refine ⟨_, [(3, .pointer (some ⟨b3, 0, none⟩)), (12, .int .i64 (sumV T (l.take (k + 1)))), (13, .slice (some ⟨bn, 0, none⟩) 1 kn), (45, .slice (some ⟨b, off, none⟩) l.length cc), (46, .int .i64 l.length), (47, .int .i64 (k + 1 : Nat))], _, (by rw [hsn]; exact (by (repeat (first | exact Sub.nil _ | refine Sub.cons rfl ?_)); done)), (by (repeat (first | exact List.Sublist.refl _ | apply List.Sublist.cons_cons | apply List.Sublist.cons)); done), ⟨k + 1, _, [⟨bn, 0, [.int .i64 k], some 3, kn * 1⟩], rfl, by omega, .inr ⟨bn, kn, by rw [hrn]; rfl, by rw [hrn]; rfl⟩, rfl, rfl⟩, by omega⟩
      · obtain rfl : k = l.length := by omega
        rw [List.take_length] at hr ⊢
        exact ret_three (by first | exact .inr rfl | exact .inl rfl) Try.results39 rfl rfl rfl (H' := H) (by (repeat (first | exact List.Sublist.refl _ | apply List.Sublist.cons)); done) ⟨_, [], rfl, .inl ⟨hr, rfl, rfl⟩, rfl⟩
    · simp only [List.cons_append, List.nil_append] at hH
      subst hH
      repeat' (first | (refine XO.op rfl ?_; (first | ((first | refine Xo.ng rfl ?_); (first | (refine Xg.ev (EvF.move rfl rfl) rfl rfl ?_) | (refine Xg.ev (EvF.assign rfl rfl) rfl rfl ?_) | (refine Xg.ev (EvF.cmp rfl rfl rfl rfl) rfl rfl ?_))))) | (refine XO.done rfl ?_; refine hK _ _ ?_; clear hK K) | refine X.seq rfl ?_ | refine X.region rfl (fun K hK => ?_) | refine X.block rfl ?_ | (refine X.brk rfl ?_; repeat (first | refine blockX_hit rfl ?_ | refine blockX_miss (by decide) ?_)) | refine X.skip rfl ?_ | refine X.ret rfl ?_ | (refine X.ite rfl rfl (fun hc => ?_); (first | (with_reducible refine Xb.case hc (fun h => ?_) (fun h => ?_))) <;> clear hc))
      · obtain ⟨b, off, c, rfl, he⟩ := hl.elem (i := k) (by omega)
        have hv := val_bd hok c.g c.s
        have hs := sumV_bd hok (l.take k)
        rw [List.length_take] at hs
        have hsn := sumV_snoc (T := T) he
        have hrn := refsA_snoc (T := T) he
        have hrl := refsA_len T (l.take k) 0
        rw [List.length_take] at hrl
        repeat' (first | (refine XO.op rfl ?_; (first | ((first | refine Xo.ng rfl ?_); (first | (refine Xg.ev (EvF.loadV rfl rfl (LoadV.elA0 (hl1 [_, _]) he (te rfl) rfl (fun _ hm => hm) rfl)) rfl rfl ?_) | (refine Xg.call (EnF.st rfl (Args.cons rfl (Args.cons rfl Args.nil))) rfl rfl (rmay_spec T p c _) ?_; rintro _ H9 ⟨rfl, hH9⟩; subst H9) | (refine Xg.call (EnF.st rfl (Args.cons rfl (Args.cons rfl Args.nil))) rfl rfl (rvalue_spec T p c _ (hT1 [_, _, _]) hok.gr hok.st (by omega) (hcl k c he).1 (hcl k c he).2) ?_; rintro _ H9 ⟨rfl, hH9⟩; subst H9) | (refine Xg.st (StF.buildOne rfl elI rfl rfl rfl (by decide) (by decide)) rfl rfl ?_; rintro _ _ ⟨bs, rfl, rfl⟩) | (refine Xg.st (StF.appendOwn (i := 2) rfl elI rfl rfl rfl (lenI _) rfl (Rd.own (List.Mem.head _)) rfl (by omega)) rfl rfl ?_; rintro _ _ ⟨bn, kn, rfl, rfl⟩; dsimp only [List.eraseIdx]) | (refine Xg.ev (EvF.move rfl rfl) rfl rfl ?_) | (refine Xg.ev (EvF.assign rfl rfl) rfl rfl ?_) | (refine Xg.ev (EvF.add64 rfl rfl rfl (by omega) (by omega)) rfl rfl ?_) | (refine Xg.ev (EvF.indexSlice rfl rfl rfl (te rfl) (te rfl) (by omega) (by omega)) rfl rfl ?_) | (refine Xg.ev (EvF.loadV rfl rfl (LoadV.whole (te rfl) rfl (List.Mem.head _) rfl)) rfl rfl ?_) | (refine Xg.ev (EvF.loadV rfl rfl (LoadV.whole (te rfl) rfl (List.Mem.tail _ (List.Mem.tail _ (List.Mem.head _))) rfl)) rfl rfl ?_) | (refine Xg.st (StF.alloc rfl Try.zeroValue26 rfl) rfl rfl ?_; rintro _ _ ⟨bx, rfl, rfl⟩) | (refine Xg.st0 (StF.storeAll (i := 0) rfl rfl rfl (te rfl) rfl rfl rfl rfl) rfl ?_; rintro _ _ ⟨rfl, rfl⟩; dsimp only [List.set]))))) | (refine XO.done rfl ?_; refine hK _ _ ?_; clear hK K) | refine X.seq rfl ?_ | refine X.region rfl (fun K hK => ?_) | (refine X.ite rfl rfl (fun hc => ?_); (first | (with_reducible refine Xb.caseB hc (fun h => ?_) (fun h => ?_))) <;> clear hc))
        · have hmay : may T c = true := by assumption
          rw [if_pos hmay] at hsn hrn
          rw [List.append_nil] at hrn
          refine ⟨_, [(3, .pointer (some ⟨b3, 0, none⟩)), (12, .int .i64 (sumV T (l.take (k + 1)))), (13, .slice (some ⟨bo, 0, none⟩) (refsA T 0 (l.take k)).length qo), (45, .slice (some ⟨b, off, none⟩) l.length cc), (46, .int .i64 l.length), (47, .int .i64 (k + 1 : Nat))], _, (by rw [hsn]; exact (by (repeat (first | exact Sub.nil _ | refine Sub.cons rfl ?_)); done)), (by (repeat (first | exact List.Sublist.refl _ | apply List.Sublist.cons_cons | apply List.Sublist.cons)); done), ⟨k + 1, _, [⟨bo, 0, (refsA T 0 (l.take k)).flatMap cI, some 3, qo * 1⟩], rfl, by omega, .inr ⟨bo, qo, by rw [hrn], by rw [hrn]⟩, rfl, rfl⟩, by omega⟩
        · have hmay : ¬ may T c = true := by simpa using (by assumption : may T c = false)
          rw [if_neg hmay] at hsn hrn
          rw [Int.add_zero] at hsn
          refine ⟨_, [(3, .pointer (some ⟨b3, 0, none⟩)), (12, .int .i64 (sumV T (l.take (k + 1)))), (13, .slice (some ⟨bn, 0, none⟩) ((refsA T 0 (l.take k)).length + 1) kn), (45, .slice (some ⟨b, off, none⟩) l.length cc), (46, .int .i64 l.length), (47, .int .i64 (k + 1 : Nat))], _, (by rw [hsn]; exact (by (repeat (first | exact Sub.nil _ | refine Sub.cons rfl ?_)); done)), (by (repeat (first | exact List.Sublist.refl _ | apply List.Sublist.cons_cons | apply List.Sublist.cons)); done), ⟨k + 1, _, [⟨bn, 0, (refsA T 0 (l.take k)).flatMap cI ++ [.int .i64 k], some 3, kn * 1⟩], rfl, by omega, .inr ⟨bn, kn, by rw [hrn, List.length_append]; rfl, by rw [hrn, List.flatMap_append]; rfl⟩, rfl, rfl⟩, by omega⟩
      · obtain rfl : k = l.length := by omega
        rw [List.take_length]
        exact ret_three (by first | exact .inr rfl | exact .inl rfl) Try.results39 rfl rfl rfl (H' := ⟨bo, 0, (refsA T 0 l).flatMap cI, some 3, qo * 1⟩ :: H) (by (repeat (first | exact List.Sublist.refl _ | apply List.Sublist.cons_cons | apply List.Sublist.cons)); done) ⟨_, [⟨bo, 0, (refsA T 0 l).flatMap cI, some 3, qo * 1⟩], rfl, .inr ⟨bo, qo, rfl, rfl⟩, rfl⟩
end Go.Proofs.Ytfpmhdjhcoogpaa
end
section
set_option linter.unusedVariables false
set_option linter.unusedSimpArgs false
namespace Go.Proofs.Ytfpmhdjhcoogpaa
open Go Go.Fw
set_option maxRecDepth 10000
theorem OutI.sl {k : List Int} {v : Value} {Z H : List Row} (h : OutI k v Z) (hs : ∀ r ∈ Z, r ∈ H) : ∃ a c, v = .slice a k.length c ∧ SlE H a cI 1 k := by
  rcases h with ⟨rfl, rfl, rfl⟩ | ⟨b, q, rfl, rfl⟩
  · exact ⟨_, _, rfl, sleNil⟩
  · exact ⟨_, _, rfl, SlE.ofRow (hs _ (List.Mem.head _)) (fun _ _ => rfl)⟩
theorem OutI.len {k : List Int} {v : Value} {Z : List Row} (h : OutI k v Z) : ∃ a c, v = .slice a k.length c := by
  rcases h with ⟨rfl, rfl, rfl⟩ | ⟨b, q, rfl, rfl⟩ <;> exact ⟨_, _, rfl⟩
theorem totI_len (T : Tm) (m : Int) (l : List Cl) : (totI T m l).length ≤ l.length := by
  unfold totI; split
  · exact refsA_len T l 0
  · exact Nat.zero_le _
theorem sameI_self (l : List Int) (a a' : Option Addr) (c c' : Nat) (H : List Row) (hl : SlE H a cI 1 l) (hm : SlE H a' cI 1 l) (hb : l.length ≤ 1000000) : Fc Try.prog 40 [.slice a l.length c, .slice a' l.length c'] H (fun v H' => v = .bool true ∧ H' = H) :=
  (sameInts_spec l l a a' c c' H hl hm hb hb).mono (fun v H' ⟨h1, h2⟩ => ⟨by rw [h1, decide_eq_true rfl], h2⟩)
set_option maxHeartbeats 8000000 in
theorem termsTotals_spec (T : Tm) (p : Pt) (m : Int) (l : List Cl) (a : Option Addr) (cc : Nat) (H : List Row) (hg : SlE H p.a1 cI 1 T.G) (hs : SlE H p.a2 cI 1 T.S) (hl : SlE H a cCl 2 l) :
    Fc Try.prog 8 [.agg (cTm T p).toArray, .int .i64 m, .slice a l.length cc] H (fun v _ => v = .bool true) := by
  by_cases hgr : (T.G.length > 30 ∨ T.S.length > 30)
  · have hG := greatT T p hgr
    refine Fc.mk (callable Try.call8) Try.func8 rfl Try.ntmps8 rfl ?_; dsimp only [fr]
    repeat' (first | (refine XO.op rfl ?_; (first | ((first | refine Xo.ng rfl ?_); (first | (refine Xg.call (EnF.st rfl (Args.cons rfl Args.nil)) rfl rfl (hG _) ?_; rintro _ H9 ⟨rfl, hH9⟩; subst H9) | (refine Xg.ev (EvF.move rfl rfl) rfl rfl ?_) | (refine Xg.ev (EvF.assign rfl rfl) rfl rfl ?_) | (refine Xg.ev (EvF.pickT rfl rfl rfl) rfl rfl ?_) | (refine Xg.ev (EvF.loadV rfl rfl (LoadV.whole (te rfl) rfl (List.Mem.head _) rfl)) rfl rfl ?_) | (refine Xg.st (StF.boxAgg rfl rfl) rfl rfl ?_; rintro _ _ ⟨bx, rfl, rfl⟩))) | (refine Xo.g rfl rfl ?_; (first | (with_reducible refine Xw.tf rfl rfl ?_))))) | (refine XO.done rfl ?_; refine hK _ _ ?_; clear hK K) | refine X.seq rfl ?_ | refine X.region rfl (fun K hK => ?_) | refine X.ret rfl ?_ | (refine X.ite rfl rfl (fun hc => ?_); (first | (with_reducible refine Xb.t hc ?_)) <;> clear hc))
    all_goals try (exfalso; contradiction)
    exact ret_one (by first | exact .inr rfl | exact .inl rfl) Try.results8 rfl (H' := _) (List.Sublist.refl _) rfl
  · have hG := greatF T p hgr
    have hT : TmOk H T p := ⟨hg, hs, by omega, by omega⟩
    have hT' : ∀ H', (∀ r ∈ H, r ∈ H') → TmOk H' T p := fun H' hs => hT.sub hs
    refine Fc.mk (callable Try.call8) Try.func8 rfl Try.ntmps8 rfl ?_; dsimp only [fr]
    repeat' (first | (refine XO.op rfl ?_; (first | ((first | refine Xo.ng rfl ?_ | (refine Xo.g rfl rfl ?_; with_reducible refine Xw.ff ?_)); (first | (refine Xg.call (EnF.st rfl (Args.cons rfl Args.nil)) rfl rfl (hG _) ?_; rintro _ H9 ⟨rfl, hH9⟩; subst H9) | (refine Xg.ev (EvF.move rfl rfl) rfl rfl ?_) | (refine Xg.ev (EvF.assign rfl rfl) rfl rfl ?_) | (refine Xg.ev (EvF.pickF rfl rfl rfl) rfl rfl ?_) | (refine Xg.ev (EvF.cmp rfl rfl rfl rfl) rfl rfl ?_) | (refine Xg.ev (EvF.lenSlice rfl rfl (te rfl)) rfl rfl ?_) | (refine Xg.ev (EvF.loadV rfl rfl (LoadV.whole (te rfl) rfl (List.Mem.head _) rfl)) rfl rfl ?_) | (refine Xg.st (StF.boxAgg rfl rfl) rfl rfl ?_; rintro _ _ ⟨bx, rfl, rfl⟩))))) | (refine XO.done rfl ?_; refine hK _ _ ?_; clear hK K) | refine X.seq rfl ?_ | refine X.region rfl (fun K hK => ?_) | refine X.skip rfl ?_ | refine X.ret rfl ?_ | (refine X.ite rfl rfl (fun hc => ?_); (first | (with_reducible refine Xb.case hc (fun h => ?_) (fun h => ?_))) <;> clear hc))
    all_goals try (exfalso; contradiction)
    · exact ret_one (by first | exact .inr rfl | exact .inl rfl) Try.results8 rfl (H' := _) (List.Sublist.refl _) rfl
    have hl40 : l.length ≤ 40 := by omega
    obtain ⟨b3, hb3⟩ : ∃ b, b = bx := ⟨_, rfl⟩
    rw [← hb3]
    clear hb3
    repeat' (first | (refine XO.op rfl ?_; (first | ((first | refine Xo.ng rfl ?_); (first | (refine Xg.call (EnF.st rfl (by (repeat (first | exact Args.nil | refine Args.cons rfl ?_)); done)) rfl rfl (twin_spec T p _ (hT' _ (fun _ hm => List.Mem.tail _ hm))) ?_; rintro _ _ ⟨t1, k1, t2, k2, rfl, rfl⟩) | (refine Xg.st (StF.buildNil rfl elCl) rfl rfl ?_; rintro _ _ ⟨bn, rfl, rfl⟩) | (refine Xg.st (StF.appendSl (i := 0) rfl elCl rfl rfl rfl (hl.sub (fun _ h => List.mem_append_right [_, _, _, _] h)) (fun e _ => one_cl e) rfl (by decide) (by omega)) rfl rfl ?_; rintro _ _ ⟨bm, km, rfl, rfl⟩; dsimp only [List.eraseIdx]) | (refine Xg.ev (EvF.move rfl rfl) rfl rfl ?_) | (refine Xg.ev (EvF.assign rfl rfl) rfl rfl ?_) | (refine Xg.ev (EvF.loadV rfl rfl (LoadV.whole (te rfl) rfl (List.Mem.head _) rfl)) rfl rfl ?_) | (refine Xg.st (StF.alloc rfl Try.zeroValue28 rfl) rfl rfl ?_; rintro _ _ ⟨bx, rfl, rfl⟩) | (refine Xg.st0 (StF.storeAll (i := 0) rfl rfl rfl (te rfl) rfl rfl rfl rfl) rfl ?_; rintro _ _ ⟨rfl, rfl⟩; dsimp only [List.set]))))) | (refine XO.done rfl ?_; refine hK _ _ ?_; clear hK K) | refine X.seq rfl ?_ | refine X.region rfl (fun K hK => ?_))
    obtain ⟨b7, hb7⟩ : ∃ b, b = bx := ⟨_, rfl⟩
    rw [← hb7]
    clear hb7
    rw [Nat.zero_add l.length]
    obtain ⟨HH, hHH⟩ : ∃ HH, HH = (⟨b7, 0, cTm T ⟨some ⟨t1, 0, none⟩, k1, some ⟨t2, 0, none⟩, k2⟩, some 28, 11⟩ :: ⟨bm, 0, l.flatMap cCl, some 23, km * 2⟩ :: ⟨t1, 0, T.G.flatMap cI, some 3, k1 * 1⟩ :: ⟨t2, 0, T.S.flatMap cI, some 3, k2 * 1⟩ :: ⟨b3, 0, cTm T p, some 28, 11⟩ :: H : List Row) := ⟨_, rfl⟩
    have hm7 : (⟨b7, 0, cTm T ⟨some ⟨t1, 0, none⟩, k1, some ⟨t2, 0, none⟩, k2⟩, some 28, 11⟩ : Row) ∈ HH := by rw [hHH]; exact List.Mem.head _
    have hm3 : (⟨b3, 0, cTm T p, some 28, 11⟩ : Row) ∈ HH := by rw [hHH]; repeat (first | exact List.Mem.head _ | apply List.Mem.tail)
    have hmm : SlE HH (some ⟨bm, 0, none⟩) cCl 2 l := SlE.ofRow (cap := km * 2) (ow := some 23) (by rw [hHH]; repeat (first | exact List.Mem.head _ | apply List.Mem.tail)) (fun _ _ => rfl)
    have hsH : ∀ r ∈ H, r ∈ HH := fun r hr => by rw [hHH]; exact List.mem_append_right [_, _, _, _, _] hr
    have hO : TmOk HH T ⟨some ⟨t1, 0, none⟩, k1, some ⟨t2, 0, none⟩, k2⟩ := ownT T t1 k1 t2 k2 _ (by omega) (by omega) (by rw [hHH]; repeat (first | exact List.Mem.head _ | apply List.Mem.tail)) (by rw [hHH]; repeat (first | exact List.Mem.head _ | apply List.Mem.tail))
    have hI : TmOk HH T p := hT' _ hsH
    have hll : SlE HH a cCl 2 l := hl.sub hsH
    show XO _ _ _ _ _ (⟨b7, 0, cTm T ⟨some ⟨t1, 0, none⟩, k1, some ⟨t2, 0, none⟩, k2⟩, some 28, 11⟩ :: ⟨bm, 0, l.flatMap cCl, some 23, km * 2⟩ :: ⟨t1, 0, T.G.flatMap cI, some 3, k1 * 1⟩ :: ⟨t2, 0, T.S.flatMap cI, some 3, k2 * 1⟩ :: ⟨b3, 0, cTm T p, some 28, 11⟩ :: H) _
    rw [← hHH]
    have ap : ∀ {r : Row} (Z : List Row), r ∈ HH → r ∈ Z ++ HH := fun Z h => List.mem_append_right Z h
    have ap2 : ∀ {r : Row} (Z Z' : List Row), r ∈ HH → r ∈ Z ++ (Z' ++ HH) := fun Z Z' h => List.mem_append_right Z (List.mem_append_right Z' h)
    repeat' (first | (refine XO.op rfl ?_; (first | ((first | refine Xo.ng rfl ?_); (first | (refine Xg.call (EnF.st rfl (by (repeat (first | exact Args.nil | refine Args.cons rfl ?_)); done)) rfl rfl (ktotal_spec T _ m l (some ⟨bm, 0, none⟩) km _ hO hmm (by omega)) ?_; rintro _ _ ⟨w1, Z1, rfl, hw1, rfl⟩) | (refine Xg.call (EnF.st rfl (by (repeat (first | exact Args.nil | refine Args.cons rfl ?_)); done)) rfl rfl (rtotal_spec T p m l a cc _ (hI.sub (fun _ h => ap Z1 h)) (hll.sub (fun _ h => ap Z1 h)) (by omega)) ?_; rintro _ _ ⟨w2, Z2, rfl, hw2, rfl⟩) | (refine Xg.ev (EvF.loadV rfl rfl (LoadV.whole (te rfl) rfl (ap Z1 hm3) rfl)) rfl rfl ?_) | (refine Xg.ev (EvF.move rfl rfl) rfl rfl ?_) | (refine Xg.ev (EvF.assign rfl rfl) rfl rfl ?_) | (refine Xg.ev (EvF.lenSlice rfl rfl (te rfl)) rfl rfl ?_) | (refine Xg.ev (EvF.extract rfl rfl rfl) rfl rfl ?_))))) | (refine XO.done rfl ?_; refine hK _ _ ?_; clear hK K) | refine X.seq rfl ?_ | refine X.region rfl (fun K hK => ?_) | refine X.block rfl ?_)
    have hk := totI_len T m l
    obtain ⟨a1, c1, rfl, hs1⟩ := hw1.sl (H := Z2 ++ (Z1 ++ HH)) (fun r hr => List.mem_append_right Z2 (List.mem_append_left HH hr))
    obtain ⟨a2, c2, rfl, hs2⟩ := hw2.sl (H := Z2 ++ (Z1 ++ HH)) (fun r hr => List.mem_append_left _ hr)
    obtain ⟨HX, hHX⟩ : ∃ HX, HX = Z2 ++ (Z1 ++ HH) := ⟨_, rfl⟩
    rw [← hHX] at hs1 hs2 ⊢
    have hsX : ∀ r ∈ HH, r ∈ HX := fun r hr => by rw [hHX]; exact List.mem_append_right Z2 (List.mem_append_right Z1 hr)
    have hO2 := hO.sub hsX
    have hI2 := hI.sub hsX
    have hl2 : ∀ Z : List Row, SlE (Z ++ HX) a cCl 2 l := fun Z => hll.sub (fun r hr => List.mem_append_right Z (hsX r hr))
    have hmm2 : SlE HX (some ⟨bm, 0, none⟩) cCl 2 l := hmm.sub hsX
    clear hmm hll hI hO
    refine X.lp rfl (fun q F' H' => ∃ k : Nat, q = l.length - k ∧ k ≤ l.length ∧ HX = H' ∧ F' = [(2, .slice a l.length cc), (3, .pointer (some ⟨b3, 0, none⟩)), (7, .pointer (some ⟨b7, 0, none⟩)), (9, .int .i64 (totS T m l)), (10, .slice a1 (totI T m l).length c1), (11, .int .i64 (totE T m l)), (12, .int .i64 (totS T m l)), (13, .slice a2 (totI T m l).length c2), (14, .int .i64 (totE T m l)), (45, .slice (some ⟨bm, 0, none⟩) l.length km), (46, .int .i64 l.length), (47, .int .i64 k)])
      l.length [(2, .slice a l.length cc), (3, .pointer (some ⟨b3, 0, none⟩)), (7, .pointer (some ⟨b7, 0, none⟩)), (9, .int .i64 (totS T m l)), (10, .slice a1 (totI T m l).length c1), (11, .int .i64 (totE T m l)), (12, .int .i64 (totS T m l)), (13, .slice a2 (totI T m l).length c2), (14, .int .i64 (totE T m l)), (45, .slice (some ⟨bm, 0, none⟩) l.length km), (46, .int .i64 l.length), (47, .int .i64 (0 : Nat))] _ (by (repeat (first | exact Sub.nil _ | refine Sub.cons rfl ?_)); done) (by (repeat (first | exact List.Sublist.refl _ | apply List.Sublist.cons_cons | apply List.Sublist.cons)); done) ⟨0, by omega, by omega, rfl, rfl⟩ ?_
    rintro _ _ H2 ⟨k, rfl, hk2, hH, rfl⟩
    subst hH
    repeat' (first | (refine XO.op rfl ?_; (first | ((first | refine Xo.ng rfl ?_ | (refine Xo.g rfl rfl ?_; with_reducible refine Xw.tt ?_)); (first | (refine Xg.ev (EvF.move rfl rfl) rfl rfl ?_) | (refine Xg.ev (EvF.cmp rfl rfl rfl rfl) rfl rfl ?_) | (refine Xg.ev (EvF.indexSlice rfl rfl rfl (te rfl) (te rfl) (by omega) (by omega)) rfl rfl ?_))) | (refine Xo.g rfl rfl ?_; (first | (with_reducible refine Xw.case (fun h => ?_) (fun h => ?_) <;> simp only [h, decide_true, decide_false, Bool.not_true, Bool.not_false, and_self, and_true, true_and, and_false, false_and]))))) | (refine XO.done rfl ?_; refine hK _ _ ?_; clear hK K) | refine X.seq rfl ?_ | refine X.region rfl (fun K hK => ?_) | refine X.block rfl ?_ | (refine X.brk rfl ?_; repeat (first | refine blockX_hit rfl ?_ | refine blockX_miss (by decide) ?_)) | refine X.skip rfl ?_ | (refine X.ite rfl rfl (fun hc => ?_); (first | (with_reducible refine Xb.case hc (fun h => ?_) (fun h => ?_))) <;> clear hc))
    · obtain ⟨b, off, c, rfl, he⟩ := hl2 [] |>.elem (i := k) (by omega)
      repeat' (first | (refine XO.op rfl ?_; (first | ((first | refine Xo.ng rfl ?_); (first | (refine Xg.ev (EvF.loadV rfl rfl (LoadV.elA0 hmm2 he (te rfl) rfl (fun _ hm => hm) rfl)) rfl rfl ?_) | (refine Xg.ev (EvF.move rfl rfl) rfl rfl ?_) | (refine Xg.ev (EvF.assign rfl rfl) rfl rfl ?_) | (refine Xg.ev (EvF.add64 rfl rfl rfl (by omega) (by omega)) rfl rfl ?_) | (refine Xg.st (StF.alloc rfl Try.zeroValue26 rfl) rfl rfl ?_; rintro _ _ ⟨bx, rfl, rfl⟩) | (refine Xg.st0 (StF.storeAll (i := 0) rfl rfl rfl (te rfl) rfl rfl rfl rfl) rfl ?_; rintro _ _ ⟨rfl, rfl⟩; dsimp only [List.set]))))) | (refine XO.done rfl ?_; refine hK _ _ ?_; clear hK K) | (refine XQ.op rfl ?_; (first | ((first | refine Yo.ng rfl ?_); (first | (refine Yg.ev (EvF.loadV rfl rfl (LoadV.elA0 (hl2 [_]) he (te rfl) rfl (fun _ hm => hm) rfl)) rfl rfl ?_) | (refine Yg.ev (EvF.eqSt rfl rfl rfl (by kernel_rfl) (fun w => eqCl 9998 c c w) rfl) rfl rfl ?_) | (refine Yg.ev (EvF.move rfl rfl) rfl rfl ?_) | (refine Yg.ev (EvF.indexSlice rfl rfl rfl (te rfl) (te rfl) (by omega) (by omega)) rfl rfl ?_) | (refine Yg.ev (EvF.loadV rfl rfl (LoadV.whole (te rfl) rfl (List.Mem.head _) rfl)) rfl rfl ?_))))) | (refine XQ.done rfl ?_; refine hK _ ?_; clear hK K) | refine X.seq rfl ?_ | refine X.region rfl (fun K hK => ?_) | refine X.regionD rfl mixed (by kernel_rfl) (fun K hK => ?_) | refine X.skip rfl ?_ | refine X.ret rfl ?_ | (refine X.ite rfl rfl (fun hc => ?_); (first | (with_reducible refine Xb.caseN hc (fun h => ?_) (fun h => ?_))) <;> clear hc))
      · exfalso; exact absurd rfl (by assumption : ¬ c = c)
      · refine ⟨_, _, _, (by (repeat (first | exact Sub.nil _ | refine Sub.cons rfl ?_)); done), (by (repeat (first | exact List.Sublist.refl _ | apply List.Sublist.cons)); done), ⟨k + 1, rfl, by omega, rfl, rfl⟩, by omega⟩
    · repeat' (first | (refine XO.op rfl ?_; (first | ((first | refine Xo.ng rfl ?_ | (refine Xo.g rfl rfl ?_; with_reducible refine Xw.tt ?_)); (first | (refine Xg.ev (EvF.eqSelf rfl rfl rfl) rfl rfl ?_) | (refine Xg.ev (EvF.loadV rfl rfl (LoadV.whole (te rfl) rfl (hsX _ hm7) rfl)) rfl rfl ?_) | (refine Xg.ev (EvF.loadV rfl rfl (LoadV.whole (te rfl) rfl (hsX _ hm3) rfl)) rfl rfl ?_) | (refine Xg.call (EnF.st rfl (Args.cons rfl (Args.cons rfl Args.nil))) rfl rfl (sameI_self (totI T m l) a1 a2 c1 c2 _ hs1 hs2 (by omega)) ?_; rintro _ H9 ⟨rfl, hH9⟩; subst H9) | (refine Xg.call (EnF.st rfl (Args.cons rfl (Args.cons rfl Args.nil))) rfl rfl (sameT_self T _ p _ hO2 hI2) ?_; rintro _ H9 ⟨rfl, hH9⟩; subst H9) | (refine Xg.ev (EvF.move rfl rfl) rfl rfl ?_) | (refine Xg.ev (EvF.assign rfl rfl) rfl rfl ?_) | (refine Xg.ev (EvF.pickT rfl rfl rfl) rfl rfl ?_))))) | (refine XO.done rfl ?_; refine hK _ _ ?_; clear hK K) | refine X.ret rfl ?_)
      exact ret_one (by first | exact .inr rfl | exact .inl rfl) Try.results8 rfl (H' := _) (List.Sublist.refl _) rfl
    · exact absurd rfl (by assumption : ¬ totS T m l = totS T m l)
end Go.Proofs.Ytfpmhdjhcoogpaa
end
section
set_option linter.unusedVariables false
set_option linter.unusedSimpArgs false
namespace Go.Proofs.Ytfpmhdjhcoogpaa
open Go Go.Fw
set_option maxRecDepth 10000
/-! terms that are changed -/
def stepT (T : Tm) (g n : Int) : Tm := { T with G := T.G.set (g - 1).toNat n }
noncomputable def vld (U : Tm) : Tm × Int := if tmOk U then (U, 0) else (Tz, 40)
noncomputable def stepF (T : Tm) (g n : Int) : Tm × Int := if tmOk T then (if 1 ≤ g ∧ g ≤ 9 then vld (stepT T g n) else (Tz, 41)) else (Tz, 40)
def rebT (T : Tm) (c : Cl) : Tm := { T with g := c.g, s := c.s, price := val T c.g c.s, G := T.G.map (fun n => n - at1 T.G c.g), S := T.S.map (fun n => n - at1 T.S c.s) }
noncomputable def rebF (T : Tm) (c : Cl) : Tm × Int := if askedE T c = 0 then (if may T c = true then vld (rebT T c) else (Tz, 6)) else (Tz, askedE T c)
def withB (T : Tm) (n : Int) : Tm := { T with bales := n }
noncomputable def joinF (T U : Tm) : Tm × Int := if tmOk T ∧ tmOk U then (if T = withB U T.bales then (if T.bales + U.bales > 20 then (Tz, 9) else (withB T (T.bales + U.bales), 0)) else (Tz, 2)) else (Tz, 40)
noncomputable def splF (T : Tm) (n : Int) : Tm × Tm × Int := if tmOk T then (if 1 ≤ n ∧ n ≤ T.bales - 1 then (withB T n, withB T (T.bales - n), 0) else (Tz, Tz, 2)) else (Tz, Tz, 40)
/-- where tables of one's own lie -/
def plT (t1 k1 t2 k2 : Nat) : Pt := ⟨some ⟨t1, 0, none⟩, k1, some ⟨t2, 0, none⟩, k2⟩
def rI (l : List Int) (b k : Nat) : Row := ⟨b, 0, l.flatMap cI, some 3, k * 1⟩
/-- terms with tables of their own, or none -/
def OwnTm (Z : List Row) (T : Tm) (p : Pt) : Prop := (T = Tz ∧ p = pz ∧ Z = []) ∨ ∃ t1 k1 t2 k2, p = plT t1 k1 t2 k2 ∧ Z.Perm [rI T.G t1 k1, rI T.S t2 k2]
theorem OwnTm.zero : OwnTm [] Tz pz := .inl ⟨rfl, rfl, rfl⟩
theorem OwnTm.two (T : Tm) (t1 k1 t2 k2 : Nat) : OwnTm [rI T.G t1 k1, rI T.S t2 k2] T (plT t1 k1 t2 k2) := .inr ⟨t1, k1, t2, k2, rfl, List.Perm.refl _⟩
theorem TmOk.zero (H : List Row) : TmOk H Tz pz := ⟨sleNil, sleNil, Nat.zero_le _, Nat.zero_le _⟩
theorem OwnTm.ok {Z : List Row} {T : Tm} {p : Pt} (h : OwnTm Z T p) (h1 : T.G.length ≤ 1000000) (h2 : T.S.length ≤ 1000000) : TmOk Z T p := by
  rcases h with ⟨rfl, rfl, rfl⟩ | ⟨t1, k1, t2, k2, rfl, hp⟩
  · exact TmOk.zero _
  · exact ⟨SlE.ofRow (hp.mem_iff.2 (List.Mem.head _)) (fun _ _ => rfl), SlE.ofRow (hp.mem_iff.2 (List.Mem.tail _ (List.Mem.head _))) (fun _ _ => rfl), h1, h2⟩
/-- what a call returns: terms of its own, and an error -/
def ProgT (F : Tm × Int) (H : List Row) (v : Value) (H' : List Row) : Prop := ∃ p Z, v = .tuple #[.agg (cTm F.1 p).toArray, .int .i64 F.2] ∧ OwnTm Z F.1 p ∧ H' = Z ++ H
theorem EvF.tz {n : Nat} {H : List Row} {F : FS} {o : Oper} (h : o.op = .build 28 #[]) : EvF Try.prog n H F o (.agg (cTm Tz pz).toArray) := EvF.build (cs := cTm Tz pz) h ArgsP.nil (te rfl) (Places.cons (te rfl) (Places.cons (te rfl) (Places.cons (te rfl) (Places.cons (te rfl) (Places.cons (te rfl) (Places.cons (te rfl) (Places.cons (te rfl) (Places.cons (te rfl) (Places.cons (te rfl) Places.nil))))))))) Try.zeroValue28 rfl
def tsCp : List TOp := [⟨some 3, [], [], []⟩, ⟨some 4, [0], [0], []⟩, ⟨some 5, [0, 1], [1], []⟩, ⟨some 6, [], [], []⟩, ⟨some 7, [3], [3], []⟩, ⟨some 8, [0, 1, 2, 3, 4], [4], []⟩, ⟨some 9, [0, 1, 2, 3, 4], [], []⟩, ⟨none, [0, 1, 2, 3, 4, 5, 6], [6, 2], [10]⟩, ⟨some 10, [0, 1, 2, 3, 4, 5, 6, 7], [], []⟩, ⟨none, [0, 1, 2, 3, 4, 5, 6, 7, 8], [8, 5], [7]⟩, ⟨none, [], [], []⟩]
def valCp (b1 b2 : Nat) (T : Tm) (a1 a2 : Addr) (c1 c2 : Nat) (k : Nat) (env : Env) : Value :=
  match k with
  | 0 => .pointer (some ⟨b1, 5, none⟩)
  | 1 => .slice (some a1) T.G.length c1
  | 2 => .slice (some ⟨(env 2).1, 0, none⟩) T.G.length (env 2).2
  | 3 => .pointer (some ⟨b1, 6, none⟩)
  | 4 => .slice (some a2) T.S.length c2
  | 5 => .slice (some ⟨(env 5).1, 0, none⟩) T.S.length (env 5).2
  | 6 => .pointer (some ⟨b1, 5, none⟩)
  | 7 => undef
  | 8 => .pointer (some ⟨b1, 6, none⟩)
  | 9 => undef
  | _ => undef
def rowsCp (b1 b2 : Nat) (T : Tm) (a1 a2 : Addr) (c1 c2 : Nat) (k : Nat) (env : Env) : List Row :=
  match k with
  | 2 => [rI T.G (env 2).1 (env 2).2]
  | 5 => [rI T.S (env 5).1 (env 5).2]
  | 7 => [⟨b1, 0, cTm T ⟨some ⟨(env 2).1, 0, none⟩, (env 2).2, some a2, c2⟩, some 28, 11⟩]
  | 9 => [⟨b1, 0, cTm T (plT (env 2).1 (env 2).2 (env 5).1 (env 5).2), some 28, 11⟩]
  | 10 => [⟨b1, 0, cTm T ⟨some a1, c1, some a2, c2⟩, some 28, 11⟩]
  | _ => []
theorem locCp (b1 b2 : Nat) (T : Tm) (a1 a2 : Addr) (c1 c2 : Nat) : ∀ k env i q9, i ≠ k → (tAt tsCp k).sup.contains i = false → valCp b1 b2 T a1 a2 c1 c2 k (upd env i q9) = valCp b1 b2 T a1 a2 c1 c2 k env ∧ rowsCp b1 b2 T a1 a2 c1 c2 k (upd env i q9) = rowsCp b1 b2 T a1 a2 c1 c2 k env := by
  intro k env i q hk hs
  have hu : ∀ j, j ≠ i → upd env i q j = env j := fun j hj => by unfold upd; rw [if_neg hj]
  match k, hk, hs with
  | 0, _, _ => exact ⟨rfl, rfl⟩
  | 1, _, _ => exact ⟨rfl, rfl⟩
  | 2, hk, hs => exact ⟨by simp only [valCp, hu 2 (fun e => hk e.symm)], by simp only [rowsCp, hu 2 (fun e => hk e.symm)]⟩
  | 3, _, _ => exact ⟨rfl, rfl⟩
  | 4, _, _ => exact ⟨rfl, rfl⟩
  | 5, hk, hs => exact ⟨by simp only [valCp, hu 5 (fun e => hk e.symm)], by simp only [rowsCp, hu 5 (fun e => hk e.symm)]⟩
  | 6, _, _ => exact ⟨rfl, rfl⟩
  | 7, hk, hs => exact ⟨by simp only [valCp, hu 2 (by rintro rfl; cases hs)], by simp only [rowsCp, hu 2 (by rintro rfl; cases hs)]⟩
  | 8, _, _ => exact ⟨rfl, rfl⟩
  | 9, hk, hs => exact ⟨by simp only [valCp, hu 2 (by rintro rfl; cases hs), hu 5 (by rintro rfl; cases hs)], by simp only [rowsCp, hu 2 (by rintro rfl; cases hs), hu 5 (by rintro rfl; cases hs)]⟩
  | 10, _, _ => exact ⟨rfl, rfl⟩
  | _ + 11, _, _ => exact ⟨rfl, rfl⟩
def rdCp (k : Nat) : List Nat := match k with
  | 1 => [10]
  | 4 => [10]
  | _ => []
set_option maxHeartbeats 8000000 in
theorem copied_spec (T : Tm) (p : Pt) (H : List Row) (hT : TmOk H T p) (h1 : 0 < T.G.length) (h2 : 0 < T.S.length) : Fc Try.prog 99 [.agg (cTm T p).toArray] H (fun v H' => ∃ t1 k1 t2 k2, v = .agg (cTm T (plT t1 k1 t2 k2)).toArray ∧ H' = rI T.G t1 k1 :: rI T.S t2 k2 :: H) := by
  have l1 := hT.l1
  have l2 := hT.l2
  obtain ⟨b1, o1, e1, he1, _⟩ := hT.gr.elem (i := 0) (by omega)
  obtain ⟨b2, o2, e2, he2, _⟩ := hT.st.elem (i := 0) (by omega)
  obtain ⟨a1, c1, a2, c2⟩ := p
  simp only at he1 he2
  subst he1 he2
  refine Fc.mk (callable Try.call99) Try.func99 rfl Try.ntmps99 rfl ?_; dsimp only [fr]
  refine X.seq rfl ?_; refine X.region rfl (fun K hK => ?_); repeat' (first | (refine XO.op rfl ?_; (first | ((first | refine Xo.ng rfl ?_); (first | (refine Xg.st (StF.boxAgg rfl rfl) rfl rfl ?_; rintro _ _ ⟨bx, rfl, rfl⟩) | (refine Xg.st (StF.alloc rfl Try.zeroValue28 rfl) rfl rfl ?_; rintro _ _ ⟨bx, rfl, rfl⟩))))) | (refine XO.done rfl ?_; refine hK _ _ ?_; clear hK K))
  rename_i bb; rename Nat => br
  refine X.seq rfl ?_
  refine X.permH (H' := ⟨bb, 0, cTm T ⟨some ⟨b1, o1, none⟩, c1, some ⟨b2, o2, none⟩, c2⟩, some 28, 11⟩ :: ⟨br, 0, cTm Tz pz, some 28, 11⟩ :: H) (List.Perm.swap _ _ _) ?_
  refine X.regionRd tsCp rdCp [1, 2] [(1, .pointer (some ⟨bb, 0, none⟩)), (2, .pointer (some ⟨br, 0, none⟩))] (valCp bb br T ⟨b1, o1, none⟩ ⟨b2, o2, none⟩ c1 c2) (rowsCp bb br T ⟨b1, o1, none⟩ ⟨b2, o2, none⟩ c1 c2) (fun _ => (0, 0)) (⟨br, 0, cTm Tz pz, some 28, 11⟩ :: H) rfl mixed (by (repeat (first | exact Sub.nil _ | refine Sub.cons rfl ?_)); done) rfl (by kernel_rfl) (by kernel_rfl) (locCp bb br T ⟨b1, o1, none⟩ ⟨b2, o2, none⟩ c1 c2) (List.Sublist.refl _) ?_ ?_
  · have hs : ∀ (S Z : List Row), (∀ r ∈ ⟨br, 0, cTm Tz pz, some 28, 11⟩ :: H, r ∈ S) → TmOk (Z ++ S) T ⟨some ⟨b1, o1, none⟩, c1, some ⟨b2, o2, none⟩, c2⟩ := fun S Z hS => hT.sub (fun r hr => List.mem_append_right _ (hS r (List.mem_cons_of_mem _ hr)))
    repeat' (first | exact AllF.done rfl | (refine AllF.step rfl ?_ ?_; · (first | exact (Ob.ng rfl (ObK.pure (fun env R hR => by exact ⟨_, EvF.fieldAddr rfl rfl (te rfl) rfl (te rfl) (by decide), rfl⟩) rfl (fun _ => rfl))).toR | (refine ObR.ng rfl ?_; (first | (exact fun env S hS hrd => (StF.ofEv (EvF.loadV rfl rfl (LoadV.own (te rfl) rfl (hrd 10 (List.Mem.head _) _ (List.Mem.head _)) rfl))).op.mono (fun v H' ⟨hv, hH⟩ => ⟨(0, 0), fun _ => hv, by rw [hH]; exact List.Perm.refl _⟩)) | (exact fun env S hS hrd => (OpF.call (EnF.st rfl (Args.cons rfl Args.nil)) (cloneI_spec T.G _ c1 _ (hs S [] hS).gr l1)).mono (fun v H' ⟨b, k, hv, hH⟩ => ⟨(b, k), fun _ => hv, by rw [hH]; exact List.Perm.refl _⟩)) | (exact fun env S hS hrd => (OpF.call (EnF.st rfl (Args.cons rfl Args.nil)) (cloneI_spec T.S _ c2 _ (hs S [] hS).st l2)).mono (fun v H' ⟨b, k, hv, hH⟩ => ⟨(b, k), fun _ => hv, by rw [hH]; exact List.Perm.refl _⟩)) | (exact fun env S hS hrd => (StF.storeOne (i := 0) (cs := cTm T ⟨some ⟨b1, o1, none⟩, c1, some ⟨b2, o2, none⟩, c2⟩) rfl rfl rfl rfl (te rfl) rfl rfl (Nat.le_of_ble_eq_true rfl)).op.mono (fun v H' ⟨hv, hH⟩ => ⟨(0, 0), fun h => absurd rfl h, by rw [hH]; exact List.Perm.refl _⟩)) | (exact fun env S hS hrd => (StF.storeOne (i := 0) (cs := cTm T ⟨some ⟨(env 2).1, 0, none⟩, (env 2).2, some ⟨b2, o2, none⟩, c2⟩) rfl rfl rfl rfl (te rfl) rfl rfl (Nat.le_of_ble_eq_true rfl)).op.mono (fun v H' ⟨hv, hH⟩ => ⟨(0, 0), fun h => absurd rfl h, by rw [hH]; exact List.Perm.refl _⟩)))))))
  · intro env t ha hv
    refine ⟨_, ha, ?_⟩
    show X _ _ _ _ (rI T.G (env 2).1 (env 2).2 :: rI T.S (env 5).1 (env 5).2 :: ⟨bb, 0, cTm T (plT (env 2).1 (env 2).2 (env 5).1 (env 5).2), some 28, 11⟩ :: ⟨br, 0, cTm Tz pz, some 28, 11⟩ :: H) _
    repeat' (first | (refine XO.op rfl ?_; (first | ((first | refine Xo.ng rfl ?_); (first | (refine Xg.ev (EvF.loadV rfl rfl (LoadV.whole (te rfl) rfl (List.Mem.tail _ (List.Mem.tail _ (List.Mem.head _))) rfl)) rfl rfl ?_) | (refine Xg.st0 (StF.storeAll (i := 3) rfl rfl rfl (te rfl) rfl rfl rfl rfl) rfl ?_; rintro _ _ ⟨rfl, rfl⟩; dsimp only [List.set]))))) | (refine XO.done rfl ?_; refine hK _ _ ?_; clear hK K) | refine X.seq rfl ?_ | refine X.region rfl (fun K hK => ?_) | refine X.ret rfl ?_)
    exact ret_one (v := .agg (cTm T (plT (env 2).1 (env 2).2 (env 5).1 (env 5).2)).toArray) (by first | exact .inr rfl | exact .inl rfl) Try.results99 ⟨_, rfl, LoadV.whole (te rfl) rfl (List.Mem.tail _ (List.Mem.tail _ (List.Mem.tail _ (List.Mem.head _)))) rfl⟩ (H' := rI T.G (env 2).1 (env 2).2 :: rI T.S (env 5).1 (env 5).2 :: H) (by (repeat (first | exact List.Sublist.refl _ | apply List.Sublist.cons_cons | apply List.Sublist.cons)); done) ⟨_, _, _, _, rfl, rfl⟩
set_option maxHeartbeats 8000000 in
theorem withBales_spec (T : Tm) (p : Pt) (n : Int) (H : List Row) (hT : TmOk H T p) (h1 : 0 < T.G.length) (h2 : 0 < T.S.length) : Fc Try.prog 103 [.agg (cTm T p).toArray, .int .i64 n] H (fun v H' => ∃ t1 k1 t2 k2, v = .agg (cTm (withB T n) (plT t1 k1 t2 k2)).toArray ∧ H' = rI T.G t1 k1 :: rI T.S t2 k2 :: H) := by
  refine Fc.mk (callable Try.call103) Try.func103 rfl Try.ntmps103 rfl ?_; dsimp only [fr]
  repeat' (first | (refine XO.op rfl ?_; (first | ((first | refine Xo.ng rfl ?_); (first | (refine Xg.call (EnF.st rfl (by (repeat (first | exact Args.nil | refine Args.cons rfl ?_)); done)) rfl rfl (copied_spec T p _ (hT.sub (fun _ hm => List.Mem.tail _ (List.Mem.tail _ hm))) h1 h2) ?_; rintro _ _ ⟨t1, k1, t2, k2, rfl, rfl⟩) | (refine Xg.ev (EvF.move rfl rfl) rfl rfl ?_) | (refine Xg.ev (EvF.fieldAddr rfl rfl (te rfl) rfl (te rfl) (by decide)) rfl rfl ?_) | (refine Xg.ev (EvF.loadV rfl rfl (LoadV.whole (te rfl) rfl (List.Mem.tail _ (List.Mem.head _)) rfl)) rfl rfl ?_) | (refine Xg.ev (EvF.loadV rfl rfl (LoadV.whole (te rfl) rfl (List.Mem.tail _ (List.Mem.tail _ (List.Mem.tail _ (List.Mem.head _)))) rfl)) rfl rfl ?_) | (refine Xg.st (StF.boxAgg rfl rfl) rfl rfl ?_; rintro _ _ ⟨bx, rfl, rfl⟩) | (refine Xg.st (StF.alloc rfl Try.zeroValue28 rfl) rfl rfl ?_; rintro _ _ ⟨bx, rfl, rfl⟩) | (refine Xg.st0 (StF.storeAll (i := 2) rfl rfl rfl (te rfl) rfl rfl rfl rfl) rfl ?_; rintro _ _ ⟨rfl, rfl⟩; dsimp only [List.set]) | (refine Xg.st0 (StF.storeOne (i := 3) rfl rfl rfl rfl (te rfl) rfl rfl (Nat.le_of_ble_eq_true rfl)) rfl ?_; rintro _ _ ⟨rfl, rfl⟩; dsimp only [List.set]) | (refine Xg.st0 (StF.storeAll (i := 3) rfl rfl rfl (te rfl) rfl rfl rfl rfl) rfl ?_; rintro _ _ ⟨rfl, rfl⟩; dsimp only [List.set]))))) | (refine XO.done rfl ?_; refine hK _ _ ?_; clear hK K) | refine X.seq rfl ?_ | refine X.region rfl (fun K hK => ?_) | refine X.ret rfl ?_)
  exact ret_one (v := .agg (cTm (withB T n) (plT t1 k1 t2 k2)).toArray) (by first | exact .inr rfl | exact .inl rfl) Try.results103 ⟨_, rfl, LoadV.whole (te rfl) rfl (List.Mem.tail _ (List.Mem.tail _ (List.Mem.head _))) rfl⟩ (H' := rI T.G t1 k1 :: rI T.S t2 k2 :: H) (by (repeat (first | exact List.Sublist.refl _ | apply List.Sublist.cons_cons | apply List.Sublist.cons)); done) ⟨_, _, _, _, rfl, rfl⟩
theorem vld_ok {U : Tm} (h : tmOk U) : vld U = (U, 0) := if_pos h
theorem vld_no {U : Tm} (h : ¬ tmOk U) : vld U = (Tz, 40) := if_neg h
set_option maxHeartbeats 8000000 in
theorem ifValid_spec (T : Tm) (p : Pt) (H : List Row) (hT : TmOk H T p) : Fc Try.prog 100 [.agg (cTm T p).toArray] H (fun v H' => (∃ q, v = .tuple #[.agg (cTm (vld T).1 q).toArray, .int .i64 (vld T).2] ∧ ((tmOk T ∧ q = p) ∨ (¬ tmOk T ∧ q = pz))) ∧ H' = H) := by
  have hT2 : ∀ r1 r2, TmOk (r1 :: r2 :: H) T p := fun r1 r2 => hT.sub (fun _ h => List.Mem.tail _ (List.Mem.tail _ h))
  by_cases hok : tmOk T
  · have hc : ∀ H, TmOk H T p → Fc Try.prog 16 [.agg (cTm T p).toArray] H (fun v H' => v = .int .i64 0 ∧ H' = H) := fun H h => by
      have := check_spec T p H h
      rwa [if_pos hok] at this
    rw [vld_ok hok]
    refine Fc.mk (callable Try.call100) Try.func100 rfl Try.ntmps100 rfl ?_; dsimp only [fr]
    repeat' (first | (refine XO.op rfl ?_; (first | ((first | refine Xo.ng rfl ?_); (first | (refine Xg.call (EnF.st rfl (Args.cons rfl Args.nil)) rfl rfl (hc _ (hT2 _ _)) ?_; rintro _ H9 ⟨rfl, hH9⟩; subst H9) | (refine Xg.ev (EvF.move rfl rfl) rfl rfl ?_) | (refine Xg.ev (EvF.assign rfl rfl) rfl rfl ?_) | (refine Xg.ev (EvF.cmp rfl rfl rfl rfl) rfl rfl ?_) | (refine Xg.ev (EvF.loadV rfl rfl (LoadV.whole (te rfl) rfl (List.Mem.tail _ (List.Mem.head _)) rfl)) rfl rfl ?_) | (refine Xg.st (StF.boxAgg rfl rfl) rfl rfl ?_; rintro _ _ ⟨bx, rfl, rfl⟩) | (refine Xg.st (StF.alloc rfl Try.zeroValue28 rfl) rfl rfl ?_; rintro _ _ ⟨bx, rfl, rfl⟩) | (refine Xg.st0 (StF.storeAll (i := 0) rfl rfl rfl (te rfl) rfl rfl rfl rfl) rfl ?_; rintro _ _ ⟨rfl, rfl⟩; dsimp only [List.set]))))) | (refine XO.done rfl ?_; refine hK _ _ ?_; clear hK K) | refine X.seq rfl ?_ | refine X.region rfl (fun K hK => ?_) | refine X.skip rfl ?_ | refine X.ret rfl ?_ | (refine X.ite rfl rfl (fun hc => ?_); (first | (with_reducible refine Xb.caseN hc (fun h => ?_) (fun h => ?_))) <;> clear hc))
    all_goals try (exfalso; omega)
    exact ret_two (v := .agg (cTm T p).toArray) (by first | exact .inr rfl | exact .inl rfl) Try.results100 ⟨_, rfl, LoadV.whole (te rfl) rfl (List.Mem.head _) rfl⟩ rfl (H' := H) (by (repeat (first | exact List.Sublist.refl _ | apply List.Sublist.cons)); done) ⟨⟨_, rfl, .inl ⟨hok, rfl⟩⟩, rfl⟩
  · have hc : ∀ H, TmOk H T p → Fc Try.prog 16 [.agg (cTm T p).toArray] H (fun v H' => v = .int .i64 40 ∧ H' = H) := fun H h => by
      have := check_spec T p H h
      rwa [if_neg hok] at this
    rw [vld_no hok]
    refine Fc.mk (callable Try.call100) Try.func100 rfl Try.ntmps100 rfl ?_; dsimp only [fr]
    repeat' (first | (refine XO.op rfl ?_; (first | ((first | refine Xo.ng rfl ?_); (first | (refine Xg.call (EnF.st rfl (Args.cons rfl Args.nil)) rfl rfl (hc _ (hT2 _ _)) ?_; rintro _ H9 ⟨rfl, hH9⟩; subst H9) | (refine Xg.ev (EvF.tz rfl) rfl rfl ?_) | (refine Xg.ev (EvF.move rfl rfl) rfl rfl ?_) | (refine Xg.ev (EvF.assign rfl rfl) rfl rfl ?_) | (refine Xg.ev (EvF.cmp rfl rfl rfl rfl) rfl rfl ?_) | (refine Xg.ev (EvF.loadV rfl rfl (LoadV.whole (te rfl) rfl (List.Mem.tail _ (List.Mem.head _)) rfl)) rfl rfl ?_) | (refine Xg.st (StF.boxAgg rfl rfl) rfl rfl ?_; rintro _ _ ⟨bx, rfl, rfl⟩) | (refine Xg.st (StF.alloc rfl Try.zeroValue28 rfl) rfl rfl ?_; rintro _ _ ⟨bx, rfl, rfl⟩) | (refine Xg.st0 (StF.storeAll (i := 0) rfl rfl rfl (te rfl) rfl rfl rfl rfl) rfl ?_; rintro _ _ ⟨rfl, rfl⟩; dsimp only [List.set]))))) | (refine XO.done rfl ?_; refine hK _ _ ?_; clear hK K) | refine X.seq rfl ?_ | refine X.region rfl (fun K hK => ?_) | refine X.skip rfl ?_ | refine X.ret rfl ?_ | (refine X.ite rfl rfl (fun hc => ?_); (first | (with_reducible refine Xb.caseN hc (fun h => ?_) (fun h => ?_))) <;> clear hc))
    all_goals try (exfalso; omega)
    exact ret_two (v := .agg (cTm Tz pz).toArray) (by first | exact .inr rfl | exact .inl rfl) Try.results100 ⟨_, rfl, LoadV.whole (te rfl) rfl (List.Mem.head _) rfl⟩ rfl (H' := H) (by (repeat (first | exact List.Sublist.refl _ | apply List.Sublist.cons)); done) ⟨⟨_, rfl, .inr ⟨hok, rfl⟩⟩, rfl⟩
end Go.Proofs.Ytfpmhdjhcoogpaa
end
section
set_option linter.unusedVariables false
set_option linter.unusedSimpArgs false
namespace Go.Proofs.Ytfpmhdjhcoogpaa
open Go Go.Fw
set_option maxRecDepth 10000
def knw (so no : Bool) : Int := if no = false then 2 else if so = false then 0 else 1
theorem lknown_spec (so no : Bool) (H : List Row) : Fc Try.prog 70 [.bool so, .bool no] H (fun v H' => v = .int .u8 (knw so no) ∧ H' = H) := by
  cases so <;> cases no
  all_goals (refine Fc.mk (callable Try.call70) Try.func70 rfl Try.ntmps70 rfl ?_; dsimp only [fr])
  all_goals repeat' (first | (refine XO.op rfl ?_; (first | ((first | refine Xo.ng rfl ?_); (first | (refine Xg.ev (EvF.move rfl rfl) rfl rfl ?_) | (refine Xg.ev (EvF.assign rfl rfl) rfl rfl ?_) | (refine Xg.ev (EvF.not rfl rfl) rfl rfl ?_))))) | (refine XO.done rfl ?_; refine hK _ _ ?_; clear hK K) | refine X.seq rfl ?_ | refine X.region rfl (fun K hK => ?_) | refine X.block rfl ?_ | refine X.skip rfl ?_ | refine X.ret rfl ?_ | (refine X.ite rfl rfl (fun hc => ?_); (first | (with_reducible refine Xb.caseB hc (fun h => ?_) (fun h => ?_))) <;> clear hc))
  all_goals (refine ret_one (by first | exact .inr rfl | exact .inl rfl) Try.results70 rfl (H' := H) (by (repeat (first | exact List.Sublist.refl _ | apply List.Sublist.cons)); done) ?_; simp only [and_true, true_and])
  all_goals first | (exfalso; contradiction) | rfl
def sizeL (l : Lo) : Int := (l.g2 - l.g1 + 1) * (l.s2 - l.s1 + 1)
def cntM (T : Tm) (l : Lo) (m : Int) : Int := if T.dl ≤ m ∧ m ≤ T.dh then ((cls T l).length : Int) else 0
def knoV (T : Tm) (l : Lo) (m : Int) : Int := knw (decide (cntM T l m > 0)) (decide (cntM T l m < sizeL l))
theorem known1_spec (T : Tm) (p : Pt) (l : Lo) (m : Int) (bm bl capm capl : Nat) (owm owl : Option Kd) (H : List Row) (hm : ⟨bm, 0, [.int .i64 m], owm, capm⟩ ∈ H) (hl : ⟨bl, 0, cLo l, owl, capl⟩ ∈ H) (hin : inb l) (h1 : l.g1 ≤ l.g2) (h2 : l.s1 ≤ l.s2) :
    Fc Try.prog 68 ([.agg (cTm T p).toArray] ++ [.pointer (some ⟨bm, 0, none⟩), .pointer (some ⟨bl, 0, none⟩)]) H (fun v H' => v = .int .u8 (knoV T l m) ∧ H' = H) := by
  show Fc Try.prog 68 [.agg (cTm T p).toArray, .pointer (some ⟨bm, 0, none⟩), .pointer (some ⟨bl, 0, none⟩)] H _
  have hc := cls_len T hin
  have hi := hin
  unfold inb at hi
  have hq := fun H => size_spec l H (by omega) h1 h2
  unfold knoV cntM
  refine Fc.mk (callable Try.call68) Try.func68 rfl Try.ntmps68 rfl ?_; dsimp only [fr]
  repeat' (first | (refine XO.op rfl ?_; (first | ((first | refine Xo.ng rfl ?_); (first | (refine Xg.ev (EvF.loadV rfl rfl (LoadV.ownAgg (vs := cSp ⟨T.dl, T.dh⟩) (te rfl) rfl (List.Mem.head _) rfl rfl)) rfl rfl ?_) | (refine Xg.ev (EvF.loadV rfl rfl (LoadV.own (te rfl) rfl (List.Mem.tail _ hm) rfl)) rfl rfl ?_) | (refine Xg.ev (EvF.loadV rfl rfl (LoadV.whole (te rfl) rfl (List.Mem.tail _ (List.Mem.tail _ hl)) rfl)) rfl rfl ?_) | (refine Xg.st (StF.buildOne rfl elI rfl rfl rfl (by decide) (by decide)) rfl rfl ?_; rintro _ _ ⟨bs, rfl, rfl⟩) | (refine Xg.call (EnF.st rfl (Args.cons rfl (Args.cons rfl Args.nil))) rfl rfl (within1_spec ⟨T.dl, T.dh⟩ m _ _ _ _ _ (List.Mem.head _)) ?_; rintro _ H9 ⟨rfl, hH9⟩; subst H9) | (refine Xg.call (EnF.st rfl (Args.cons rfl (Args.cons rfl Args.nil))) rfl rfl (count_spec T p l _ hin (by omega)) ?_; rintro _ H9 ⟨rfl, hH9⟩; subst H9) | (refine Xg.call (EnF.st rfl (Args.cons rfl Args.nil)) rfl rfl (hq _) ?_; rintro _ H9 ⟨rfl, hH9⟩; subst H9) | (refine Xg.call (EnF.st rfl (Args.cons rfl (Args.cons rfl Args.nil))) rfl rfl (lknown_spec _ _ _) ?_; rintro _ H9 ⟨rfl, hH9⟩; subst H9) | (refine Xg.ev (EvF.move rfl rfl) rfl rfl ?_) | (refine Xg.ev (EvF.assign rfl rfl) rfl rfl ?_) | (refine Xg.ev (EvF.cmp rfl rfl rfl rfl) rfl rfl ?_) | (refine Xg.ev (EvF.fieldAddr rfl rfl (te rfl) rfl (te rfl) (by decide)) rfl rfl ?_) | (refine Xg.ev (EvF.loadV rfl rfl (LoadV.whole (te rfl) rfl (List.Mem.tail _ (List.Mem.head _)) rfl)) rfl rfl ?_) | (refine Xg.st (StF.boxAgg rfl rfl) rfl rfl ?_; rintro _ _ ⟨bx, rfl, rfl⟩))))) | (refine XO.done rfl ?_; refine hK _ _ ?_; clear hK K) | refine X.seq rfl ?_ | refine X.region rfl (fun K hK => ?_) | refine X.skip rfl ?_ | refine X.ret rfl ?_ | (refine X.ite rfl rfl (fun hc => ?_); (first | (with_reducible refine Xb.case hc (fun h => ?_) (fun h => ?_))) <;> clear hc))
  all_goals (refine ret_one (by first | exact .inr rfl | exact .inl rfl) Try.results68 rfl (H' := H) (by (repeat (first | exact List.Sublist.refl _ | apply List.Sublist.cons)); done) ?_; simp only [and_true, true_and])
  · rw [if_pos (by assumption)]; rfl
  · rw [if_neg (by assumption)]; rfl
def vals (T : Tm) (l : Lo) : List Int := (cls T l).map (fun c => val T c.g c.s)
def rng (T : Tm) (l : Lo) : Sp := ⟨minL (vals T l), maxL (vals T l)⟩
theorem cls_in {T : Tm} {l : Lo} (h : inb l) {c : Cl} (hc : c ∈ cls T l) : (1 ≤ c.g ∧ c.g ≤ 9) ∧ (1 ≤ c.s ∧ c.s ≤ 9) := by
  unfold inb at h
  unfold cls clsI rowC at hc
  obtain ⟨g, hg, hc⟩ := List.mem_flatMap.1 hc
  obtain ⟨s, hs, rfl⟩ := List.mem_map.1 (List.mem_filter.1 hc).1
  unfold ir at hg hs
  obtain ⟨i, hi, rfl⟩ := List.mem_map.1 hg
  obtain ⟨j, hj, rfl⟩ := List.mem_map.1 hs
  rw [List.mem_range] at hi hj
  dsimp only
  omega
theorem OutC.pos {k : List Cl} {v : Value} {Z : List Row} (h : OutC k v Z) (h0 : 0 < k.length) : ∃ b q, v = .slice (some ⟨b, 0, none⟩) k.length q ∧ Z = [⟨b, 0, k.flatMap cCl, some 23, q * 2⟩] := by
  rcases h with ⟨e0, _, _⟩ | h
  · rw [e0] at h0; exact absurd h0 (Nat.lt_irrefl _)
  · exact h
def tsRn : List TOp := [⟨some 5, [], [], []⟩, ⟨some 6, [], [], []⟩, ⟨some 7, [0, 1], [0, 1], []⟩, ⟨some 8, [0, 1, 2], [2], [2]⟩, ⟨some 9, [], [], []⟩, ⟨some 10, [4], [4], []⟩, ⟨some 11, [0, 1, 2, 3, 4, 5], [3, 5], [3]⟩, ⟨some 4, [0, 1, 2, 3, 4, 5, 6], [6], []⟩]
def valRn (b1 b2 b3 : Nat) (T : Tm) (p : Pt) (l : Lo) (k : Nat) (env : Env) : Value :=
  match k with
  | 0 => .agg (cTm T p).toArray
  | 1 => .agg (cLo l).toArray
  | 2 => .func (.func 111) #[] #[.pointer (some ⟨(env 2).1, 0, none⟩), .pointer (some ⟨(env 2).2, 0, none⟩)]
  | 3 => .slice (some ⟨(env 3).1, 0, none⟩) (cls T l).length (env 3).2
  | 4 => .agg (cTm T p).toArray
  | 5 => .func (.func 60) #[.agg (cTm T p).toArray] #[]
  | 6 => .slice (some ⟨(env 6).1, 0, none⟩) (cls T l).length (env 6).2
  | 7 => .slice (some ⟨(env 6).1, 0, none⟩) (cls T l).length (env 6).2
  | _ => undef
def rowsRn (b1 b2 b3 : Nat) (T : Tm) (p : Pt) (l : Lo) (k : Nat) (env : Env) : List Row :=
  match k with
  | 2 => [⟨(env 2).1, 0, cLo l, some 105, 4⟩, ⟨(env 2).2, 0, cTm T p, some 111, 11⟩]
  | 3 => [⟨(env 3).1, 0, (cls T l).flatMap cCl, some 23, (env 3).2 * 2⟩, ⟨(env 2).1, 0, cLo l, some 105, 4⟩, ⟨(env 2).2, 0, cTm T p, some 111, 11⟩]
  | 6 => [rI (vals T l) (env 6).1 (env 6).2, ⟨(env 3).1, 0, (cls T l).flatMap cCl, some 23, (env 3).2 * 2⟩, ⟨(env 2).1, 0, cLo l, some 105, 4⟩, ⟨(env 2).2, 0, cTm T p, some 111, 11⟩]
  | _ => []
theorem locRn (b1 b2 b3 : Nat) (T : Tm) (p : Pt) (l : Lo) : ∀ k env i q9, i ≠ k → (tAt tsRn k).sup.contains i = false → valRn b1 b2 b3 T p l k (upd env i q9) = valRn b1 b2 b3 T p l k env ∧ rowsRn b1 b2 b3 T p l k (upd env i q9) = rowsRn b1 b2 b3 T p l k env := by
  intro k env i q hk hs
  have hu : ∀ j, j ≠ i → upd env i q j = env j := fun j hj => by unfold upd; rw [if_neg hj]
  match k, hk, hs with
  | 0, _, _ => exact ⟨rfl, rfl⟩
  | 1, _, _ => exact ⟨rfl, rfl⟩
  | 2, hk, hs => exact ⟨by simp only [valRn, hu 2 (fun e => hk e.symm)], by simp only [rowsRn, hu 2 (fun e => hk e.symm)]⟩
  | 3, hk, hs => exact ⟨by simp only [valRn, hu 2 (by rintro rfl; cases hs), hu 3 (fun e => hk e.symm)], by simp only [rowsRn, hu 2 (by rintro rfl; cases hs), hu 3 (fun e => hk e.symm)]⟩
  | 4, _, _ => exact ⟨rfl, rfl⟩
  | 5, _, _ => exact ⟨rfl, rfl⟩
  | 6, hk, hs => exact ⟨by simp only [valRn, hu 2 (by rintro rfl; cases hs), hu 3 (by rintro rfl; cases hs), hu 6 (fun e => hk e.symm)], by simp only [rowsRn, hu 2 (by rintro rfl; cases hs), hu 3 (by rintro rfl; cases hs), hu 6 (fun e => hk e.symm)]⟩
  | 7, hk, hs => exact ⟨by simp only [valRn, hu 6 (by rintro rfl; cases hs)], by simp only [rowsRn, hu 6 (by rintro rfl; cases hs)]⟩
  | _ + 8, _, _ => exact ⟨rfl, rfl⟩
set_option maxHeartbeats 8000000 in
theorem range1_spec (T : Tm) (p : Pt) (l : Lo) (bl cap : Nat) (ow : Option Kd) (H : List Row) (hl : ⟨bl, 0, cLo l, ow, cap⟩ ∈ H) (hT : TmOk H T p) (hok : tmOk T) (h : inb l) (h0 : 0 < (cls T l).length) :
    Fc Try.prog 74 ([.agg (cTm T p).toArray] ++ [.pointer (some ⟨bl, 0, none⟩)]) H (fun v H' => v = .agg (cSp (rng T l)).toArray ∧ H' = H) := by
  show Fc Try.prog 74 [.agg (cTm T p).toArray, .pointer (some ⟨bl, 0, none⟩)] H _
  have hc := cls_len T h
  have hi := h
  unfold inb at hi
  have hp := hok.num.1
  have hvl : (vals T l).length = (cls T l).length := by unfold vals; rw [List.length_map]
  refine Fc.mk (callable Try.call74) Try.func74 rfl Try.ntmps74 rfl ?_; dsimp only [fr]
  refine X.seq rfl ?_; refine X.region rfl (fun K hK => ?_); repeat' (first | (refine XO.op rfl ?_; (first | ((first | refine Xo.ng rfl ?_); (first | (refine Xg.st (StF.boxAgg rfl rfl) rfl rfl ?_; rintro _ _ ⟨bx, rfl, rfl⟩) | (refine Xg.st (StF.alloc rfl Try.zeroValue26 rfl) rfl rfl ?_; rintro _ _ ⟨bx, rfl, rfl⟩))))) | (refine XO.done rfl ?_; refine hK _ _ ?_; clear hK K))
  rename_i b2; rename Nat => b3
  refine X.seq rfl ?_
  refine X.regionOb tsRn [1, 2, 3] [(1, .pointer (some ⟨bl, 0, none⟩)), (2, .pointer (some ⟨b2, 0, none⟩)), (3, .pointer (some ⟨b3, 0, none⟩))] (valRn bl b2 b3 T p l) (rowsRn bl b2 b3 T p l) (fun _ => (0, 0)) (⟨b3, 0, cSp ⟨0, 0⟩, some 26, 2⟩ :: ⟨b2, 0, cTm T p, some 111, 11⟩ :: H) rfl mixed (by (repeat (first | exact Sub.nil _ | refine Sub.cons rfl ?_)); done) rfl (by kernel_rfl) (locRn bl b2 b3 T p l) (List.Sublist.refl _) ?_ ?_
  · have hs : ∀ (S Z : List Row), (∀ r ∈ ⟨b3, 0, cSp ⟨0, 0⟩, some 26, 2⟩ :: ⟨b2, 0, cTm T p, some 111, 11⟩ :: H, r ∈ S) → TmOk (Z ++ S) T p := fun S Z hS => hT.sub (fun r hr => List.mem_append_right _ (hS r (List.mem_append_right [_, _] hr)))
    repeat' (first | exact AllF.done rfl | (refine AllF.step rfl ?_ ?_; · (first | fail | ((first | refine Ob.ng rfl ?_); (first | exact ObK.pure (fun env R hR => by exact ⟨_, EvF.assign rfl rfl, rfl⟩) rfl (fun _ => rfl) | exact ObK.pure (fun env R hR => by exact ⟨_, EvF.loadV rfl rfl (LoadV.whole (te rfl) rfl (hR _ (List.Mem.tail _ (List.Mem.head _))) rfl), rfl⟩) rfl (fun _ => rfl) | (exact ObK.pure (fun env S hS => ⟨_, EvF.loadV rfl rfl (LoadV.whole (te rfl) rfl (hS _ (List.mem_append_right [_, _] hl)) rfl), rfl⟩) rfl (fun _ => rfl)) | (exact ObK.pure (fun env S hS => ⟨_, EvF.makeFunc (fl := [_]) rfl (Args.cons rfl Args.nil) Args.nil, rfl⟩) rfl (fun _ => rfl)) | (exact fun env S hS => (OpF.call (EnF.st rfl (Args.cons rfl (Args.cons rfl Args.nil))) (classes_spec T p l _)).mono (fun v H' ⟨x, y, hv, hH⟩ => ⟨(x, y), fun _ => hv, by rw [hH]; exact List.Perm.refl _⟩)) | (exact fun env S hS => (OpF.call (EnF.st rfl (Args.cons rfl Args.nil)) (collect_spec 111 [.pointer (some ⟨(env 2).1, 0, none⟩), .pointer (some ⟨(env 2).2, 0, none⟩)] (⟨(env 2).1, 0, cLo l, some 105, 4⟩ :: ⟨(env 2).2, 0, cTm T p, some 111, 11⟩ :: S) (cls T l) (classes1_it T p l _ _ _ _ _ _ _ (List.Mem.head _) (List.Mem.tail _ (List.Mem.head _)) (by omega)) (by omega))).mono (fun v H' ⟨Z, hO, hH⟩ => by obtain ⟨b, q, hv, hZ⟩ := hO.pos h0; exact ⟨(b, q), fun _ => hv, by rw [hH, hZ]; exact List.Perm.refl _⟩)) | (exact fun env S hS => (OpF.call (EnF.st rfl (Args.cons rfl (Args.cons rfl Args.nil))) (numbersCl_spec 60 [.agg (cTm T p).toArray] [] (fun c => val T c.g c.s) (cls T l) (some ⟨(env 3).1, 0, none⟩) (env 3).2 (⟨(env 3).1, 0, (cls T l).flatMap cCl, some 23, (env 3).2 * 2⟩ :: ⟨(env 2).1, 0, cLo l, some 105, 4⟩ :: ⟨(env 2).2, 0, cTm T p, some 111, 11⟩ :: S) (SlE.ofRow (List.Mem.head _) (fun _ _ => rfl)) (by omega) h0 (fun e he Z => value_spec T p e _ (hT.sub (fun r hr => List.mem_append_right _ (List.mem_append_right [_, _, _] (hS r (List.mem_append_right [_, _] hr))))) hok.gr hok.st (by omega) (cls_in h he).1 (cls_in h he).2))).mono (fun v H' ⟨b, q, hv, hH⟩ => ⟨(b, q), fun _ => hv, by rw [hH]; exact List.Perm.refl _⟩)))))))
  · intro env t ha hv
    refine ⟨_, ha.cons (hv 7 4 (Nat.le_of_ble_eq_true rfl) rfl), ?_⟩
    clear hv ha
    show X _ _ _ ((4, .slice (some ⟨(env 6).1, 0, none⟩) (cls T l).length (env 6).2) :: _) (rI (vals T l) (env 6).1 (env 6).2 :: ⟨(env 3).1, 0, (cls T l).flatMap cCl, some 23, (env 3).2 * 2⟩ :: ⟨(env 2).1, 0, cLo l, some 105, 4⟩ :: ⟨(env 2).2, 0, cTm T p, some 111, 11⟩ :: ⟨b3, 0, cSp ⟨0, 0⟩, some 26, 2⟩ :: ⟨b2, 0, cTm T p, some 111, 11⟩ :: H) _
    rw [← hvl]
    have hv1 : ∀ Z : List Row, SlE (rI (vals T l) (env 6).1 (env 6).2 :: Z) (some ⟨(env 6).1, 0, none⟩) cI 1 (vals T l) := fun Z => SlE.ofRow (List.Mem.head _) (fun _ _ => rfl)
    repeat' (first | (refine XO.op rfl ?_; (first | ((first | refine Xo.ng rfl ?_); (first | (refine Xg.call (EnF.st rfl (Args.cons rfl Args.nil)) rfl rfl (minI_spec (vals T l) _ _ _ (hv1 _) (by omega) (by omega)) ?_; rintro _ H9 ⟨rfl, hH9⟩; subst H9) | (refine Xg.call (EnF.st rfl (Args.cons rfl Args.nil)) rfl rfl (maxI_spec (vals T l) _ _ _ (hv1 _) (by omega) (by omega)) ?_; rintro _ H9 ⟨rfl, hH9⟩; subst H9) | (refine Xg.ev (EvF.build (cs := cSp (rng T l)) rfl (ArgsP.cons rfl (ArgsP.cons rfl ArgsP.nil)) (te rfl) (Places.cons (te rfl) (Places.cons (te rfl) Places.nil)) Try.zeroValue26 rfl) rfl rfl ?_) | (refine Xg.ev (EvF.move rfl rfl) rfl rfl ?_) | (refine Xg.st0 (StF.storeAll (i := 4) rfl rfl rfl (te rfl) rfl rfl rfl rfl) rfl ?_; rintro _ _ ⟨rfl, rfl⟩; dsimp only [List.set]))))) | (refine XO.done rfl ?_; refine hK _ _ ?_; clear hK K) | refine X.seq rfl ?_ | refine X.region rfl (fun K hK => ?_) | refine X.ret rfl ?_)
    exact ret_one (v := .agg (cSp (rng T l)).toArray) (by first | exact .inr rfl | exact .inl rfl) Try.results74 ⟨_, rfl, LoadV.whole (te rfl) rfl (List.Mem.tail _ (List.Mem.tail _ (List.Mem.tail _ (List.Mem.tail _ (List.Mem.head _))))) rfl⟩ (H' := H) (by (repeat (first | exact List.Sublist.refl _ | apply List.Sublist.cons)); done) ⟨rfl, rfl⟩
set_option maxHeartbeats 4000000 in
theorem toldS_spec (T : Tm) (p : Pt) (A : Ab) (q : Pa) (f : Nat) (cap : List Value) (r : Sp) (H : List Row) (hT : TmOk H T p) (hA : AbOk H A q) (hd : HD A) (hi : HI A)
    (ht : openE T A = 0 → ∀ Z : List Row, Fc Try.prog f ([.agg (cTm T p).toArray] ++ cap) (Z ++ H) (fun v H' => v = .agg (cSp r).toArray ∧ H' = Z ++ H)) :
    Fc Try.prog 73 [.agg (cTm T p).toArray, .agg (cAb A q).toArray, .func (.func f) #[] cap.toArray] H (fun v H' => v = .tuple #[.agg (cSp (if openE T A = 0 then r else ⟨0, 0⟩)).toArray, .int .i64 (openE T A)] ∧ H' = H) := by
  have hT4 : ∀ Z : List Row, TmOk (Z ++ H) T p := fun Z => hT.sub (fun _ h => List.mem_append_right _ h)
  have hA4 : ∀ Z : List Row, AbOk (Z ++ H) A q := fun Z => hA.sub (fun _ h => List.mem_append_right _ h)
  obtain ⟨er, her⟩ : ∃ e, openE T A = e := ⟨_, rfl⟩
  by_cases h0 : er = 0
  · subst h0
    have hO := fun H hT hA => openD_spec T p A q H hT hA hd hi
    unfold opT opP at hO
    rw [her, if_pos rfl, if_pos rfl] at hO
    have ht4 : ∀ a b c d : Row, Fc Try.prog f ([.agg (cTm T p).toArray] ++ cap) (a :: b :: c :: d :: H) (fun v H' => v = .agg (cSp r).toArray ∧ H' = a :: b :: c :: d :: H) := fun a b c d => ht her [a, b, c, d]
    rw [her, if_pos rfl]
    refine Fc.mk (callable Try.call73) Try.func73 rfl Try.ntmps73 rfl ?_; dsimp only [fr]
    repeat' (first | (refine XO.op rfl ?_; (first | ((first | refine Xo.ng rfl ?_); (first | (refine Xg.call (EnF.st rfl (Args.cons rfl (Args.cons rfl Args.nil))) rfl rfl (hO _ (hT4 [_, _, _]) (hA4 [_, _, _])) ?_; rintro _ H9 ⟨rfl, hH9⟩; subst H9) | (refine Xg.call (EnF.dyn0 rfl rfl (by (repeat (first | exact Args.nil | refine Args.cons rfl ?_)); done)) rfl rfl (ht4 _ _ _ _) ?_; rintro _ H9 ⟨rfl, hH9⟩; subst H9) | (refine Xg.ev (EvF.move rfl rfl) rfl rfl ?_) | (refine Xg.ev (EvF.assign rfl rfl) rfl rfl ?_) | (refine Xg.ev (EvF.cmp rfl rfl rfl rfl) rfl rfl ?_) | (refine Xg.ev (EvF.loadV rfl rfl (LoadV.whole (te rfl) rfl (List.Mem.head _) rfl)) rfl rfl ?_) | (refine Xg.ev (EvF.loadV rfl rfl (LoadV.whole (te rfl) rfl (List.Mem.tail _ (List.Mem.head _)) rfl)) rfl rfl ?_) | (refine Xg.ev (EvF.loadV rfl rfl (LoadV.whole (te rfl) rfl (List.Mem.tail _ (List.Mem.tail _ (List.Mem.head _))) rfl)) rfl rfl ?_) | (refine Xg.ev (EvF.extract rfl rfl rfl) rfl rfl ?_) | (refine Xg.st (StF.boxAgg rfl rfl) rfl rfl ?_; rintro _ _ ⟨bx, rfl, rfl⟩) | (refine Xg.st (StF.alloc rfl Try.zeroValue26 rfl) rfl rfl ?_; rintro _ _ ⟨bx, rfl, rfl⟩) | (refine Xg.st (StF.alloc rfl Try.zeroValue28 rfl) rfl rfl ?_; rintro _ _ ⟨bx, rfl, rfl⟩) | (refine Xg.st0 (StF.storeAll (i := 0) rfl rfl rfl (te rfl) rfl rfl rfl rfl) rfl ?_; rintro _ _ ⟨rfl, rfl⟩; dsimp only [List.set]) | (refine Xg.st0 (StF.storeAll (i := 1) rfl rfl rfl (te rfl) rfl rfl rfl rfl) rfl ?_; rintro _ _ ⟨rfl, rfl⟩; dsimp only [List.set]) | (refine Xg.st0 (StF.storeAll (i := 2) rfl rfl rfl (te rfl) rfl rfl rfl rfl) rfl ?_; rintro _ _ ⟨rfl, rfl⟩; dsimp only [List.set]))))) | (refine XO.done rfl ?_; refine hK _ _ ?_; clear hK K) | refine X.seq rfl ?_ | refine X.region rfl (fun K hK => ?_) | refine X.skip rfl ?_ | refine X.ret rfl ?_ | (refine X.ite rfl rfl (fun hc => ?_); (first | (with_reducible refine Xb.caseN hc (fun h => ?_) (fun h => ?_))) <;> clear hc))
    all_goals try (exfalso; contradiction)
    exact ret_two (v := .agg (cSp r).toArray) (by first | exact .inr rfl | exact .inl rfl) Try.results73 ⟨_, rfl, LoadV.whole (te rfl) rfl (List.Mem.tail _ (List.Mem.head _)) rfl⟩ rfl (H' := H) (by (repeat (first | exact List.Sublist.refl _ | apply List.Sublist.cons)); done) ⟨rfl, rfl⟩
  · have hO := fun H hT hA => openD_spec T p A q H hT hA hd hi
    unfold opT opP at hO
    rw [her, if_neg h0, if_neg h0] at hO
    rw [her, if_neg h0]
    refine Fc.mk (callable Try.call73) Try.func73 rfl Try.ntmps73 rfl ?_; dsimp only [fr]
    repeat' (first | (refine XO.op rfl ?_; (first | ((first | refine Xo.ng rfl ?_); (first | (refine Xg.call (EnF.st rfl (Args.cons rfl (Args.cons rfl Args.nil))) rfl rfl (hO _ (hT4 [_, _, _]) (hA4 [_, _, _])) ?_; rintro _ H9 ⟨rfl, hH9⟩; subst H9) | (refine Xg.ev (EvF.move rfl rfl) rfl rfl ?_) | (refine Xg.ev (EvF.assign rfl rfl) rfl rfl ?_) | (refine Xg.ev (EvF.cmp rfl rfl rfl rfl) rfl rfl ?_) | (refine Xg.ev (EvF.loadV rfl rfl (LoadV.whole (te rfl) rfl (List.Mem.head _) rfl)) rfl rfl ?_) | (refine Xg.ev (EvF.loadV rfl rfl (LoadV.whole (te rfl) rfl (List.Mem.tail _ (List.Mem.head _)) rfl)) rfl rfl ?_) | (refine Xg.ev (EvF.loadV rfl rfl (LoadV.whole (te rfl) rfl (List.Mem.tail _ (List.Mem.tail _ (List.Mem.head _))) rfl)) rfl rfl ?_) | (refine Xg.ev (EvF.extract rfl rfl rfl) rfl rfl ?_) | (refine Xg.st (StF.boxAgg rfl rfl) rfl rfl ?_; rintro _ _ ⟨bx, rfl, rfl⟩) | (refine Xg.st (StF.alloc rfl Try.zeroValue26 rfl) rfl rfl ?_; rintro _ _ ⟨bx, rfl, rfl⟩) | (refine Xg.st (StF.alloc rfl Try.zeroValue28 rfl) rfl rfl ?_; rintro _ _ ⟨bx, rfl, rfl⟩) | (refine Xg.st0 (StF.storeAll (i := 0) rfl rfl rfl (te rfl) rfl rfl rfl rfl) rfl ?_; rintro _ _ ⟨rfl, rfl⟩; dsimp only [List.set]) | (refine Xg.st0 (StF.storeAll (i := 2) rfl rfl rfl (te rfl) rfl rfl rfl rfl) rfl ?_; rintro _ _ ⟨rfl, rfl⟩; dsimp only [List.set]))))) | (refine XO.done rfl ?_; refine hK _ _ ?_; clear hK K) | refine X.seq rfl ?_ | refine X.region rfl (fun K hK => ?_) | refine X.skip rfl ?_ | refine X.ret rfl ?_ | (refine X.ite rfl rfl (fun hc => ?_); (first | (with_reducible refine Xb.caseN hc (fun h => ?_) (fun h => ?_))) <;> clear hc))
    all_goals try (exfalso; contradiction)
    exact ret_two (v := .agg (cSp ⟨0, 0⟩).toArray) (by first | exact .inr rfl | exact .inl rfl) Try.results73 ⟨_, rfl, LoadV.whole (te rfl) rfl (List.Mem.tail _ (List.Mem.tail _ (List.Mem.head _))) rfl⟩ rfl (H' := H) (by (repeat (first | exact List.Sublist.refl _ | apply List.Sublist.cons)); done) ⟨rfl, rfl⟩
def lotOf (g s : Sp) : Lo := ⟨g.lo, g.hi, s.lo, s.hi⟩
def abK (l : Lo) (m : Int) : Ab := ⟨[], [l], [m], []⟩
def abR (l : Lo) : Ab := ⟨[], [l], [], [l]⟩
theorem inb_of {l : Lo} (h1 : partOk l.g1 l.g2) (h2 : partOk l.s1 l.s2) : inb l := ⟨h1.2.1, h1.2.2, h2.2.1, h2.2.2⟩
theorem HIR {l : Lo} : HI (abR l) := by
  intro hG hS x hx
  simp only [abR, List.mem_cons, List.not_mem_nil, or_false] at hx
  subst hx
  exact inb_of (hG _ (by simp [abR])) (hS _ (by simp [abR]))
theorem openK (T : Tm) (l : Lo) (m : Int) : openE T (abK l m) = if tmOk T then (if partOk l.g1 l.g2 then (if partOk l.s1 l.s2 then (if 0 ≤ m ∧ m ≤ 60 then 0 else 44) else 42) else 41) else 40 := by
  unfold openE
  have h1 : askD (abK l m) := fun d hd => absurd hd List.not_mem_nil
  have h2 : askG (abK l m) ↔ partOk l.g1 l.g2 := by simp [askG, abK]
  have h3 : askS (abK l m) ↔ partOk l.s1 l.s2 := by simp [askS, abK]
  have h4 : askM (abK l m) ↔ 0 ≤ m ∧ m ≤ 60 := by simp [askM, abK]
  have h5 : askN T (abK l m) := fun d hd => absurd hd List.not_mem_nil
  simp only [h1, h2, h3, h4, h5, if_true]
theorem openR (T : Tm) (l : Lo) : openE T (abR l) = if tmOk T then (if partOk l.g1 l.g2 then (if partOk l.s1 l.s2 then (if (cls T l).length = 0 then 6 else 0) else 42) else 41) else 40 := by
  unfold openE
  have h1 : askD (abR l) := fun d hd => absurd hd List.not_mem_nil
  have h2 : askG (abR l) ↔ partOk l.g1 l.g2 := by simp [askG, abR]
  have h3 : askS (abR l) ↔ partOk l.s1 l.s2 := by simp [askS, abR]
  have h4 : askM (abR l) := fun d hd => absurd hd List.not_mem_nil
  have h5 : askN T (abR l) ↔ ¬ (cls T l).length = 0 := by simp [askN, abR]
  by_cases h6 : (cls T l).length = 0
  · simp only [h1, h2, h3, h4, h5, h6, if_true, not_true_eq_false, if_false]
  · simp only [h1, h2, h3, h4, h5, h6, if_true, not_false_eq_true, if_false]
noncomputable def knoR (T : Tm) (l : Lo) (m : Int) : Int := if openE T (abK l m) = 0 then knoV T l m else 0
noncomputable def rngR (T : Tm) (l : Lo) : Sp := if openE T (abR l) = 0 then rng T l else ⟨0, 0⟩
set_option maxHeartbeats 4000000 in
theorem kknown_spec (T : Tm) (p : Pt) (g s : Sp) (m : Int) (H : List Row) (hT : TmOk H T p) :
    Fc Try.prog 19 [.agg (cTm T p).toArray, .agg (cSp g).toArray, .agg (cSp s).toArray, .int .i64 m] H (fun v H' => v = .tuple #[.int .u8 (knoR T (lotOf g s) m), .int .i64 (openE T (abK (lotOf g s) m))] ∧ H' = H) := by
  have hT3 : ∀ Z : List Row, TmOk (Z ++ H) T p := fun Z => hT.sub (fun _ h => List.mem_append_right _ h)
  refine Fc.mk (callable Try.call19) Try.func19 rfl Try.ntmps19 rfl ?_; dsimp only [fr]
  repeat' (first | (refine XO.op rfl ?_; (first | ((first | refine Xo.ng rfl ?_); (first | (refine Xg.ev (EvF.build (cs := cLo (lotOf g s)) rfl (ArgsP.cons rfl (ArgsP.cons rfl ArgsP.nil)) (te rfl) (Places.cons (te rfl) (Places.cons (te rfl) Places.nil)) Try.zeroValue105 rfl) rfl rfl ?_) | (refine Xg.st (StF.buildOne rfl elLo rfl rfl rfl (by decide) (by decide)) rfl rfl ?_; rintro _ _ ⟨bs, rfl, rfl⟩) | (refine Xg.st (StF.buildOne rfl elI rfl rfl rfl (by decide) (by decide)) rfl rfl ?_; rintro _ _ ⟨bt, rfl, rfl⟩) | (refine Xg.ev (EvF.build (cs := cAb (abK (lotOf g s) m) ⟨none, 0, some ⟨bs, 0, none⟩, 1, some ⟨bt, 0, none⟩, 1, none, 0⟩) rfl (ArgsP.cons rfl (ArgsP.cons rfl ArgsP.nil)) (te rfl) (Places.cons (te rfl) (Places.cons (te rfl) (Places.cons (te rfl) (Places.cons (te rfl) Places.nil)))) Try.zeroValue109 rfl) rfl rfl ?_) | (refine Xg.ev (EvF.makeFunc rfl Args.nil (Args.cons rfl (Args.cons rfl Args.nil))) rfl rfl ?_) | (refine Xg.call (EnF.st rfl (Args.cons rfl (Args.cons rfl (Args.cons rfl Args.nil)))) rfl rfl (toldU_spec T p (abK (lotOf g s) m) ⟨none, 0, some ⟨bs, 0, none⟩, 1, some ⟨bt, 0, none⟩, 1, none, 0⟩ _ [_, _] (knoV T (lotOf g s) m) _ (hT3 [_, _, _, _, _, _, _]) ⟨sleNil, SlE.ofRow (List.Mem.tail _ (List.Mem.head _)) (fun _ _ => rfl), SlE.ofRow (List.Mem.head _) (fun _ _ => rfl), sleNil, (fun d hd => absurd hd List.not_mem_nil), Nat.zero_le _, Nat.le_of_ble_eq_true rfl, Nat.le_of_ble_eq_true rfl, Nat.zero_le _⟩ HD0 HI0 (fun hE Z => known1_spec T p (lotOf g s) m _ _ _ _ _ _ _ (List.mem_append_right _ (List.Mem.tail _ (List.Mem.tail _ (List.Mem.tail _ (List.Mem.head _))))) (List.mem_append_right _ (List.Mem.tail _ (List.Mem.tail _ (List.Mem.head _)))) (inb_of ((openE_zero hE).2.2.1 _ (List.mem_cons_self ..)) ((openE_zero hE).2.2.2.1 _ (List.mem_cons_self ..))) ((openE_zero hE).2.2.1 (lotOf g s) (List.mem_cons_self ..)).1 ((openE_zero hE).2.2.2.1 (lotOf g s) (List.mem_cons_self ..)).1)) ?_; rintro _ H9 ⟨rfl, hH9⟩; subst H9) | (refine Xg.ev (EvF.assign rfl rfl) rfl rfl ?_) | (refine Xg.ev (EvF.loadV rfl rfl (LoadV.own (te rfl) rfl (List.Mem.tail _ (List.Mem.tail _ (List.Mem.head _))) rfl)) rfl rfl ?_) | (refine Xg.ev (EvF.loadV rfl rfl (LoadV.whole (te rfl) rfl (List.Mem.head _) rfl)) rfl rfl ?_) | (refine Xg.ev (EvF.loadV rfl rfl (LoadV.whole (te rfl) rfl (List.Mem.tail _ (List.Mem.head _)) rfl)) rfl rfl ?_) | (refine Xg.ev (EvF.loadV rfl rfl (LoadV.whole (te rfl) rfl (List.Mem.tail _ (List.Mem.tail _ (List.Mem.head _))) rfl)) rfl rfl ?_) | (refine Xg.ev (EvF.loadV rfl rfl (LoadV.whole (te rfl) rfl (List.Mem.tail _ (List.Mem.tail _ (List.Mem.tail _ (List.Mem.tail _ (List.Mem.head _))))) rfl)) rfl rfl ?_) | (refine Xg.ev (EvF.extract rfl rfl rfl) rfl rfl ?_) | (refine Xg.st (StF.boxAgg rfl rfl) rfl rfl ?_; rintro _ _ ⟨bx, rfl, rfl⟩) | (refine Xg.st (StF.boxOne rfl rfl rfl) rfl rfl ?_; rintro _ _ ⟨bx, rfl, rfl⟩) | (refine Xg.st (StF.alloc rfl Try.zeroValue105 rfl) rfl rfl ?_; rintro _ _ ⟨bx, rfl, rfl⟩) | (refine Xg.st0 (StF.storeAll (i := 0) rfl rfl rfl (te rfl) rfl rfl rfl rfl) rfl ?_; rintro _ _ ⟨rfl, rfl⟩; dsimp only [List.set]))))) | (refine XO.done rfl ?_; refine hK _ _ ?_; clear hK K) | refine X.seq rfl ?_ | refine X.region rfl (fun K hK => ?_) | refine X.ret rfl ?_)
  exact ret_two (by first | exact .inr rfl | exact .inl rfl) Try.results19 rfl rfl (H' := H) (by (repeat (first | exact List.Sublist.refl _ | apply List.Sublist.cons)); done) ⟨rfl, rfl⟩
set_option maxHeartbeats 4000000 in
theorem krange_spec (T : Tm) (p : Pt) (g s : Sp) (H : List Row) (hT : TmOk H T p) :
    Fc Try.prog 21 [.agg (cTm T p).toArray, .agg (cSp g).toArray, .agg (cSp s).toArray] H (fun v H' => v = .tuple #[.agg (cSp (rngR T (lotOf g s))).toArray, .int .i64 (openE T (abR (lotOf g s)))] ∧ H' = H) := by
  have hT3 : ∀ Z : List Row, TmOk (Z ++ H) T p := fun Z => hT.sub (fun _ h => List.mem_append_right _ h)
  have hT7 : ∀ Y Z : List Row, TmOk (Y ++ (Z ++ H)) T p := fun Y Z => hT.sub (fun _ h => List.mem_append_right _ (List.mem_append_right _ h))
  have hpos : openE T (abR (lotOf g s)) = 0 → 0 < (cls T (lotOf g s)).length := fun hE => by
    have := (openE_zero hE).2.2.2.2.2 (lotOf g s) (List.mem_cons_self ..)
    exact Nat.pos_of_ne_zero (fun e => this (by first | exact e | exact List.length_eq_zero_iff.1 e))
  refine Fc.mk (callable Try.call21) Try.func21 rfl Try.ntmps21 rfl ?_; dsimp only [fr]
  repeat' (first | (refine XO.op rfl ?_; (first | ((first | refine Xo.ng rfl ?_); (first | (refine Xg.ev (EvF.build (cs := cLo (lotOf g s)) rfl (ArgsP.cons rfl (ArgsP.cons rfl ArgsP.nil)) (te rfl) (Places.cons (te rfl) (Places.cons (te rfl) Places.nil)) Try.zeroValue105 rfl) rfl rfl ?_) | (refine Xg.st (StF.buildOne rfl elLo rfl rfl rfl (by decide) (by decide)) rfl rfl ?_; rintro _ _ ⟨bs, rfl, rfl⟩) | (refine Xg.ev (EvF.assign rfl rfl) rfl rfl ?_) | (refine Xg.ev (EvF.loadV rfl rfl (LoadV.whole (te rfl) rfl (List.Mem.head _) rfl)) rfl rfl ?_) | (refine Xg.ev (EvF.loadV rfl rfl (LoadV.whole (te rfl) rfl (List.Mem.tail _ (List.Mem.head _)) rfl)) rfl rfl ?_) | (refine Xg.ev (EvF.loadV rfl rfl (LoadV.whole (te rfl) rfl (List.Mem.tail _ (List.Mem.tail _ (List.Mem.head _))) rfl)) rfl rfl ?_) | (refine Xg.ev (EvF.loadV rfl rfl (LoadV.whole (te rfl) rfl (List.Mem.tail _ (List.Mem.tail _ (List.Mem.tail _ (List.Mem.tail _ (List.Mem.head _))))) rfl)) rfl rfl ?_) | (refine Xg.st (StF.boxAgg rfl rfl) rfl rfl ?_; rintro _ _ ⟨bx, rfl, rfl⟩) | (refine Xg.st (StF.alloc rfl Try.zeroValue26 rfl) rfl rfl ?_; rintro _ _ ⟨bx, rfl, rfl⟩) | (refine Xg.st (StF.alloc rfl Try.zeroValue105 rfl) rfl rfl ?_; rintro _ _ ⟨bx, rfl, rfl⟩) | (refine Xg.st0 (StF.storeAll (i := 0) rfl rfl rfl (te rfl) rfl rfl rfl rfl) rfl ?_; rintro _ _ ⟨rfl, rfl⟩; dsimp only [List.set]))))) | (refine XO.done rfl ?_; refine hK _ _ ?_; clear hK K) | refine X.seq rfl ?_ | refine X.region rfl (fun K hK => ?_))
  rename_i b3 b4 b5 b6 b14
  repeat' (first | (refine XO.op rfl ?_; (first | ((first | refine Xo.ng rfl ?_); (first | (refine Xg.ev (EvF.build (cs := cAb (abR (lotOf g s)) ⟨none, 0, some ⟨b14, 0, none⟩, 1, none, 0, some ⟨bs, 0, none⟩, 1⟩) rfl (ArgsP.cons rfl (ArgsP.cons rfl ArgsP.nil)) (te rfl) (Places.cons (te rfl) (Places.cons (te rfl) (Places.cons (te rfl) (Places.cons (te rfl) Places.nil)))) Try.zeroValue109 rfl) rfl rfl ?_) | (refine Xg.ev (EvF.makeFunc rfl Args.nil (Args.cons rfl Args.nil)) rfl rfl ?_) | (refine Xg.call (EnF.st rfl (Args.cons rfl (Args.cons rfl (Args.cons rfl Args.nil)))) rfl rfl (toldS_spec T p (abR (lotOf g s)) ⟨none, 0, some ⟨b14, 0, none⟩, 1, none, 0, some ⟨bs, 0, none⟩, 1⟩ _ [_] (rng T (lotOf g s)) _ (hT3 [_, _, _, _, _, _, _]) ⟨sleNil, SlE.ofRow (List.Mem.tail _ (List.Mem.head _)) (fun _ _ => rfl), sleNil, SlE.ofRow (List.Mem.head _) (fun _ _ => rfl), (fun d hd => absurd hd List.not_mem_nil), Nat.zero_le _, Nat.le_of_ble_eq_true rfl, Nat.zero_le _, Nat.le_of_ble_eq_true rfl⟩ HD0 HIR (fun hE Z => range1_spec T p (lotOf g s) _ _ _ _ (List.mem_append_right _ (List.Mem.tail _ (List.Mem.tail _ (List.Mem.head _)))) (hT7 _ [_, _, _, _, _, _, _]) (openE_zero hE).1 (inb_of ((openE_zero hE).2.2.1 _ (List.mem_cons_self ..)) ((openE_zero hE).2.2.2.1 _ (List.mem_cons_self ..))) (hpos hE))) ?_; rintro _ H9 ⟨rfl, hH9⟩; subst H9) | (refine Xg.ev (EvF.assign rfl rfl) rfl rfl ?_) | (refine Xg.ev (EvF.extract rfl rfl rfl) rfl rfl ?_) | (refine Xg.st0 (StF.storeAll (i := 3) rfl rfl rfl (te rfl) rfl rfl rfl rfl) rfl ?_; rintro _ _ ⟨rfl, rfl⟩; dsimp only [List.set]))))) | (refine XO.done rfl ?_; refine hK _ _ ?_; clear hK K) | refine X.ret rfl ?_)
  exact ret_two (v := .agg (cSp (rngR T (lotOf g s))).toArray) (by first | exact .inr rfl | exact .inl rfl) Try.results21 ⟨_, rfl, LoadV.whole (te rfl) rfl (List.Mem.tail _ (List.Mem.tail _ (List.Mem.tail _ (List.Mem.head _)))) rfl⟩ rfl (H' := H) (by (repeat (first | exact List.Sublist.refl _ | apply List.Sublist.cons)); done) ⟨rfl, rfl⟩
end Go.Proofs.Ytfpmhdjhcoogpaa
end
section
set_option linter.unusedVariables false
set_option linter.unusedSimpArgs false
namespace Go.Proofs.Ytfpmhdjhcoogpaa
open Go Go.Fw
set_option maxRecDepth 10000
theorem spanned_spec (s : Sp) (H : List Row) : Fc Try.prog 86 [.agg (cSp s).toArray] H (fun v H' => v = .bool (decide (partOk s.lo s.hi)) ∧ H' = H) := by
  refine Fc.mk (callable Try.call86) Try.func86 rfl Try.ntmps86 rfl ?_; dsimp only [fr]
  repeat' (first | (refine XO.op rfl ?_; (first | ((first | refine Xo.ng rfl ?_ | (refine Xo.g rfl rfl ?_; with_reducible refine Xw.tt ?_)); (first | (refine Xg.call (EnF.st rfl (Args.cons rfl (Args.cons rfl (Args.cons rfl Args.nil)))) rfl rfl (w4_spec _ _ _ _) ?_; rintro _ H9 ⟨rfl, hH9⟩; subst H9) | (refine Xg.ev (EvF.move rfl rfl) rfl rfl ?_) | (refine Xg.ev (EvF.assign rfl rfl) rfl rfl ?_) | (refine Xg.ev (EvF.pickT rfl rfl rfl) rfl rfl ?_) | (refine Xg.ev (EvF.pickF rfl rfl rfl) rfl rfl ?_) | (refine Xg.ev (EvF.fieldAddr rfl rfl (te rfl) rfl (te rfl) (by decide)) rfl rfl ?_) | (refine Xg.ev (EvF.loadV rfl rfl (LoadV.own (te rfl) rfl (List.Mem.head _) rfl)) rfl rfl ?_) | (refine Xg.st (StF.boxAgg rfl rfl) rfl rfl ?_; rintro _ _ ⟨bx, rfl, rfl⟩))) | (refine Xo.g rfl rfl ?_; (first | (with_reducible refine Xw.ft rfl rfl ?_) | (with_reducible refine Xw.case (fun h => ?_) (fun h => ?_) <;> simp only [h, decide_true, decide_false, Bool.not_true, Bool.not_false, and_self, and_true, true_and, and_false, false_and]))))) | (refine XO.done rfl ?_; refine hK _ _ ?_; clear hK K) | refine X.seq rfl ?_ | refine X.region rfl (fun K hK => ?_) | refine X.ret rfl ?_)
  all_goals (refine ret_one (by first | exact .inr rfl | exact .inl rfl) Try.results86 rfl (H' := H) (by (repeat (first | exact List.Sublist.refl _ | apply List.Sublist.cons)); done) ?_; simp only [and_true, true_and])
  · congr 1; refine decide_eq_decide.2 ?_; unfold partOk; omega
  · congr 1; symm; refine decide_eq_false ?_; unfold partOk; omega
noncomputable def spanE (T : Tm) (g s : Sp) : Int := if tmOk T then (if partOk g.lo g.hi then (if partOk s.lo s.hi then 0 else 42) else 41) else 40
theorem spans_spec (T : Tm) (p : Pt) (g s : Sp) (H : List Row) (hT : TmOk H T p) : Fc Try.prog 72 [.agg (cTm T p).toArray, .agg (cSp g).toArray, .agg (cSp s).toArray] H (fun v H' => v = .int .i64 (spanE T g s) ∧ H' = H) := by
  have hT3 : ∀ Z : List Row, TmOk (Z ++ H) T p := fun Z => hT.sub (fun _ h => List.mem_append_right _ h)
  unfold spanE
  refine Fc.mk (callable Try.call72) Try.func72 rfl Try.ntmps72 rfl ?_; dsimp only [fr]
  repeat' (first | (refine XO.op rfl ?_; (first | ((first | refine Xo.ng rfl ?_); (first | (refine Xg.call (EnF.st rfl (Args.cons rfl Args.nil)) rfl rfl (rterms_spec T p _ (hT3 [_, _, _])) ?_; rintro _ H9 ⟨rfl, hH9⟩; subst H9) | (refine Xg.call (EnF.st rfl (Args.cons rfl Args.nil)) rfl rfl (spanned_spec _ _) ?_; rintro _ H9 ⟨rfl, hH9⟩; subst H9) | (refine Xg.ev (EvF.assign rfl rfl) rfl rfl ?_) | (refine Xg.ev (EvF.not rfl rfl) rfl rfl ?_) | (refine Xg.ev (EvF.loadV rfl rfl (LoadV.whole (te rfl) rfl (List.Mem.head _) rfl)) rfl rfl ?_) | (refine Xg.ev (EvF.loadV rfl rfl (LoadV.whole (te rfl) rfl (List.Mem.tail _ (List.Mem.head _)) rfl)) rfl rfl ?_) | (refine Xg.ev (EvF.loadV rfl rfl (LoadV.whole (te rfl) rfl (List.Mem.tail _ (List.Mem.tail _ (List.Mem.head _))) rfl)) rfl rfl ?_) | (refine Xg.st (StF.boxAgg rfl rfl) rfl rfl ?_; rintro _ _ ⟨bx, rfl, rfl⟩))))) | (refine XO.done rfl ?_; refine hK _ _ ?_; clear hK K) | refine X.seq rfl ?_ | refine X.region rfl (fun K hK => ?_) | refine X.skip rfl ?_ | refine X.ret rfl ?_ | (refine X.ite rfl rfl (fun hc => ?_); (first | (with_reducible refine Xb.caseN hc (fun h => ?_) (fun h => ?_))) <;> clear hc))
  all_goals (refine ret_one (by first | exact .inr rfl | exact .inl rfl) Try.results72 rfl (H' := H) (by (repeat (first | exact List.Sublist.refl _ | apply List.Sublist.cons)); done) ?_; simp only [and_true, true_and])
  all_goals simp [*]
def rowA (g : Int) (l : List Int) : List Cl := l.map (fun s => (⟨g, s⟩ : Cl))
def allI (l : Lo) (gs : List Int) : List Cl := gs.flatMap (fun g => rowA g (ir l.s1 l.s2))
/-- all classes of a lot -/
def allC (l : Lo) : List Cl := allI l (ir l.g1 l.g2)
theorem filter_flatMap' {α β : Type} (f : α → List β) (q : β → Bool) : ∀ l : List α, (l.flatMap f).filter q = l.flatMap (fun x => (f x).filter q)
  | [] => rfl
  | x :: l => by rw [List.flatMap_cons, List.filter_append, filter_flatMap' f q l, List.flatMap_cons]
theorem cls_all (T : Tm) (l : Lo) : cls T l = (allC l).filter (may T) := by
  unfold cls clsI allC allI
  rw [filter_flatMap']; rfl
theorem flatMap_len {α β : Type} (f : α → List β) (n : Nat) (h : ∀ x, (f x).length = n) : ∀ l : List α, (l.flatMap f).length = l.length * n
  | [] => by simp
  | x :: l => by rw [List.flatMap_cons, List.length_append, h, flatMap_len f n h l, List.length_cons, Nat.succ_mul]; omega
theorem allC_len (l : Lo) : (allC l).length = (l.g2 - l.g1 + 1).toNat * (l.s2 - l.s1 + 1).toNat := by
  unfold allC allI
  rw [flatMap_len _ (l.s2 - l.s1 + 1).toNat (fun x => by unfold rowA; rw [List.length_map, ir_len]), ir_len]
theorem allC_size {l : Lo} (h1 : l.g1 ≤ l.g2) (h2 : l.s1 ≤ l.s2) : ((allC l).length : Int) = sizeL l ∧ 0 < (allC l).length := by
  rw [allC_len]
  unfold sizeL
  constructor
  · rw [Int.natCast_mul, Int.toNat_of_nonneg (by omega), Int.toNat_of_nonneg (by omega)]
  · exact Nat.mul_pos (by omega) (by omega)
def qM (T : Tm) (m : Int) (c : Cl) : Bool := may T c && dueB T m
theorem knoV_all {T : Tm} {l : Lo} {m : Int} (h1 : l.g1 ≤ l.g2) (h2 : l.s1 ≤ l.s2) : knoV T l m = if (allC l).all (qM T m) = true then 2 else if (allC l).any (qM T m) = true then 1 else 0 := by
  obtain ⟨hs, h0⟩ := allC_size h1 h2
  unfold knoV cntM
  rw [← hs, cls_all]
  obtain ⟨L, hL⟩ : ∃ L, allC l = L := ⟨_, rfl⟩
  rw [hL] at h0 ⊢
  by_cases hd : T.dl ≤ m ∧ m ≤ T.dh
  · have hb : dueB T m = true := decide_eq_true hd
    have hq : qM T m = may T := by funext c; unfold qM; rw [hb, Bool.and_true]
    rw [if_pos hd, hq]
    have hle := List.length_filter_le (may T) L
    by_cases ha : L.all (may T) = true
    · rw [if_pos ha]
      have : (L.filter (may T)).length = L.length := by
        rw [List.filter_eq_self.2 (List.all_eq_true.1 ha)]
      rw [this, decide_eq_false (by omega : ¬ ((L.length : Int) < L.length))]
      rfl
    · rw [if_neg ha]
      have hlt : (L.filter (may T)).length < L.length := by
        rcases Nat.lt_or_ge (L.filter (may T)).length L.length with h | h
        · exact h
        · exact absurd (List.all_eq_true.2 (List.length_filter_eq_length_iff.1 (Nat.le_antisymm hle h))) ha
      rw [decide_eq_true (by omega : ((L.filter (may T)).length : Int) < L.length)]
      by_cases hn : L.any (may T) = true
      · rw [if_pos hn]
        obtain ⟨c, hc, hcm⟩ := List.any_eq_true.1 hn
        have := List.length_pos_of_mem (List.mem_filter.2 ⟨hc, hcm⟩)
        rw [decide_eq_true (by omega : ((L.filter (may T)).length : Int) > 0)]
        rfl
      · rw [if_neg hn]
        have : L.filter (may T) = [] := List.filter_eq_nil_iff.2 (fun c hc hm => hn (List.any_eq_true.2 ⟨c, hc, hm⟩))
        rw [this]
        rfl
  · have hb : dueB T m = false := decide_eq_false hd
    have hq : qM T m = fun _ => false := by funext c; unfold qM; rw [hb, Bool.and_false]
    rw [if_neg hd, hq, decide_eq_true (by omega : (0 : Int) < L.length)]
    rw [if_neg (by cases L <;> simp_all), if_neg (by simp)]
    rfl
theorem any_snoc {α : Type} (l : List α) (x : α) (q : α → Bool) : (l ++ [x]).any q = (l.any q || q x) := by simp
theorem all_snoc {α : Type} (l : List α) (x : α) (q : α → Bool) : (l ++ [x]).all q = (l.all q && q x) := by simp
theorem rowA_snoc (g : Int) (l : Lo) {j : Nat} (h : (j : Int) < l.s2 - l.s1 + 1) : rowA g ((ir l.s1 l.s2).take (j + 1)) = rowA g ((ir l.s1 l.s2).take j) ++ [⟨g, l.s1 + j⟩] := by
  rw [take_snoc (ir_get h)]
  unfold rowA
  rw [List.map_append]; rfl
theorem allI_snoc (l : Lo) {k : Nat} (h : (k : Int) < l.g2 - l.g1 + 1) : allI l ((ir l.g1 l.g2).take (k + 1)) = allI l ((ir l.g1 l.g2).take k) ++ rowA (l.g1 + k) (ir l.s1 l.s2) := by
  rw [take_snoc (ir_get h)]
  unfold allI
  rw [List.flatMap_append]; simp
theorem openK_span (T : Tm) (g s : Sp) (m : Int) : openE T (abK (lotOf g s) m) = if spanE T g s = 0 then (if 0 ≤ m ∧ m ≤ 60 then 0 else 44) else spanE T g s := by
  rw [openK]; unfold spanE lotOf
  by_cases h1 : tmOk T <;> by_cases h2 : partOk g.lo g.hi <;> by_cases h3 : partOk s.lo s.hi <;> simp [h1, h2, h3]
theorem openR_span (T : Tm) (g s : Sp) : openE T (abR (lotOf g s)) = if spanE T g s = 0 then (if (cls T (lotOf g s)).length = 0 then 6 else 0) else spanE T g s := by
  rw [openR]; unfold spanE lotOf
  by_cases h1 : tmOk T <;> by_cases h2 : partOk g.lo g.hi <;> by_cases h3 : partOk s.lo s.hi <;> simp [h1, h2, h3]
theorem spanE_zero {T : Tm} {g s : Sp} (h : spanE T g s = 0) : tmOk T ∧ partOk g.lo g.hi ∧ partOk s.lo s.hi := by
  unfold spanE at h
  by_cases h1 : tmOk T
  · by_cases h2 : partOk g.lo g.hi
    · by_cases h3 : partOk s.lo s.hi
      · exact ⟨h1, h2, h3⟩
      · simp [h1, h2, h3] at h
    · simp [h1, h2] at h
  · simp [h1] at h
set_option maxHeartbeats 8000000 in
theorem rknown_spec (T : Tm) (p : Pt) (g s : Sp) (m : Int) (H : List Row) (hT : TmOk H T p) :
    Fc Try.prog 20 [.agg (cTm T p).toArray, .agg (cSp g).toArray, .agg (cSp s).toArray, .int .i64 m] H (fun v H' => v = .tuple #[.int .u8 (knoR T (lotOf g s) m), .int .i64 (openE T (abK (lotOf g s) m))] ∧ H' = H) := by
  have hT3 : ∀ Z : List Row, TmOk (Z ++ H) T p := fun Z => hT.sub (fun _ h => List.mem_append_right _ h)
  unfold knoR
  rw [openK_span]
  obtain ⟨er, her⟩ : ∃ e, spanE T g s = e := ⟨_, rfl⟩
  have hsp := fun H (h : TmOk H T p) => spans_spec T p g s H h
  rw [her] at hsp ⊢
  by_cases h0 : er = 0
  · subst h0
    obtain ⟨hok, hg, hs⟩ := spanE_zero her
    rw [if_pos rfl]
    by_cases hm : 0 ≤ m ∧ m ≤ 60
    · rw [if_pos hm, if_pos rfl, knoV_all (l := lotOf g s) hg.1 hs.1]
      have hgi := hg.2
      have hsi := hs.2
      unfold partOk at hg hs
      obtain ⟨l, hl⟩ : ∃ l, lotOf g s = l := ⟨_, rfl⟩
      rw [hl]
      have e1 : g.lo = l.g1 := by rw [← hl]; rfl
      have e2 : g.hi = l.g2 := by rw [← hl]; rfl
      have e3 : s.lo = l.s1 := by rw [← hl]; rfl
      have e4 : s.hi = l.s2 := by rw [← hl]; rfl
      obtain ⟨g1, g2⟩ := g
      obtain ⟨s1, s2⟩ := s
      dsimp only at e1 e2 e3 e4 hg hs hgi hsi
      subst e1 e2 e3 e4
      obtain ⟨q, hq⟩ : ∃ q, qM T m = q := ⟨_, rfl⟩
      rw [hq]
      refine Fc.mk (callable Try.call20) Try.func20 rfl Try.ntmps20 rfl ?_; dsimp only [fr]
      repeat' (first | (refine XO.op rfl ?_; (first | ((first | refine Xo.ng rfl ?_); (first | (refine Xg.call (EnF.st rfl (Args.cons rfl (Args.cons rfl (Args.cons rfl Args.nil)))) rfl rfl (hsp _ (hT3 [_, _, _])) ?_; rintro _ H9 ⟨rfl, hH9⟩; subst H9) | (refine Xg.call (EnF.st rfl (Args.cons rfl (Args.cons rfl (Args.cons rfl Args.nil)))) rfl rfl (w4_spec _ _ _ _) ?_; rintro _ H9 ⟨rfl, hH9⟩; subst H9) | (refine Xg.ev (EvF.move rfl rfl) rfl rfl ?_) | (refine Xg.ev (EvF.assign rfl rfl) rfl rfl ?_) | (refine Xg.ev (EvF.cmp rfl rfl rfl rfl) rfl rfl ?_) | (refine Xg.ev (EvF.not rfl rfl) rfl rfl ?_) | (refine Xg.ev (EvF.fieldAddr rfl rfl (te rfl) rfl (te rfl) (by decide)) rfl rfl ?_) | (refine Xg.ev (EvF.loadV rfl rfl (LoadV.own (te rfl) rfl (List.Mem.tail _ (List.Mem.head _)) rfl)) rfl rfl ?_) | (refine Xg.ev (EvF.loadV rfl rfl (LoadV.whole (te rfl) rfl (List.Mem.head _) rfl)) rfl rfl ?_) | (refine Xg.ev (EvF.loadV rfl rfl (LoadV.whole (te rfl) rfl (List.Mem.tail _ (List.Mem.head _)) rfl)) rfl rfl ?_) | (refine Xg.ev (EvF.loadV rfl rfl (LoadV.whole (te rfl) rfl (List.Mem.tail _ (List.Mem.tail _ (List.Mem.head _))) rfl)) rfl rfl ?_) | (refine Xg.st (StF.boxAgg rfl rfl) rfl rfl ?_; rintro _ _ ⟨bx, rfl, rfl⟩))))) | (refine XO.done rfl ?_; refine hK _ _ ?_; clear hK K) | refine X.seq rfl ?_ | refine X.region rfl (fun K hK => ?_) | refine X.block rfl ?_ | refine X.skip rfl ?_ | refine X.ret rfl ?_ | (refine X.ite rfl rfl (fun hc => ?_); (first | (with_reducible refine Xb.caseN hc (fun h => ?_) (fun h => ?_))) <;> clear hc))
      all_goals try (exfalso; first | contradiction | omega)
      rename_i b4 b5 h00
      clear h00
      obtain ⟨b6, hb6⟩ : ∃ b, b = bx := ⟨_, rfl⟩
      rw [← hb6]
      clear hb6
      obtain ⟨d, hd⟩ : ∃ d, dueB T m = d := ⟨_, rfl⟩
      have hw : ∀ H, Fc Try.prog 56 [.int .i64 m, .int .i64 T.dl, .int .i64 T.dh] H (fun v H' => v = .bool d ∧ H' = H) := fun H => by
        have := w4_spec m T.dl T.dh H
        rw [show decide (T.dl ≤ m ∧ m ≤ T.dh) = d from hd] at this
        exact this
      obtain ⟨HH, hHH⟩ : ∃ HH : List Row, HH = ⟨b6, 0, cSp ⟨l.s1, l.s2⟩, some 26, 2⟩ :: ⟨b5, 0, cSp ⟨l.g1, l.g2⟩, some 26, 2⟩ :: ⟨b4, 0, cTm T p, some 28, 11⟩ :: H := ⟨_, rfl⟩
      have m6 : ⟨b6, 0, cSp ⟨l.s1, l.s2⟩, some 26, 2⟩ ∈ HH := by rw [hHH]; exact (List.Mem.head _)
      have m5 : ⟨b5, 0, cSp ⟨l.g1, l.g2⟩, some 26, 2⟩ ∈ HH := by rw [hHH]; exact (List.Mem.tail _ (List.Mem.head _))
      have m4 : ⟨b4, 0, cTm T p, some 28, 11⟩ ∈ HH := by rw [hHH]; exact (List.Mem.tail _ (List.Mem.tail _ (List.Mem.head _)))
      have hsH : H.Sublist HH := by rw [hHH]; exact List.Sublist.cons _ (List.Sublist.cons _ (List.Sublist.cons _ (List.Sublist.refl _)))
      refine X.weakR (H' := HH) (by rw [hHH]; exact (by (repeat (first | exact List.Sublist.refl _ | apply List.Sublist.cons_cons | apply List.Sublist.cons)); done)) ?_
      clear hHH
      refine X.lp rfl (fun w F' H' => ∃ (k : Nat) (a b : Bool), w = (l.g2 - l.g1 + 1).toNat - k ∧ k ≤ (l.g2 - l.g1 + 1).toNat ∧ (allI l ((ir l.g1 l.g2).take k)).any q = a ∧ (allI l ((ir l.g1 l.g2).take k)).all q = b ∧ HH = H' ∧
          F' = [(3, .int .i64 m), (4, .pointer (some ⟨b4, 0, none⟩)), (5, .pointer (some ⟨b5, 0, none⟩)), (6, .pointer (some ⟨b6, 0, none⟩)), (11, .bool a), (12, .bool b), (13, .int .i64 (l.g1 + k))])
        _ [(3, .int .i64 m), (4, .pointer (some ⟨b4, 0, none⟩)), (5, .pointer (some ⟨b5, 0, none⟩)), (6, .pointer (some ⟨b6, 0, none⟩)), (11, .bool false), (12, .bool true), (13, .int .i64 (l.g1 + (0 : Nat)))] _ (by rw [show l.g1 + ((0 : Nat) : Int) = l.g1 by omega]; exact (by (repeat (first | exact Sub.nil _ | refine Sub.cons rfl ?_)); done)) (List.Sublist.refl _) ⟨0, _, _, rfl, by omega, rfl, rfl, rfl, rfl⟩ ?_
      rintro _ _ _ ⟨k, a, b, rfl, hk, ha, hb, rfl, rfl⟩
      repeat' (first | (refine XO.op rfl ?_; (first | ((first | refine Xo.ng rfl ?_); (first | (refine Xg.ev (EvF.loadV rfl rfl (LoadV.own (te rfl) rfl m5 rfl)) rfl rfl ?_) | (refine Xg.ev (EvF.move rfl rfl) rfl rfl ?_) | (refine Xg.ev (EvF.assign rfl rfl) rfl rfl ?_) | (refine Xg.ev (EvF.cmp rfl rfl rfl rfl) rfl rfl ?_) | (refine Xg.ev (EvF.fieldAddr rfl rfl (te rfl) rfl (te rfl) (by decide)) rfl rfl ?_))))) | (refine XO.done rfl ?_; refine hK _ _ ?_; clear hK K) | refine X.seq rfl ?_ | refine X.region rfl (fun K hK => ?_) | refine X.block rfl ?_ | (refine X.brk rfl ?_; repeat (first | refine blockX_hit rfl ?_ | refine blockX_miss (by decide) ?_)) | refine X.skip rfl ?_ | refine X.ret rfl ?_ | (refine X.ite rfl rfl (fun hc => ?_); (first | (with_reducible refine Xb.case hc (fun h => ?_) (fun h => ?_)) | (with_reducible refine Xb.caseB hc (fun h => ?_) (fun h => ?_))) <;> clear hc))
      · have hk1 : (k : Int) < l.g2 - l.g1 + 1 := by (try dsimp only at *); omega
        repeat' (first | (refine XO.op rfl ?_; (first | ((first | refine Xo.ng rfl ?_); (first | (refine Xg.ev (EvF.loadV rfl rfl (LoadV.own (te rfl) rfl m6 rfl)) rfl rfl ?_) | (refine Xg.ev (EvF.assign rfl rfl) rfl rfl ?_))))) | (refine XO.done rfl ?_; refine hK _ _ ?_; clear hK K) | refine X.block rfl ?_)
        refine X.lp rfl (fun w F' H' => ∃ (j : Nat) (a b : Bool), w = (l.s2 - l.s1 + 1).toNat - j ∧ j ≤ (l.s2 - l.s1 + 1).toNat ∧ (allI l ((ir l.g1 l.g2).take k) ++ rowA (l.g1 + k) ((ir l.s1 l.s2).take j)).any q = a ∧ (allI l ((ir l.g1 l.g2).take k) ++ rowA (l.g1 + k) ((ir l.s1 l.s2).take j)).all q = b ∧ HH = H' ∧
            F' = [(3, .int .i64 m), (4, .pointer (some ⟨b4, 0, none⟩)), (5, .pointer (some ⟨b5, 0, none⟩)), (6, .pointer (some ⟨b6, 0, none⟩)), (11, .bool a), (12, .bool b), (13, .int .i64 (l.g1 + k)), (14, .int .i64 (l.s1 + j))])
          _ [(3, .int .i64 m), (4, .pointer (some ⟨b4, 0, none⟩)), (5, .pointer (some ⟨b5, 0, none⟩)), (6, .pointer (some ⟨b6, 0, none⟩)), (11, .bool a), (12, .bool b), (13, .int .i64 (l.g1 + k)), (14, .int .i64 (l.s1 + (0 : Nat)))] _ (by rw [show l.s1 + ((0 : Nat) : Int) = l.s1 by omega]; exact (by (repeat (first | exact Sub.nil _ | refine Sub.cons rfl ?_)); done)) (List.Sublist.refl _) ⟨0, a, b, rfl, by omega, by simpa [rowA] using ha, by simpa [rowA] using hb, rfl, rfl⟩ ?_
        clear ha hb a b
        rintro _ _ _ ⟨j, a, b, rfl, hj, ha, hb, rfl, rfl⟩
        repeat' (first | (refine XO.op rfl ?_; (first | ((first | refine Xo.ng rfl ?_); (first | (refine Xg.ev (EvF.loadV rfl rfl (LoadV.own (te rfl) rfl m6 rfl)) rfl rfl ?_) | (refine Xg.ev (EvF.move rfl rfl) rfl rfl ?_) | (refine Xg.ev (EvF.assign rfl rfl) rfl rfl ?_) | (refine Xg.ev (EvF.cmp rfl rfl rfl rfl) rfl rfl ?_) | (refine Xg.ev (EvF.add64 rfl rfl rfl (by omega) (by omega)) rfl rfl ?_) | (refine Xg.ev (EvF.fieldAddr rfl rfl (te rfl) rfl (te rfl) (by decide)) rfl rfl ?_))))) | (refine XO.done rfl ?_; refine hK _ _ ?_; clear hK K) | refine X.seq rfl ?_ | refine X.region rfl (fun K hK => ?_) | refine X.block rfl ?_ | (refine X.brk rfl ?_; repeat (first | refine blockX_hit rfl ?_ | refine blockX_miss (by decide) ?_)) | refine X.skip rfl ?_ | (refine X.ite rfl rfl (fun hc => ?_); (first | (with_reducible refine Xb.case hc (fun h => ?_) (fun h => ?_))) <;> clear hc))
        · have hj1 : (j : Int) < l.s2 - l.s1 + 1 := by (try dsimp only at *); omega
          have hsn := rowA_snoc (l.g1 + k) l hj1
          obtain ⟨y, hy⟩ : ∃ y, may T ⟨l.g1 + k, l.s1 + j⟩ = y := ⟨_, rfl⟩
          have hqc : q ⟨l.g1 + k, l.s1 + j⟩ = (y && d) := by rw [← hq, ← hy, ← hd]; rfl
          have hmy : ∀ H, Fc Try.prog 57 [.agg (cTm T p).toArray, .agg (cCl ⟨l.g1 + k, l.s1 + j⟩).toArray] H (fun v H' => v = .bool y ∧ H' = H) := fun H => by
            have := rmay_spec T p ⟨l.g1 + k, l.s1 + j⟩ H
            rwa [hy] at this
          have ha2 : (allI l ((ir l.g1 l.g2).take k) ++ rowA (l.g1 + k) ((ir l.s1 l.s2).take (j + 1))).any q = (a || (y && d)) := by rw [hsn, ← List.append_assoc, any_snoc, ha, hqc]
          have hb2 : (allI l ((ir l.g1 l.g2).take k) ++ rowA (l.g1 + k) ((ir l.s1 l.s2).take (j + 1))).all q = (b && (y && d)) := by rw [hsn, ← List.append_assoc, all_snoc, hb, hqc]
          clear hsn ha hb hqc hy
          cases a <;> cases b <;> cases y <;> cases d
          all_goals repeat' (first | (refine XO.op rfl ?_; (first | ((first | refine Xo.ng rfl ?_ | (refine Xo.g rfl rfl ?_; with_reducible refine Xw.tt ?_) | (refine Xo.g rfl rfl ?_; with_reducible refine Xw.ff ?_)); (first | (refine Xg.ev (EvF.loadV rfl rfl (LoadV.whole (te rfl) rfl m4 rfl)) rfl rfl ?_) | (refine Xg.ev (EvF.loadV rfl rfl (LoadV.own (te rfl) rfl m4 rfl)) rfl rfl ?_) | (refine Xg.ev (EvF.build (cs := cCl ⟨l.g1 + k, l.s1 + j⟩) rfl (ArgsP.cons rfl (ArgsP.cons rfl ArgsP.nil)) (te rfl) (Places.cons (te rfl) (Places.cons (te rfl) Places.nil)) Try.zeroValue23 rfl) rfl rfl ?_) | (refine Xg.call (EnF.st rfl (Args.cons rfl (Args.cons rfl Args.nil))) rfl rfl (hmy _) ?_; rintro _ H9 ⟨rfl, hH9⟩; subst H9) | (refine Xg.call (EnF.st rfl (Args.cons rfl (Args.cons rfl (Args.cons rfl Args.nil)))) rfl rfl (hw _) ?_; rintro _ H9 ⟨rfl, hH9⟩; subst H9) | (refine Xg.ev (EvF.move rfl rfl) rfl rfl ?_) | (refine Xg.ev (EvF.assign rfl rfl) rfl rfl ?_) | (refine Xg.ev (EvF.pickT rfl rfl rfl) rfl rfl ?_) | (refine Xg.ev (EvF.pickF rfl rfl rfl) rfl rfl ?_) | (refine Xg.ev (EvF.add64 rfl rfl rfl (by omega) (by omega)) rfl rfl ?_) | (refine Xg.ev (EvF.fieldAddr rfl rfl (te rfl) rfl (te rfl) (by decide)) rfl rfl ?_))) | (refine Xo.g rfl rfl ?_; (first | (with_reducible refine Xw.tf rfl rfl ?_) | (with_reducible refine Xw.ft rfl rfl ?_))))) | (refine XO.done rfl ?_; refine hK _ _ ?_; clear hK K) | refine X.seq rfl ?_ | refine X.region rfl (fun K hK => ?_))
          all_goals (refine ⟨_, [(3, .int .i64 m), (4, .pointer (some ⟨b4, 0, none⟩)), (5, .pointer (some ⟨b5, 0, none⟩)), (6, .pointer (some ⟨b6, 0, none⟩)), (11, .bool _), (12, .bool _), (13, .int .i64 (l.g1 + k)), (14, .int .i64 (l.s1 + (j + 1 : Nat)))], _, (by rw [show l.s1 + ((j + 1 : Nat) : Int) = l.s1 + j + 1 by omega]; exact (by (repeat (first | exact Sub.nil _ | refine Sub.cons rfl ?_)); done)), List.Sublist.refl _, ⟨j + 1, _, _, rfl, by omega, ha2, hb2, rfl, rfl⟩, by omega⟩)
        · rw [List.take_of_length_le (i := j) (by rw [ir_len]; (try dsimp only at *); omega), ← allI_snoc l hk1] at ha hb
          repeat' (first | fail)
          refine ⟨_, [(3, .int .i64 m), (4, .pointer (some ⟨b4, 0, none⟩)), (5, .pointer (some ⟨b5, 0, none⟩)), (6, .pointer (some ⟨b6, 0, none⟩)), (11, .bool a), (12, .bool b), (13, .int .i64 (l.g1 + (k + 1 : Nat)))], _, (by rw [show l.g1 + ((k + 1 : Nat) : Int) = l.g1 + k + 1 by omega]; exact (by (repeat (first | exact Sub.nil _ | refine Sub.cons rfl ?_)); done)), List.Sublist.refl _, ⟨k + 1, a, b, rfl, by omega, ha, hb, rfl, rfl⟩, by omega⟩
      all_goals (
        rw [List.take_of_length_le (i := k) (by rw [ir_len]; (try dsimp only at *); omega)] at ha hb
        have ha' : (allC l).any q = a := ha
        have hb' : (allC l).all q = b := hb
        rw [ha', hb']
        exact ret_two (by first | exact .inr rfl | exact .inl rfl) Try.results20 rfl rfl (H' := H) hsH ⟨by simp [*], rfl⟩)
    · rw [if_neg hm]
      refine Fc.mk (callable Try.call20) Try.func20 rfl Try.ntmps20 rfl ?_; dsimp only [fr]
      repeat' (first | (refine XO.op rfl ?_; (first | ((first | refine Xo.ng rfl ?_); (first | (refine Xg.call (EnF.st rfl (Args.cons rfl (Args.cons rfl (Args.cons rfl Args.nil)))) rfl rfl (hsp _ (hT3 [_, _, _])) ?_; rintro _ H9 ⟨rfl, hH9⟩; subst H9) | (refine Xg.call (EnF.st rfl (Args.cons rfl (Args.cons rfl (Args.cons rfl Args.nil)))) rfl rfl (w4_spec _ _ _ _) ?_; rintro _ H9 ⟨rfl, hH9⟩; subst H9) | (refine Xg.ev (EvF.move rfl rfl) rfl rfl ?_) | (refine Xg.ev (EvF.assign rfl rfl) rfl rfl ?_) | (refine Xg.ev (EvF.cmp rfl rfl rfl rfl) rfl rfl ?_) | (refine Xg.ev (EvF.not rfl rfl) rfl rfl ?_) | (refine Xg.ev (EvF.fieldAddr rfl rfl (te rfl) rfl (te rfl) (by decide)) rfl rfl ?_) | (refine Xg.ev (EvF.loadV rfl rfl (LoadV.own (te rfl) rfl (List.Mem.tail _ (List.Mem.head _)) rfl)) rfl rfl ?_) | (refine Xg.ev (EvF.loadV rfl rfl (LoadV.whole (te rfl) rfl (List.Mem.head _) rfl)) rfl rfl ?_) | (refine Xg.ev (EvF.loadV rfl rfl (LoadV.whole (te rfl) rfl (List.Mem.tail _ (List.Mem.head _)) rfl)) rfl rfl ?_) | (refine Xg.ev (EvF.loadV rfl rfl (LoadV.whole (te rfl) rfl (List.Mem.tail _ (List.Mem.tail _ (List.Mem.head _))) rfl)) rfl rfl ?_) | (refine Xg.st (StF.boxAgg rfl rfl) rfl rfl ?_; rintro _ _ ⟨bx, rfl, rfl⟩))))) | (refine XO.done rfl ?_; refine hK _ _ ?_; clear hK K) | refine X.seq rfl ?_ | refine X.region rfl (fun K hK => ?_) | refine X.block rfl ?_ | refine X.skip rfl ?_ | refine X.ret rfl ?_ | (refine X.ite rfl rfl (fun hc => ?_); (first | (with_reducible refine Xb.caseN hc (fun h => ?_) (fun h => ?_))) <;> clear hc))
      all_goals try (exfalso; first | contradiction | omega)
      refine ret_two (by first | exact .inr rfl | exact .inl rfl) Try.results20 rfl rfl (H' := H) (by (repeat (first | exact List.Sublist.refl _ | apply List.Sublist.cons)); done) ?_; simp only [and_true, true_and]
      simp
  · rw [if_neg h0]
    refine Fc.mk (callable Try.call20) Try.func20 rfl Try.ntmps20 rfl ?_; dsimp only [fr]
    repeat' (first | (refine XO.op rfl ?_; (first | ((first | refine Xo.ng rfl ?_); (first | (refine Xg.call (EnF.st rfl (Args.cons rfl (Args.cons rfl (Args.cons rfl Args.nil)))) rfl rfl (hsp _ (hT3 [_, _, _])) ?_; rintro _ H9 ⟨rfl, hH9⟩; subst H9) | (refine Xg.ev (EvF.move rfl rfl) rfl rfl ?_) | (refine Xg.ev (EvF.assign rfl rfl) rfl rfl ?_) | (refine Xg.ev (EvF.cmp rfl rfl rfl rfl) rfl rfl ?_) | (refine Xg.ev (EvF.loadV rfl rfl (LoadV.whole (te rfl) rfl (List.Mem.head _) rfl)) rfl rfl ?_) | (refine Xg.ev (EvF.loadV rfl rfl (LoadV.whole (te rfl) rfl (List.Mem.tail _ (List.Mem.head _)) rfl)) rfl rfl ?_) | (refine Xg.ev (EvF.loadV rfl rfl (LoadV.whole (te rfl) rfl (List.Mem.tail _ (List.Mem.tail _ (List.Mem.head _))) rfl)) rfl rfl ?_) | (refine Xg.st (StF.boxAgg rfl rfl) rfl rfl ?_; rintro _ _ ⟨bx, rfl, rfl⟩))))) | (refine XO.done rfl ?_; refine hK _ _ ?_; clear hK K) | refine X.seq rfl ?_ | refine X.region rfl (fun K hK => ?_) | refine X.skip rfl ?_ | refine X.ret rfl ?_ | (refine X.ite rfl rfl (fun hc => ?_); (first | (with_reducible refine Xb.caseN hc (fun h => ?_) (fun h => ?_))) <;> clear hc))
    all_goals try (exfalso; exact h0 (by assumption))
    refine ret_two (by first | exact .inr rfl | exact .inl rfl) Try.results20 rfl rfl (H' := H) (by (repeat (first | exact List.Sublist.refl _ | apply List.Sublist.cons)); done) ?_; simp only [and_true, true_and]
    simp [h0]
end Go.Proofs.Ytfpmhdjhcoogpaa
end
section
set_option linter.unusedVariables false
set_option linter.unusedSimpArgs false
namespace Go.Proofs.Ytfpmhdjhcoogpaa
open Go Go.Fw
set_option maxRecDepth 10000
def fnd : List Cl → Bool
  | [] => false
  | _ :: _ => true
theorem fnd_snoc (l : List Cl) (c : Cl) : fnd (l ++ [c]) = true := by cases l <;> rfl
theorem fnd_false {l : List Cl} (h : fnd l = false) : l = [] := by cases l with | nil => rfl | cons => cases h
theorem fnd_true {l : List Cl} (h : fnd l = true) : 0 < l.length := by cases l with | nil => cases h | cons => exact Nat.succ_pos _
def rgE (T : Tm) (E : List Cl) : Sp := ⟨minL (E.map (fun c => val T c.g c.s)), maxL (E.map (fun c => val T c.g c.s))⟩
theorem rgE_snoc {T : Tm} {E : List Cl} {c : Cl} {o : Sp} (h : fnd E = true) (ho : rgE T E = o) : rgE T (E ++ [c]) = ⟨min o.lo (val T c.g c.s), max o.hi (val T c.g c.s)⟩ := by
  have h0 := fnd_true h
  rw [← ho]
  unfold rgE
  rw [List.map_append, List.map_cons, List.map_nil, minL_snoc _ (by rw [List.length_map]; exact h0), maxL_snoc _ (by rw [List.length_map]; exact h0)]
theorem rgE_one {T : Tm} {E : List Cl} {c : Cl} (h : fnd E = false) : rgE T (E ++ [c]) = ⟨min (val T c.g c.s) (val T c.g c.s), max (val T c.g c.s) (val T c.g c.s)⟩ := by
  rw [fnd_false h]
  show (⟨val T c.g c.s, val T c.g c.s⟩ : Sp) = _
  rw [Sp.mk.injEq]; omega
theorem filt_snoc (D : List Cl) (c : Cl) (q : Cl → Bool) : (D ++ [c]).filter q = D.filter q ++ (if q c = true then [c] else []) := by
  rw [List.filter_append]
  congr 1
  rw [List.filter_cons, List.filter_nil]
set_option maxHeartbeats 8000000 in
theorem rrange_spec (T : Tm) (p : Pt) (g s : Sp) (H : List Row) (hT : TmOk H T p) :
    Fc Try.prog 22 [.agg (cTm T p).toArray, .agg (cSp g).toArray, .agg (cSp s).toArray] H (fun v H' => v = .tuple #[.agg (cSp (rngR T (lotOf g s))).toArray, .int .i64 (openE T (abR (lotOf g s)))] ∧ H' = H) := by
  have hT3 : ∀ Z : List Row, TmOk (Z ++ H) T p := fun Z => hT.sub (fun _ h => List.mem_append_right _ h)
  unfold rngR
  rw [openR_span]
  obtain ⟨er, her⟩ : ∃ e, spanE T g s = e := ⟨_, rfl⟩
  have hsp := fun H (h : TmOk H T p) => spans_spec T p g s H h
  rw [her] at hsp ⊢
  by_cases h0 : er = 0
  · subst h0
    obtain ⟨hok, hg, hs⟩ := spanE_zero her
    rw [if_pos rfl]
    have hp := hok.num.1
    unfold partOk at hg hs
    obtain ⟨l, hl⟩ : ∃ l, lotOf g s = l := ⟨_, rfl⟩
    rw [hl]
    have e1 : g.lo = l.g1 := by rw [← hl]; rfl
    have e2 : g.hi = l.g2 := by rw [← hl]; rfl
    have e3 : s.lo = l.s1 := by rw [← hl]; rfl
    have e4 : s.hi = l.s2 := by rw [← hl]; rfl
    obtain ⟨g1, g2⟩ := g
    obtain ⟨s1, s2⟩ := s
    dsimp only at e1 e2 e3 e4 hg hs
    subst e1 e2 e3 e4
    refine Fc.mk (callable Try.call22) Try.func22 rfl Try.ntmps22 rfl ?_; dsimp only [fr]
    repeat' (first | (refine XO.op rfl ?_; (first | ((first | refine Xo.ng rfl ?_); (first | (refine Xg.call (EnF.st rfl (Args.cons rfl (Args.cons rfl (Args.cons rfl Args.nil)))) rfl rfl (hsp _ (hT3 [_, _, _, _])) ?_; rintro _ H9 ⟨rfl, hH9⟩; subst H9) | (refine Xg.ev (EvF.move rfl rfl) rfl rfl ?_) | (refine Xg.ev (EvF.assign rfl rfl) rfl rfl ?_) | (refine Xg.ev (EvF.cmp rfl rfl rfl rfl) rfl rfl ?_) | (refine Xg.ev (EvF.fieldAddr rfl rfl (te rfl) rfl (te rfl) (by decide)) rfl rfl ?_) | (refine Xg.ev (EvF.loadV rfl rfl (LoadV.own (te rfl) rfl (List.Mem.tail _ (List.Mem.tail _ (List.Mem.tail _ (List.Mem.head _)))) rfl)) rfl rfl ?_) | (refine Xg.ev (EvF.loadV rfl rfl (LoadV.whole (te rfl) rfl (List.Mem.tail _ (List.Mem.head _)) rfl)) rfl rfl ?_) | (refine Xg.ev (EvF.loadV rfl rfl (LoadV.whole (te rfl) rfl (List.Mem.tail _ (List.Mem.tail _ (List.Mem.head _))) rfl)) rfl rfl ?_) | (refine Xg.ev (EvF.loadV rfl rfl (LoadV.whole (te rfl) rfl (List.Mem.tail _ (List.Mem.tail _ (List.Mem.tail _ (List.Mem.head _)))) rfl)) rfl rfl ?_) | (refine Xg.st (StF.boxAgg rfl rfl) rfl rfl ?_; rintro _ _ ⟨bx, rfl, rfl⟩) | (refine Xg.st (StF.alloc rfl Try.zeroValue26 rfl) rfl rfl ?_; rintro _ _ ⟨bx, rfl, rfl⟩))))) | (refine XO.done rfl ?_; refine hK _ _ ?_; clear hK K) | refine X.seq rfl ?_ | refine X.region rfl (fun K hK => ?_) | refine X.block rfl ?_ | refine X.skip rfl ?_ | (refine X.ite rfl rfl (fun hc => ?_); (first | (with_reducible refine Xb.caseN hc (fun h => ?_) (fun h => ?_))) <;> clear hc))
    all_goals try (exfalso; first | contradiction | omega)
    rename_i b3 b4 b5 b6
    obtain ⟨b9, hb9⟩ : ∃ b, b = bx := ⟨_, rfl⟩
    rw [← hb9]
    clear hb9
    obtain ⟨HH, hHH⟩ : ∃ HH : List Row, HH = ⟨b6, 0, cSp ⟨0, 0⟩, some 26, 2⟩ :: ⟨b5, 0, cSp ⟨l.s1, l.s2⟩, some 26, 2⟩ :: ⟨b4, 0, cSp ⟨l.g1, l.g2⟩, some 26, 2⟩ :: ⟨b3, 0, cTm T p, some 28, 11⟩ :: H := ⟨_, rfl⟩
    have m5 : ∀ Z : List Row, ⟨b5, 0, cSp ⟨l.s1, l.s2⟩, some 26, 2⟩ ∈ Z ++ HH := fun Z => List.mem_append_right _ (by rw [hHH]; exact (List.Mem.tail _ (List.Mem.head _)))
    have m4 : ∀ Z : List Row, ⟨b4, 0, cSp ⟨l.g1, l.g2⟩, some 26, 2⟩ ∈ Z ++ HH := fun Z => List.mem_append_right _ (by rw [hHH]; exact (List.Mem.tail _ (List.Mem.tail _ (List.Mem.head _))))
    have m3 : ∀ Z : List Row, ⟨b3, 0, cTm T p, some 28, 11⟩ ∈ Z ++ HH := fun Z => List.mem_append_right _ (by rw [hHH]; exact (List.Mem.tail _ (List.Mem.tail _ (List.Mem.tail _ (List.Mem.head _)))))
    have hTT : ∀ Z : List Row, TmOk (Z ++ HH) T p := fun Z => hT.sub (fun r hr => List.mem_append_right _ (by rw [hHH]; exact List.mem_append_right [_, _, _, _] hr))
    refine X.weakR (H' := ⟨b9, 0, cSp ⟨0, 0⟩, some 26, 2⟩ :: HH) (by rw [hHH]; exact (by (repeat (first | exact List.Sublist.refl _ | apply List.Sublist.cons_cons | apply List.Sublist.cons)); done)) ?_
    refine X.lp rfl (fun w F' H' => ∃ (k : Nat) (E : List Cl), w = (l.g2 - l.g1 + 1).toNat - k ∧ k ≤ (l.g2 - l.g1 + 1).toNat ∧ (allI l ((ir l.g1 l.g2).take k)).filter (may T) = E ∧ H' = ⟨b9, 0, cSp (rgE T E), some 26, 2⟩ :: HH ∧
        F' = [(3, .pointer (some ⟨b3, 0, none⟩)), (4, .pointer (some ⟨b4, 0, none⟩)), (5, .pointer (some ⟨b5, 0, none⟩)), (6, .pointer (some ⟨b6, 0, none⟩)), (9, .pointer (some ⟨b9, 0, none⟩)), (10, .bool (fnd E)), (11, .int .i64 (l.g1 + k))])
      _ [(3, .pointer (some ⟨b3, 0, none⟩)), (4, .pointer (some ⟨b4, 0, none⟩)), (5, .pointer (some ⟨b5, 0, none⟩)), (6, .pointer (some ⟨b6, 0, none⟩)), (9, .pointer (some ⟨b9, 0, none⟩)), (10, .bool (fnd [])), (11, .int .i64 (l.g1 + (0 : Nat)))] _ (by rw [show l.g1 + ((0 : Nat) : Int) = l.g1 by omega]; exact (by (repeat (first | exact Sub.nil _ | refine Sub.cons rfl ?_)); done)) (List.Sublist.refl _) ⟨0, [], rfl, by omega, rfl, rfl, rfl⟩ ?_
    rintro _ _ _ ⟨k, E, rfl, hk, hE, rfl, rfl⟩
    repeat' (first | (refine XO.op rfl ?_; (first | ((first | refine Xo.ng rfl ?_); (first | (refine Xg.ev (EvF.loadV rfl rfl (LoadV.own (te rfl) rfl (m4 [_]) rfl)) rfl rfl ?_) | (refine Xg.ev (EvF.move rfl rfl) rfl rfl ?_) | (refine Xg.ev (EvF.cmp rfl rfl rfl rfl) rfl rfl ?_) | (refine Xg.ev (EvF.not rfl rfl) rfl rfl ?_) | (refine Xg.ev (EvF.fieldAddr rfl rfl (te rfl) rfl (te rfl) (by decide)) rfl rfl ?_) | (refine Xg.ev (EvF.loadV rfl rfl (LoadV.whole (te rfl) rfl (List.Mem.head _) rfl)) rfl rfl ?_))))) | (refine XO.done rfl ?_; refine hK _ _ ?_; clear hK K) | refine X.seq rfl ?_ | refine X.region rfl (fun K hK => ?_) | refine X.block rfl ?_ | (refine X.brk rfl ?_; repeat (first | refine blockX_hit rfl ?_ | refine blockX_miss (by decide) ?_)) | refine X.skip rfl ?_ | (refine X.ite rfl rfl (fun hc => ?_); (first | (with_reducible refine Xb.case hc (fun h => ?_) (fun h => ?_)) | (with_reducible refine Xb.caseB hc (fun h => ?_) (fun h => ?_))) <;> clear hc))
    · have hk1 : (k : Int) < l.g2 - l.g1 + 1 := by (try dsimp only at *); omega
      repeat' (first | (refine XO.op rfl ?_; (first | ((first | refine Xo.ng rfl ?_); (first | (refine Xg.ev (EvF.loadV rfl rfl (LoadV.own (te rfl) rfl (m5 [_]) rfl)) rfl rfl ?_) | (refine Xg.ev (EvF.assign rfl rfl) rfl rfl ?_))))) | (refine XO.done rfl ?_; refine hK _ _ ?_; clear hK K) | refine X.block rfl ?_)
      refine X.lp rfl (fun w F' H' => ∃ (j : Nat) (E : List Cl), w = (l.s2 - l.s1 + 1).toNat - j ∧ j ≤ (l.s2 - l.s1 + 1).toNat ∧ (allI l ((ir l.g1 l.g2).take k) ++ rowA (l.g1 + k) ((ir l.s1 l.s2).take j)).filter (may T) = E ∧ H' = ⟨b9, 0, cSp (rgE T E), some 26, 2⟩ :: HH ∧
          F' = [(3, .pointer (some ⟨b3, 0, none⟩)), (4, .pointer (some ⟨b4, 0, none⟩)), (5, .pointer (some ⟨b5, 0, none⟩)), (6, .pointer (some ⟨b6, 0, none⟩)), (9, .pointer (some ⟨b9, 0, none⟩)), (10, .bool (fnd E)), (11, .int .i64 (l.g1 + k)), (12, .int .i64 (l.s1 + j))])
        _ [(3, .pointer (some ⟨b3, 0, none⟩)), (4, .pointer (some ⟨b4, 0, none⟩)), (5, .pointer (some ⟨b5, 0, none⟩)), (6, .pointer (some ⟨b6, 0, none⟩)), (9, .pointer (some ⟨b9, 0, none⟩)), (10, .bool (fnd E)), (11, .int .i64 (l.g1 + k)), (12, .int .i64 (l.s1 + (0 : Nat)))] _ (by rw [show l.s1 + ((0 : Nat) : Int) = l.s1 by omega]; exact (by (repeat (first | exact Sub.nil _ | refine Sub.cons rfl ?_)); done)) (List.Sublist.refl _) ⟨0, E, rfl, by omega, by simpa [rowA] using hE, rfl, rfl⟩ ?_
      clear hE E
      rintro _ _ _ ⟨j, E, rfl, hj, hE, rfl, rfl⟩
      repeat' (first | (refine XO.op rfl ?_; (first | ((first | refine Xo.ng rfl ?_); (first | (refine Xg.ev (EvF.loadV rfl rfl (LoadV.own (te rfl) rfl (m5 [_]) rfl)) rfl rfl ?_) | (refine Xg.ev (EvF.move rfl rfl) rfl rfl ?_) | (refine Xg.ev (EvF.assign rfl rfl) rfl rfl ?_) | (refine Xg.ev (EvF.cmp rfl rfl rfl rfl) rfl rfl ?_) | (refine Xg.ev (EvF.add64 rfl rfl rfl (by omega) (by omega)) rfl rfl ?_) | (refine Xg.ev (EvF.fieldAddr rfl rfl (te rfl) rfl (te rfl) (by decide)) rfl rfl ?_))))) | (refine XO.done rfl ?_; refine hK _ _ ?_; clear hK K) | refine X.seq rfl ?_ | refine X.region rfl (fun K hK => ?_) | refine X.block rfl ?_ | (refine X.brk rfl ?_; repeat (first | refine blockX_hit rfl ?_ | refine blockX_miss (by decide) ?_)) | refine X.skip rfl ?_ | (refine X.ite rfl rfl (fun hc => ?_); (first | (with_reducible refine Xb.case hc (fun h => ?_) (fun h => ?_))) <;> clear hc))
      · have hj1 : (j : Int) < l.s2 - l.s1 + 1 := by (try dsimp only at *); omega
        have hsn := rowA_snoc (l.g1 + k) l hj1
        obtain ⟨y, hy⟩ : ∃ y, may T ⟨l.g1 + k, l.s1 + j⟩ = y := ⟨_, rfl⟩
        have hmy : ∀ H, Fc Try.prog 57 [.agg (cTm T p).toArray, .agg (cCl ⟨l.g1 + k, l.s1 + j⟩).toArray] H (fun v H' => v = .bool y ∧ H' = H) := fun H => by
          have := rmay_spec T p ⟨l.g1 + k, l.s1 + j⟩ H
          rwa [hy] at this
        have hE2 : (allI l ((ir l.g1 l.g2).take k) ++ rowA (l.g1 + k) ((ir l.s1 l.s2).take (j + 1))).filter (may T) = E ++ (if y = true then [⟨l.g1 + k, l.s1 + j⟩] else []) := by rw [hsn, ← List.append_assoc, filt_snoc, hE, hy]
        have hvl := fun H h => rvalue_spec T p ⟨l.g1 + k, l.s1 + j⟩ H h hok.gr hok.st (by omega) (by dsimp only; omega) (by dsimp only; omega)
        dsimp only at hvl
        obtain ⟨n, hn⟩ : ∃ n, val T (l.g1 + k) (l.s1 + j) = n := ⟨_, rfl⟩
        rw [hn] at hvl
        clear hsn hE hy
        cases y
        · rw [if_neg (by decide), List.append_nil] at hE2
          repeat' (first | (refine XO.op rfl ?_; (first | ((first | refine Xo.ng rfl ?_); (first | (refine Xg.ev (EvF.loadV rfl rfl (LoadV.whole (te rfl) rfl (m3 [_, _]) rfl)) rfl rfl ?_) | (refine Xg.ev (EvF.build (cs := cCl ⟨l.g1 + k, l.s1 + j⟩) rfl (ArgsP.cons rfl (ArgsP.cons rfl ArgsP.nil)) (te rfl) (Places.cons (te rfl) (Places.cons (te rfl) Places.nil)) Try.zeroValue23 rfl) rfl rfl ?_) | (refine Xg.call (EnF.st rfl (Args.cons rfl (Args.cons rfl Args.nil))) rfl rfl (hmy _) ?_; rintro _ H9 ⟨rfl, hH9⟩; subst H9) | (refine Xg.ev (EvF.move rfl rfl) rfl rfl ?_) | (refine Xg.ev (EvF.assign rfl rfl) rfl rfl ?_) | (refine Xg.ev (EvF.add64 rfl rfl rfl (by omega) (by omega)) rfl rfl ?_) | (refine Xg.ev (EvF.not rfl rfl) rfl rfl ?_) | (refine Xg.ev (EvF.loadV rfl rfl (LoadV.whole (te rfl) rfl (List.Mem.head _) rfl)) rfl rfl ?_) | (refine Xg.st (StF.alloc rfl Try.zeroValue26 rfl) rfl rfl ?_; rintro _ _ ⟨bx, rfl, rfl⟩) | (refine Xg.st0 (StF.storeAll (i := 0) rfl rfl rfl (te rfl) rfl rfl rfl rfl) rfl ?_; rintro _ _ ⟨rfl, rfl⟩; dsimp only [List.set]))))) | (refine XO.done rfl ?_; refine hK _ _ ?_; clear hK K) | refine X.seq rfl ?_ | refine X.region rfl (fun K hK => ?_) | (refine X.brk rfl ?_; repeat (first | refine blockX_hit rfl ?_ | refine blockX_miss (by decide) ?_)) | refine X.skip rfl ?_ | (refine X.ite rfl rfl (fun hc => ?_); (first | (with_reducible refine Xb.caseB hc (fun h => ?_) (fun h => ?_))) <;> clear hc))
          all_goals try (exfalso; contradiction)
          refine ⟨_, [(3, .pointer (some ⟨b3, 0, none⟩)), (4, .pointer (some ⟨b4, 0, none⟩)), (5, .pointer (some ⟨b5, 0, none⟩)), (6, .pointer (some ⟨b6, 0, none⟩)), (9, .pointer (some ⟨b9, 0, none⟩)), (10, .bool (fnd E)), (11, .int .i64 (l.g1 + k)), (12, .int .i64 (l.s1 + (j + 1 : Nat)))], _, (by rw [show l.s1 + ((j + 1 : Nat) : Int) = l.s1 + j + 1 by omega]; exact (by (repeat (first | exact Sub.nil _ | refine Sub.cons rfl ?_)); done)), (by (repeat (first | exact List.Sublist.refl _ | apply List.Sublist.cons_cons | apply List.Sublist.cons)); done), ⟨j + 1, E, rfl, by omega, hE2, rfl, rfl⟩, by omega⟩
        · rw [if_pos rfl] at hE2
          obtain ⟨f, hf⟩ : ∃ f, fnd E = f := ⟨_, rfl⟩
          obtain ⟨o, ho⟩ : ∃ o, rgE T E = o := ⟨_, rfl⟩
          rw [hf, ho]
          have hr2 : f = true → rgE T (E ++ [⟨l.g1 + k, l.s1 + j⟩]) = ⟨min o.lo n, max o.hi n⟩ := fun q => by rw [rgE_snoc (hf.trans q) ho, hn]
          have hr1 : f = false → rgE T (E ++ [⟨l.g1 + k, l.s1 + j⟩]) = ⟨min n n, max n n⟩ := fun q => by rw [rgE_one (hf.trans q), hn]
          have hf2 := fnd_snoc E ⟨l.g1 + k, l.s1 + j⟩
          obtain ⟨E2, hE2'⟩ : ∃ E2, E ++ [⟨l.g1 + k, l.s1 + j⟩] = E2 := ⟨_, rfl⟩
          rw [hE2'] at hE2 hr1 hr2 hf2
          clear hE2' hf ho
          cases f
          · have hr := hr1 rfl
            repeat' (first | (refine XO.op rfl ?_; (first | ((first | refine Xo.ng rfl ?_); (first | (refine Xg.ev (EvF.loadV rfl rfl (LoadV.whole (te rfl) rfl (m3 [_, _]) rfl)) rfl rfl ?_) | (refine Xg.ev (EvF.build (cs := cCl ⟨l.g1 + k, l.s1 + j⟩) rfl (ArgsP.cons rfl (ArgsP.cons rfl ArgsP.nil)) (te rfl) (Places.cons (te rfl) (Places.cons (te rfl) Places.nil)) Try.zeroValue23 rfl) rfl rfl ?_) | (refine Xg.call (EnF.st rfl (Args.cons rfl (Args.cons rfl Args.nil))) rfl rfl (hmy _) ?_; rintro _ H9 ⟨rfl, hH9⟩; subst H9) | (refine Xg.call (EnF.st rfl (Args.cons rfl (Args.cons rfl Args.nil))) rfl rfl (hvl _ (hTT [_, _])) ?_; rintro _ H9 ⟨rfl, hH9⟩; subst H9) | (refine Xg.ev (EvF.build (cs := cSp ⟨n, n⟩) rfl (ArgsP.cons rfl (ArgsP.cons rfl ArgsP.nil)) (te rfl) (Places.cons (te rfl) (Places.cons (te rfl) Places.nil)) Try.zeroValue26 rfl) rfl rfl ?_) | (refine Xg.ev (EvF.build (cs := cSp ⟨min n n, max n n⟩) rfl (ArgsP.cons rfl (ArgsP.cons rfl ArgsP.nil)) (te rfl) (Places.cons (te rfl) (Places.cons (te rfl) Places.nil)) Try.zeroValue26 rfl) rfl rfl ?_) | (refine Xg.ev (EvF.move rfl rfl) rfl rfl ?_) | (refine Xg.ev (EvF.assign rfl rfl) rfl rfl ?_) | (refine Xg.ev (EvF.add64 rfl rfl rfl (by omega) (by omega)) rfl rfl ?_) | (refine Xg.ev (EvF.not rfl rfl) rfl rfl ?_) | (refine Xg.ev (EvF.fieldAddr rfl rfl (te rfl) rfl (te rfl) (by decide)) rfl rfl ?_) | (refine Xg.ev (EvF.loadV rfl rfl (LoadV.own (te rfl) rfl (List.Mem.tail _ (List.Mem.head _)) rfl)) rfl rfl ?_) | (refine Xg.ev (EvF.loadV rfl rfl (LoadV.whole (te rfl) rfl (List.Mem.head _) rfl)) rfl rfl ?_) | (refine Xg.ev (EvF.min64 rfl rfl rfl) rfl rfl ?_) | (refine Xg.ev (EvF.max64 rfl rfl rfl) rfl rfl ?_) | (refine Xg.st (StF.alloc rfl Try.zeroValue26 rfl) rfl rfl ?_; rintro _ _ ⟨bx, rfl, rfl⟩) | (refine Xg.st0 (StF.storeAll (i := 0) rfl rfl rfl (te rfl) rfl rfl rfl rfl) rfl ?_; rintro _ _ ⟨rfl, rfl⟩; dsimp only [List.set]) | (refine Xg.st0 (StF.storeAll (i := 1) rfl rfl rfl (te rfl) rfl rfl rfl rfl) rfl ?_; rintro _ _ ⟨rfl, rfl⟩; dsimp only [List.set]))))) | (refine XO.done rfl ?_; refine hK _ _ ?_; clear hK K) | refine X.seq rfl ?_ | refine X.region rfl (fun K hK => ?_) | (refine X.brk rfl ?_; repeat (first | refine blockX_hit rfl ?_ | refine blockX_miss (by decide) ?_)) | refine X.skip rfl ?_ | (refine X.ite rfl rfl (fun hc => ?_); (first | (with_reducible refine Xb.caseB hc (fun h => ?_) (fun h => ?_))) <;> clear hc))
            all_goals try (exfalso; contradiction)
            refine ⟨_, [(3, .pointer (some ⟨b3, 0, none⟩)), (4, .pointer (some ⟨b4, 0, none⟩)), (5, .pointer (some ⟨b5, 0, none⟩)), (6, .pointer (some ⟨b6, 0, none⟩)), (9, .pointer (some ⟨b9, 0, none⟩)), (10, .bool true), (11, .int .i64 (l.g1 + k)), (12, .int .i64 (l.s1 + (j + 1 : Nat)))], ⟨b9, 0, cSp ⟨min n n, max n n⟩, some 26, 2⟩ :: HH, (by rw [show l.s1 + ((j + 1 : Nat) : Int) = l.s1 + j + 1 by omega]; exact (by (repeat (first | exact Sub.nil _ | refine Sub.cons rfl ?_)); done)), (by (repeat (first | exact List.Sublist.refl _ | apply List.Sublist.cons_cons | apply List.Sublist.cons)); done), ⟨j + 1, E2, rfl, by omega, hE2, by rw [hr], by rw [hf2]⟩, by omega⟩
          · have hr := hr2 rfl
            repeat' (first | (refine XO.op rfl ?_; (first | ((first | refine Xo.ng rfl ?_); (first | (refine Xg.ev (EvF.loadV rfl rfl (LoadV.whole (te rfl) rfl (m3 [_, _]) rfl)) rfl rfl ?_) | (refine Xg.ev (EvF.build (cs := cCl ⟨l.g1 + k, l.s1 + j⟩) rfl (ArgsP.cons rfl (ArgsP.cons rfl ArgsP.nil)) (te rfl) (Places.cons (te rfl) (Places.cons (te rfl) Places.nil)) Try.zeroValue23 rfl) rfl rfl ?_) | (refine Xg.call (EnF.st rfl (Args.cons rfl (Args.cons rfl Args.nil))) rfl rfl (hmy _) ?_; rintro _ H9 ⟨rfl, hH9⟩; subst H9) | (refine Xg.call (EnF.st rfl (Args.cons rfl (Args.cons rfl Args.nil))) rfl rfl (hvl _ (hTT [_, _])) ?_; rintro _ H9 ⟨rfl, hH9⟩; subst H9) | (refine Xg.ev (EvF.build (cs := cSp ⟨min o.lo n, max o.hi n⟩) rfl (ArgsP.cons rfl (ArgsP.cons rfl ArgsP.nil)) (te rfl) (Places.cons (te rfl) (Places.cons (te rfl) Places.nil)) Try.zeroValue26 rfl) rfl rfl ?_) | (refine Xg.ev (EvF.move rfl rfl) rfl rfl ?_) | (refine Xg.ev (EvF.assign rfl rfl) rfl rfl ?_) | (refine Xg.ev (EvF.add64 rfl rfl rfl (by omega) (by omega)) rfl rfl ?_) | (refine Xg.ev (EvF.not rfl rfl) rfl rfl ?_) | (refine Xg.ev (EvF.fieldAddr rfl rfl (te rfl) rfl (te rfl) (by decide)) rfl rfl ?_) | (refine Xg.ev (EvF.loadV rfl rfl (LoadV.own (te rfl) rfl (List.Mem.tail _ (List.Mem.head _)) rfl)) rfl rfl ?_) | (refine Xg.ev (EvF.loadV rfl rfl (LoadV.whole (te rfl) rfl (List.Mem.head _) rfl)) rfl rfl ?_) | (refine Xg.ev (EvF.min64 rfl rfl rfl) rfl rfl ?_) | (refine Xg.ev (EvF.max64 rfl rfl rfl) rfl rfl ?_) | (refine Xg.st (StF.alloc rfl Try.zeroValue26 rfl) rfl rfl ?_; rintro _ _ ⟨bx, rfl, rfl⟩) | (refine Xg.st0 (StF.storeAll (i := 0) rfl rfl rfl (te rfl) rfl rfl rfl rfl) rfl ?_; rintro _ _ ⟨rfl, rfl⟩; dsimp only [List.set]) | (refine Xg.st0 (StF.storeAll (i := 1) rfl rfl rfl (te rfl) rfl rfl rfl rfl) rfl ?_; rintro _ _ ⟨rfl, rfl⟩; dsimp only [List.set]))))) | (refine XO.done rfl ?_; refine hK _ _ ?_; clear hK K) | refine X.seq rfl ?_ | refine X.region rfl (fun K hK => ?_) | (refine X.brk rfl ?_; repeat (first | refine blockX_hit rfl ?_ | refine blockX_miss (by decide) ?_)) | refine X.skip rfl ?_ | (refine X.ite rfl rfl (fun hc => ?_); (first | (with_reducible refine Xb.caseB hc (fun h => ?_) (fun h => ?_))) <;> clear hc))
            all_goals try (exfalso; contradiction)
            refine ⟨_, [(3, .pointer (some ⟨b3, 0, none⟩)), (4, .pointer (some ⟨b4, 0, none⟩)), (5, .pointer (some ⟨b5, 0, none⟩)), (6, .pointer (some ⟨b6, 0, none⟩)), (9, .pointer (some ⟨b9, 0, none⟩)), (10, .bool true), (11, .int .i64 (l.g1 + k)), (12, .int .i64 (l.s1 + (j + 1 : Nat)))], ⟨b9, 0, cSp ⟨min o.lo n, max o.hi n⟩, some 26, 2⟩ :: HH, (by rw [show l.s1 + ((j + 1 : Nat) : Int) = l.s1 + j + 1 by omega]; exact (by (repeat (first | exact Sub.nil _ | refine Sub.cons rfl ?_)); done)), (by (repeat (first | exact List.Sublist.refl _ | apply List.Sublist.cons_cons | apply List.Sublist.cons)); done), ⟨j + 1, E2, rfl, by omega, hE2, by rw [hr], by rw [hf2]⟩, by omega⟩
      · rw [List.take_of_length_le (i := j) (by rw [ir_len]; (try dsimp only at *); omega), ← allI_snoc l hk1] at hE
        repeat' (first | fail)
        refine ⟨_, [(3, .pointer (some ⟨b3, 0, none⟩)), (4, .pointer (some ⟨b4, 0, none⟩)), (5, .pointer (some ⟨b5, 0, none⟩)), (6, .pointer (some ⟨b6, 0, none⟩)), (9, .pointer (some ⟨b9, 0, none⟩)), (10, .bool (fnd E)), (11, .int .i64 (l.g1 + (k + 1 : Nat)))], _, (by rw [show l.g1 + ((k + 1 : Nat) : Int) = l.g1 + k + 1 by omega]; exact (by (repeat (first | exact Sub.nil _ | refine Sub.cons rfl ?_)); done)), List.Sublist.refl _, ⟨k + 1, E, rfl, by omega, hE, rfl, rfl⟩, by omega⟩
    all_goals (
      rw [List.take_of_length_le (i := k) (by rw [ir_len]; (try dsimp only at *); omega)] at hE
      have hE' : cls T l = E := (cls_all T l).trans hE
      have hrg : rng T l = rgE T E := by rw [← hE']; rfl
      clear hTT m3 m4 m5
      subst hHH)
    · have hf : fnd E = false := by simpa using h
      repeat' (first | (refine XO.op rfl ?_; (first | ((first | refine Xo.ng rfl ?_); (first | (refine Xg.ev (EvF.build (cs := cSp ⟨0, 0⟩) rfl ArgsP.nil (te rfl) (Places.cons (te rfl) (Places.cons (te rfl) Places.nil)) Try.zeroValue26 rfl) rfl rfl ?_) | (refine Xg.ev (EvF.assign rfl rfl) rfl rfl ?_) | (refine Xg.st0 (StF.storeAll (i := 1) rfl rfl rfl (te rfl) rfl rfl rfl rfl) rfl ?_; rintro _ _ ⟨rfl, rfl⟩; dsimp only [List.set]))))) | (refine XO.done rfl ?_; refine hK _ _ ?_; clear hK K) | refine X.ret rfl ?_)
      exact ret_two (v := .agg (cSp ⟨0, 0⟩).toArray) (by first | exact .inr rfl | exact .inl rfl) Try.results22 ⟨_, rfl, LoadV.whole (te rfl) rfl (List.Mem.tail _ (List.Mem.head _)) rfl⟩ rfl (H' := H) (by (repeat (first | exact List.Sublist.refl _ | apply List.Sublist.cons)); done) ⟨by rw [hE', fnd_false hf]; rfl, rfl⟩
    · have hf : fnd E = true := by simpa using h
      have hne : ¬ E.length = 0 := by have := fnd_true hf; omega
      repeat' (first | (refine XO.op rfl ?_; (first | ((first | refine Xo.ng rfl ?_); (first | (refine Xg.ev (EvF.assign rfl rfl) rfl rfl ?_) | (refine Xg.st0 (StF.storeAll (i := 1) rfl rfl rfl (te rfl) rfl rfl rfl rfl) rfl ?_; rintro _ _ ⟨rfl, rfl⟩; dsimp only [List.set]))))) | (refine XO.done rfl ?_; refine hK _ _ ?_; clear hK K) | refine X.ret rfl ?_)
      exact ret_two (v := .agg (cSp (rgE T E)).toArray) (by first | exact .inr rfl | exact .inl rfl) Try.results22 ⟨_, rfl, LoadV.whole (te rfl) rfl (List.Mem.tail _ (List.Mem.head _)) rfl⟩ rfl (H' := H) (by (repeat (first | exact List.Sublist.refl _ | apply List.Sublist.cons)); done) ⟨by rw [hE', hrg, if_neg hne, if_pos rfl], rfl⟩
  · rw [if_neg h0]
    refine Fc.mk (callable Try.call22) Try.func22 rfl Try.ntmps22 rfl ?_; dsimp only [fr]
    repeat' (first | (refine XO.op rfl ?_; (first | ((first | refine Xo.ng rfl ?_); (first | (refine Xg.call (EnF.st rfl (Args.cons rfl (Args.cons rfl (Args.cons rfl Args.nil)))) rfl rfl (hsp _ (hT3 [_, _, _, _])) ?_; rintro _ H9 ⟨rfl, hH9⟩; subst H9) | (refine Xg.ev (EvF.build (cs := cSp ⟨0, 0⟩) rfl ArgsP.nil (te rfl) (Places.cons (te rfl) (Places.cons (te rfl) Places.nil)) Try.zeroValue26 rfl) rfl rfl ?_) | (refine Xg.ev (EvF.move rfl rfl) rfl rfl ?_) | (refine Xg.ev (EvF.assign rfl rfl) rfl rfl ?_) | (refine Xg.ev (EvF.cmp rfl rfl rfl rfl) rfl rfl ?_) | (refine Xg.ev (EvF.fieldAddr rfl rfl (te rfl) rfl (te rfl) (by decide)) rfl rfl ?_) | (refine Xg.ev (EvF.loadV rfl rfl (LoadV.own (te rfl) rfl (List.Mem.tail _ (List.Mem.tail _ (List.Mem.tail _ (List.Mem.head _)))) rfl)) rfl rfl ?_) | (refine Xg.ev (EvF.loadV rfl rfl (LoadV.whole (te rfl) rfl (List.Mem.tail _ (List.Mem.head _)) rfl)) rfl rfl ?_) | (refine Xg.ev (EvF.loadV rfl rfl (LoadV.whole (te rfl) rfl (List.Mem.tail _ (List.Mem.tail _ (List.Mem.head _))) rfl)) rfl rfl ?_) | (refine Xg.ev (EvF.loadV rfl rfl (LoadV.whole (te rfl) rfl (List.Mem.tail _ (List.Mem.tail _ (List.Mem.tail _ (List.Mem.head _)))) rfl)) rfl rfl ?_) | (refine Xg.st (StF.boxAgg rfl rfl) rfl rfl ?_; rintro _ _ ⟨bx, rfl, rfl⟩) | (refine Xg.st (StF.alloc rfl Try.zeroValue26 rfl) rfl rfl ?_; rintro _ _ ⟨bx, rfl, rfl⟩) | (refine Xg.st0 (StF.storeAll (i := 0) rfl rfl rfl (te rfl) rfl rfl rfl rfl) rfl ?_; rintro _ _ ⟨rfl, rfl⟩; dsimp only [List.set]))))) | (refine XO.done rfl ?_; refine hK _ _ ?_; clear hK K) | refine X.seq rfl ?_ | refine X.region rfl (fun K hK => ?_) | refine X.block rfl ?_ | refine X.skip rfl ?_ | refine X.ret rfl ?_ | (refine X.ite rfl rfl (fun hc => ?_); (first | (with_reducible refine Xb.caseN hc (fun h => ?_) (fun h => ?_))) <;> clear hc))
    all_goals try (exfalso; exact h0 (by assumption))
    rw [if_neg h0]
    exact ret_two (v := .agg (cSp ⟨0, 0⟩).toArray) (by first | exact .inr rfl | exact .inl rfl) Try.results22 ⟨_, rfl, LoadV.whole (te rfl) rfl (List.Mem.head _) rfl⟩ rfl (H' := H) (by (repeat (first | exact List.Sublist.refl _ | apply List.Sublist.cons)); done) ⟨rfl, rfl⟩
end Go.Proofs.Ytfpmhdjhcoogpaa
end
section
set_option linter.unusedVariables false
set_option linter.unusedSimpArgs false
namespace Go.Proofs.Ytfpmhdjhcoogpaa
open Go Go.Fw
set_option maxRecDepth 10000
set_option maxHeartbeats 8000000 in
theorem termsKnown_spec (T : Tm) (p : Pt) (g s : Sp) (m : Int) (H : List Row) (hg : SlE H p.a1 cI 1 T.G) (hs : SlE H p.a2 cI 1 T.S) :
    Fc Try.prog 4 [.agg (cTm T p).toArray, .agg (cSp g).toArray, .agg (cSp s).toArray, .int .i64 m] H (fun v _ => v = .bool true) := by
  by_cases hgr : T.G.length > 30 ∨ T.S.length > 30
  · have hG := greatT T p hgr
    refine Fc.mk (callable Try.call4) Try.func4 rfl Try.ntmps4 rfl ?_; dsimp only [fr]
    repeat' (first | (refine XO.op rfl ?_; (first | ((first | refine Xo.ng rfl ?_); (first | (refine Xg.call (EnF.st rfl (Args.cons rfl Args.nil)) rfl rfl (hG _) ?_; rintro _ H9 ⟨rfl, hH9⟩; subst H9) | (refine Xg.ev (EvF.assign rfl rfl) rfl rfl ?_) | (refine Xg.ev (EvF.loadV rfl rfl (LoadV.whole (te rfl) rfl (List.Mem.tail _ (List.Mem.tail _ (List.Mem.head _))) rfl)) rfl rfl ?_) | (refine Xg.st (StF.boxAgg rfl rfl) rfl rfl ?_; rintro _ _ ⟨bx, rfl, rfl⟩))))) | (refine XO.done rfl ?_; refine hK _ _ ?_; clear hK K) | refine X.seq rfl ?_ | refine X.region rfl (fun K hK => ?_) | refine X.ret rfl ?_ | (refine X.ite rfl rfl (fun hc => ?_); (first | (with_reducible refine Xb.t hc ?_)) <;> clear hc))
    all_goals try (exfalso; contradiction)
    exact ret_one (by first | exact .inr rfl | exact .inl rfl) Try.results4 rfl (H' := _) (List.Sublist.refl _) rfl
  · have hG := greatF T p hgr
    have hT : TmOk H T p := ⟨hg, hs, by omega, by omega⟩
    obtain ⟨nv, hnv⟩ : ∃ n, knoR T (lotOf g s) m = n := ⟨_, rfl⟩
    obtain ⟨ne, hne⟩ : ∃ n, openE T (abK (lotOf g s) m) = n := ⟨_, rfl⟩
    obtain ⟨rv, hrv⟩ : ∃ n, rngR T (lotOf g s) = n := ⟨_, rfl⟩
    obtain ⟨re, hre⟩ : ∃ n, openE T (abR (lotOf g s)) = n := ⟨_, rfl⟩
    have kk := fun p H (h : TmOk H T p) => kknown_spec T p g s m H h
    have rk := fun p H (h : TmOk H T p) => rknown_spec T p g s m H h
    have kr := fun p H (h : TmOk H T p) => krange_spec T p g s H h
    have rr := fun p H (h : TmOk H T p) => rrange_spec T p g s H h
    rw [hnv, hne] at kk rk
    rw [hrv, hre] at kr rr
    clear hnv hne hrv hre
    refine Fc.mk (callable Try.call4) Try.func4 rfl Try.ntmps4 rfl ?_; dsimp only [fr]
    repeat' (first | (refine XO.op rfl ?_; (first | ((first | refine Xo.ng rfl ?_); (first | (refine Xg.call (EnF.st rfl (Args.cons rfl Args.nil)) rfl rfl (hG _) ?_; rintro _ H9 ⟨rfl, hH9⟩; subst H9) | (refine Xg.call (EnF.st rfl (by (repeat (first | exact Args.nil | refine Args.cons rfl ?_)); done)) rfl rfl (twin_spec T p _ (hT.sub (fun _ hm => List.Mem.tail _ (List.Mem.tail _ (List.Mem.tail _ hm))))) ?_; rintro _ _ ⟨t1, k1, t2, k2, rfl, rfl⟩) | (refine Xg.ev (EvF.move rfl rfl) rfl rfl ?_) | (refine Xg.ev (EvF.assign rfl rfl) rfl rfl ?_) | (refine Xg.ev (EvF.loadV rfl rfl (LoadV.whole (te rfl) rfl (List.Mem.head _) rfl)) rfl rfl ?_) | (refine Xg.ev (EvF.loadV rfl rfl (LoadV.whole (te rfl) rfl (List.Mem.tail _ (List.Mem.tail _ (List.Mem.head _))) rfl)) rfl rfl ?_) | (refine Xg.ev (EvF.loadV rfl rfl (LoadV.whole (te rfl) rfl (List.Mem.tail _ (List.Mem.tail _ (List.Mem.tail _ (List.Mem.head _)))) rfl)) rfl rfl ?_) | (refine Xg.ev (EvF.loadV rfl rfl (LoadV.whole (te rfl) rfl (List.Mem.tail _ (List.Mem.tail _ (List.Mem.tail _ (List.Mem.tail _ (List.Mem.head _))))) rfl)) rfl rfl ?_) | (refine Xg.st (StF.boxAgg rfl rfl) rfl rfl ?_; rintro _ _ ⟨bx, rfl, rfl⟩) | (refine Xg.st (StF.alloc rfl Try.zeroValue28 rfl) rfl rfl ?_; rintro _ _ ⟨bx, rfl, rfl⟩) | (refine Xg.st0 (StF.storeAll (i := 0) rfl rfl rfl (te rfl) rfl rfl rfl rfl) rfl ?_; rintro _ _ ⟨rfl, rfl⟩; dsimp only [List.set]))))) | (refine XO.done rfl ?_; refine hK _ _ ?_; clear hK K) | refine X.seq rfl ?_ | refine X.region rfl (fun K hK => ?_) | refine X.skip rfl ?_ | (refine X.ite rfl rfl (fun hc => ?_); (first | (with_reducible refine Xb.f hc ?_)) <;> clear hc))
    all_goals try (exfalso; contradiction)
    obtain ⟨b9, hb9⟩ : ∃ b, b = bx := ⟨_, rfl⟩
    rw [← hb9]
    clear hb9
    rename_i b4 b5 b6
    obtain ⟨HH, hHH⟩ : ∃ HH : List Row, HH = (⟨b9, 0, cTm T (plT t1 k1 t2 k2), some 28, 11⟩ :: rI T.G t1 k1 :: rI T.S t2 k2 :: ⟨b6, 0, cSp s, some 26, 2⟩ :: ⟨b5, 0, cSp g, some 26, 2⟩ :: ⟨b4, 0, cTm T p, some 28, 11⟩ :: H) := ⟨_, rfl⟩
    have m9 : ∀ Z : List Row, ⟨b9, 0, cTm T (plT t1 k1 t2 k2), some 28, 11⟩ ∈ Z ++ HH := fun Z => List.mem_append_right _ (by rw [hHH]; exact (List.Mem.head _))
    have m6 : ∀ Z : List Row, ⟨b6, 0, cSp s, some 26, 2⟩ ∈ Z ++ HH := fun Z => List.mem_append_right _ (by rw [hHH]; exact (List.Mem.tail _ (List.Mem.tail _ (List.Mem.tail _ (List.Mem.head _)))))
    have m5 : ∀ Z : List Row, ⟨b5, 0, cSp g, some 26, 2⟩ ∈ Z ++ HH := fun Z => List.mem_append_right _ (by rw [hHH]; exact (List.Mem.tail _ (List.Mem.tail _ (List.Mem.tail _ (List.Mem.tail _ (List.Mem.head _))))))
    have m4 : ∀ Z : List Row, ⟨b4, 0, cTm T p, some 28, 11⟩ ∈ Z ++ HH := fun Z => List.mem_append_right _ (by rw [hHH]; exact (List.Mem.tail _ (List.Mem.tail _ (List.Mem.tail _ (List.Mem.tail _ (List.Mem.tail _ (List.Mem.head _)))))))
    have hO : ∀ Z : List Row, TmOk (Z ++ HH) T (plT t1 k1 t2 k2) := fun Z => ownT T t1 k1 t2 k2 _ (by omega) (by omega) (List.mem_append_right _ (by rw [hHH]; exact (List.Mem.tail _ (List.Mem.head _)))) (List.mem_append_right _ (by rw [hHH]; exact (List.Mem.tail _ (List.Mem.tail _ (List.Mem.head _)))))
    have hI : ∀ Z : List Row, TmOk (Z ++ HH) T p := fun Z => hT.sub (fun r hr => List.mem_append_right _ (by rw [hHH]; exact List.mem_append_right [_, _, _, _, _, _] hr))
    show XO _ _ _ _ _ (⟨b9, 0, cTm T (plT t1 k1 t2 k2), some 28, 11⟩ :: rI T.G t1 k1 :: rI T.S t2 k2 :: ⟨b6, 0, cSp s, some 26, 2⟩ :: ⟨b5, 0, cSp g, some 26, 2⟩ :: ⟨b4, 0, cTm T p, some 28, 11⟩ :: H) _
    rw [← hHH]
    clear hHH hT hg hs
    repeat' (first | (refine XO.op rfl ?_; (first | ((first | refine Xo.ng rfl ?_); (first | (refine Xg.ev (EvF.loadV rfl rfl (LoadV.whole (te rfl) rfl (m9 []) rfl)) rfl rfl ?_) | (refine Xg.ev (EvF.loadV rfl rfl (LoadV.whole (te rfl) rfl (m6 []) rfl)) rfl rfl ?_) | (refine Xg.ev (EvF.loadV rfl rfl (LoadV.whole (te rfl) rfl (m5 []) rfl)) rfl rfl ?_) | (refine Xg.ev (EvF.loadV rfl rfl (LoadV.whole (te rfl) rfl (m4 []) rfl)) rfl rfl ?_) | (refine Xg.call (EnF.st rfl (by (repeat (first | exact Args.nil | refine Args.cons rfl ?_)); done)) rfl rfl (kk _ _ (hO [])) ?_; rintro _ H9 ⟨rfl, hH9⟩; subst H9) | (refine Xg.call (EnF.st rfl (by (repeat (first | exact Args.nil | refine Args.cons rfl ?_)); done)) rfl rfl (rk _ _ (hI [])) ?_; rintro _ H9 ⟨rfl, hH9⟩; subst H9) | (refine Xg.call (EnF.st rfl (Args.cons rfl (Args.cons rfl (Args.cons rfl Args.nil)))) rfl rfl (kr _ _ (hO [])) ?_; rintro _ H9 ⟨rfl, hH9⟩; subst H9) | (refine Xg.ev (EvF.move rfl rfl) rfl rfl ?_) | (refine Xg.ev (EvF.assign rfl rfl) rfl rfl ?_) | (refine Xg.ev (EvF.extract rfl rfl rfl) rfl rfl ?_) | (refine Xg.st (StF.alloc rfl Try.zeroValue26 rfl) rfl rfl ?_; rintro _ _ ⟨bx, rfl, rfl⟩) | (refine Xg.st0 (StF.storeAll (i := 0) rfl rfl rfl (te rfl) rfl rfl rfl rfl) rfl ?_; rintro _ _ ⟨rfl, rfl⟩; dsimp only [List.set]))))) | (refine XO.done rfl ?_; refine hK _ _ ?_; clear hK K) | refine X.seq rfl ?_ | refine X.region rfl (fun K hK => ?_))
    repeat' (first | (refine XO.op rfl ?_; (first | ((first | refine Xo.ng rfl ?_ | (refine Xo.g rfl rfl ?_; with_reducible refine Xw.tt ?_)); (first | (refine Xg.ev (EvF.loadV rfl rfl (LoadV.whole (te rfl) rfl (m6 [_]) rfl)) rfl rfl ?_) | (refine Xg.ev (EvF.loadV rfl rfl (LoadV.whole (te rfl) rfl (m5 [_]) rfl)) rfl rfl ?_) | (refine Xg.ev (EvF.loadV rfl rfl (LoadV.whole (te rfl) rfl (m4 [_]) rfl)) rfl rfl ?_) | (refine Xg.call (EnF.st rfl (Args.cons rfl (Args.cons rfl (Args.cons rfl Args.nil)))) rfl rfl (rr _ _ (hI [_])) ?_; rintro _ H9 ⟨rfl, hH9⟩; subst H9) | (refine Xg.ev (EvF.eqSelf rfl rfl rfl) rfl rfl ?_) | (refine Xg.ev (EvF.eqSt rfl rfl rfl (by kernel_rfl) (fun w => eqSp 9998 rv rv w) rfl) rfl rfl ?_) | (refine Xg.ev (EvF.move rfl rfl) rfl rfl ?_) | (refine Xg.ev (EvF.assign rfl rfl) rfl rfl ?_) | (refine Xg.ev (EvF.pickT rfl rfl rfl) rfl rfl ?_) | (refine Xg.ev (EvF.loadV rfl rfl (LoadV.whole (te rfl) rfl (List.Mem.head _) rfl)) rfl rfl ?_) | (refine Xg.ev (EvF.loadV rfl rfl (LoadV.whole (te rfl) rfl (List.Mem.tail _ (List.Mem.head _)) rfl)) rfl rfl ?_) | (refine Xg.ev (EvF.extract rfl rfl rfl) rfl rfl ?_) | (refine Xg.st (StF.alloc rfl Try.zeroValue26 rfl) rfl rfl ?_; rintro _ _ ⟨bx, rfl, rfl⟩) | (refine Xg.st0 (StF.storeAll (i := 0) rfl rfl rfl (te rfl) rfl rfl rfl rfl) rfl ?_; rintro _ _ ⟨rfl, rfl⟩; dsimp only [List.set]))) | (refine Xo.g rfl rfl ?_; (first | (with_reducible refine Xw.case (fun h => ?_) (fun h => ?_) <;> simp only [h, decide_true, decide_false, Bool.not_true, Bool.not_false, and_self, and_true, true_and, and_false, false_and]))))) | (refine XO.done rfl ?_; refine hK _ _ ?_; clear hK K) | refine X.seq rfl ?_ | refine X.region rfl (fun K hK => ?_))
    repeat' (first | (refine XO.op rfl ?_; (first | ((first | refine Xo.ng rfl ?_ | (refine Xo.g rfl rfl ?_; with_reducible refine Xw.tt ?_)); (first | (refine Xg.ev (EvF.loadV rfl rfl (LoadV.whole (te rfl) rfl (m9 [_, _]) rfl)) rfl rfl ?_) | (refine Xg.ev (EvF.loadV rfl rfl (LoadV.whole (te rfl) rfl (m4 [_, _]) rfl)) rfl rfl ?_) | (refine Xg.call (EnF.st rfl (Args.cons rfl (Args.cons rfl Args.nil))) rfl rfl (sameT_self T _ p _ (hO [_, _]) (hI [_, _])) ?_; rintro _ H9 ⟨rfl, hH9⟩; subst H9) | (refine Xg.ev (EvF.assign rfl rfl) rfl rfl ?_) | (refine Xg.ev (EvF.pickT rfl rfl rfl) rfl rfl ?_))))) | (refine XO.done rfl ?_; refine hK _ _ ?_; clear hK K) | refine X.ret rfl ?_)
    all_goals try (exfalso; exact absurd rfl (by assumption : ¬ rv = rv))
    exact ret_one (by first | exact .inr rfl | exact .inl rfl) Try.results4 rfl (H' := _) (List.Sublist.refl _) rfl
end Go.Proofs.Ytfpmhdjhcoogpaa
end
section
set_option linter.unusedVariables false
set_option linter.unusedSimpArgs false
namespace Go.Proofs.Ytfpmhdjhcoogpaa
open Go Go.Fw
set_option maxRecDepth 10000
theorem foldl_min_le : ∀ (l : List Int) (a : Int), l.foldl min a ≤ a ∧ ∀ x ∈ l, l.foldl min a ≤ x
  | [], a => ⟨Int.le_refl _, fun _ h => absurd h List.not_mem_nil⟩
  | y :: l, a => by
    have ih := foldl_min_le l (min a y)
    refine ⟨Int.le_trans ih.1 (by omega), fun x hx => ?_⟩
    rcases List.mem_cons.1 hx with rfl | hx
    · exact Int.le_trans ih.1 (by omega)
    · exact ih.2 x hx
theorem minL_le {l : List Int} {x : Int} (h : x ∈ l) : minL l ≤ x := by
  cases l with
  | nil => exact absurd h List.not_mem_nil
  | cons y l =>
    rcases List.mem_cons.1 h with rfl | h
    · exact (foldl_min_le l x).1
    · exact (foldl_min_le l y).2 x h
theorem foldl_min_mem : ∀ (l : List Int) (a : Int), l.foldl min a = a ∨ l.foldl min a ∈ l
  | [], a => .inl rfl
  | y :: l, a => by
    rcases foldl_min_mem l (min a y) with h | h
    · rw [List.foldl_cons, h]
      by_cases q : a ≤ y
      · left; omega
      · right; rw [show min a y = y by omega]; exact List.mem_cons_self
    · right; exact List.mem_cons_of_mem _ h
theorem minL_mem {l : List Int} (h : 0 < l.length) : minL l ∈ l := by
  cases l with
  | nil => exact absurd h (Nat.lt_irrefl 0)
  | cons y l =>
    rcases foldl_min_mem l y with q | q
    · show l.foldl min y ∈ y :: l
      rw [q]; exact List.mem_cons_self
    · exact List.mem_cons_of_mem _ q
theorem at1_mem {l : List Int} (h : l.length = 9) {i : Int} (hi : 1 ≤ i ∧ i ≤ 9) : at1 l i ∈ l := List.mem_of_getElem? (at1_get hi h)
theorem mem_at1 {l : List Int} (h : l.length = 9) {x : Int} (hx : x ∈ l) : ∃ i : Int, (1 ≤ i ∧ i ≤ 9) ∧ at1 l i = x := by
  obtain ⟨k, hk, rfl⟩ := List.mem_iff_getElem.1 hx
  refine ⟨(k : Int) + 1, by omega, ?_⟩
  unfold at1
  rw [show ((k : Int) + 1 - 1).toNat = k by omega, List.getD_eq_getElem?_getD, List.getElem?_eq_getElem hk]; rfl
theorem day_least {d : Dy} (h1 : tab d.G) (h2 : tab d.S) : (∀ g s, 1 ≤ g ∧ g ≤ 9 → 1 ≤ s ∧ s ≤ 9 → 0 ≤ d.price + at1 d.G g + at1 d.S s) ↔ 0 ≤ d.price + minL d.G + minL d.S := by
  constructor
  · intro h
    obtain ⟨g, hg, e1⟩ := mem_at1 h1.1 (minL_mem (l := d.G) (by rw [h1.1]; decide))
    obtain ⟨s, hs, e2⟩ := mem_at1 h2.1 (minL_mem (l := d.S) (by rw [h2.1]; decide))
    have := h g s hg hs
    rwa [e1, e2] at this
  · intro h g s hg hs
    have := minL_le (at1_mem h1.1 hg)
    have := minL_le (at1_mem h2.1 hs)
    omega
def tsId : List TOp := [⟨some 3, [], [], []⟩, ⟨some 4, [], [], []⟩, ⟨some 5, [1], [1], []⟩, ⟨some 6, [1, 2], [2], []⟩, ⟨some 7, [0, 1, 2, 3], [0, 3], [3]⟩, ⟨some 8, [0, 1, 2, 3, 4], [4], []⟩, ⟨some 9, [0, 1, 2, 3, 4, 5], [], []⟩, ⟨some 10, [0, 1, 2, 3, 4, 5, 6], [6], []⟩, ⟨some 11, [0, 1, 2, 3, 4, 5], [], []⟩, ⟨some 12, [0, 1, 2, 3, 4, 5, 8], [8], []⟩, ⟨some 13, [0, 1, 2, 3, 4, 5, 6, 7, 8, 9], [7, 9], []⟩, ⟨some 14, [0, 1, 2, 3, 4, 5, 6, 7, 8, 9, 10], [5, 10], []⟩, ⟨some 15, [0, 1, 2, 3, 4, 5, 6, 7, 8, 9, 10, 11], [11], []⟩, ⟨some 16, [0, 1, 2, 3, 4, 5, 6, 7, 8, 9, 10, 11, 12], [], []⟩, ⟨some 17, [0, 1, 2, 3, 4, 5, 6, 7, 8, 9, 10, 11, 12, 13], [13], []⟩, ⟨some 18, [0, 1, 2, 3, 4, 5, 6, 7, 8, 9, 10, 11, 12], [], []⟩, ⟨some 19, [0, 1, 2, 3, 4, 5, 6, 7, 8, 9, 10, 11, 12, 15], [15], []⟩, ⟨some 20, [0, 1, 2, 3, 4, 5, 6, 7, 8, 9, 10, 11, 12, 15, 16], [16], []⟩, ⟨some 21, [0, 1, 2, 3, 4, 5, 6, 7, 8, 9, 10, 11, 12, 13, 14, 15, 16, 17], [14, 17], []⟩, ⟨some 22, [0, 1, 2, 3, 4, 5, 6, 7, 8, 9, 10, 11, 12], [], []⟩, ⟨some 23, [0, 1, 2, 3, 4, 5, 6, 7, 8, 9, 10, 11, 12, 19], [19], []⟩, ⟨some 24, [0, 1, 2, 3, 4, 5, 6, 7, 8, 9, 10, 11, 12, 15, 16, 17, 19, 20], [20], []⟩, ⟨some 25, [0, 1, 2, 3, 4, 5, 6, 7, 8, 9, 10, 11, 12, 13, 14, 15, 16, 17, 18, 19, 20, 21], [18, 21], []⟩, ⟨some 26, [0, 1, 2, 3, 4, 5, 6, 7, 8, 9, 10, 11, 12, 13, 14, 15, 16, 17, 18, 19, 20, 21, 22], [22], []⟩, ⟨some 27, [0, 1, 2, 3, 4, 5, 6, 7, 8, 9, 10, 11, 12, 13, 14, 15, 16, 17, 18, 19, 20, 21, 22, 23], [12, 23], []⟩, ⟨some 2, [0, 1, 2, 3, 4, 5, 6, 7, 8, 9, 10, 11, 12, 13, 14, 15, 16, 17, 18, 19, 20, 21, 22, 23, 24], [24], []⟩]
def valId (b1 : Nat) (d : Dy) (a b e : Bool) (k : Nat) (env : Env) : Value :=
  match k with
  | 0 => .agg (cSp ⟨0, 1000000⟩).toArray
  | 1 => .pointer (some ⟨b1, 0, none⟩)
  | 2 => .int .i64 d.price
  | 3 => .slice (some ⟨(env 3).1, 0, none⟩) 1 1
  | 4 => .bool a
  | 5 => .bool a
  | 6 => gt (!a) (.pointer (some ⟨b1, 1, none⟩))
  | 7 => gt (!a) (.slice d.a1 d.G.length d.c1)
  | 8 => gt (!a) (.pointer (some ⟨b1, 2, none⟩))
  | 9 => gt (!a) (.slice d.a2 d.S.length d.c2)
  | 10 => gt (!a) (.bool b)
  | 11 => .bool (a && b)
  | 12 => .bool (a && b)
  | 13 => gt (!(a && b)) (.pointer (some ⟨b1, 0, none⟩))
  | 14 => gt (!(a && b)) (.int .i64 d.price)
  | 15 => gt (!(a && b)) (.pointer (some ⟨b1, 1, none⟩))
  | 16 => gt (!(a && b)) (.slice d.a1 d.G.length d.c1)
  | 17 => gt (!(a && b)) (.int .i64 (minL d.G))
  | 18 => gt (!(a && b)) (.int .i64 (d.price + minL d.G))
  | 19 => gt (!(a && b)) (.pointer (some ⟨b1, 2, none⟩))
  | 20 => gt (!(a && b)) (.slice d.a2 d.S.length d.c2)
  | 21 => gt (!(a && b)) (.int .i64 (minL d.S))
  | 22 => gt (!(a && b)) (.int .i64 (d.price + minL d.G + minL d.S))
  | 23 => gt (!(a && b)) (.bool e)
  | 24 => .bool ((a && b) && e)
  | 25 => .bool ((a && b) && e)
  | _ => undef
def rowsId (b1 : Nat) (d : Dy) (a b e : Bool) (k : Nat) (env : Env) : List Row :=
  match k with
  | 3 => [⟨(env 3).1, 0, [.int .i64 d.price], some 3, 1 * 1⟩]
  | _ => []
theorem locId (b1 : Nat) (d : Dy) (a b e : Bool) : ∀ k env i q9, i ≠ k → (tAt tsId k).sup.contains i = false → valId b1 d a b e k (upd env i q9) = valId b1 d a b e k env ∧ rowsId b1 d a b e k (upd env i q9) = rowsId b1 d a b e k env := by
  intro k env i q hk hs
  have hu : ∀ j, j ≠ i → upd env i q j = env j := fun j hj => by unfold upd; rw [if_neg hj]
  match k, hk, hs with
  | 0, _, _ => exact ⟨rfl, rfl⟩
  | 1, _, _ => exact ⟨rfl, rfl⟩
  | 2, _, _ => exact ⟨rfl, rfl⟩
  | 3, hk, hs => exact ⟨by simp only [valId, hu 3 (fun e => hk e.symm)], by simp only [rowsId, hu 3 (fun e => hk e.symm)]⟩
  | 4, _, _ => exact ⟨rfl, rfl⟩
  | 5, _, _ => exact ⟨rfl, rfl⟩
  | 6, _, _ => exact ⟨rfl, rfl⟩
  | 7, _, _ => exact ⟨rfl, rfl⟩
  | 8, _, _ => exact ⟨rfl, rfl⟩
  | 9, _, _ => exact ⟨rfl, rfl⟩
  | 10, _, _ => exact ⟨rfl, rfl⟩
  | 11, _, _ => exact ⟨rfl, rfl⟩
  | 12, _, _ => exact ⟨rfl, rfl⟩
  | 13, _, _ => exact ⟨rfl, rfl⟩
  | 14, _, _ => exact ⟨rfl, rfl⟩
  | 15, _, _ => exact ⟨rfl, rfl⟩
  | 16, _, _ => exact ⟨rfl, rfl⟩
  | 17, _, _ => exact ⟨rfl, rfl⟩
  | 18, _, _ => exact ⟨rfl, rfl⟩
  | 19, _, _ => exact ⟨rfl, rfl⟩
  | 20, _, _ => exact ⟨rfl, rfl⟩
  | 21, _, _ => exact ⟨rfl, rfl⟩
  | 22, _, _ => exact ⟨rfl, rfl⟩
  | 23, _, _ => exact ⟨rfl, rfl⟩
  | 24, _, _ => exact ⟨rfl, rfl⟩
  | 25, _, _ => exact ⟨rfl, rfl⟩
  | _ + 26, _, _ => exact ⟨rfl, rfl⟩
set_option maxHeartbeats 8000000 in
theorem isDay_spec (d : Dy) (H : List Row) (hD : DyOk H d) : Fc Try.prog 126 [.agg (cDy d).toArray] H (fun v H' => v = .bool (decide (dayOk d)) ∧ H' = H) := by
  have hD1 : ∀ S : List Row, (∀ r ∈ H, r ∈ S) → DyOk S d := fun S hS => hD.sub hS
  have hdd : dayOk d ↔ (0 ≤ d.price ∧ d.price ≤ 1000000) ∧ tab d.G ∧ tab d.S ∧ ∀ g s, 1 ≤ g ∧ g ≤ 9 → 1 ≤ s ∧ s ≤ 9 → 0 ≤ d.price + at1 d.G g + at1 d.S s := Iff.rfl
  have hx : ∀ a b e : Bool, decide (0 ≤ d.price ∧ d.price ≤ 1000000) = a → decide (tab d.G ∧ tab d.S) = b → decide (d.price + minL d.G + minL d.S ≥ 0) = e → decide (dayOk d) = (a && b && e) := by
    intro a b e h1 h2 h3
    cases a
    · exact decide_eq_false (fun q => of_decide_eq_false h1 (hdd.1 q).1)
    · cases b
      · exact decide_eq_false (fun q => of_decide_eq_false h2 ⟨(hdd.1 q).2.1, (hdd.1 q).2.2.1⟩)
      · have ht := of_decide_eq_true h2
        have hp := of_decide_eq_true h1
        cases e
        · exact decide_eq_false (fun q => of_decide_eq_false h3 ((day_least ht.1 ht.2).1 (hdd.1 q).2.2.2))
        · exact decide_eq_true (hdd.2 ⟨hp, ht.1, ht.2, (day_least ht.1 ht.2).2 (of_decide_eq_true h3)⟩)
  obtain ⟨a, ha⟩ : ∃ a, decide (0 ≤ d.price ∧ d.price ≤ 1000000) = a := ⟨_, rfl⟩
  obtain ⟨b, hb⟩ : ∃ b, decide (tab d.G ∧ tab d.S) = b := ⟨_, rfl⟩
  rw [hx a b _ ha hb rfl]
  clear hx
  have hw : ∀ bb k cap ow H, ⟨bb, 0, [.int .i64 d.price], ow, cap⟩ ∈ H → Fc Try.prog 54 [.agg (cSp ⟨0, 1000000⟩).toArray, .slice (some ⟨bb, 0, none⟩) 1 k] H (fun v H' => v = .bool a ∧ H' = H) := fun bb k cap ow H h => by
    have := within1_spec ⟨0, 1000000⟩ d.price bb k cap ow H h
    rwa [ha] at this
  have htb : ∀ H, DyOk H d → Fc Try.prog 105 [.slice d.a1 d.G.length d.c1, .slice d.a2 d.S.length d.c2] H (fun v H' => v = .bool b ∧ H' = H) := fun H h => by
    have := areTables_spec d.G d.S d.a1 d.a2 d.c1 d.c2 H h.gr h.st h.l1 h.l2
    rw [show decide (d.G.length = 9 ∧ d.S.length = 9 ∧ (∀ n ∈ d.G, -1000 ≤ n ∧ n ≤ 1000) ∧ (∀ n ∈ d.S, -1000 ≤ n ∧ n ≤ 1000)) = b by rw [← hb]; exact decide_eq_decide.2 ⟨fun ⟨a, b, c, d⟩ => ⟨⟨a, c⟩, ⟨b, d⟩⟩, fun ⟨⟨a, c⟩, ⟨b, d⟩⟩ => ⟨a, b, c, d⟩⟩] at this
    exact this
  refine Fc.mk (callable Try.call126) Try.func126 rfl Try.ntmps126 rfl ?_; dsimp only [fr]
  refine X.seq rfl ?_; refine X.region rfl (fun K hK => ?_); repeat' (first | (refine XO.op rfl ?_; (first | ((first | refine Xo.ng rfl ?_); (first | (refine Xg.ev (EvF.assign rfl rfl) rfl rfl ?_) | (refine Xg.st (StF.boxAgg rfl rfl) rfl rfl ?_; rintro _ _ ⟨bx, rfl, rfl⟩))))) | (refine XO.done rfl ?_; refine hK _ _ ?_; clear hK K))
  rename Nat => b1
  refine X.seq rfl ?_
  cases a
  · -- the price is none
    refine X.regionOb tsId [1] [(1, .pointer (some ⟨b1, 0, none⟩))] (valId b1 d false b (decide (d.price + minL d.G + minL d.S ≥ 0))) (rowsId b1 d false b (decide (d.price + minL d.G + minL d.S ≥ 0))) (fun _ => (0, 0)) (⟨b1, 0, cDy d, some 65, 3⟩ :: H) rfl mixed (by (repeat (first | exact Sub.nil _ | refine Sub.cons rfl ?_)); done) rfl (by kernel_rfl) (locId b1 d false b (decide (d.price + minL d.G + minL d.S ≥ 0))) (List.Sublist.refl _) ?_ ?_
    · repeat' (first | exact AllF.done rfl | (refine AllF.step rfl ?_ ?_; · (first | exact Ob.sk rfl rfl (fun _ => rfl) (fun _ => rfl) (fun _ => rfl) (fun _ => rfl) | ((first | refine Ob.ng rfl ?_); (first | exact ObK.pure (fun env R hR => by exact ⟨_, EvF.move rfl rfl, rfl⟩) rfl (fun _ => rfl) | exact ObK.pure (fun env R hR => by exact ⟨_, EvF.assign rfl rfl, rfl⟩) rfl (fun _ => rfl) | exact ObK.pure (fun env R hR => by exact ⟨_, EvF.pickF rfl rfl rfl, rfl⟩) rfl (fun _ => rfl) | exact ObK.pure (fun env R hR => by exact ⟨_, EvF.fieldAddr rfl rfl (te rfl) rfl (te rfl) (by decide), rfl⟩) rfl (fun _ => rfl) | exact ObK.pure (fun env R hR => by exact ⟨_, EvF.loadV rfl rfl (LoadV.own (te rfl) rfl (hR _ (List.Mem.head _)) rfl), rfl⟩) rfl (fun _ => rfl) | (exact ObK.pure (fun env S hS => ⟨_, EvF.build (cs := cSp ⟨0, 1000000⟩) rfl (ArgsP.cons rfl (ArgsP.cons rfl ArgsP.nil)) (te rfl) (Places.cons (te rfl) (Places.cons (te rfl) Places.nil)) Try.zeroValue26 rfl, rfl⟩) rfl (fun _ => rfl)) | (exact fun env S hS => (StF.buildOne rfl elI rfl rfl rfl (by decide) (by decide)).op.mono (fun v H' ⟨b, hv, hH⟩ => ⟨(b, 0), fun _ => hv, by rw [hH]; exact List.Perm.refl _⟩)) | (exact fun env S hS => OpF.callV (Z := [_]) (EnF.st rfl (Args.cons rfl (Args.cons rfl Args.nil))) (hw _ _ _ _ _ (List.Mem.head _)) rfl rfl))))))
    intro env t ha' hv
    refine ⟨_, ha'.cons (hv 25 2 (Nat.le_of_ble_eq_true rfl) rfl), ?_⟩
    show X _ _ _ ((2, .bool (false && b && (decide (d.price + minL d.G + minL d.S ≥ 0)))) :: _) (⟨b1, 0, cDy d, some 65, 3⟩ :: H) _
    repeat' (first | refine X.ret rfl ?_)
    refine ret_one (by first | exact .inr rfl | exact .inl rfl) Try.results126 rfl (H' := H) (by (repeat (first | exact List.Sublist.refl _ | apply List.Sublist.cons)); done) ?_; simp only [and_true, true_and]
  · cases b
    · -- the tables are none
      refine X.regionOb tsId [1] [(1, .pointer (some ⟨b1, 0, none⟩))] (valId b1 d true false (decide (d.price + minL d.G + minL d.S ≥ 0))) (rowsId b1 d true false (decide (d.price + minL d.G + minL d.S ≥ 0))) (fun _ => (0, 0)) (⟨b1, 0, cDy d, some 65, 3⟩ :: H) rfl mixed (by (repeat (first | exact Sub.nil _ | refine Sub.cons rfl ?_)); done) rfl (by kernel_rfl) (locId b1 d true false (decide (d.price + minL d.G + minL d.S ≥ 0))) (List.Sublist.refl _) ?_ ?_
      · repeat' (first | exact AllF.done rfl | (refine AllF.step rfl ?_ ?_; · (first | exact Ob.sk rfl rfl (fun _ => rfl) (fun _ => rfl) (fun _ => rfl) (fun _ => rfl) | ((first | refine Ob.ng rfl ?_ | refine Ob.g rfl rfl (fun _ => rfl) ?_); (first | exact ObK.pure (fun env R hR => by exact ⟨_, EvF.move rfl rfl, rfl⟩) rfl (fun _ => rfl) | exact ObK.pure (fun env R hR => by exact ⟨_, EvF.assign rfl rfl, rfl⟩) rfl (fun _ => rfl) | exact ObK.pure (fun env R hR => by exact ⟨_, EvF.pickT rfl rfl rfl, rfl⟩) rfl (fun _ => rfl) | exact ObK.pure (fun env R hR => by exact ⟨_, EvF.pickF rfl rfl rfl, rfl⟩) rfl (fun _ => rfl) | exact ObK.pure (fun env R hR => by exact ⟨_, EvF.fieldAddr rfl rfl (te rfl) rfl (te rfl) (by decide), rfl⟩) rfl (fun _ => rfl) | exact ObK.pure (fun env R hR => by exact ⟨_, EvF.loadV rfl rfl (LoadV.own (te rfl) rfl (hR _ (List.Mem.head _)) rfl), rfl⟩) rfl (fun _ => rfl) | (exact ObK.pure (fun env S hS => ⟨_, EvF.build (cs := cSp ⟨0, 1000000⟩) rfl (ArgsP.cons rfl (ArgsP.cons rfl ArgsP.nil)) (te rfl) (Places.cons (te rfl) (Places.cons (te rfl) Places.nil)) Try.zeroValue26 rfl, rfl⟩) rfl (fun _ => rfl)) | (exact fun env S hS => (StF.buildOne rfl elI rfl rfl rfl (by decide) (by decide)).op.mono (fun v H' ⟨b, hv, hH⟩ => ⟨(b, 0), fun _ => hv, by rw [hH]; exact List.Perm.refl _⟩)) | (exact fun env S hS => OpF.callV (Z := [_]) (EnF.st rfl (Args.cons rfl (Args.cons rfl Args.nil))) (hw _ _ _ _ _ (List.Mem.head _)) rfl rfl) | (exact fun env S hS => OpF.callV (Z := []) (EnF.st rfl (Args.cons rfl (Args.cons rfl Args.nil))) (htb _ (hD1 _ (fun r hr => hS r (List.Mem.tail _ hr)))) rfl rfl))))))
      intro env t ha' hv
      refine ⟨_, ha'.cons (hv 25 2 (Nat.le_of_ble_eq_true rfl) rfl), ?_⟩
      show X _ _ _ ((2, .bool (true && false && (decide (d.price + minL d.G + minL d.S ≥ 0)))) :: _) (⟨b1, 0, cDy d, some 65, 3⟩ :: H) _
      repeat' (first | refine X.ret rfl ?_)
      refine ret_one (by first | exact .inr rfl | exact .inl rfl) Try.results126 rfl (H' := H) (by (repeat (first | exact List.Sublist.refl _ | apply List.Sublist.cons)); done) ?_; simp only [and_true, true_and]
    · have ht := of_decide_eq_true hb
      have hp := of_decide_eq_true ha
      have g1 := ht.1.1
      have g2 := ht.2.1
      have q1 := ht.1.2 _ (minL_mem (l := d.G) (by omega))
      have q2 := ht.2.2 _ (minL_mem (l := d.S) (by omega))
      refine X.regionOb tsId [1] [(1, .pointer (some ⟨b1, 0, none⟩))] (valId b1 d true true (decide (d.price + minL d.G + minL d.S ≥ 0))) (rowsId b1 d true true (decide (d.price + minL d.G + minL d.S ≥ 0))) (fun _ => (0, 0)) (⟨b1, 0, cDy d, some 65, 3⟩ :: H) rfl mixed (by (repeat (first | exact Sub.nil _ | refine Sub.cons rfl ?_)); done) rfl (by kernel_rfl) (locId b1 d true true (decide (d.price + minL d.G + minL d.S ≥ 0))) (List.Sublist.refl _) ?_ ?_
      · repeat' (first | exact AllF.done rfl | (refine AllF.step rfl ?_ ?_; · (first | fail | ((first | refine Ob.ng rfl ?_ | refine Ob.g rfl rfl (fun _ => rfl) ?_); (first | exact ObK.pure (fun env R hR => by exact ⟨_, EvF.move rfl rfl, rfl⟩) rfl (fun _ => rfl) | exact ObK.pure (fun env R hR => by exact ⟨_, EvF.assign rfl rfl, rfl⟩) rfl (fun _ => rfl) | exact ObK.pure (fun env R hR => by exact ⟨_, EvF.pickT rfl rfl rfl, rfl⟩) rfl (fun _ => rfl) | exact ObK.pure (fun env R hR => by exact ⟨_, EvF.fieldAddr rfl rfl (te rfl) rfl (te rfl) (by decide), rfl⟩) rfl (fun _ => rfl) | exact ObK.pure (fun env R hR => by exact ⟨_, EvF.cmp rfl rfl rfl rfl, rfl⟩) rfl (fun _ => rfl) | exact ObK.pure (fun env R hR => by exact ⟨_, EvF.loadV rfl rfl (LoadV.own (te rfl) rfl (hR _ (List.Mem.head _)) rfl), rfl⟩) rfl (fun _ => rfl) | (exact ObK.pure (fun env S hS => ⟨_, EvF.build (cs := cSp ⟨0, 1000000⟩) rfl (ArgsP.cons rfl (ArgsP.cons rfl ArgsP.nil)) (te rfl) (Places.cons (te rfl) (Places.cons (te rfl) Places.nil)) Try.zeroValue26 rfl, rfl⟩) rfl (fun _ => rfl)) | (exact fun env S hS => (StF.buildOne rfl elI rfl rfl rfl (by decide) (by decide)).op.mono (fun v H' ⟨b, hv, hH⟩ => ⟨(b, 0), fun _ => hv, by rw [hH]; exact List.Perm.refl _⟩)) | (exact fun env S hS => OpF.callV (Z := [_]) (EnF.st rfl (Args.cons rfl (Args.cons rfl Args.nil))) (hw _ _ _ _ _ (List.Mem.head _)) rfl rfl) | (exact fun env S hS => OpF.callV (Z := []) (EnF.st rfl (Args.cons rfl (Args.cons rfl Args.nil))) (htb _ (hD1 _ (fun r hr => hS r (List.Mem.tail _ hr)))) rfl rfl) | (exact fun env S hS => OpF.callV (Z := []) (EnF.st rfl (Args.cons rfl Args.nil)) (minI_spec d.G d.a1 d.c1 _ (hD1 _ (fun r hr => hS r (List.Mem.tail _ hr))).gr hD.l1 (by omega)) rfl rfl) | (exact fun env S hS => OpF.callV (Z := []) (EnF.st rfl (Args.cons rfl Args.nil)) (minI_spec d.S d.a2 d.c2 _ (hD1 _ (fun r hr => hS r (List.Mem.tail _ hr))).st hD.l2 (by omega)) rfl rfl) | (exact ObK.pure (fun env S hS => ⟨_, EvF.add64 rfl rfl rfl (by omega) (by omega), rfl⟩) rfl (fun _ => rfl)))))))
      intro env t ha' hv
      refine ⟨_, ha'.cons (hv 25 2 (Nat.le_of_ble_eq_true rfl) rfl), ?_⟩
      show X _ _ _ ((2, .bool (true && true && (decide (d.price + minL d.G + minL d.S ≥ 0)))) :: _) (⟨b1, 0, cDy d, some 65, 3⟩ :: H) _
      repeat' (first | refine X.ret rfl ?_)
      refine ret_one (by first | exact .inr rfl | exact .inl rfl) Try.results126 rfl (H' := H) (by (repeat (first | exact List.Sublist.refl _ | apply List.Sublist.cons)); done) ?_; simp only [and_true, true_and]
theorem areDays1_spec (d : Dy) (H : List Row) (hD : DyOk H d) : Fc Try.prog 125 ([.agg (cDy d).toArray] ++ []) H (fun v H' => v = .bool (!decide (dayOk d)) ∧ H' = H) := by
  show Fc Try.prog 125 [.agg (cDy d).toArray] H _
  refine Fc.mk (callable Try.call125) Try.func125 rfl Try.ntmps125 rfl ?_; dsimp only [fr]
  repeat' (first | (refine XO.op rfl ?_; (first | ((first | refine Xo.ng rfl ?_); (first | (refine Xg.call (EnF.st rfl (Args.cons rfl Args.nil)) rfl rfl (isDay_spec d _ (hD.sub (fun _ h => List.Mem.tail _ h))) ?_; rintro _ H9 ⟨rfl, hH9⟩; subst H9) | (refine Xg.ev (EvF.assign rfl rfl) rfl rfl ?_) | (refine Xg.ev (EvF.not rfl rfl) rfl rfl ?_) | (refine Xg.ev (EvF.loadV rfl rfl (LoadV.whole (te rfl) rfl (List.Mem.head _) rfl)) rfl rfl ?_) | (refine Xg.st (StF.boxAgg rfl rfl) rfl rfl ?_; rintro _ _ ⟨bx, rfl, rfl⟩))))) | (refine XO.done rfl ?_; refine hK _ _ ?_; clear hK K) | refine X.seq rfl ?_ | refine X.region rfl (fun K hK => ?_) | refine X.ret rfl ?_)
  refine ret_one (by first | exact .inr rfl | exact .inl rfl) Try.results125 rfl (H' := H) (by (repeat (first | exact List.Sublist.refl _ | apply List.Sublist.cons)); done) ?_; simp only [and_true, true_and]
theorem HDall (A : Ab) : HD A := fun d _ H' h => areDays1_spec d H' h
end Go.Proofs.Ytfpmhdjhcoogpaa
end
