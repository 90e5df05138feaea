/- The program: DeleteFunc. -/
import Derived.Test.YtmljpmcipcoaaaaP2
import Derived.Test.YtmljpmcipcoaaaaFw6
set_option linter.unusedSimpArgs false
namespace Go.Proofs.Ytmljpmcipcoaaaa
open Go Go.Fw
set_option maxRecDepth 10000
theorem filter_snoc_t {p : Mt → Bool} {l : List Mt} {j : Nat} {e : Mt} (he : l[j]? = some e) (hp : p e = true) : (l.take (j + 1)).filter (fun e => !p e) = (l.take j).filter (fun e => !p e) := by
  rw [take_snoc he, List.filter_append]; simp [hp]
theorem filter_snoc_f {p : Mt → Bool} {l : List Mt} {j : Nat} {e : Mt} (he : l[j]? = some e) (hp : p e = false) : (l.take (j + 1)).filter (fun e => !p e) = (l.take j).filter (fun e => !p e) ++ [e] := by
  rw [take_snoc he, List.filter_append]; simp [hp]
theorem hone75 (z : Value) (w : World) (h : (zeroValue 75).run Try.prog w = .ok z w) : z.cells.all (·.oneCell') = true := by
  rw [Try.zeroValue75] at h
  cases h
  first | decide | simp [Value.cells, Value.oneCell'] | kernel_rfl
set_option maxHeartbeats 4000000 in
theorem deleteFunc_spec (l : List Mt) (b c g : Nat) (p : Mt → Bool) (cap : List Value) (H : List Row) (hb : l.length ≤ 1000000) (hf : ∀ Z, ∀ e ∈ l, Fc Try.prog g ([.agg (cMt e).toArray] ++ cap) (Z ++ H) (fun v H' => v = .bool (p e) ∧ H' = Z ++ H)) :
    Fc Try.prog 128 [.slice (some ⟨b, 0, none⟩) l.length c, .func (.func g) #[] cap.toArray] (⟨b, 0, l.flatMap cMt, some 75, c * 6⟩ :: H)
      (fun v H' => v = .slice (some ⟨b, 0, none⟩) (l.filter (fun e => !p e)).length c ∧ H' = ⟨b, 0, (l.filter (fun e => !p e)).flatMap cMt, some 75, c * 6⟩ :: H) := by
  have hlen := lenMt l
  refine Fc.mk (callable Try.call128) Try.func128 rfl Try.ntmps128 rfl ?_; dsimp only [fr]
  refine X.reveal (q := 0) rfl (fun rest hrest => ?_)
  refine X.forget (q := 0) (cs := l.flatMap cMt) (cs' := rest) rfl ?_
  dsimp only [List.set]
  have hlc : l.length ≤ c := by
    rw [List.length_append, hlen] at hrest
    omega
  clear hrest
  repeat' (first | (refine XO.op rfl ?_; (first | ((first | refine Xo.ng rfl ?_); (first | (refine Xg.call (EnF.st rfl (by (repeat (first | exact Args.nil | refine Args.cons rfl ?_)); done)) rfl rfl (indexFunc_specMt l _ _ g p cap _ (SlE.ofRow (List.Mem.head _) (fun _ _ => rfl)) (by omega) (fun e he => hf [_] e he)) ?_; rintro _ H9 ⟨⟨z, rfl, hz⟩, hH9⟩; subst H9; rcases hz with ⟨rfl, hz⟩ | ⟨k, e0, rfl, he0, hp0, hz⟩; rotate_left; have hk0 := (List.getElem?_eq_some_iff.1 he0).1; rotate_right) | (refine Xg.ev (EvF.move rfl rfl) rfl rfl ?_) | (refine Xg.ev (EvF.assign rfl rfl) rfl rfl ?_) | (refine Xg.ev (EvF.cmp rfl rfl rfl rfl) rfl rfl ?_) | (refine Xg.ev (EvF.add64 rfl rfl rfl (by omega) (by omega)) rfl rfl ?_))))) | (refine XO.done rfl ?_; refine hK _ _ ?_; clear hK K) | refine X.seq rfl ?_ | refine X.region rfl (fun K hK => ?_) | refine X.block rfl ?_ | refine X.skip rfl ?_ | refine X.ret rfl ?_ | (refine X.ite rfl rfl (fun hc => ?_); (first | (with_reducible refine Xb.case hc (fun h => ?_) (fun h => ?_))) <;> clear hc))
  any_goals (exfalso; omega)
  · have e1 : l.filter (fun e => !p e) = l := List.filter_eq_self.2 (fun e he => by simp [hz e he])
    refine ret_one (by first | exact .inr rfl | exact .inl rfl) Try.results128 rfl (H' := ⟨b, 0, l.flatMap cMt, some 75, c * 6⟩ :: H) (List.Sublist.refl _) ?_
    rw [e1]
    exact ⟨rfl, rfl⟩
  have e1 : (l.take k).filter (fun e => !p e) = l.take k := List.filter_eq_self.2 (fun e he => by
    obtain ⟨i, hi⟩ := List.getElem?_of_mem he
    rw [List.getElem?_take] at hi
    split at hi
    · simp [hz i e (by assumption) hi]
    · cases hi)
  refine X.lp rfl (fun q F' H' => ∃ (i j : Nat) (M : List Value), q = l.length - j ∧ j ≤ l.length ∧ i < j ∧ i = ((l.take j).filter (fun e => !p e)).length ∧ M.length = (j - i) * 6 ∧
      ⟨b, 0, ((l.take j).filter (fun e => !p e)).flatMap cMt ++ M ++ (l.drop j).flatMap cMt, some 75, c * 6⟩ :: H = H' ∧
      F' = [(0, .slice (some ⟨b, 0, none⟩) l.length c), (1, .func (.func g) #[] cap.toArray), (5, .int .i64 i), (6, .int .i64 j)])
    (l.length - (k + 1)) [(0, .slice (some ⟨b, 0, none⟩) l.length c), (1, .func (.func g) #[] cap.toArray), (5, .int .i64 k), (6, .int .i64 (k + 1 : Nat))] _ (by (repeat (first | exact Sub.nil _ | refine Sub.cons rfl ?_)); done) (List.Sublist.refl _) ⟨k, k + 1, cMt e0, rfl, by omega, by omega, ?_, ?_, ?_, rfl⟩ ?_
  · rw [filter_snoc_t he0 hp0, e1, List.length_take]; omega
  · show 6 = _; omega
  · rw [filter_snoc_t he0 hp0, e1]
    congr 2
    rw [show l.flatMap cMt = (l.take k ++ l.drop k).flatMap cMt by rw [List.take_append_drop], drop_cons he0, List.flatMap_append, List.flatMap_cons, List.append_assoc]
  rintro _ _ H2 ⟨i, j, M, rfl, hj, hij, hi, hM, hH, rfl⟩
  subst hH
  have hF : (((l.take j).filter (fun e => !p e)).flatMap cMt).length = i * 6 := by rw [lenMt, ← hi]
  repeat' (first | (refine XO.op rfl ?_; (first | ((first | refine Xo.ng rfl ?_); (first | (refine Xg.ev (EvF.move rfl rfl) rfl rfl ?_) | (refine Xg.ev (EvF.cmp rfl rfl rfl rfl) rfl rfl ?_) | (refine Xg.ev (EvF.lenSlice rfl rfl (te rfl)) rfl rfl ?_) | (refine Xg.ev (EvF.indexSlice rfl rfl rfl (te rfl) (te rfl) (by omega) (by omega)) rfl rfl ?_))))) | (refine XO.done rfl ?_; refine hK _ _ ?_; clear hK K) | refine X.seq rfl ?_ | refine X.region rfl (fun K hK => ?_) | refine X.block rfl ?_ | (refine X.brk rfl ?_; first | refine blockX_hit rfl ?_ | skip) | refine X.skip rfl ?_ | (refine X.ite rfl rfl (fun hc => ?_); (first | (with_reducible refine Xb.case hc (fun h => ?_) (fun h => ?_))) <;> clear hc))
  · have hjl : j < l.length := by omega
    obtain ⟨e, he⟩ : ∃ e, l[j]? = some e := ⟨_, List.getElem?_eq_getElem hjl⟩
    rw [drop_cons he, List.flatMap_cons]
    have hload : ((((l.take j).filter (fun e => !p e)).flatMap cMt ++ M ++ (cMt e ++ (l.drop (j + 1)).flatMap cMt)).drop (0 + (j : Int).toNat * 6)).take 6 = cMt e := by
      rw [List.drop_left' (by rw [List.length_append, hF, hM]; show _ = 0 + j * 6; omega)]
      exact List.take_left' rfl
    repeat' (first | (refine XO.op rfl ?_; (first | ((first | refine Xo.ng rfl ?_); (first | (refine Xg.ev (EvF.loadV rfl rfl (LoadV.ownAgg (te rfl) rfl (List.Mem.head _) hload rfl)) rfl rfl ?_) | (refine Xg.call (EnF.dyn0 rfl rfl (by (repeat (first | exact Args.nil | refine Args.cons rfl ?_)); done)) rfl rfl (hf [_, _] e (List.mem_of_getElem? he)) ?_; rintro _ H9 ⟨rfl, hH9⟩; subst H9) | (refine Xg.st0 (StF.storeAt (q := 1) rfl rfl rfl (te rfl) rfl rfl (one_mt e) (by rw [List.length_append, List.length_append, hF, hM]; show 0 + i * 6 + 6 ≤ _; omega)) rfl ?_; rintro _ _ ⟨rfl, rfl⟩; dsimp only [List.set]) | (refine Xg.ev (EvF.move rfl rfl) rfl rfl ?_) | (refine Xg.ev (EvF.assign rfl rfl) rfl rfl ?_) | (refine Xg.ev (EvF.add64 rfl rfl rfl (by omega) (by omega)) rfl rfl ?_) | (refine Xg.ev (EvF.not rfl rfl) rfl rfl ?_) | (refine Xg.ev (EvF.indexSlice rfl rfl rfl (te rfl) (te rfl) (by omega) (by omega)) rfl rfl ?_) | (refine Xg.ev (EvF.loadV rfl rfl (LoadV.whole (te rfl) rfl (List.Mem.head _) rfl)) rfl rfl ?_) | (refine Xg.st (StF.alloc rfl Try.zeroValue75 rfl) rfl rfl ?_; rintro _ _ ⟨bx, rfl, rfl⟩) | (refine Xg.st0 (StF.storeAll (i := 0) rfl rfl rfl (te rfl) rfl rfl rfl rfl) rfl ?_; rintro _ _ ⟨rfl, rfl⟩; dsimp only [List.set]))))) | (refine XO.done rfl ?_; refine hK _ _ ?_; clear hK K) | refine X.seq rfl ?_ | refine X.region rfl (fun K hK => ?_) | refine X.skip rfl ?_ | (refine X.ite rfl rfl (fun hc => ?_); (first | (with_reducible refine Xb.caseB hc (fun h => ?_) (fun h => ?_))) <;> clear hc))
    · have hp : p e = false := by simpa using h
      refine ⟨_, [(0, .slice (some ⟨b, 0, none⟩) l.length c), (1, .func (.func g) #[] cap.toArray), (5, .int .i64 (i + 1 : Nat)), (6, .int .i64 (j + 1 : Nat))], _, (by (repeat (first | exact Sub.nil _ | refine Sub.cons rfl ?_)); done), ?_, ⟨i + 1, j + 1, M.drop 6 ++ cMt e, rfl, by omega, by omega, ?_, ?_, rfl, rfl⟩, by omega⟩
      · rw [filter_snoc_f he hp, List.flatMap_append]
        have := splice_at (xs := ((l.take j).filter (fun e => !p e)).flatMap cMt) (ys := M.take 6) (zs := M.drop 6 ++ (cMt e ++ (l.drop (j + 1)).flatMap cMt)) (vs := cMt e) (j := 0 + (i : Int).toNat * 6) (by rw [hF]; show _ = 0 + i * 6; omega) (by rw [List.length_take, hM]; show 6 = _; omega)
        rw [show ((l.take j).filter (fun e => !p e)).flatMap cMt ++ M.take 6 ++ (M.drop 6 ++ (cMt e ++ (l.drop (j + 1)).flatMap cMt)) = ((l.take j).filter (fun e => !p e)).flatMap cMt ++ M ++ (cMt e ++ (l.drop (j + 1)).flatMap cMt) by
          rw [List.append_assoc, ← List.append_assoc (M.take 6), List.take_append_drop, List.append_assoc]] at this
        rw [this]
        rw [show ((l.take j).filter (fun e => !p e)).flatMap cMt ++ cMt e ++ (M.drop 6 ++ (cMt e ++ (l.drop (j + 1)).flatMap cMt)) = ((l.take j).filter (fun e => !p e)).flatMap cMt ++ [e].flatMap cMt ++ (M.drop 6 ++ cMt e) ++ (l.drop (j + 1)).flatMap cMt by
          rw [List.flatMap_singleton]; simp only [List.append_assoc]]
        exact (by (repeat (first | exact List.Sublist.refl _ | apply List.Sublist.cons_cons | apply List.Sublist.cons)); done)
      · rw [filter_snoc_f he hp, List.length_append, ← hi]; rfl
      · rw [List.length_append, List.length_drop, hM]; show _ + 6 = _; omega
    · have hp : p e = true := by simpa using h
      refine ⟨_, [(0, .slice (some ⟨b, 0, none⟩) l.length c), (1, .func (.func g) #[] cap.toArray), (5, .int .i64 i), (6, .int .i64 (j + 1 : Nat))], _, (by (repeat (first | exact Sub.nil _ | refine Sub.cons rfl ?_)); done), ?_, ⟨i, j + 1, M ++ cMt e, rfl, by omega, by omega, ?_, ?_, rfl, rfl⟩, by omega⟩
      · rw [filter_snoc_t he hp, List.append_assoc, List.append_assoc, List.append_assoc]
        exact (by (repeat (first | exact List.Sublist.refl _ | apply List.Sublist.cons_cons | apply List.Sublist.cons)); done)
      · rw [filter_snoc_t he hp]; exact hi
      · rw [List.length_append, hM]; show _ + 6 = _; omega
  · obtain rfl : j = l.length := by omega
    rw [List.take_length] at hi hF ⊢
    rw [List.drop_length, List.flatMap_nil, List.append_nil]
    repeat' (first | (refine XO.op rfl ?_; (first | ((first | refine Xo.ng rfl ?_); (first | (refine Xg.ev (EvF.sliceFromL (lo := i) rfl rfl (te rfl) (te rfl) rfl (by omega) (by omega) (by omega)) rfl rfl ?_) | (refine Xg.st0 (StF.clear (q := 0) rfl el24 rfl rfl (by rw [List.length_append, hF, hM]; show 0 + i * 6 + _ ≤ _; omega) hone75) rfl ?_; rintro _ _ ⟨zs, hzs, rfl⟩; dsimp only [List.set]) | (refine Xg.ev (EvF.move rfl rfl) rfl rfl ?_))))) | (refine XO.done rfl ?_; refine hK _ _ ?_; clear hK K) | refine X.seq rfl ?_ | refine X.region rfl (fun K hK => ?_))
    have e2 : splice ((l.filter (fun e => !p e)).flatMap cMt ++ M) (0 + i * 6) zs = (l.filter (fun e => !p e)).flatMap cMt ++ zs := by
      have := splice_at (xs := (l.filter (fun e => !p e)).flatMap cMt) (ys := M) (zs := []) (vs := zs) (j := 0 + i * 6) (by rw [hF]; omega) (by rw [hzs, hM])
      rwa [List.append_nil, List.append_nil] at this
    rw [e2]
    refine XO.forget (q := 0) rfl ?_
    dsimp only [List.set]
    repeat' (first | (refine XO.op rfl ?_; (first | ((first | refine Xo.ng rfl ?_); (first | (refine Xg.ev (EvF.sliceTo (hh := i) rfl rfl (te rfl) (te rfl) rfl (by omega)) rfl rfl ?_) | (refine Xg.ev (EvF.assign rfl rfl) rfl rfl ?_))))) | (refine XO.done rfl ?_; refine hK _ _ ?_; clear hK K) | refine X.ret rfl ?_)
    refine ret_one (by first | exact .inr rfl | exact .inl rfl) Try.results128 rfl (H' := ⟨b, 0, (l.filter (fun e => !p e)).flatMap cMt, some 75, c * 6⟩ :: H) (List.Sublist.refl _) ⟨?_, rfl⟩
    rw [hi]
end Go.Proofs.Ytmljpmcipcoaaaa
