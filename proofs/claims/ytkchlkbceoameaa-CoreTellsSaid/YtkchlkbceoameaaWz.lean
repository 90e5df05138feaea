/- CoreTells: for every bale and layer the law returns true (whether the bale is valid and has a truth, and the grades of a layer, of the best and of the worst one, or the errors, are those of the reference, and the bale stays), and each argument reads afterwards as before. No condition. -/
import Derived.Test.YtkchlkbceoameaaW02
import Derived.OpenShut
import Derived.ProofKit
import Derived.Test.YtkchlkbceoameaaRows
import Derived.WalkKit
import Derived.ChangeOld
import Derived.ShutString
section
set_option linter.unusedSimpArgs false
namespace Go.Proofs.Ytkchlkbceoameaa
open Go Go.Fw
set_option maxRecDepth 10000
/-- the numbers from lo on, k of them, of which something is so -/
def wl (ok : Int → Bool) (lo : Int) : Nat → List Int
  | 0 => []
  | k + 1 => wl ok lo k ++ (if ok (lo + k) = true then [lo + k] else [])
theorem wl_len (ok : Int → Bool) (lo : Int) : ∀ k, (wl ok lo k).length ≤ k
  | 0 => Nat.le_refl _
  | k + 1 => by
    have := wl_len ok lo k
    simp only [wl, List.length_append]
    split <;> simp <;> omega
theorem wl_congr {ok ok' : Int → Bool} {lo : Int} : ∀ k, (∀ i : Nat, i < k → ok (lo + i) = ok' (lo + i)) → wl ok lo k = wl ok' lo k
  | 0, _ => rfl
  | k + 1, h => by
    simp only [wl]
    rw [wl_congr k (fun i hi => h i (by omega)), h k (by omega)]
/-- a list of numbers in memory of one's own, or nil -/
def OutI (l : List Int) (out : Value) (Z : List Row) : Prop := (l = [] ∧ out = .slice none 0 0 ∧ Z = []) ∨ ∃ b q, out = .slice (some ⟨b, 0, none⟩) l.length q ∧ Z = [⟨b, 0, l.flatMap cI, some 3, q * 1⟩]
theorem OutI.sl {l : List Int} {out : Value} {Z H : List Row} (h : OutI l out Z) : ∃ a c, out = .slice a l.length c ∧ SlE (Z ++ H) a cI 1 l := by
  rcases h with ⟨rfl, rfl, rfl⟩ | ⟨b, q, rfl, rfl⟩
  · exact ⟨none, 0, rfl, sleNil⟩
  · exact ⟨_, _, rfl, SlE.ofRow (List.Mem.head _) (fun _ _ => rfl)⟩
def canW (B : Bl) (d : Int) : Prop := ∀ x ∈ B.weighs, ¬ (dampOf x d).lo > (dampOf x d).hi
noncomputable instance (B : Bl) (d : Int) : Decidable (canW B d) := Classical.propDecidable _
noncomputable def okW (B : Bl) (d : Int) : Bool := decide (canW B d)
noncomputable def wts (B : Bl) : List Int := wl (okW B) B.dlo (B.dhi - B.dlo + 1).toNat
set_option maxHeartbeats 4000000 in
theorem weights_spec (B : Bl) (p : Pb) (g : List Sp) (H : List Row) (hd : 1 ≤ B.dlo ∧ B.dlo ≤ B.dhi ∧ B.dhi ≤ 600) (hw : ∀ x ∈ B.weighs, 0 ≤ x.val ∧ x.val ≤ 10000) (hg : g.length = 5) (hB : BlOk H B p) :
    Fc Try.prog 48 [.agg (cPr B p g).toArray] H (fun v H' => ∃ Z, OutI (wts B) v Z ∧ H' = Z ++ H) := by
  obtain ⟨N, hN⟩ : ∃ N : Nat, (B.dhi - B.dlo + 1).toNat = N := ⟨_, rfl⟩
  unfold wts
  rw [hN]
  have hNN : B.dlo + N = B.dhi + 1 := by omega
  have l2 := hB.l2
  have hBZ : ∀ (Z : List Row) r, BlOk (Z ++ r :: H) B p := fun Z r => hB.sub (fun _ h => List.mem_append_right _ (List.mem_cons_of_mem _ h))
  obtain ⟨a1, c1, a2, c2⟩ := p
  refine Fc.mk (callable Try.call48) Try.func48 rfl Try.ntmps48 rfl ?_; dsimp only [fr]
  repeat' (first | (refine XO.op rfl ?_; (first | ((first | refine Xo.ng rfl ?_); (first | (refine Xg.ev (EvF.move rfl rfl) rfl rfl ?_) | (refine Xg.ev (EvF.assign rfl rfl) rfl rfl ?_) | (refine Xg.ev (EvF.cmp rfl rfl rfl rfl) rfl rfl ?_) | (refine Xg.ev (EvF.fieldAddr rfl rfl (te rfl) rfl (te rfl) (by decide)) rfl rfl ?_) | (refine Xg.ev (EvF.loadV rfl rfl (LoadV.own (te rfl) rfl (List.Mem.head _) rfl)) rfl rfl ?_) | (refine Xg.st (StF.boxAgg rfl rfl) rfl rfl ?_; rintro _ _ ⟨bx, rfl, rfl⟩))))) | (refine XO.done rfl ?_; refine hK _ _ ?_; clear hK K) | refine X.seq rfl ?_ | refine X.region rfl (fun K hK => ?_) | refine X.block rfl ?_ | (refine X.brk rfl ?_; first | refine blockX_hit rfl ?_ | skip) | refine X.skip rfl ?_ | (refine X.ite rfl rfl (fun hc => ?_); (first | (with_reducible refine Xb.case hc (fun h => ?_) (fun h => ?_))) <;> clear hc))
  refine X.scope rfl ?_
  repeat' (first | (refine XO.op rfl ?_; (first | ((first | refine Xo.ng rfl ?_); (first | (refine Xg.ev (EvF.move rfl rfl) rfl rfl ?_) | (refine Xg.ev (EvF.assign rfl rfl) rfl rfl ?_) | (refine Xg.ev (EvF.cmp rfl rfl rfl rfl) rfl rfl ?_) | (refine Xg.ev (EvF.fieldAddr rfl rfl (te rfl) rfl (te rfl) (by decide)) rfl rfl ?_) | (refine Xg.ev (EvF.loadV rfl rfl (LoadV.own (te rfl) rfl (List.Mem.head _) rfl)) rfl rfl ?_) | (refine Xg.st (StF.boxAgg rfl rfl) rfl rfl ?_; rintro _ _ ⟨bx, rfl, rfl⟩))))) | (refine XO.done rfl ?_; refine hK _ _ ?_; clear hK K) | refine X.seq rfl ?_ | refine X.region rfl (fun K hK => ?_) | refine X.block rfl ?_ | (refine X.brk rfl ?_; first | refine blockX_hit rfl ?_ | skip) | refine X.skip rfl ?_ | (refine X.ite rfl rfl (fun hc => ?_); (first | (with_reducible refine Xb.case hc (fun h => ?_) (fun h => ?_))) <;> clear hc))
  refine X.label rfl ?_
  repeat' (first | (refine XO.op rfl ?_; (first | ((first | refine Xo.ng rfl ?_); (first | (refine Xg.ev (EvF.move rfl rfl) rfl rfl ?_) | (refine Xg.ev (EvF.assign rfl rfl) rfl rfl ?_) | (refine Xg.ev (EvF.cmp rfl rfl rfl rfl) rfl rfl ?_) | (refine Xg.ev (EvF.fieldAddr rfl rfl (te rfl) rfl (te rfl) (by decide)) rfl rfl ?_) | (refine Xg.ev (EvF.loadV rfl rfl (LoadV.own (te rfl) rfl (List.Mem.head _) rfl)) rfl rfl ?_) | (refine Xg.st (StF.boxAgg rfl rfl) rfl rfl ?_; rintro _ _ ⟨bx, rfl, rfl⟩))))) | (refine XO.done rfl ?_; refine hK _ _ ?_; clear hK K) | refine X.seq rfl ?_ | refine X.region rfl (fun K hK => ?_) | refine X.block rfl ?_ | (refine X.brk rfl ?_; first | refine blockX_hit rfl ?_ | skip) | refine X.skip rfl ?_ | (refine X.ite rfl rfl (fun hc => ?_); (first | (with_reducible refine Xb.case hc (fun h => ?_) (fun h => ?_))) <;> clear hc))
  rename Nat => b1
  refine X.lp rfl (fun m F' H' => ∃ (k : Nat) (d : Int) (out : Value) (Z : List Row), m = N - k ∧ k ≤ N ∧ d = B.dlo + k ∧ OutI (wl (okW B) B.dlo k) out Z ∧ Z ++ ⟨b1, 0, cPr B ⟨a1, c1, a2, c2⟩ g, some 47, 16⟩ :: H = H' ∧
      F' = [(1, .pointer (some ⟨b1, 0, none⟩)), (3, out), (4, .int .i64 d)])
    N [(1, .pointer (some ⟨b1, 0, none⟩)), (3, .slice none 0 0), (4, .int .i64 B.dlo)] (⟨b1, 0, cPr B ⟨a1, c1, a2, c2⟩ g, some 47, 16⟩ :: H) (by (repeat (first | exact Sub.nil _ | refine Sub.cons rfl ?_)); done) (by rw [← lenPr (B := B) (p := ⟨a1, c1, a2, c2⟩) hg]; exact List.Sublist.refl _) ⟨0, _, _, [], by omega, by omega, by omega, .inl ⟨rfl, rfl, rfl⟩, rfl, rfl⟩ ?_
  rintro _ _ H2 ⟨k, d, out, Z, rfl, hk, hdk, hO, hH, rfl⟩
  subst hH
  repeat' (first | (refine XO.op rfl ?_; (first | ((first | refine Xo.ng rfl ?_); (first | (refine Xg.ev (EvF.loadV rfl rfl (LoadV.own (te rfl) rfl (List.mem_append_right _ (List.Mem.head _)) rfl)) rfl rfl ?_) | (refine Xg.ev (EvF.move rfl rfl) rfl rfl ?_) | (refine Xg.ev (EvF.assign rfl rfl) rfl rfl ?_) | (refine Xg.ev (EvF.cmp rfl rfl rfl rfl) rfl rfl ?_) | (refine Xg.ev (EvF.fieldAddr rfl rfl (te rfl) rfl (te rfl) (by decide)) rfl rfl ?_) | (refine Xg.ev (EvF.lenSlice rfl rfl (te rfl)) rfl rfl ?_))))) | (refine XO.done rfl ?_; refine hK _ _ ?_; clear hK K) | refine X.seq rfl ?_ | refine X.region rfl (fun K hK => ?_) | refine X.block rfl ?_ | (refine X.brk rfl ?_; first | refine blockX_hit rfl ?_ | skip) | refine X.skip rfl ?_ | refine X.ret rfl ?_ | (refine X.ite rfl rfl (fun hc => ?_); (first | (with_reducible refine Xb.case hc (fun h => ?_) (fun h => ?_))) <;> clear hc))
  · refine X.lp rfl (fun m F' H' => ∃ q : Nat, m = B.weighs.length - q ∧ q ≤ B.weighs.length ∧ (canW B d ↔ ∀ x ∈ B.weighs.drop q, ¬ (dampOf x d).lo > (dampOf x d).hi) ∧ Z ++ ⟨b1, 0, cPr B ⟨a1, c1, a2, c2⟩ g, some 47, 16⟩ :: H = H' ∧
        F' = [(1, .pointer (some ⟨b1, 0, none⟩)), (3, out), (4, .int .i64 d), (22, .slice a2 B.weighs.length c2), (23, .int .i64 B.weighs.length), (24, .int .i64 q)])
      B.weighs.length [(1, .pointer (some ⟨b1, 0, none⟩)), (3, out), (4, .int .i64 d), (22, .slice a2 B.weighs.length c2), (23, .int .i64 B.weighs.length), (24, .int .i64 (0 : Nat))] _ (by (repeat (first | exact Sub.nil _ | refine Sub.cons rfl ?_)); done) (List.Sublist.refl _) ⟨0, by omega, by omega, by unfold canW; simp, rfl, rfl⟩ ?_
    rintro _ _ H2 ⟨q, rfl, hq, hn, hH, rfl⟩
    subst hH
    repeat' (first | (refine XO.op rfl ?_; (first | ((first | refine Xo.ng rfl ?_); (first | (refine Xg.ev (EvF.move rfl rfl) rfl rfl ?_) | (refine Xg.ev (EvF.assign rfl rfl) rfl rfl ?_) | (refine Xg.ev (EvF.cmp rfl rfl rfl rfl) rfl rfl ?_) | (refine Xg.ev (EvF.fieldAddr rfl rfl (te rfl) rfl (te rfl) (by decide)) rfl rfl ?_) | (refine Xg.ev (EvF.loadV rfl rfl (LoadV.own (te rfl) rfl (List.Mem.head _) rfl)) rfl rfl ?_) | (refine Xg.st (StF.boxAgg rfl rfl) rfl rfl ?_; rintro _ _ ⟨bx, rfl, rfl⟩))))) | (refine XO.done rfl ?_; refine hK _ _ ?_; clear hK K) | refine X.seq rfl ?_ | refine X.region rfl (fun K hK => ?_) | refine X.block rfl ?_ | (refine X.brk rfl ?_; first | refine blockX_hit rfl ?_ | skip) | refine X.skip rfl ?_ | (refine X.ite rfl rfl (fun hc => ?_); (first | (with_reducible refine Xb.case hc (fun h => ?_) (fun h => ?_))) <;> clear hc))
    · obtain ⟨b, off, e, rfl, he⟩ := hB.weighs.elem (i := q) (by omega)
      have hwe := hw e (List.mem_of_getElem? he)
      rw [drop_cons he] at hn
      repeat' (first | (refine XO.op rfl ?_; (first | ((first | refine Xo.ng rfl ?_); (first | (refine Xg.ev (EvF.loadV rfl rfl (LoadV.elA0 (hBZ _ _).weighs he (te rfl) rfl (fun _ hm => hm) rfl)) rfl rfl ?_) | (refine Xg.call (EnF.st rfl (Args.cons rfl (Args.cons rfl Args.nil))) rfl rfl (damp_spec e d _ hwe (by omega)) ?_; rintro _ H9 ⟨rfl, hH9⟩; subst H9) | (refine Xg.ev (EvF.move rfl rfl) rfl rfl ?_) | (refine Xg.ev (EvF.assign rfl rfl) rfl rfl ?_) | (refine Xg.ev (EvF.cmp rfl rfl rfl rfl) rfl rfl ?_) | (refine Xg.ev (EvF.add64 rfl rfl rfl (by omega) (by omega)) rfl rfl ?_) | (refine Xg.ev (EvF.fieldAddr rfl rfl (te rfl) rfl (te rfl) (by decide)) rfl rfl ?_) | (refine Xg.ev (EvF.indexSlice rfl rfl rfl (te rfl) (te rfl) (by omega) (by omega)) rfl rfl ?_) | (refine Xg.ev (EvF.loadV rfl rfl (LoadV.own (te rfl) rfl (List.Mem.head _) rfl)) rfl rfl ?_) | (refine Xg.ev (EvF.loadV rfl rfl (LoadV.whole (te rfl) rfl (List.Mem.head _) rfl)) rfl rfl ?_) | (refine Xg.st (StF.alloc rfl Try.zeroValue23 rfl) rfl rfl ?_; rintro _ _ ⟨bx, rfl, rfl⟩) | (refine Xg.st (StF.alloc rfl Try.zeroValue62 rfl) rfl rfl ?_; rintro _ _ ⟨bx, rfl, rfl⟩) | (refine Xg.st0 (StF.storeAll (i := 0) rfl rfl rfl (te rfl) rfl rfl rfl rfl) rfl ?_; rintro _ _ ⟨rfl, rfl⟩; dsimp only [List.set]))))) | (refine XO.done rfl ?_; refine hK _ _ ?_; clear hK K) | refine X.seq rfl ?_ | refine X.region rfl (fun K hK => ?_) | (refine X.brk rfl ?_; first | refine blockX_hit rfl ?_ | skip) | refine X.skip rfl ?_ | (refine X.ite rfl rfl (fun hc => ?_); (first | (with_reducible refine Xb.case hc (fun h => ?_) (fun h => ?_))) <;> clear hc))
      · have hno : okW B d = false := decide_eq_false (fun c => hn.1 c e List.mem_cons_self h)
        refine ⟨_, _, _, (by (repeat (first | exact Sub.nil _ | refine Sub.cons rfl ?_)); done), (by (repeat (first | exact List.Sublist.refl _ | apply List.Sublist.cons)); done), ⟨k + 1, _, _, Z, rfl, by omega, ?_, ?_, rfl, rfl⟩, by omega⟩
        · omega
        · rw [hdk] at hno
          simp only [wl, hno, Bool.false_eq_true, if_false, List.append_nil]
          exact hO
      · refine ⟨_, _, _, (by (repeat (first | exact Sub.nil _ | refine Sub.cons rfl ?_)); done), (by (repeat (first | exact List.Sublist.refl _ | apply List.Sublist.cons)); done), ⟨q + 1, rfl, by omega, hn.trans ⟨fun w n hm => w n (List.mem_cons_of_mem _ hm), fun w n hm => ?_⟩, rfl, rfl⟩, by omega⟩
        rcases List.mem_cons.1 hm with rfl | hm
        · assumption
        · exact w n hm
    · have hyes : okW B d = true := decide_eq_true (hn.2 (by rw [List.drop_eq_nil_of_le (by omega)]; exact fun _ h => absurd h List.not_mem_nil))
      have hwl : wl (okW B) B.dlo (k + 1) = wl (okW B) B.dlo k ++ [d] := by
        rw [hdk] at hyes
        simp only [wl, hyes, if_true, hdk]
      have hk1 := wl_len (okW B) B.dlo k
      obtain ⟨l, hlE⟩ : ∃ l, wl (okW B) B.dlo k = l := ⟨_, rfl⟩
      rw [hlE] at hO hwl hk1
      clear hn
      rcases hO with ⟨rfl, rfl, rfl⟩ | ⟨b0, q0, rfl, rfl⟩
      · repeat' (first | (refine XO.op rfl ?_; (first | ((first | refine Xo.ng rfl ?_); (first | (refine Xg.st (StF.buildOne rfl el55 rfl rfl rfl (by decide) (by decide)) rfl rfl ?_; rintro _ _ ⟨bs, rfl, rfl⟩) | (refine Xg.st (StF.appendNew rfl el55 rfl rfl (by decide) rfl (Rd.own (List.Mem.head _)) (by decide)) rfl rfl ?_; rintro _ _ ⟨bn, kn, rfl, rfl⟩) | (refine Xg.ev (EvF.move rfl rfl) rfl rfl ?_) | (refine Xg.ev (EvF.assign rfl rfl) rfl rfl ?_) | (refine Xg.ev (EvF.add64 rfl rfl rfl (by omega) (by omega)) rfl rfl ?_))))) | (refine XO.done rfl ?_; refine hK _ _ ?_; clear hK K) | refine X.region rfl (fun K hK => ?_))
        refine ⟨_, _, _, (by (repeat (first | exact Sub.nil _ | refine Sub.cons rfl ?_)); done), ?_, ⟨k + 1, _, _, [⟨bn, 0, ([] ++ [d]).flatMap cI, some 3, kn * 1⟩], rfl, by omega, ?_, ?_, rfl, rfl⟩, by omega⟩
        · exact List.Sublist.cons_cons _ (List.Sublist.cons _ (List.Sublist.refl _))
        · omega
        · rw [hwl]; exact .inr ⟨_, _, rfl, rfl⟩
      · have hlen : (l.flatMap cI).length = l.length * 1 := lenI l
        repeat' (first | (refine XO.op rfl ?_; (first | ((first | refine Xo.ng rfl ?_); (first | (refine Xg.st (StF.buildOne rfl el55 rfl rfl rfl (by decide) (by decide)) rfl rfl ?_; rintro _ _ ⟨bs, rfl, rfl⟩) | (refine Xg.st (StF.appendOwn (i := 1) rfl el55 rfl rfl rfl hlen rfl (Rd.own (List.Mem.head _)) rfl (by omega)) rfl rfl ?_; rintro _ _ ⟨bn, kn, rfl, rfl⟩; dsimp only [List.eraseIdx]) | (refine Xg.ev (EvF.move rfl rfl) rfl rfl ?_) | (refine Xg.ev (EvF.assign rfl rfl) rfl rfl ?_) | (refine Xg.ev (EvF.add64 rfl rfl rfl (by omega) (by omega)) rfl rfl ?_))))) | (refine XO.done rfl ?_; refine hK _ _ ?_; clear hK K) | refine X.region rfl (fun K hK => ?_))
        refine ⟨_, _, _, (by (repeat (first | exact Sub.nil _ | refine Sub.cons rfl ?_)); done), ?_, ⟨k + 1, _, _, [⟨bn, 0, (l ++ [d]).flatMap cI, some 3, kn * 1⟩], rfl, by omega, ?_, ?_, rfl, rfl⟩, by omega⟩
        · rw [List.flatMap_append]
          exact List.Sublist.cons_cons _ (List.Sublist.cons _ (List.Sublist.refl _))
        · omega
        · rw [hwl]; exact .inr ⟨_, _, by rw [List.length_append]; rfl, rfl⟩
  · obtain rfl : k = N := by omega
    exact ret_one (by first | exact .inr rfl | exact .inl rfl) Try.results48 rfl (H' := Z ++ H) (List.Sublist.append (List.Sublist.refl _) (List.sublist_cons_self _ _)) ⟨Z, hO, rfl⟩
theorem hasWeight_spec (B : Bl) (p : Pb) (g : List Sp) (H : List Row) (hd : 1 ≤ B.dlo ∧ B.dlo ≤ B.dhi ∧ B.dhi ≤ 600) (hw : ∀ x ∈ B.weighs, 0 ≤ x.val ∧ x.val ≤ 10000) (hg : g.length = 5) (hB : BlOk H B p) :
    Fc Try.prog 32 [.agg (cPr B p g).toArray] H (fun v H' => v = .bool (decide ((wts B).length > 0)) ∧ H' = H) := by
  have hl := wl_len (okW B) B.dlo (B.dhi - B.dlo + 1).toNat
  refine Fc.mk (callable Try.call32) Try.func32 rfl Try.ntmps32 rfl ?_; dsimp only [fr]
  repeat' (first | (refine XO.op rfl ?_; (first | ((first | refine Xo.ng rfl ?_); (first | (refine Xg.ev (EvF.loadV rfl rfl (LoadV.whole (te rfl) rfl (List.Mem.head _) (lenPr hg))) rfl rfl ?_) | (refine Xg.call (EnF.st rfl (by (repeat (first | exact Args.nil | refine Args.cons rfl ?_)); done)) rfl rfl (weights_spec B p g _ hd hw hg (hB.sub (fun _ h => List.mem_cons_of_mem _ h))) ?_; rintro _ _ ⟨Z, hO, rfl⟩; obtain ⟨a, c, rfl, hs⟩ := hO.sl (H := [])) | (refine Xg.ev (EvF.assign rfl rfl) rfl rfl ?_) | (refine Xg.ev (EvF.cmp rfl rfl rfl rfl) rfl rfl ?_) | (refine Xg.ev (EvF.lenSlice rfl rfl (te rfl)) rfl rfl ?_) | (refine Xg.st (StF.boxAgg rfl rfl) rfl rfl ?_; rintro _ _ ⟨bx, rfl, rfl⟩))))) | (refine XO.done rfl ?_; refine hK _ _ ?_; clear hK K) | refine X.seq rfl ?_ | refine X.region rfl (fun K hK => ?_) | refine X.ret rfl ?_)
  refine ret_one (by first | exact .inr rfl | exact .inl rfl) Try.results32 rfl (H' := H) ((List.sublist_cons_self _ _).trans (List.sublist_append_right _ _)) ⟨?_, rfl⟩
  congr 1
  exact decide_eq_decide.2 ⟨fun q => by omega, fun q => by omega⟩
theorem can_spec (B : Bl) (p : Pb) (g : List Sp) (H : List Row) (h5 : 1 ≤ B.layers ∧ B.layers ≤ 5) (hd : 1 ≤ B.dlo ∧ B.dlo ≤ B.dhi ∧ B.dhi ≤ 600) (hw : ∀ x ∈ B.weighs, 0 ≤ x.val ∧ x.val ≤ 10000) (hg : g.length = 5) (hB : BlOk H B p) :
    Fc Try.prog 18 [.agg (cPr B p g).toArray] H (fun v H' => v = .bool (decide (hasG B.layers.toNat g ∧ (wts B).length > 0)) ∧ H' = H) := by
  refine Fc.mk (callable Try.call18) Try.func18 rfl Try.ntmps18 rfl ?_; dsimp only [fr]
  repeat' (first | (refine XO.op rfl ?_; (first | ((first | refine Xo.ng rfl ?_ | (refine Xo.g rfl rfl ?_; with_reducible refine Xw.tt ?_)); (first | (refine Xg.ev (EvF.loadV rfl rfl (LoadV.whole (te rfl) rfl (List.Mem.head _) (lenPr hg))) rfl rfl ?_) | (refine Xg.call (EnF.st rfl (Args.cons rfl Args.nil)) rfl rfl (hasGrades_spec B p g _ h5 hg) ?_; rintro _ H9 ⟨rfl, hH9⟩; subst H9) | (refine Xg.call (EnF.st rfl (Args.cons rfl Args.nil)) rfl rfl (hasWeight_spec B p g _ hd hw hg (hB.sub (fun _ h => List.mem_cons_of_mem _ h))) ?_; rintro _ H9 ⟨rfl, hH9⟩; subst H9) | (refine Xg.ev (EvF.move rfl rfl) rfl rfl ?_) | (refine Xg.ev (EvF.assign rfl rfl) rfl rfl ?_) | (refine Xg.ev (EvF.pickT rfl rfl rfl) rfl rfl ?_) | (refine Xg.ev (EvF.pickF rfl rfl rfl) rfl rfl ?_) | (refine Xg.st (StF.boxAgg rfl rfl) rfl rfl ?_; rintro _ _ ⟨bx, rfl, rfl⟩))) | (refine Xo.g rfl rfl ?_; (first | (with_reducible refine Xw.ft rfl rfl ?_) | (with_reducible refine Xw.case (fun h => ?_) (fun h => ?_) <;> simp only [h, decide_true, decide_false, Bool.not_true, Bool.not_false, and_self, and_true, true_and, and_false, false_and]))))) | (refine XO.done rfl ?_; refine hK _ _ ?_; clear hK K) | refine X.seq rfl ?_ | refine X.region rfl (fun K hK => ?_) | refine X.ret rfl ?_)
  all_goals (refine ret_one (by first | exact .inr rfl | exact .inl rfl) Try.results18 rfl (H' := H) (by (repeat (first | exact List.Sublist.refl _ | apply List.Sublist.cons)); done) ?_; simp only [and_true, true_and])
  all_goals (congr 1)
  all_goals first
    | (symm; exact decide_eq_false (fun q => absurd q.1 (by assumption)))
    | exact decide_eq_decide.2 ⟨fun q => ⟨by assumption, q⟩, fun q => q.2⟩
end Go.Proofs.Ytkchlkbceoameaa
end
section
set_option linter.unusedSimpArgs false
namespace Go.Proofs.Ytkchlkbceoameaa
open Go Go.Fw
set_option maxRecDepth 10000
theorem baleOk.h5 {B : Bl} (h : baleOk B) : 1 ≤ B.layers ∧ B.layers ≤ 5 := by simpa using h.2.1
theorem baleOk.hd {B : Bl} (h : baleOk B) : ∀ x ∈ B.draws, 0 ≤ x.val ∧ x.val < 5 := by
  intro x hx
  have h1 := (h.2.2.2.1.2.2 x hx).1 x.val (List.mem_singleton.2 rfl)
  have h2 := h.h5
  exact ⟨h1.1, by have := h1.2; simp only at this; omega⟩
theorem baleOk.hdry {B : Bl} (h : baleOk B) : 1 ≤ B.dlo ∧ B.dlo ≤ B.dhi ∧ B.dhi ≤ 600 := ⟨h.2.2.1.2.1, h.2.2.1.1, h.2.2.1.2.2⟩
theorem baleOk.hw {B : Bl} (h : baleOk B) : ∀ x ∈ B.weighs, 0 ≤ x.val ∧ x.val ≤ 10000 := by
  intro x hx
  have h1 := (h.2.2.2.2.2.2 x hx).1 x.val (List.mem_singleton.2 rfl)
  exact ⟨by have := h1.1; simp only at this; omega, by have := h1.2; simp only at this; omega⟩
theorem gradesOf_len {B : Bl} (h : baleOk B) : (gradesOf B).length = 5 := by
  have := h.h5
  unfold gradesOf; rw [foldG_len, initG_len (by omega)]
/-- what a call is about -/
structure Ca where
  l : List Int
  k : List Int
  w : List Int
  d : List Int
structure Pc where
  a1 : Option Addr
  c1 : Nat
  a2 : Option Addr
  c2 : Nat
  a3 : Option Addr
  c3 : Nat
  a4 : Option Addr
  c4 : Nat
def cCa (C : Ca) (q : Pc) : List Value := [.slice q.a1 C.l.length q.c1, .slice q.a2 C.k.length q.c2, .slice q.a3 C.w.length q.c3, .slice q.a4 C.d.length q.c4]
structure CaOk (H : List Row) (C : Ca) (q : Pc) : Prop where
  l : SlE H q.a1 cI 1 C.l
  k : SlE H q.a2 cI 1 C.k
  w : SlE H q.a3 cI 1 C.w
  d : SlE H q.a4 cI 1 C.d
  l1 : C.l.length ≤ 1000000
  l2 : C.k.length ≤ 1000000
  l3 : C.w.length ≤ 1000000
  l4 : C.d.length ≤ 1000000
theorem CaOk.sub {H H' : List Row} {C : Ca} {q : Pc} (h : CaOk H C q) (hs : ∀ r ∈ H, r ∈ H') : CaOk H' C q := ⟨h.l.sub hs, h.k.sub hs, h.w.sub hs, h.d.sub hs, h.l1, h.l2, h.l3, h.l4⟩
def canB (B : Bl) : Prop := hasG B.layers.toNat (gradesOf B) ∧ (wts B).length > 0
noncomputable instance (B : Bl) : Decidable (canB B) := Classical.propDecidable _
def askL (B : Bl) (C : Ca) : Prop := ∀ n ∈ C.l, (Sp.mk 0 (B.layers - 1)).lo ≤ n ∧ n ≤ (Sp.mk 0 (B.layers - 1)).hi
def askK (C : Ca) : Prop := ∀ n ∈ C.k, (Sp.mk 1 4).lo ≤ n ∧ n ≤ (Sp.mk 1 4).hi
def askW (B : Bl) (C : Ca) : Prop := ∀ n ∈ C.w, n ∈ B.weighs.map (·.number)
def askD (C : Ca) : Prop := ∀ n ∈ C.d, (Sp.mk 0 200).lo ≤ n ∧ n ≤ (Sp.mk 0 200).hi
noncomputable instance (B : Bl) (C : Ca) : Decidable (askL B C) := Classical.propDecidable _
noncomputable instance (C : Ca) : Decidable (askK C) := Classical.propDecidable _
noncomputable instance (B : Bl) (C : Ca) : Decidable (askW B C) := Classical.propDecidable _
noncomputable instance (C : Ca) : Decidable (askD C) := Classical.propDecidable _
section
variable (B : Bl) (p : Pb) (C : Ca) (q : Pc) (H : List Row)
theorem isValid_spec (hB : BlOk H B p) : Fc Try.prog 56 ([.agg (cBl B p).toArray, .agg (cCa C q).toArray] ++ []) H (fun v H' => v = .bool (decide (baleOk B)) ∧ H' = H) := by
  show Fc Try.prog 56 [.agg (cBl B p).toArray, .agg (cCa C q).toArray] H _
  have hB2 : ∀ r1 r2, BlOk (r1 :: r2 :: H) B p := fun r1 r2 => hB.sub (fun _ h => List.Mem.tail _ (List.Mem.tail _ h))
  refine Fc.mk (callable Try.call56) Try.func56 rfl Try.ntmps56 rfl ?_; dsimp only [fr]
  repeat' (first | (refine XO.op rfl ?_; (first | ((first | refine Xo.ng rfl ?_); (first | (refine Xg.call (EnF.st rfl (Args.cons rfl Args.nil)) rfl rfl (kcheck_spec B p _ (hB2 _ _)) ?_; rintro _ H9 ⟨rfl, hH9⟩; subst H9) | (refine Xg.ev (EvF.assign rfl rfl) rfl rfl ?_) | (refine Xg.ev (EvF.cmp rfl rfl rfl rfl) rfl rfl ?_) | (refine Xg.ev (EvF.loadV rfl rfl (LoadV.whole (te rfl) rfl (List.Mem.tail _ (List.Mem.head _)) rfl)) rfl rfl ?_) | (refine Xg.st (StF.boxAgg rfl rfl) rfl rfl ?_; rintro _ _ ⟨bx, rfl, rfl⟩))))) | (refine XO.done rfl ?_; refine hK _ _ ?_; clear hK K) | refine X.seq rfl ?_ | refine X.region rfl (fun K hK => ?_) | refine X.ret rfl ?_)
  refine ret_one (by first | exact .inr rfl | exact .inl rfl) Try.results56 rfl (H' := H) (by (repeat (first | exact List.Sublist.refl _ | apply List.Sublist.cons)); done) ?_; simp only [and_true, true_and]
  congr 1
  by_cases h : baleOk B <;> simp [h]
theorem hasLayers_spec (h5 : ∀ n ∈ [B.layers], (Sp.mk 1 5).lo ≤ n ∧ n ≤ (Sp.mk 1 5).hi) (hC : CaOk H C q) : Fc Try.prog 57 ([.agg (cBl B p).toArray, .agg (cCa C q).toArray] ++ []) H (fun v H' => v = .bool (decide (askL B C)) ∧ H' = H) := by
  show Fc Try.prog 57 [.agg (cBl B p).toArray, .agg (cCa C q).toArray] H _
  have hC2 : ∀ r1 r2, CaOk (r1 :: r2 :: H) C q := fun r1 r2 => hC.sub (fun _ h => List.Mem.tail _ (List.Mem.tail _ h))
  have l1 := hC.l1
  refine Fc.mk (callable Try.call57) Try.func57 rfl Try.ntmps57 rfl ?_; dsimp only [fr]
  repeat' (first | (refine XO.op rfl ?_; (first | ((first | refine Xo.ng rfl ?_); (first | (refine Xg.call (EnF.st rfl (Args.cons rfl (Args.cons rfl Args.nil))) rfl rfl (areLayers_spec B p C.l _ _ _ h5 (hC2 _ _).l (by omega)) ?_; rintro _ H9 ⟨rfl, hH9⟩; subst H9) | (refine Xg.ev (EvF.assign rfl rfl) rfl rfl ?_) | (refine Xg.ev (EvF.fieldAddr rfl rfl (te rfl) rfl (te rfl) (by decide)) rfl rfl ?_) | (refine Xg.ev (EvF.loadV rfl rfl (LoadV.own (te rfl) rfl (List.Mem.head _) rfl)) rfl rfl ?_) | (refine Xg.ev (EvF.loadV rfl rfl (LoadV.whole (te rfl) rfl (List.Mem.tail _ (List.Mem.head _)) rfl)) rfl rfl ?_) | (refine Xg.st (StF.boxAgg rfl rfl) rfl rfl ?_; rintro _ _ ⟨bx, rfl, rfl⟩))))) | (refine XO.done rfl ?_; refine hK _ _ ?_; clear hK K) | refine X.seq rfl ?_ | refine X.region rfl (fun K hK => ?_) | refine X.ret rfl ?_)
  refine ret_one (by first | exact .inr rfl | exact .inl rfl) Try.results57 rfl (H' := H) (by (repeat (first | exact List.Sublist.refl _ | apply List.Sublist.cons)); done) ?_; simp only [and_true, true_and]
  congr 1
  exact decide_eq_decide.2 Iff.rfl
theorem areKinds_spec (hC : CaOk H C q) : Fc Try.prog 58 ([.agg (cBl B p).toArray, .agg (cCa C q).toArray] ++ []) H (fun v H' => v = .bool (decide (askK C)) ∧ H' = H) := by
  show Fc Try.prog 58 [.agg (cBl B p).toArray, .agg (cCa C q).toArray] H _
  have hC2 : ∀ r1 r2, CaOk (r1 :: r2 :: H) C q := fun r1 r2 => hC.sub (fun _ h => List.Mem.tail _ (List.Mem.tail _ h))
  have l2 := hC.l2
  refine Fc.mk (callable Try.call58) Try.func58 rfl Try.ntmps58 rfl ?_; dsimp only [fr]
  repeat' (first | (refine XO.op rfl ?_; (first | ((first | refine Xo.ng rfl ?_); (first | (refine Xg.ev (EvF.build (cs := cSp ⟨1, 4⟩) rfl (ArgsP.cons rfl (ArgsP.cons rfl ArgsP.nil)) (te rfl) (Places.cons (te rfl) (Places.cons (te rfl) Places.nil)) Try.zeroValue23 rfl) rfl rfl ?_) | (refine Xg.call (EnF.st rfl (Args.cons rfl (Args.cons rfl Args.nil))) rfl rfl (withinL_spec ⟨1, 4⟩ C.k _ _ _ (hC2 _ _).k (by omega)) ?_; rintro _ H9 ⟨rfl, hH9⟩; subst H9) | (refine Xg.ev (EvF.assign rfl rfl) rfl rfl ?_) | (refine Xg.ev (EvF.fieldAddr rfl rfl (te rfl) rfl (te rfl) (by decide)) rfl rfl ?_) | (refine Xg.ev (EvF.loadV rfl rfl (LoadV.own (te rfl) rfl (List.Mem.head _) rfl)) rfl rfl ?_) | (refine Xg.st (StF.boxAgg rfl rfl) rfl rfl ?_; rintro _ _ ⟨bx, rfl, rfl⟩))))) | (refine XO.done rfl ?_; refine hK _ _ ?_; clear hK K) | refine X.seq rfl ?_ | refine X.region rfl (fun K hK => ?_) | refine X.ret rfl ?_)
  refine ret_one (by first | exact .inr rfl | exact .inl rfl) Try.results58 rfl (H' := H) (by (repeat (first | exact List.Sublist.refl _ | apply List.Sublist.cons)); done) ?_; simp only [and_true, true_and]
  congr 1
  exact decide_eq_decide.2 Iff.rfl
theorem areDamps_spec (hC : CaOk H C q) : Fc Try.prog 60 ([.agg (cBl B p).toArray, .agg (cCa C q).toArray] ++ []) H (fun v H' => v = .bool (decide (askD C)) ∧ H' = H) := by
  show Fc Try.prog 60 [.agg (cBl B p).toArray, .agg (cCa C q).toArray] H _
  have hC2 : ∀ r1 r2, CaOk (r1 :: r2 :: H) C q := fun r1 r2 => hC.sub (fun _ h => List.Mem.tail _ (List.Mem.tail _ h))
  have l4 := hC.l4
  refine Fc.mk (callable Try.call60) Try.func60 rfl Try.ntmps60 rfl ?_; dsimp only [fr]
  repeat' (first | (refine XO.op rfl ?_; (first | ((first | refine Xo.ng rfl ?_); (first | (refine Xg.ev (EvF.build (cs := cSp ⟨0, 200⟩) rfl (ArgsP.cons rfl (ArgsP.cons rfl ArgsP.nil)) (te rfl) (Places.cons (te rfl) (Places.cons (te rfl) Places.nil)) Try.zeroValue23 rfl) rfl rfl ?_) | (refine Xg.call (EnF.st rfl (Args.cons rfl (Args.cons rfl Args.nil))) rfl rfl (withinL_spec ⟨0, 200⟩ C.d _ _ _ (hC2 _ _).d (by omega)) ?_; rintro _ H9 ⟨rfl, hH9⟩; subst H9) | (refine Xg.ev (EvF.assign rfl rfl) rfl rfl ?_) | (refine Xg.ev (EvF.fieldAddr rfl rfl (te rfl) rfl (te rfl) (by decide)) rfl rfl ?_) | (refine Xg.ev (EvF.loadV rfl rfl (LoadV.own (te rfl) rfl (List.Mem.head _) rfl)) rfl rfl ?_) | (refine Xg.st (StF.boxAgg rfl rfl) rfl rfl ?_; rintro _ _ ⟨bx, rfl, rfl⟩))))) | (refine XO.done rfl ?_; refine hK _ _ ?_; clear hK K) | refine X.seq rfl ?_ | refine X.region rfl (fun K hK => ?_) | refine X.ret rfl ?_)
  refine ret_one (by first | exact .inr rfl | exact .inl rfl) Try.results60 rfl (H' := H) (by (repeat (first | exact List.Sublist.refl _ | apply List.Sublist.cons)); done) ?_; simp only [and_true, true_and]
  congr 1
  exact decide_eq_decide.2 Iff.rfl
theorem hasTruth_spec (hb : baleOk B) (hB : BlOk H B p) : Fc Try.prog 61 ([.agg (cBl B p).toArray, .agg (cCa C q).toArray] ++ []) H (fun v H' => v = .bool (decide (canB B)) ∧ H' = H) := by
  show Fc Try.prog 61 [.agg (cBl B p).toArray, .agg (cCa C q).toArray] H _
  have hB2 : ∀ r1 r2, BlOk (r1 :: r2 :: H) B p := fun r1 r2 => hB.sub (fun _ h => List.Mem.tail _ (List.Mem.tail _ h))
  refine Fc.mk (callable Try.call61) Try.func61 rfl Try.ntmps61 rfl ?_; dsimp only [fr]
  repeat' (first | (refine XO.op rfl ?_; (first | ((first | refine Xo.ng rfl ?_); (first | (refine Xg.call (EnF.st rfl (Args.cons rfl Args.nil)) rfl rfl (pressed_spec B p _ hb.h5 hb.hd (hB2 _ _)) ?_; rintro _ H9 ⟨rfl, hH9⟩; subst H9) | (refine Xg.call (EnF.st rfl (Args.cons rfl Args.nil)) rfl rfl (can_spec B p (gradesOf B) _ hb.h5 hb.hdry hb.hw (gradesOf_len hb) (hB2 _ _)) ?_; rintro _ H9 ⟨rfl, hH9⟩; subst H9) | (refine Xg.ev (EvF.assign rfl rfl) rfl rfl ?_) | (refine Xg.ev (EvF.loadV rfl rfl (LoadV.whole (te rfl) rfl (List.Mem.tail _ (List.Mem.head _)) rfl)) rfl rfl ?_) | (refine Xg.st (StF.boxAgg rfl rfl) rfl rfl ?_; rintro _ _ ⟨bx, rfl, rfl⟩))))) | (refine XO.done rfl ?_; refine hK _ _ ?_; clear hK K) | refine X.seq rfl ?_ | refine X.region rfl (fun K hK => ?_) | refine X.ret rfl ?_)
  refine ret_one (by first | exact .inr rfl | exact .inl rfl) Try.results61 rfl (H' := H) (by (repeat (first | exact List.Sublist.refl _ | apply List.Sublist.cons)); done) ?_; simp only [and_true, true_and]
  congr 1
  exact decide_eq_decide.2 Iff.rfl
theorem hasWeighings1_spec (l : List Int) (a : Option Addr) (c : Nat) (n : Int) (b : Nat) (ow : Option TypeId) (cap : Nat) (hm : ⟨b, 0, [.slice a l.length c], ow, cap⟩ ∈ H) (hl : SlE H a cI 1 l) (hb : l.length ≤ 9223372036854775807) :
    Fc Try.prog 64 ([.int .i64 n] ++ [.pointer (some ⟨b, 0, none⟩)]) H (fun v H' => v = .bool (!decide (n ∈ l)) ∧ H' = H) := by
  show Fc Try.prog 64 [.int .i64 n, .pointer (some ⟨b, 0, none⟩)] H _
  refine Fc.mk (callable Try.call64) Try.func64 rfl Try.ntmps64 rfl ?_; dsimp only [fr]
  repeat' (first | (refine XO.op rfl ?_; (first | ((first | refine Xo.ng rfl ?_); (first | (refine Xg.ev (EvF.loadV rfl rfl (LoadV.own (te rfl) rfl hm rfl)) rfl rfl ?_) | (refine Xg.call (EnF.st rfl (Args.cons rfl (Args.cons rfl Args.nil))) rfl rfl (contains_spec l a c n _ hl hb) ?_; rintro _ H9 ⟨rfl, hH9⟩; subst H9) | (refine Xg.ev (EvF.move rfl rfl) rfl rfl ?_) | (refine Xg.ev (EvF.assign rfl rfl) rfl rfl ?_) | (refine Xg.ev (EvF.not rfl rfl) rfl rfl ?_))))) | (refine XO.done rfl ?_; refine hK _ _ ?_; clear hK K) | refine X.seq rfl ?_ | refine X.region rfl (fun K hK => ?_) | refine X.ret rfl ?_)
  refine ret_one (by first | exact .inr rfl | exact .inl rfl) Try.results64 rfl (H' := H) (by (repeat (first | exact List.Sublist.refl _ | apply List.Sublist.cons)); done) ?_; simp only [and_true, true_and]
theorem hasWeighings_spec (hB : BlOk H B p) (hC : CaOk H C q) : Fc Try.prog 59 ([.agg (cBl B p).toArray, .agg (cCa C q).toArray] ++ []) H (fun v H' => v = .bool (decide (askW B C)) ∧ H' = H) := by
  show Fc Try.prog 59 [.agg (cBl B p).toArray, .agg (cCa C q).toArray] H _
  have hB2 : ∀ r1 r2, BlOk (r1 :: r2 :: H) B p := fun r1 r2 => hB.sub (fun _ h => List.Mem.tail _ (List.Mem.tail _ h))
  have hC2 : ∀ Z r0 r1 r2, CaOk (r0 :: (Z ++ r1 :: r2 :: H)) C q := fun Z r0 r1 r2 => hC.sub (fun _ h => List.Mem.tail _ (List.mem_append_right _ (List.Mem.tail _ (List.Mem.tail _ h))))
  have l2 := hB.l2
  have l3 := hC.l3
  refine Fc.mk (callable Try.call59) Try.func59 rfl Try.ntmps59 rfl ?_; dsimp only [fr]
  repeat' (first | (refine XO.op rfl ?_; (first | ((first | refine Xo.ng rfl ?_); (first | (refine Xg.call (EnF.st rfl (Args.cons rfl (Args.cons rfl Args.nil))) rfl rfl (numbersF_specWg 43 (·.number) numberWg_spec B.weighs _ _ _ (hB2 _ _).weighs (by omega)) ?_; rintro _ _ ⟨a', c', Z, rfl, rfl, hz⟩) | (refine Xg.ev (EvF.loadV rfl rfl (LoadV.own (te rfl) rfl (List.Mem.tail _ (List.mem_append_right _ (List.Mem.head _))) rfl)) rfl rfl ?_) | (refine Xg.ev (EvF.makeFunc (fl := []) rfl Args.nil (Args.cons rfl Args.nil)) rfl rfl ?_) | (refine Xg.call (EnF.st rfl (Args.cons rfl (Args.cons rfl Args.nil))) rfl rfl (containsFunc_specI C.w _ _ 64 (fun n => !decide (n ∈ B.weighs.map (·.number))) [_] _ (hC2 _ _ _ _).w (by omega) (fun e _ => hasWeighings1_spec _ (B.weighs.map (·.number)) a' c' e _ _ _ (List.Mem.head _) (hz.sub (fun _ h => List.Mem.tail _ h)) (by rw [List.length_map]; omega))) ?_; rintro _ H9 ⟨rfl, hH9⟩; subst H9) | (refine Xg.ev (EvF.assign rfl rfl) rfl rfl ?_) | (refine Xg.ev (EvF.not rfl rfl) rfl rfl ?_) | (refine Xg.ev (EvF.fieldAddr rfl rfl (te rfl) rfl (te rfl) (by decide)) rfl rfl ?_) | (refine Xg.ev (EvF.loadV rfl rfl (LoadV.own (te rfl) rfl (List.Mem.tail _ (List.Mem.head _)) rfl)) rfl rfl ?_) | (refine Xg.st (StF.boxAgg rfl rfl) rfl rfl ?_; rintro _ _ ⟨bx, rfl, rfl⟩) | (refine Xg.st (StF.alloc rfl Try.zeroValue51 rfl) rfl rfl ?_; rintro _ _ ⟨bx, rfl, rfl⟩) | (refine Xg.st0 (StF.storeOne (i := 0) rfl rfl rfl rfl (te rfl) rfl rfl (Nat.le_of_ble_eq_true rfl)) rfl ?_; rintro _ _ ⟨rfl, rfl⟩; dsimp only [List.set]))))) | (refine XO.done rfl ?_; refine hK _ _ ?_; clear hK K) | refine X.seq rfl ?_ | refine X.region rfl (fun K hK => ?_) | refine X.ret rfl ?_)
  refine ret_one (by first | exact .inr rfl | exact .inl rfl) Try.results59 rfl (H' := H) (List.Sublist.cons _ (((List.sublist_cons_self _ _).trans (List.sublist_cons_self _ _)).trans (List.sublist_append_right _ _))) ⟨?_, rfl⟩
  congr 1
  rw [not_ex]
  exact decide_eq_decide.2 Iff.rfl
end
end Go.Proofs.Ytkchlkbceoameaa
end
section
set_option linter.unusedSimpArgs false
namespace Go.Proofs.Ytkchlkbceoameaa
open Go Go.Fw
set_option maxRecDepth 10000
def fnV (f : Nat) : Value := .func (.func f) #[] #[]
def cQ6 : List Value := [fnV 56, .int .i64 30, fnV 57, .int .i64 31, fnV 58, .int .i64 32, fnV 59, .int .i64 6, fnV 60, .int .i64 35, fnV 61, .int .i64 8]
theorem questions_spec (H : List Row) : Fc Try.prog 50 [] H (fun v H' => v = .agg cQ6.toArray ∧ H' = H) := by
  refine Fc.mk (callable Try.call50) Try.func50 rfl Try.ntmps50 rfl ?_; dsimp only [fr]
  repeat' (first | (refine XO.op rfl ?_; (first | ((first | refine Xo.ng rfl ?_); (first | (refine Xg.ev (EvF.build (cs := [fnV 56, .int .i64 30]) rfl (ArgsP.cons rfl (ArgsP.cons rfl ArgsP.nil)) (te rfl) (Places.cons (te rfl) (Places.cons (te rfl) Places.nil)) Try.zeroValue87 rfl) rfl rfl ?_) | (refine Xg.ev (EvF.build (cs := [fnV 57, .int .i64 31]) rfl (ArgsP.cons rfl (ArgsP.cons rfl ArgsP.nil)) (te rfl) (Places.cons (te rfl) (Places.cons (te rfl) Places.nil)) Try.zeroValue87 rfl) rfl rfl ?_) | (refine Xg.ev (EvF.build (cs := [fnV 58, .int .i64 32]) rfl (ArgsP.cons rfl (ArgsP.cons rfl ArgsP.nil)) (te rfl) (Places.cons (te rfl) (Places.cons (te rfl) Places.nil)) Try.zeroValue87 rfl) rfl rfl ?_) | (refine Xg.ev (EvF.build (cs := [fnV 59, .int .i64 6]) rfl (ArgsP.cons rfl (ArgsP.cons rfl ArgsP.nil)) (te rfl) (Places.cons (te rfl) (Places.cons (te rfl) Places.nil)) Try.zeroValue87 rfl) rfl rfl ?_) | (refine Xg.ev (EvF.build (cs := [fnV 60, .int .i64 35]) rfl (ArgsP.cons rfl (ArgsP.cons rfl ArgsP.nil)) (te rfl) (Places.cons (te rfl) (Places.cons (te rfl) Places.nil)) Try.zeroValue87 rfl) rfl rfl ?_) | (refine Xg.ev (EvF.build (cs := [fnV 61, .int .i64 8]) rfl (ArgsP.cons rfl (ArgsP.cons rfl ArgsP.nil)) (te rfl) (Places.cons (te rfl) (Places.cons (te rfl) Places.nil)) Try.zeroValue87 rfl) rfl rfl ?_) | (refine Xg.ev (EvF.buildArr (cs := cQ6) rfl (ArgsP.cons rfl (ArgsP.cons rfl (ArgsP.cons rfl (ArgsP.cons rfl (ArgsP.cons rfl (ArgsP.cons rfl ArgsP.nil)))))) (te rfl) (te rfl) Try.zeroValue88 rfl) rfl rfl ?_) | (refine Xg.st (StF.alloc rfl Try.zeroValue88 rfl) rfl rfl ?_; rintro _ _ ⟨bx, rfl, rfl⟩) | (refine Xg.st0 (StF.storeAll (i := 0) rfl rfl rfl (te rfl) rfl rfl rfl rfl) rfl ?_; rintro _ _ ⟨rfl, rfl⟩; dsimp only [List.set]))))) | (refine XO.done rfl ?_; refine hK _ _ ?_; clear hK K) | refine X.seq rfl ?_ | refine X.region rfl (fun K hK => ?_) | refine X.ret rfl ?_)
  exact ret_one (by first | exact .inr rfl | exact .inl rfl) Try.results50 ⟨_, rfl, LoadV.whole (te rfl) rfl (List.Mem.head _) rfl⟩ (H' := H) (by (repeat (first | exact List.Sublist.refl _ | apply List.Sublist.cons)); done) ⟨rfl, rfl⟩
open Classical in
noncomputable def openE (B : Bl) (C : Ca) : Int := if baleOk B then (if askL B C then (if askK C then (if askW B C then (if askD C then (if canB B then 0 else 8) else 35) else 6) else 32) else 31) else 30
def ts35 : List TOp := [⟨some 18, [], [], []⟩, ⟨some 19, [], [], []⟩, ⟨some 20, [1], [1], []⟩, ⟨none, [0], [0], [5]⟩, ⟨some 5, [0, 1, 2, 3], [2], []⟩, ⟨none, [], [], []⟩]
def rows35 (br : Nat) (k : Nat) (_ : Env) : List Row :=
  match k with
  | 3 => [⟨br, 0, cPr Bz pzb (initG 0), some 47, 16⟩]
  | 5 => [⟨br, 0, cPr Bz pzb (initG 0), some 47, 16⟩]
  | _ => []
theorem open_err (br bq : Nat) (fv : Value) (e : Int) (R0 : List Row) (F : FS) (Q : QX) (h7 : lk F 7 = some (.pointer (some ⟨bq, 0, none⟩))) (h4 : lk F 4 = some (.pointer (some ⟨br, 0, none⟩)))
    (hq : Q .normal [(5, .int .i64 e), (7, .pointer (some ⟨bq, 0, none⟩)), (4, .pointer (some ⟨br, 0, none⟩))] (⟨br, 0, cPr Bz pzb (initG 0), some 47, 16⟩ :: ⟨bq, 0, [fv, .int .i64 e], some 87, 2⟩ :: R0)) :
    X Try.prog 24 (cfst (cfst (csnd (csnd (cfst (cfst (csnd (csnd (cfst (cfst (csnd (cfst (csnd (cof Try.f35)))))))))))))) F (⟨bq, 0, [fv, .int .i64 e], some 87, 2⟩ :: ⟨br, 0, cPr Bz pzb (initG 0), some 47, 16⟩ :: R0) Q := by
  refine X.permH (H' := ⟨br, 0, cPr Bz pzb (initG 0), some 47, 16⟩ :: ⟨bq, 0, [fv, .int .i64 e], some 87, 2⟩ :: R0) (List.Perm.swap _ _ _) ?_
  refine X.regionOb ts35 [7, 4] [(7, .pointer (some ⟨bq, 0, none⟩)), (4, .pointer (some ⟨br, 0, none⟩))] (valL [.agg (cPr Bz pzb (initG 0)).toArray, .pointer (some ⟨bq, 0 + 1, none⟩), .int .i64 e, undef, .int .i64 e]) (rows35 br) (fun _ => (0, 0)) (⟨bq, 0, [fv, .int .i64 e], some 87, 2⟩ :: R0) rfl mixed (Sub.cons h7 (Sub.cons h4 (Sub.nil _))) rfl (by kernel_rfl) (fun _ _ _ _ _ _ => ⟨rfl, rfl⟩) (List.Sublist.refl _) ?_ ?_
  · repeat' (first | exact AllF.done rfl | (refine AllF.step rfl ?_ ?_; · (first | fail | ((first | refine Ob.ng rfl ?_); (first | exact ObK.pure (fun env R hR => by exact ⟨_, EvF.assign rfl rfl, rfl⟩) rfl (fun _ => rfl) | exact ObK.pure (fun env R hR => by exact ⟨_, EvF.fieldAddr rfl rfl (te rfl) rfl (te rfl) (by decide), rfl⟩) rfl (fun _ => rfl) | exact ObK.pure (fun env R hR => by exact ⟨_, EvF.loadV rfl rfl (LoadV.own (te rfl) rfl (hR _ (List.Mem.head _)) rfl), rfl⟩) rfl (fun _ => rfl) | (exact ObK.pure (fun env S hS => ⟨_, EvF.build (cs := cPr Bz pzb (initG 0)) rfl ArgsP.nil (te rfl) (Places.cons (te rfl) (Places.cons (te rfl) Places.nil)) Try.zeroValue47 rfl, rfl⟩) rfl (fun _ => rfl)) | (exact fun env S hS => (StF.storeAll (i := 0) (vs := cPr Bz pzb (initG 0)) (cs := cPr Bz pzb (initG 0)) rfl rfl rfl (te rfl) rfl rfl rfl rfl).op.mono (fun v H' ⟨hv, hH⟩ => ⟨(0, 0), fun h => absurd rfl h, by rw [hH]; exact List.Perm.refl _⟩)))))))
  · intro env t ha hv
    exact ⟨_, ha.cons (hv 4 5 (Nat.le_of_ble_eq_true rfl) rfl), hq⟩
set_option maxHeartbeats 8000000 in
theorem open_spec (B : Bl) (p : Pb) (C : Ca) (q : Pc) (H : List Row) (hB : BlOk H B p) (hC : CaOk H C q) :
    Fc Try.prog 35 [.agg (cBl B p).toArray, .agg (cCa C q).toArray] H (fun v H' => ((openE B C = 0 ∧ v = .tuple #[.agg (cPr B p (gradesOf B)).toArray, .int .i64 0]) ∨ (openE B C ≠ 0 ∧ v = .tuple #[.agg (cPr Bz pzb (initG 0)).toArray, .int .i64 (openE B C)])) ∧ H' = H) := by
  refine Fc.mk (callable Try.call35) Try.func35 rfl Try.ntmps35 rfl ?_; dsimp only [fr]
  repeat' (first | (refine XO.op rfl ?_; (first | ((first | refine Xo.ng rfl ?_); (first | (refine Xg.call (EnF.st rfl (by (repeat (first | exact Args.nil | refine Args.cons rfl ?_)); done)) rfl rfl (questions_spec _) ?_; rintro _ H9 ⟨rfl, hH9⟩; subst H9) | (refine Xg.ev (EvF.move rfl rfl) rfl rfl ?_) | (refine Xg.ev (EvF.assign rfl rfl) rfl rfl ?_) | (refine Xg.st (StF.boxAgg rfl rfl) rfl rfl ?_; rintro _ _ ⟨bx, rfl, rfl⟩) | (refine Xg.st (StF.alloc rfl Try.zeroValue47 rfl) rfl rfl ?_; rintro _ _ ⟨bx, rfl, rfl⟩))))) | (refine XO.done rfl ?_; refine hK _ _ ?_; clear hK K) | refine X.seq rfl ?_ | refine X.region rfl (fun K hK => ?_) | refine X.block rfl ?_)
  rename_i bb bc; rename Nat => br
  have hB3 : ∀ r1 r2 r3 r4, BlOk (r1 :: r2 :: r3 :: r4 :: H) B p := fun r1 r2 r3 r4 => hB.sub (fun _ h => List.Mem.tail _ (List.Mem.tail _ (List.Mem.tail _ (List.Mem.tail _ h))))
  have hC3 : ∀ r1 r2 r3 r4, CaOk (r1 :: r2 :: r3 :: r4 :: H) C q := fun r1 r2 r3 r4 => hC.sub (fun _ h => List.Mem.tail _ (List.Mem.tail _ (List.Mem.tail _ (List.Mem.tail _ h))))
  refine X.lp rfl (fun m F' H' => ∃ k : Nat, m = 6 - k ∧ k ≤ 6 ∧ (0 < k → baleOk B) ∧ (1 < k → askL B C) ∧ (2 < k → askK C) ∧ (3 < k → askW B C) ∧ (4 < k → askD C) ∧ (5 < k → canB B) ∧ H' = ⟨br, 0, cPr Bz pzb (initG 0), some 47, 16⟩ :: ⟨bc, 0, cCa C q, some 53, 4⟩ :: ⟨bb, 0, cBl B p, some 27, 6⟩ :: H ∧
      F' = [(2, .pointer (some ⟨bb, 0, none⟩)), (3, .pointer (some ⟨bc, 0, none⟩)), (4, .pointer (some ⟨br, 0, none⟩)), (8, .agg cQ6.toArray), (9, .int .i64 k)])
    6 [(2, .pointer (some ⟨bb, 0, none⟩)), (3, .pointer (some ⟨bc, 0, none⟩)), (4, .pointer (some ⟨br, 0, none⟩)), (8, .agg cQ6.toArray), (9, .int .i64 (0 : Nat))] _ (by (repeat (first | exact Sub.nil _ | refine Sub.cons rfl ?_)); done) (List.Sublist.refl _) ⟨0, by omega, by omega, by omega, by omega, by omega, by omega, by omega, by omega, rfl, rfl⟩ ?_
  rintro _ _ _ ⟨k, rfl, hk, h0, h1, h2, h3, h4, h5, rfl, rfl⟩
  repeat' (first | (refine XO.op rfl ?_; (first | ((first | refine Xo.ng rfl ?_); (first | (refine Xg.ev (EvF.cmp rfl rfl rfl rfl) rfl rfl ?_) | (refine Xg.ev (EvF.loadV rfl rfl (LoadV.whole (te rfl) rfl (List.Mem.tail _ (List.Mem.tail _ (List.Mem.head _))) rfl)) rfl rfl ?_))))) | (refine XO.done rfl ?_; refine hK _ _ ?_; clear hK K) | refine X.seq rfl ?_ | refine X.region rfl (fun K hK => ?_) | refine X.block rfl ?_ | (refine X.brk rfl ?_; first | refine blockX_hit rfl ?_ | skip) | refine X.skip rfl ?_ | refine X.ret rfl ?_ | (refine X.ite rfl rfl (fun hc => ?_); (first | (with_reducible refine Xb.case hc (fun h => ?_) (fun h => ?_))) <;> clear hc))
  · rcases (show k = 0 ∨ k = 1 ∨ k = 2 ∨ k = 3 ∨ k = 4 ∨ k = 5 by omega) with rfl | rfl | rfl | rfl | rfl | rfl
    · repeat' (first | (refine XO.op rfl ?_; (first | ((first | refine Xo.ng rfl ?_); (first | (refine Xg.ev (EvF.indexAgg (vs := [fnV 56, .int .i64 30]) rfl rfl rfl (te rfl) (te rfl) rfl (by decide) (by decide) rfl) rfl rfl ?_) | (refine Xg.call (EnF.dyn0 rfl rfl (by (repeat (first | exact Args.nil | refine Args.cons rfl ?_)); done)) rfl rfl (isValid_spec B p C q _ (hB3 _ _ _ _)) ?_; rintro _ H9 ⟨rfl, hH9⟩; subst H9) | (refine Xg.ev (EvF.move rfl rfl) rfl rfl ?_) | (refine Xg.ev (EvF.add64 rfl rfl rfl (by omega) (by omega)) rfl rfl ?_) | (refine Xg.ev (EvF.not rfl rfl) rfl rfl ?_) | (refine Xg.ev (EvF.fieldAddr rfl rfl (te rfl) rfl (te rfl) (by decide)) rfl rfl ?_) | (refine Xg.ev (EvF.loadV rfl rfl (LoadV.own (te rfl) rfl (List.Mem.head _) rfl)) rfl rfl ?_) | (refine Xg.ev (EvF.loadV rfl rfl (LoadV.whole (te rfl) rfl (List.Mem.tail _ (List.Mem.tail _ (List.Mem.head _))) rfl)) rfl rfl ?_) | (refine Xg.ev (EvF.loadV rfl rfl (LoadV.whole (te rfl) rfl (List.Mem.tail _ (List.Mem.tail _ (List.Mem.tail _ (List.Mem.head _)))) rfl)) rfl rfl ?_) | (refine Xg.st (StF.alloc rfl Try.zeroValue87 rfl) rfl rfl ?_; rintro _ _ ⟨bx, rfl, rfl⟩) | (refine Xg.st0 (StF.storeAll (i := 0) rfl rfl rfl (te rfl) rfl rfl rfl rfl) rfl ?_; rintro _ _ ⟨rfl, rfl⟩; dsimp only [List.set]))))) | (refine XO.done rfl ?_; refine hK _ _ ?_; clear hK K) | refine X.seq rfl ?_ | refine X.region rfl (fun K hK => ?_) | refine X.skip rfl ?_ | (refine X.ite rfl rfl (fun hc => ?_); (first | (with_reducible refine Xb.caseN hc (fun h => ?_) (fun h => ?_))) <;> clear hc))
      · have hno : ¬ baleOk B := by assumption
        have hE : openE B C = 30 := by unfold openE; rw [if_neg hno]
        refine open_err br _ _ _ _ _ _ rfl rfl ?_
        repeat' (first | (refine XO.op rfl ?_; (first | ((first | refine Xo.ng rfl ?_); (first | (refine Xg.ev (EvF.cmp rfl rfl rfl rfl) rfl rfl ?_) | (refine Xg.ev (EvF.loadV rfl rfl (LoadV.whole (te rfl) rfl (List.Mem.tail _ (List.Mem.tail _ (List.Mem.head _))) rfl)) rfl rfl ?_))))) | (refine XO.done rfl ?_; refine hK _ _ ?_; clear hK K) | refine X.seq rfl ?_ | refine X.region rfl (fun K hK => ?_) | refine X.block rfl ?_ | (refine X.brk rfl ?_; first | refine blockX_hit rfl ?_ | skip) | refine X.skip rfl ?_ | refine X.ret rfl ?_ | (refine X.ite rfl rfl (fun hc => ?_); (first | (with_reducible refine Xb.case hc (fun h => ?_) (fun h => ?_))) <;> clear hc))
        exact ret_two (by first | exact .inr rfl | exact .inl rfl) Try.results35 ⟨_, rfl, LoadV.whole (te rfl) rfl (List.Mem.head _) rfl⟩ rfl (H' := H) (by (repeat (first | exact List.Sublist.refl _ | apply List.Sublist.cons)); done) ⟨.inr ⟨by rw [hE]; decide, by rw [hE]⟩, rfl⟩
      · have hyes : baleOk B := by assumption
        exact ⟨_, _, _, (by (repeat (first | exact Sub.nil _ | refine Sub.cons rfl ?_)); done), (by (repeat (first | exact List.Sublist.refl _ | apply List.Sublist.cons)); done), ⟨0 + 1, rfl, by omega, (by intro hlt; first | (exfalso; omega) | assumption | exact h0 (by omega)), (by intro hlt; first | (exfalso; omega) | assumption | exact h1 (by omega)), (by intro hlt; first | (exfalso; omega) | assumption | exact h2 (by omega)), (by intro hlt; first | (exfalso; omega) | assumption | exact h3 (by omega)), (by intro hlt; first | (exfalso; omega) | assumption | exact h4 (by omega)), (by intro hlt; first | (exfalso; omega) | assumption | exact h5 (by omega)), rfl, rfl⟩, by omega⟩
    · repeat' (first | (refine XO.op rfl ?_; (first | ((first | refine Xo.ng rfl ?_); (first | (refine Xg.ev (EvF.indexAgg (vs := [fnV 57, .int .i64 31]) rfl rfl rfl (te rfl) (te rfl) rfl (by decide) (by decide) rfl) rfl rfl ?_) | (refine Xg.call (EnF.dyn0 rfl rfl (by (repeat (first | exact Args.nil | refine Args.cons rfl ?_)); done)) rfl rfl (hasLayers_spec B p C q _ (h0 (by decide)).2.1 (hC3 _ _ _ _)) ?_; rintro _ H9 ⟨rfl, hH9⟩; subst H9) | (refine Xg.ev (EvF.move rfl rfl) rfl rfl ?_) | (refine Xg.ev (EvF.add64 rfl rfl rfl (by omega) (by omega)) rfl rfl ?_) | (refine Xg.ev (EvF.not rfl rfl) rfl rfl ?_) | (refine Xg.ev (EvF.fieldAddr rfl rfl (te rfl) rfl (te rfl) (by decide)) rfl rfl ?_) | (refine Xg.ev (EvF.loadV rfl rfl (LoadV.own (te rfl) rfl (List.Mem.head _) rfl)) rfl rfl ?_) | (refine Xg.ev (EvF.loadV rfl rfl (LoadV.whole (te rfl) rfl (List.Mem.tail _ (List.Mem.tail _ (List.Mem.head _))) rfl)) rfl rfl ?_) | (refine Xg.ev (EvF.loadV rfl rfl (LoadV.whole (te rfl) rfl (List.Mem.tail _ (List.Mem.tail _ (List.Mem.tail _ (List.Mem.head _)))) rfl)) rfl rfl ?_) | (refine Xg.st (StF.alloc rfl Try.zeroValue87 rfl) rfl rfl ?_; rintro _ _ ⟨bx, rfl, rfl⟩) | (refine Xg.st0 (StF.storeAll (i := 0) rfl rfl rfl (te rfl) rfl rfl rfl rfl) rfl ?_; rintro _ _ ⟨rfl, rfl⟩; dsimp only [List.set]))))) | (refine XO.done rfl ?_; refine hK _ _ ?_; clear hK K) | refine X.seq rfl ?_ | refine X.region rfl (fun K hK => ?_) | refine X.skip rfl ?_ | (refine X.ite rfl rfl (fun hc => ?_); (first | (with_reducible refine Xb.caseN hc (fun h => ?_) (fun h => ?_))) <;> clear hc))
      · have hno : ¬ askL B C := by assumption
        have hE : openE B C = 31 := by unfold openE; rw [if_pos (h0 (by decide)), if_neg hno]
        refine open_err br _ _ _ _ _ _ rfl rfl ?_
        repeat' (first | (refine XO.op rfl ?_; (first | ((first | refine Xo.ng rfl ?_); (first | (refine Xg.ev (EvF.cmp rfl rfl rfl rfl) rfl rfl ?_) | (refine Xg.ev (EvF.loadV rfl rfl (LoadV.whole (te rfl) rfl (List.Mem.tail _ (List.Mem.tail _ (List.Mem.head _))) rfl)) rfl rfl ?_))))) | (refine XO.done rfl ?_; refine hK _ _ ?_; clear hK K) | refine X.seq rfl ?_ | refine X.region rfl (fun K hK => ?_) | refine X.block rfl ?_ | (refine X.brk rfl ?_; first | refine blockX_hit rfl ?_ | skip) | refine X.skip rfl ?_ | refine X.ret rfl ?_ | (refine X.ite rfl rfl (fun hc => ?_); (first | (with_reducible refine Xb.case hc (fun h => ?_) (fun h => ?_))) <;> clear hc))
        exact ret_two (by first | exact .inr rfl | exact .inl rfl) Try.results35 ⟨_, rfl, LoadV.whole (te rfl) rfl (List.Mem.head _) rfl⟩ rfl (H' := H) (by (repeat (first | exact List.Sublist.refl _ | apply List.Sublist.cons)); done) ⟨.inr ⟨by rw [hE]; decide, by rw [hE]⟩, rfl⟩
      · have hyes : askL B C := by assumption
        exact ⟨_, _, _, (by (repeat (first | exact Sub.nil _ | refine Sub.cons rfl ?_)); done), (by (repeat (first | exact List.Sublist.refl _ | apply List.Sublist.cons)); done), ⟨1 + 1, rfl, by omega, (by intro hlt; first | (exfalso; omega) | assumption | exact h0 (by omega)), (by intro hlt; first | (exfalso; omega) | assumption | exact h1 (by omega)), (by intro hlt; first | (exfalso; omega) | assumption | exact h2 (by omega)), (by intro hlt; first | (exfalso; omega) | assumption | exact h3 (by omega)), (by intro hlt; first | (exfalso; omega) | assumption | exact h4 (by omega)), (by intro hlt; first | (exfalso; omega) | assumption | exact h5 (by omega)), rfl, rfl⟩, by omega⟩
    · repeat' (first | (refine XO.op rfl ?_; (first | ((first | refine Xo.ng rfl ?_); (first | (refine Xg.ev (EvF.indexAgg (vs := [fnV 58, .int .i64 32]) rfl rfl rfl (te rfl) (te rfl) rfl (by decide) (by decide) rfl) rfl rfl ?_) | (refine Xg.call (EnF.dyn0 rfl rfl (by (repeat (first | exact Args.nil | refine Args.cons rfl ?_)); done)) rfl rfl (areKinds_spec B p C q _ (hC3 _ _ _ _)) ?_; rintro _ H9 ⟨rfl, hH9⟩; subst H9) | (refine Xg.ev (EvF.move rfl rfl) rfl rfl ?_) | (refine Xg.ev (EvF.add64 rfl rfl rfl (by omega) (by omega)) rfl rfl ?_) | (refine Xg.ev (EvF.not rfl rfl) rfl rfl ?_) | (refine Xg.ev (EvF.fieldAddr rfl rfl (te rfl) rfl (te rfl) (by decide)) rfl rfl ?_) | (refine Xg.ev (EvF.loadV rfl rfl (LoadV.own (te rfl) rfl (List.Mem.head _) rfl)) rfl rfl ?_) | (refine Xg.ev (EvF.loadV rfl rfl (LoadV.whole (te rfl) rfl (List.Mem.tail _ (List.Mem.tail _ (List.Mem.head _))) rfl)) rfl rfl ?_) | (refine Xg.ev (EvF.loadV rfl rfl (LoadV.whole (te rfl) rfl (List.Mem.tail _ (List.Mem.tail _ (List.Mem.tail _ (List.Mem.head _)))) rfl)) rfl rfl ?_) | (refine Xg.st (StF.alloc rfl Try.zeroValue87 rfl) rfl rfl ?_; rintro _ _ ⟨bx, rfl, rfl⟩) | (refine Xg.st0 (StF.storeAll (i := 0) rfl rfl rfl (te rfl) rfl rfl rfl rfl) rfl ?_; rintro _ _ ⟨rfl, rfl⟩; dsimp only [List.set]))))) | (refine XO.done rfl ?_; refine hK _ _ ?_; clear hK K) | refine X.seq rfl ?_ | refine X.region rfl (fun K hK => ?_) | refine X.skip rfl ?_ | (refine X.ite rfl rfl (fun hc => ?_); (first | (with_reducible refine Xb.caseN hc (fun h => ?_) (fun h => ?_))) <;> clear hc))
      · have hno : ¬ askK C := by assumption
        have hE : openE B C = 32 := by unfold openE; rw [if_pos (h0 (by decide)), if_pos (h1 (by decide)), if_neg hno]
        refine open_err br _ _ _ _ _ _ rfl rfl ?_
        repeat' (first | (refine XO.op rfl ?_; (first | ((first | refine Xo.ng rfl ?_); (first | (refine Xg.ev (EvF.cmp rfl rfl rfl rfl) rfl rfl ?_) | (refine Xg.ev (EvF.loadV rfl rfl (LoadV.whole (te rfl) rfl (List.Mem.tail _ (List.Mem.tail _ (List.Mem.head _))) rfl)) rfl rfl ?_))))) | (refine XO.done rfl ?_; refine hK _ _ ?_; clear hK K) | refine X.seq rfl ?_ | refine X.region rfl (fun K hK => ?_) | refine X.block rfl ?_ | (refine X.brk rfl ?_; first | refine blockX_hit rfl ?_ | skip) | refine X.skip rfl ?_ | refine X.ret rfl ?_ | (refine X.ite rfl rfl (fun hc => ?_); (first | (with_reducible refine Xb.case hc (fun h => ?_) (fun h => ?_))) <;> clear hc))
        exact ret_two (by first | exact .inr rfl | exact .inl rfl) Try.results35 ⟨_, rfl, LoadV.whole (te rfl) rfl (List.Mem.head _) rfl⟩ rfl (H' := H) (by (repeat (first | exact List.Sublist.refl _ | apply List.Sublist.cons)); done) ⟨.inr ⟨by rw [hE]; decide, by rw [hE]⟩, rfl⟩
      · have hyes : askK C := by assumption
        exact ⟨_, _, _, (by (repeat (first | exact Sub.nil _ | refine Sub.cons rfl ?_)); done), (by (repeat (first | exact List.Sublist.refl _ | apply List.Sublist.cons)); done), ⟨2 + 1, rfl, by omega, (by intro hlt; first | (exfalso; omega) | assumption | exact h0 (by omega)), (by intro hlt; first | (exfalso; omega) | assumption | exact h1 (by omega)), (by intro hlt; first | (exfalso; omega) | assumption | exact h2 (by omega)), (by intro hlt; first | (exfalso; omega) | assumption | exact h3 (by omega)), (by intro hlt; first | (exfalso; omega) | assumption | exact h4 (by omega)), (by intro hlt; first | (exfalso; omega) | assumption | exact h5 (by omega)), rfl, rfl⟩, by omega⟩
    · repeat' (first | (refine XO.op rfl ?_; (first | ((first | refine Xo.ng rfl ?_); (first | (refine Xg.ev (EvF.indexAgg (vs := [fnV 59, .int .i64 6]) rfl rfl rfl (te rfl) (te rfl) rfl (by decide) (by decide) rfl) rfl rfl ?_) | (refine Xg.call (EnF.dyn0 rfl rfl (by (repeat (first | exact Args.nil | refine Args.cons rfl ?_)); done)) rfl rfl (hasWeighings_spec B p C q _ (hB3 _ _ _ _) (hC3 _ _ _ _)) ?_; rintro _ H9 ⟨rfl, hH9⟩; subst H9) | (refine Xg.ev (EvF.move rfl rfl) rfl rfl ?_) | (refine Xg.ev (EvF.add64 rfl rfl rfl (by omega) (by omega)) rfl rfl ?_) | (refine Xg.ev (EvF.not rfl rfl) rfl rfl ?_) | (refine Xg.ev (EvF.fieldAddr rfl rfl (te rfl) rfl (te rfl) (by decide)) rfl rfl ?_) | (refine Xg.ev (EvF.loadV rfl rfl (LoadV.own (te rfl) rfl (List.Mem.head _) rfl)) rfl rfl ?_) | (refine Xg.ev (EvF.loadV rfl rfl (LoadV.whole (te rfl) rfl (List.Mem.tail _ (List.Mem.tail _ (List.Mem.head _))) rfl)) rfl rfl ?_) | (refine Xg.ev (EvF.loadV rfl rfl (LoadV.whole (te rfl) rfl (List.Mem.tail _ (List.Mem.tail _ (List.Mem.tail _ (List.Mem.head _)))) rfl)) rfl rfl ?_) | (refine Xg.st (StF.alloc rfl Try.zeroValue87 rfl) rfl rfl ?_; rintro _ _ ⟨bx, rfl, rfl⟩) | (refine Xg.st0 (StF.storeAll (i := 0) rfl rfl rfl (te rfl) rfl rfl rfl rfl) rfl ?_; rintro _ _ ⟨rfl, rfl⟩; dsimp only [List.set]))))) | (refine XO.done rfl ?_; refine hK _ _ ?_; clear hK K) | refine X.seq rfl ?_ | refine X.region rfl (fun K hK => ?_) | refine X.skip rfl ?_ | (refine X.ite rfl rfl (fun hc => ?_); (first | (with_reducible refine Xb.caseN hc (fun h => ?_) (fun h => ?_))) <;> clear hc))
      · have hno : ¬ askW B C := by assumption
        have hE : openE B C = 6 := by unfold openE; rw [if_pos (h0 (by decide)), if_pos (h1 (by decide)), if_pos (h2 (by decide)), if_neg hno]
        refine open_err br _ _ _ _ _ _ rfl rfl ?_
        repeat' (first | (refine XO.op rfl ?_; (first | ((first | refine Xo.ng rfl ?_); (first | (refine Xg.ev (EvF.cmp rfl rfl rfl rfl) rfl rfl ?_) | (refine Xg.ev (EvF.loadV rfl rfl (LoadV.whole (te rfl) rfl (List.Mem.tail _ (List.Mem.tail _ (List.Mem.head _))) rfl)) rfl rfl ?_))))) | (refine XO.done rfl ?_; refine hK _ _ ?_; clear hK K) | refine X.seq rfl ?_ | refine X.region rfl (fun K hK => ?_) | refine X.block rfl ?_ | (refine X.brk rfl ?_; first | refine blockX_hit rfl ?_ | skip) | refine X.skip rfl ?_ | refine X.ret rfl ?_ | (refine X.ite rfl rfl (fun hc => ?_); (first | (with_reducible refine Xb.case hc (fun h => ?_) (fun h => ?_))) <;> clear hc))
        exact ret_two (by first | exact .inr rfl | exact .inl rfl) Try.results35 ⟨_, rfl, LoadV.whole (te rfl) rfl (List.Mem.head _) rfl⟩ rfl (H' := H) (by (repeat (first | exact List.Sublist.refl _ | apply List.Sublist.cons)); done) ⟨.inr ⟨by rw [hE]; decide, by rw [hE]⟩, rfl⟩
      · have hyes : askW B C := by assumption
        exact ⟨_, _, _, (by (repeat (first | exact Sub.nil _ | refine Sub.cons rfl ?_)); done), (by (repeat (first | exact List.Sublist.refl _ | apply List.Sublist.cons)); done), ⟨3 + 1, rfl, by omega, (by intro hlt; first | (exfalso; omega) | assumption | exact h0 (by omega)), (by intro hlt; first | (exfalso; omega) | assumption | exact h1 (by omega)), (by intro hlt; first | (exfalso; omega) | assumption | exact h2 (by omega)), (by intro hlt; first | (exfalso; omega) | assumption | exact h3 (by omega)), (by intro hlt; first | (exfalso; omega) | assumption | exact h4 (by omega)), (by intro hlt; first | (exfalso; omega) | assumption | exact h5 (by omega)), rfl, rfl⟩, by omega⟩
    · repeat' (first | (refine XO.op rfl ?_; (first | ((first | refine Xo.ng rfl ?_); (first | (refine Xg.ev (EvF.indexAgg (vs := [fnV 60, .int .i64 35]) rfl rfl rfl (te rfl) (te rfl) rfl (by decide) (by decide) rfl) rfl rfl ?_) | (refine Xg.call (EnF.dyn0 rfl rfl (by (repeat (first | exact Args.nil | refine Args.cons rfl ?_)); done)) rfl rfl (areDamps_spec B p C q _ (hC3 _ _ _ _)) ?_; rintro _ H9 ⟨rfl, hH9⟩; subst H9) | (refine Xg.ev (EvF.move rfl rfl) rfl rfl ?_) | (refine Xg.ev (EvF.add64 rfl rfl rfl (by omega) (by omega)) rfl rfl ?_) | (refine Xg.ev (EvF.not rfl rfl) rfl rfl ?_) | (refine Xg.ev (EvF.fieldAddr rfl rfl (te rfl) rfl (te rfl) (by decide)) rfl rfl ?_) | (refine Xg.ev (EvF.loadV rfl rfl (LoadV.own (te rfl) rfl (List.Mem.head _) rfl)) rfl rfl ?_) | (refine Xg.ev (EvF.loadV rfl rfl (LoadV.whole (te rfl) rfl (List.Mem.tail _ (List.Mem.tail _ (List.Mem.head _))) rfl)) rfl rfl ?_) | (refine Xg.ev (EvF.loadV rfl rfl (LoadV.whole (te rfl) rfl (List.Mem.tail _ (List.Mem.tail _ (List.Mem.tail _ (List.Mem.head _)))) rfl)) rfl rfl ?_) | (refine Xg.st (StF.alloc rfl Try.zeroValue87 rfl) rfl rfl ?_; rintro _ _ ⟨bx, rfl, rfl⟩) | (refine Xg.st0 (StF.storeAll (i := 0) rfl rfl rfl (te rfl) rfl rfl rfl rfl) rfl ?_; rintro _ _ ⟨rfl, rfl⟩; dsimp only [List.set]))))) | (refine XO.done rfl ?_; refine hK _ _ ?_; clear hK K) | refine X.seq rfl ?_ | refine X.region rfl (fun K hK => ?_) | refine X.skip rfl ?_ | (refine X.ite rfl rfl (fun hc => ?_); (first | (with_reducible refine Xb.caseN hc (fun h => ?_) (fun h => ?_))) <;> clear hc))
      · have hno : ¬ askD C := by assumption
        have hE : openE B C = 35 := by unfold openE; rw [if_pos (h0 (by decide)), if_pos (h1 (by decide)), if_pos (h2 (by decide)), if_pos (h3 (by decide)), if_neg hno]
        refine open_err br _ _ _ _ _ _ rfl rfl ?_
        repeat' (first | (refine XO.op rfl ?_; (first | ((first | refine Xo.ng rfl ?_); (first | (refine Xg.ev (EvF.cmp rfl rfl rfl rfl) rfl rfl ?_) | (refine Xg.ev (EvF.loadV rfl rfl (LoadV.whole (te rfl) rfl (List.Mem.tail _ (List.Mem.tail _ (List.Mem.head _))) rfl)) rfl rfl ?_))))) | (refine XO.done rfl ?_; refine hK _ _ ?_; clear hK K) | refine X.seq rfl ?_ | refine X.region rfl (fun K hK => ?_) | refine X.block rfl ?_ | (refine X.brk rfl ?_; first | refine blockX_hit rfl ?_ | skip) | refine X.skip rfl ?_ | refine X.ret rfl ?_ | (refine X.ite rfl rfl (fun hc => ?_); (first | (with_reducible refine Xb.case hc (fun h => ?_) (fun h => ?_))) <;> clear hc))
        exact ret_two (by first | exact .inr rfl | exact .inl rfl) Try.results35 ⟨_, rfl, LoadV.whole (te rfl) rfl (List.Mem.head _) rfl⟩ rfl (H' := H) (by (repeat (first | exact List.Sublist.refl _ | apply List.Sublist.cons)); done) ⟨.inr ⟨by rw [hE]; decide, by rw [hE]⟩, rfl⟩
      · have hyes : askD C := by assumption
        exact ⟨_, _, _, (by (repeat (first | exact Sub.nil _ | refine Sub.cons rfl ?_)); done), (by (repeat (first | exact List.Sublist.refl _ | apply List.Sublist.cons)); done), ⟨4 + 1, rfl, by omega, (by intro hlt; first | (exfalso; omega) | assumption | exact h0 (by omega)), (by intro hlt; first | (exfalso; omega) | assumption | exact h1 (by omega)), (by intro hlt; first | (exfalso; omega) | assumption | exact h2 (by omega)), (by intro hlt; first | (exfalso; omega) | assumption | exact h3 (by omega)), (by intro hlt; first | (exfalso; omega) | assumption | exact h4 (by omega)), (by intro hlt; first | (exfalso; omega) | assumption | exact h5 (by omega)), rfl, rfl⟩, by omega⟩
    · repeat' (first | (refine XO.op rfl ?_; (first | ((first | refine Xo.ng rfl ?_); (first | (refine Xg.ev (EvF.indexAgg (vs := [fnV 61, .int .i64 8]) rfl rfl rfl (te rfl) (te rfl) rfl (by decide) (by decide) rfl) rfl rfl ?_) | (refine Xg.call (EnF.dyn0 rfl rfl (by (repeat (first | exact Args.nil | refine Args.cons rfl ?_)); done)) rfl rfl (hasTruth_spec B p C q _ (h0 (by decide)) (hB3 _ _ _ _)) ?_; rintro _ H9 ⟨rfl, hH9⟩; subst H9) | (refine Xg.ev (EvF.move rfl rfl) rfl rfl ?_) | (refine Xg.ev (EvF.add64 rfl rfl rfl (by omega) (by omega)) rfl rfl ?_) | (refine Xg.ev (EvF.not rfl rfl) rfl rfl ?_) | (refine Xg.ev (EvF.fieldAddr rfl rfl (te rfl) rfl (te rfl) (by decide)) rfl rfl ?_) | (refine Xg.ev (EvF.loadV rfl rfl (LoadV.own (te rfl) rfl (List.Mem.head _) rfl)) rfl rfl ?_) | (refine Xg.ev (EvF.loadV rfl rfl (LoadV.whole (te rfl) rfl (List.Mem.tail _ (List.Mem.tail _ (List.Mem.head _))) rfl)) rfl rfl ?_) | (refine Xg.ev (EvF.loadV rfl rfl (LoadV.whole (te rfl) rfl (List.Mem.tail _ (List.Mem.tail _ (List.Mem.tail _ (List.Mem.head _)))) rfl)) rfl rfl ?_) | (refine Xg.st (StF.alloc rfl Try.zeroValue87 rfl) rfl rfl ?_; rintro _ _ ⟨bx, rfl, rfl⟩) | (refine Xg.st0 (StF.storeAll (i := 0) rfl rfl rfl (te rfl) rfl rfl rfl rfl) rfl ?_; rintro _ _ ⟨rfl, rfl⟩; dsimp only [List.set]))))) | (refine XO.done rfl ?_; refine hK _ _ ?_; clear hK K) | refine X.seq rfl ?_ | refine X.region rfl (fun K hK => ?_) | refine X.skip rfl ?_ | (refine X.ite rfl rfl (fun hc => ?_); (first | (with_reducible refine Xb.caseN hc (fun h => ?_) (fun h => ?_))) <;> clear hc))
      · have hno : ¬ canB B := by assumption
        have hE : openE B C = 8 := by unfold openE; rw [if_pos (h0 (by decide)), if_pos (h1 (by decide)), if_pos (h2 (by decide)), if_pos (h3 (by decide)), if_pos (h4 (by decide)), if_neg hno]
        refine open_err br _ _ _ _ _ _ rfl rfl ?_
        repeat' (first | (refine XO.op rfl ?_; (first | ((first | refine Xo.ng rfl ?_); (first | (refine Xg.ev (EvF.cmp rfl rfl rfl rfl) rfl rfl ?_) | (refine Xg.ev (EvF.loadV rfl rfl (LoadV.whole (te rfl) rfl (List.Mem.tail _ (List.Mem.tail _ (List.Mem.head _))) rfl)) rfl rfl ?_))))) | (refine XO.done rfl ?_; refine hK _ _ ?_; clear hK K) | refine X.seq rfl ?_ | refine X.region rfl (fun K hK => ?_) | refine X.block rfl ?_ | (refine X.brk rfl ?_; first | refine blockX_hit rfl ?_ | skip) | refine X.skip rfl ?_ | refine X.ret rfl ?_ | (refine X.ite rfl rfl (fun hc => ?_); (first | (with_reducible refine Xb.case hc (fun h => ?_) (fun h => ?_))) <;> clear hc))
        exact ret_two (by first | exact .inr rfl | exact .inl rfl) Try.results35 ⟨_, rfl, LoadV.whole (te rfl) rfl (List.Mem.head _) rfl⟩ rfl (H' := H) (by (repeat (first | exact List.Sublist.refl _ | apply List.Sublist.cons)); done) ⟨.inr ⟨by rw [hE]; decide, by rw [hE]⟩, rfl⟩
      · have hyes : canB B := by assumption
        exact ⟨_, _, _, (by (repeat (first | exact Sub.nil _ | refine Sub.cons rfl ?_)); done), (by (repeat (first | exact List.Sublist.refl _ | apply List.Sublist.cons)); done), ⟨5 + 1, rfl, by omega, (by intro hlt; first | (exfalso; omega) | assumption | exact h0 (by omega)), (by intro hlt; first | (exfalso; omega) | assumption | exact h1 (by omega)), (by intro hlt; first | (exfalso; omega) | assumption | exact h2 (by omega)), (by intro hlt; first | (exfalso; omega) | assumption | exact h3 (by omega)), (by intro hlt; first | (exfalso; omega) | assumption | exact h4 (by omega)), (by intro hlt; first | (exfalso; omega) | assumption | exact h5 (by omega)), rfl, rfl⟩, by omega⟩
  · obtain rfl : k = 6 := by omega
    have hb := h0 (by decide)
    have hE : openE B C = 0 := by unfold openE; rw [if_pos hb, if_pos (h1 (by decide)), if_pos (h2 (by decide)), if_pos (h3 (by decide)), if_pos (h4 (by decide)), if_pos (h5 (by decide))]
    have hg := gradesOf_len hb
    have hB4 : ∀ r1 r2 r3, BlOk (r1 :: r2 :: r3 :: H) B p := fun r1 r2 r3 => hB.sub (fun _ h => List.Mem.tail _ (List.Mem.tail _ (List.Mem.tail _ h)))
    repeat' (first | (refine XO.op rfl ?_; (first | ((first | refine Xo.ng rfl ?_); (first | (refine Xg.call (EnF.st rfl (Args.cons rfl Args.nil)) rfl rfl (pressed_spec B p _ hb.h5 hb.hd (hB4 _ _ _)) ?_; rintro _ H9 ⟨rfl, hH9⟩; subst H9) | (refine Xg.st0 (StF.storeAll (i := 0) (vs := cPr B p (gradesOf B)) rfl rfl rfl (te rfl) rfl (lenPr hg) (onePr _ _ _) (lenPr hg)) rfl ?_; rintro _ _ ⟨rfl, rfl⟩; dsimp only [List.set]) | (refine Xg.ev (EvF.assign rfl rfl) rfl rfl ?_))))) | (refine XO.done rfl ?_; refine hK _ _ ?_; clear hK K) | refine X.ret rfl ?_)
    exact ret_two (by first | exact .inr rfl | exact .inl rfl) Try.results35 ⟨_, rfl, LoadV.whole (te rfl) rfl (List.Mem.head _) (lenPr hg)⟩ rfl (H' := H) (by (repeat (first | exact List.Sublist.refl _ | apply List.Sublist.cons)); done) ⟨.inl ⟨hE, rfl⟩, rfl⟩
end Go.Proofs.Ytkchlkbceoameaa
end
section
set_option linter.unusedSimpArgs false
namespace Go.Proofs.Ytkchlkbceoameaa
open Go Go.Fw
set_option maxRecDepth 10000
def spIf (b : Prop) [Decidable b] (s : Sp) : Sp := if b then s else ⟨0, 0⟩
set_option maxHeartbeats 4000000 in
theorem toldSp_spec (B : Bl) (p : Pb) (C : Ca) (q : Pc) (f : Nat) (cap : List Value) (s : Sp) (H : List Row) (hB : BlOk H B p) (hC : CaOk H C q)
    (ht : openE B C = 0 → ∀ H', (∀ r ∈ H, r ∈ H') → Fc Try.prog f ([.agg (cPr B p (gradesOf B)).toArray] ++ cap) H' (fun v H'' => v = .agg (cSp s).toArray ∧ H'' = H')) :
    Fc Try.prog 21 [.agg (cBl B p).toArray, .agg (cCa C q).toArray, .func (.func f) #[] cap.toArray] H (fun v H' => v = .tuple #[.agg (cSp (spIf (openE B C = 0) s)).toArray, .int .i64 (openE B C)] ∧ H' = H) := by
  have hB3 : ∀ r1 r2 r3, BlOk (r1 :: r2 :: r3 :: H) B p := fun r1 r2 r3 => hB.sub (fun _ h => List.Mem.tail _ (List.Mem.tail _ (List.Mem.tail _ h)))
  have hC3 : ∀ r1 r2 r3, CaOk (r1 :: r2 :: r3 :: H) C q := fun r1 r2 r3 => hC.sub (fun _ h => List.Mem.tail _ (List.Mem.tail _ (List.Mem.tail _ h)))
  have hlp : openE B C = 0 → (cPr B p (gradesOf B)).length = 16 := by
    intro h
    refine lenPr (gradesOf_len ?_)
    unfold openE at h
    split at h
    · assumption
    · omega
  refine Fc.mk (callable Try.call21) Try.func21 rfl Try.ntmps21 rfl ?_; dsimp only [fr]
  repeat' (first | (refine XO.op rfl ?_; (first | ((first | refine Xo.ng rfl ?_); (first | (refine Xg.call (EnF.st rfl (by (repeat (first | exact Args.nil | refine Args.cons rfl ?_)); done)) rfl rfl (open_spec B p C q _ (hB3 _ _ _) (hC3 _ _ _)) ?_; rintro _ H9 ⟨⟨hE, rfl⟩ | ⟨hE, rfl⟩, hH9⟩ <;> subst H9) | (refine Xg.st0 (StF.storeAll (i := 0) (vs := cPr B p (gradesOf B)) rfl rfl rfl (te rfl) rfl (hlp hE) (onePr _ _ _) (hlp hE)) rfl ?_; rintro _ _ ⟨rfl, rfl⟩; dsimp only [List.set]) | (refine Xg.ev (EvF.loadV rfl rfl (LoadV.whole (te rfl) rfl (List.Mem.head _) (hlp hE))) rfl rfl ?_) | (refine Xg.call (EnF.dyn0 rfl rfl (by (repeat (first | exact Args.nil | refine Args.cons rfl ?_)); done)) rfl rfl (ht hE _ (fun _ h => List.Mem.tail _ (List.Mem.tail _ (List.Mem.tail _ (List.Mem.tail _ h))))) ?_; rintro _ H9 ⟨rfl, hH9⟩; subst H9) | (refine Xg.ev (EvF.move rfl rfl) rfl rfl ?_) | (refine Xg.ev (EvF.assign rfl rfl) rfl rfl ?_) | (refine Xg.ev (EvF.cmp rfl rfl rfl rfl) rfl rfl ?_) | (refine Xg.ev (EvF.loadV rfl rfl (LoadV.whole (te rfl) rfl (List.Mem.head _) rfl)) rfl rfl ?_) | (refine Xg.ev (EvF.loadV rfl rfl (LoadV.whole (te rfl) rfl (List.Mem.tail _ (List.Mem.head _)) rfl)) rfl rfl ?_) | (refine Xg.ev (EvF.loadV rfl rfl (LoadV.whole (te rfl) rfl (List.Mem.tail _ (List.Mem.tail _ (List.Mem.head _))) rfl)) rfl rfl ?_) | (refine Xg.ev (EvF.extract rfl rfl rfl) rfl rfl ?_) | (refine Xg.st (StF.boxAgg rfl rfl) rfl rfl ?_; rintro _ _ ⟨bx, rfl, rfl⟩) | (refine Xg.st (StF.alloc rfl Try.zeroValue23 rfl) rfl rfl ?_; rintro _ _ ⟨bx, rfl, rfl⟩) | (refine Xg.st (StF.alloc rfl Try.zeroValue47 rfl) rfl rfl ?_; rintro _ _ ⟨bx, rfl, rfl⟩) | (refine Xg.st0 (StF.storeAll (i := 0) rfl rfl rfl (te rfl) rfl rfl rfl rfl) rfl ?_; rintro _ _ ⟨rfl, rfl⟩; dsimp only [List.set]) | (refine Xg.st0 (StF.storeAll (i := 1) rfl rfl rfl (te rfl) rfl rfl rfl rfl) rfl ?_; rintro _ _ ⟨rfl, rfl⟩; dsimp only [List.set]) | (refine Xg.st0 (StF.storeAll (i := 2) rfl rfl rfl (te rfl) rfl rfl rfl rfl) rfl ?_; rintro _ _ ⟨rfl, rfl⟩; dsimp only [List.set]))))) | (refine XO.done rfl ?_; refine hK _ _ ?_; clear hK K) | refine X.seq rfl ?_ | refine X.region rfl (fun K hK => ?_) | refine X.skip rfl ?_ | refine X.ret rfl ?_ | (refine X.ite rfl rfl (fun hc => ?_); (first | (with_reducible refine Xb.caseN hc (fun h => ?_) (fun h => ?_))) <;> clear hc))
  any_goals (exfalso; first | omega | (exact absurd (by assumption) hE) | (simp_all; done))
  · refine ret_two (by first | exact .inr rfl | exact .inl rfl) Try.results21 ⟨_, rfl, LoadV.whole (te rfl) rfl (List.Mem.tail _ (List.Mem.head _)) rfl⟩ rfl (H' := H) (by (repeat (first | exact List.Sublist.refl _ | apply List.Sublist.cons)); done) ⟨?_, rfl⟩
    rw [hE]; unfold spIf; rw [if_pos rfl]
  · refine ret_two (by first | exact .inr rfl | exact .inl rfl) Try.results21 ⟨_, rfl, LoadV.whole (te rfl) rfl (List.Mem.tail _ (List.Mem.tail _ (List.Mem.head _))) rfl⟩ rfl (H' := H) (by (repeat (first | exact List.Sublist.refl _ | apply List.Sublist.cons)); done) ⟨?_, rfl⟩
    unfold spIf; rw [if_neg hE]; rfl
theorem layer1_spec (B : Bl) (p : Pb) (g : List Sp) (i : Int) (b : Nat) (ow : Option TypeId) (cap : Nat) (H : List Row) (hi : 0 ≤ i ∧ i < 5) (hg : g.length = 5) (hm : ⟨b, 0, [.int .i64 i], ow, cap⟩ ∈ H) :
    Fc Try.prog 22 ([.agg (cPr B p g).toArray] ++ [.pointer (some ⟨b, 0, none⟩)]) H (fun v H' => v = .agg (cSp (spAt g i.toNat)).toArray ∧ H' = H) := by
  show Fc Try.prog 22 [.agg (cPr B p g).toArray, .pointer (some ⟨b, 0, none⟩)] H _
  have hgi : (g.take 5)[i.toNat]? = some (spAt g i.toNat) := by rw [List.getElem?_take, if_pos (by omega)]; exact spAt_get (by omega)
  refine Fc.mk (callable Try.call22) Try.func22 rfl Try.ntmps22 rfl ?_; dsimp only [fr]
  repeat' (first | (refine XO.op rfl ?_; (first | ((first | refine Xo.ng rfl ?_); (first | (refine Xg.ev (EvF.loadV rfl rfl (LoadV.own (te rfl) rfl (List.Mem.tail _ (List.Mem.tail _ hm)) rfl)) rfl rfl ?_) | (refine Xg.ev (EvF.indexArray rfl rfl rfl (te rfl) (te rfl) (by omega) (by omega)) rfl rfl ?_) | (refine Xg.ev (EvF.loadV rfl rfl (LoadV.elA0 (slePr (List.Mem.tail _ (List.Mem.head _))) hgi (te rfl) rfl (fun _ h => h) rfl)) rfl rfl ?_) | (refine Xg.ev (EvF.fieldAddr rfl rfl (te rfl) rfl (te rfl) (by decide)) rfl rfl ?_) | (refine Xg.st (StF.boxAgg rfl rfl) rfl rfl ?_; rintro _ _ ⟨bx, rfl, rfl⟩) | (refine Xg.st (StF.alloc rfl Try.zeroValue23 rfl) rfl rfl ?_; rintro _ _ ⟨bx, rfl, rfl⟩) | (refine Xg.st0 (StF.storeAll (i := 0) rfl rfl rfl (te rfl) rfl rfl rfl rfl) rfl ?_; rintro _ _ ⟨rfl, rfl⟩; dsimp only [List.set]))))) | (refine XO.done rfl ?_; refine hK _ _ ?_; clear hK K) | refine X.seq rfl ?_ | refine X.region rfl (fun K hK => ?_) | refine X.ret rfl ?_)
  exact ret_one (by first | exact .inr rfl | exact .inl rfl) Try.results22 ⟨_, rfl, LoadV.whole (te rfl) rfl (List.Mem.head _) rfl⟩ (H' := H) (by (repeat (first | exact List.Sublist.refl _ | apply List.Sublist.cons)); done) ⟨rfl, rfl⟩
def ts29 : List TOp := [⟨some 14, [], [], []⟩, ⟨some 15, [0], [0], []⟩, ⟨some 16, [], [], []⟩, ⟨some 17, [], [], []⟩, ⟨some 18, [2, 3], [3, 2], []⟩, ⟨some 19, [2, 3, 4], [4], []⟩, ⟨some 20, [2, 3, 4, 5], [5], []⟩, ⟨some 21, [0, 1, 2, 3, 4, 5, 6], [1, 6], []⟩, ⟨some 22, [], [], []⟩, ⟨some 23, [8], [8], []⟩, ⟨some 24, [], [], []⟩, ⟨some 25, [], [], []⟩, ⟨some 26, [10, 11], [11, 10], []⟩, ⟨some 27, [10, 11, 12], [12], []⟩, ⟨some 28, [10, 11, 12, 13], [13], []⟩, ⟨some 29, [8, 9, 10, 11, 12, 13, 14], [9, 14], []⟩, ⟨some 30, [0, 1, 2, 3, 4, 5, 6, 7, 8, 9], [], []⟩, ⟨none, [0, 1, 2, 3, 4, 5, 6, 7, 8, 9, 16], [16, 7], [20]⟩, ⟨some 31, [0, 1, 2, 3, 4, 5, 6, 7, 8, 9, 10, 11, 12, 13, 14, 15, 16, 17], [], []⟩, ⟨none, [0, 1, 2, 3, 4, 5, 6, 7, 8, 9, 10, 11, 12, 13, 14, 15, 16, 17, 18], [18, 15], [17]⟩, ⟨none, [], [], []⟩]
def rd29 (k : Nat) : List Nat := match k with
  | 1 => [20]
  | 9 => [20]
  | _ => []
def rows29 (bs : Nat) (s : Sp) (a b : Int) (k : Nat) (_ : Env) : List Row :=
  match k with
  | 17 => [⟨bs, 0, cSp ⟨a, s.hi⟩, some 23, 2⟩]
  | 19 => [⟨bs, 0, cSp ⟨a, b⟩, some 23, 2⟩]
  | 20 => [⟨bs, 0, cSp s, some 23, 2⟩]
  | _ => []
def bestF (g : List Sp) (s : Sp) : Sp := g.foldl (fun s x => ⟨min s.lo x.lo, min s.hi x.hi⟩) s
set_option maxHeartbeats 4000000 in
theorem best1_spec (B : Bl) (p : Pb) (g : List Sp) (H : List Row) (h5 : 1 ≤ B.layers ∧ B.layers ≤ 5) (hg : g.length = 5) :
    Fc Try.prog 29 ([.agg (cPr B p g).toArray] ++ []) H (fun v H' => v = .agg (cSp (bestF (g.take B.layers.toNat) (spAt g 0))).toArray ∧ H' = H) := by
  show Fc Try.prog 29 [.agg (cPr B p g).toArray] H _
  have hgi : (g.take 5)[0]? = some (spAt g 0) := by rw [List.getElem?_take, if_pos (by omega)]; exact spAt_get (by omega)
  refine Fc.mk (callable Try.call29) Try.func29 rfl Try.ntmps29 rfl ?_; dsimp only [fr]
  repeat' (first | (refine XO.op rfl ?_; (first | ((first | refine Xo.ng rfl ?_); (first | (refine Xg.ev (EvF.indexArray rfl rfl rfl (te rfl) (te rfl) (by omega) (by omega)) rfl rfl ?_) | (refine Xg.ev (EvF.loadV rfl rfl (LoadV.elA0 (n := 0) (slePr (List.Mem.tail _ (List.Mem.head _))) hgi (te rfl) rfl (fun _ h => h) rfl)) rfl rfl ?_) | (refine Xg.ev (EvF.move rfl rfl) rfl rfl ?_) | (refine Xg.ev (EvF.fieldAddr rfl rfl (te rfl) rfl (te rfl) (by decide)) rfl rfl ?_) | (refine Xg.ev (EvF.loadV rfl rfl (LoadV.own (te rfl) rfl (List.Mem.tail _ (List.Mem.tail _ (List.Mem.head _))) rfl)) rfl rfl ?_) | (refine Xg.st (StF.boxAgg rfl rfl) rfl rfl ?_; rintro _ _ ⟨bx, rfl, rfl⟩) | (refine Xg.st (StF.alloc rfl Try.zeroValue23 rfl) rfl rfl ?_; rintro _ _ ⟨bx, rfl, rfl⟩) | (refine Xg.st0 (StF.storeAll (i := 0) rfl rfl rfl (te rfl) rfl rfl rfl rfl) rfl ?_; rintro _ _ ⟨rfl, rfl⟩; dsimp only [List.set]))))) | (refine XO.done rfl ?_; refine hK _ _ ?_; clear hK K) | refine X.seq rfl ?_ | refine X.region rfl (fun K hK => ?_) | refine X.block rfl ?_)
  rename_i bp b2; rename Nat => bs
  refine X.lp rfl (fun m F' H' => ∃ k : Nat, m = B.layers.toNat - k ∧ k ≤ B.layers.toNat ∧ H' = ⟨bs, 0, cSp (bestF (g.take k) (spAt g 0)), some 23, 2⟩ :: ⟨b2, 0, cSp ⟨0, 0⟩, some 23, 2⟩ :: ⟨bp, 0, cPr B p g, some 47, 16⟩ :: H ∧
      F' = [(1, .pointer (some ⟨bp, 0, none⟩)), (2, .pointer (some ⟨b2, 0, none⟩)), (3, .pointer (some ⟨bs, 0, none⟩)), (10, .int .i64 B.layers), (11, .int .i64 k)])
    B.layers.toNat [(1, .pointer (some ⟨bp, 0, none⟩)), (2, .pointer (some ⟨b2, 0, none⟩)), (3, .pointer (some ⟨bs, 0, none⟩)), (10, .int .i64 B.layers), (11, .int .i64 (0 : Nat))] (⟨bs, 0, cSp (spAt g 0), some 23, 2⟩ :: ⟨b2, 0, cSp ⟨0, 0⟩, some 23, 2⟩ :: ⟨bp, 0, cPr B p g, some 47, 16⟩ :: H) (by (repeat (first | exact Sub.nil _ | refine Sub.cons rfl ?_)); done) (by rw [← lenPr (B := B) (p := p) hg]; exact List.Sublist.refl _) ⟨0, by omega, by omega, rfl, rfl⟩ ?_
  rintro _ _ _ ⟨k, rfl, hk, rfl, rfl⟩
  obtain ⟨s, hsE⟩ : ∃ s, bestF (g.take k) (spAt g 0) = s := ⟨_, rfl⟩
  rw [hsE]
  repeat' (first | (refine XO.op rfl ?_; (first | ((first | refine Xo.ng rfl ?_); (first | (refine Xg.ev (EvF.move rfl rfl) rfl rfl ?_) | (refine Xg.ev (EvF.assign rfl rfl) rfl rfl ?_) | (refine Xg.ev (EvF.cmp rfl rfl rfl rfl) rfl rfl ?_) | (refine Xg.ev (EvF.loadV rfl rfl (LoadV.whole (te rfl) rfl (List.Mem.head _) rfl)) rfl rfl ?_) | (refine Xg.st0 (StF.storeAll (i := 1) rfl rfl rfl (te rfl) rfl rfl rfl rfl) rfl ?_; rintro _ _ ⟨rfl, rfl⟩; dsimp only [List.set]))))) | (refine XO.done rfl ?_; refine hK _ _ ?_; clear hK K) | refine X.seq rfl ?_ | refine X.region rfl (fun K hK => ?_) | refine X.block rfl ?_ | (refine X.brk rfl ?_; first | refine blockX_hit rfl ?_ | skip) | refine X.skip rfl ?_ | refine X.ret rfl ?_ | (refine X.ite rfl rfl (fun hc => ?_); (first | (with_reducible refine Xb.case hc (fun h => ?_) (fun h => ?_))) <;> clear hc))
  · have hkg : k < g.length := by omega
    have e1 : bestF (g.take (k + 1)) (spAt g 0) = ⟨min s.lo (spAt g k).lo, min s.hi (spAt g k).hi⟩ := by unfold bestF; rw [take_snoc (spAt_get hkg), List.foldl_append]; unfold bestF at hsE; rw [hsE]; rfl
    refine X.regionRd ts29 rd29 [3, 4, 1, 2, 10, 11] [(3, .pointer (some ⟨bs, 0, none⟩)), (4, .int .i64 k), (1, .pointer (some ⟨bp, 0, none⟩)), (2, .pointer (some ⟨b2, 0, none⟩)), (10, .int .i64 B.layers), (11, .int .i64 k)]
      (valL [.pointer (some ⟨bs, 0 + 0, none⟩), .int .i64 s.lo, .int .i64 k, .pointer (some ⟨bp, 0 + 6, none⟩), .pointer (some ⟨bp, 6 + k * 2, none⟩), .pointer (some ⟨bp, 6 + k * 2 + 0, none⟩), .int .i64 (spAt g k).lo, .int .i64 (min s.lo (spAt g k).lo),
        .pointer (some ⟨bs, 0 + 1, none⟩), .int .i64 s.hi, .int .i64 k, .pointer (some ⟨bp, 0 + 6, none⟩), .pointer (some ⟨bp, 6 + k * 2, none⟩), .pointer (some ⟨bp, 6 + k * 2 + 1, none⟩), .int .i64 (spAt g k).hi, .int .i64 (min s.hi (spAt g k).hi), .pointer (some ⟨bs, 0 + 0, none⟩), undef, .pointer (some ⟨bs, 0 + 1, none⟩)])
      (rows29 bs s (min s.lo (spAt g k).lo) (min s.hi (spAt g k).hi)) (fun _ => (0, 0)) (⟨b2, 0, cSp ⟨0, 0⟩, some 23, 2⟩ :: ⟨bp, 0, cPr B p g, some 47, 16⟩ :: H) rfl mixed (by (repeat (first | exact Sub.nil _ | refine Sub.cons rfl ?_)); done) rfl (by kernel_rfl) (by kernel_rfl) (fun _ _ _ _ _ _ => ⟨rfl, rfl⟩) (List.Sublist.refl _) ?_ ?_
    · repeat' (first | exact AllF.done rfl | (refine AllF.step rfl ?_ ?_; · (first | exact (Ob.ng rfl (ObK.pure (fun env R hR => by exact ⟨_, EvF.move rfl rfl, rfl⟩) rfl (fun _ => rfl))).toR | exact (Ob.ng rfl (ObK.pure (fun env R hR => by exact ⟨_, EvF.fieldAddr rfl rfl (te rfl) rfl (te rfl) (by decide), rfl⟩) rfl (fun _ => rfl))).toR | (refine ObR.ng rfl ?_; (first | (exact fun env S hS hrd => (StF.ofEv (EvF.min64 rfl rfl rfl)).op.mono (fun v H' ⟨hv, hH⟩ => ⟨(0, 0), fun _ => hv, by rw [hH]; exact List.Perm.refl _⟩)) | (exact fun env S hS hrd => (StF.ofEv (EvF.loadV rfl rfl (LoadV.own (te rfl) rfl (hrd 20 (List.Mem.head _) _ (List.Mem.head _)) rfl))).op.mono (fun v H' ⟨hv, hH⟩ => ⟨(0, 0), fun _ => hv, by rw [hH]; exact List.Perm.refl _⟩)) | (exact fun env S hS hrd => (StF.ofEv (EvF.loadV rfl rfl (LoadV.own (te rfl) rfl (hS _ (List.Mem.tail _ (List.Mem.head _))) (getPr (j := 0) (spAt_get hkg) rfl)))).op.mono (fun v H' ⟨hv, hH⟩ => ⟨(0, 0), fun _ => hv, by rw [hH]; exact List.Perm.refl _⟩)) | (exact fun env S hS hrd => (StF.ofEv (EvF.loadV rfl rfl (LoadV.own (te rfl) rfl (hS _ (List.Mem.tail _ (List.Mem.head _))) (getPr (j := 1) (spAt_get hkg) rfl)))).op.mono (fun v H' ⟨hv, hH⟩ => ⟨(0, 0), fun _ => hv, by rw [hH]; exact List.Perm.refl _⟩)) | (exact fun env S hS hrd => (StF.storeOne (i := 0) (cs := cSp s) rfl rfl rfl rfl (te rfl) rfl rfl (Nat.le_of_ble_eq_true rfl)).op.mono (fun v H' ⟨hv, hH⟩ => ⟨(0, 0), fun h => absurd rfl h, by rw [hH]; exact List.Perm.refl _⟩)) | (exact fun env S hS hrd => (StF.storeOne (i := 0) (cs := cSp ⟨min s.lo (spAt g k).lo, s.hi⟩) rfl rfl rfl rfl (te rfl) rfl rfl (Nat.le_of_ble_eq_true rfl)).op.mono (fun v H' ⟨hv, hH⟩ => ⟨(0, 0), fun h => absurd rfl h, by rw [hH]; exact List.Perm.refl _⟩)) | ((refine fun env S hS hrd => (StF.ofEv (v := .pointer (some ⟨bp, 6 + k * 2, none⟩)) ?_).op.mono (fun v H' ⟨hv, hH⟩ => ⟨(0, 0), fun _ => hv, by rw [hH]; exact List.Perm.refl _⟩); refine EvF.indexArray (i := (k : Int)) (off := 0 + 6) (b := bp) (T := 45) (e := 23) (len := 5) (ti := ⟨.st [(0, 3), (1, 3)], 2, 16⟩) rfl rfl rfl (te rfl) (te rfl) ?_ ?_ <;> omega)))))))
    · intro env t ha hv
      refine ⟨_, ha, ?_⟩
      show X _ _ _ _ (⟨bs, 0, cSp ⟨min s.lo (spAt g k).lo, min s.hi (spAt g k).hi⟩, some 23, 2⟩ :: ⟨b2, 0, cSp ⟨0, 0⟩, some 23, 2⟩ :: ⟨bp, 0, cPr B p g, some 47, 16⟩ :: H) _
      repeat' (first | (refine XO.op rfl ?_; (first | ((first | refine Xo.ng rfl ?_); (first | (refine Xg.ev (EvF.move rfl rfl) rfl rfl ?_) | (refine Xg.ev (EvF.add64 rfl rfl rfl (by omega) (by omega)) rfl rfl ?_))))) | (refine XO.done rfl ?_; refine hK _ _ ?_; clear hK K) | refine X.region rfl (fun K hK => ?_))
      rw [← e1]
      exact ⟨_, _, _, (by (repeat (first | exact Sub.nil _ | refine Sub.cons rfl ?_)); done), List.Sublist.refl _, ⟨k + 1, rfl, by omega, rfl, rfl⟩, by omega⟩
  · obtain rfl : k = B.layers.toNat := by omega
    repeat' (first | (refine XO.op rfl ?_; (first | ((first | refine Xo.ng rfl ?_); (first | (refine Xg.ev (EvF.move rfl rfl) rfl rfl ?_) | (refine Xg.ev (EvF.add64 rfl rfl rfl (by omega) (by omega)) rfl rfl ?_))))) | (refine XO.done rfl ?_; refine hK _ _ ?_; clear hK K) | refine X.region rfl (fun K hK => ?_))
    exact ret_one (by first | exact .inr rfl | exact .inl rfl) Try.results29 ⟨_, rfl, LoadV.whole (te rfl) rfl (List.Mem.tail _ (List.Mem.head _)) rfl⟩ (H' := H) (by (repeat (first | exact List.Sublist.refl _ | apply List.Sublist.cons)); done) ⟨by rw [hsE], rfl⟩
def worstF (g : List Sp) (s : Sp) : Sp := g.foldl (fun s x => ⟨max s.lo x.lo, max s.hi x.hi⟩) s
set_option maxHeartbeats 4000000 in
theorem worst1_spec (B : Bl) (p : Pb) (g : List Sp) (H : List Row) (h5 : 1 ≤ B.layers ∧ B.layers ≤ 5) (hg : g.length = 5) :
    Fc Try.prog 30 ([.agg (cPr B p g).toArray] ++ []) H (fun v H' => v = .agg (cSp (worstF (g.take B.layers.toNat) (spAt g 0))).toArray ∧ H' = H) := by
  show Fc Try.prog 30 [.agg (cPr B p g).toArray] H _
  have hgi : (g.take 5)[0]? = some (spAt g 0) := by rw [List.getElem?_take, if_pos (by omega)]; exact spAt_get (by omega)
  refine Fc.mk (callable Try.call30) Try.func30 rfl Try.ntmps30 rfl ?_; dsimp only [fr]
  repeat' (first | (refine XO.op rfl ?_; (first | ((first | refine Xo.ng rfl ?_); (first | (refine Xg.ev (EvF.indexArray rfl rfl rfl (te rfl) (te rfl) (by omega) (by omega)) rfl rfl ?_) | (refine Xg.ev (EvF.loadV rfl rfl (LoadV.elA0 (n := 0) (slePr (List.Mem.tail _ (List.Mem.head _))) hgi (te rfl) rfl (fun _ h => h) rfl)) rfl rfl ?_) | (refine Xg.ev (EvF.move rfl rfl) rfl rfl ?_) | (refine Xg.ev (EvF.fieldAddr rfl rfl (te rfl) rfl (te rfl) (by decide)) rfl rfl ?_) | (refine Xg.ev (EvF.loadV rfl rfl (LoadV.own (te rfl) rfl (List.Mem.tail _ (List.Mem.tail _ (List.Mem.head _))) rfl)) rfl rfl ?_) | (refine Xg.st (StF.boxAgg rfl rfl) rfl rfl ?_; rintro _ _ ⟨bx, rfl, rfl⟩) | (refine Xg.st (StF.alloc rfl Try.zeroValue23 rfl) rfl rfl ?_; rintro _ _ ⟨bx, rfl, rfl⟩) | (refine Xg.st0 (StF.storeAll (i := 0) rfl rfl rfl (te rfl) rfl rfl rfl rfl) rfl ?_; rintro _ _ ⟨rfl, rfl⟩; dsimp only [List.set]))))) | (refine XO.done rfl ?_; refine hK _ _ ?_; clear hK K) | refine X.seq rfl ?_ | refine X.region rfl (fun K hK => ?_) | refine X.block rfl ?_)
  rename_i bp b2; rename Nat => bs
  refine X.lp rfl (fun m F' H' => ∃ k : Nat, m = B.layers.toNat - k ∧ k ≤ B.layers.toNat ∧ H' = ⟨bs, 0, cSp (worstF (g.take k) (spAt g 0)), some 23, 2⟩ :: ⟨b2, 0, cSp ⟨0, 0⟩, some 23, 2⟩ :: ⟨bp, 0, cPr B p g, some 47, 16⟩ :: H ∧
      F' = [(1, .pointer (some ⟨bp, 0, none⟩)), (2, .pointer (some ⟨b2, 0, none⟩)), (3, .pointer (some ⟨bs, 0, none⟩)), (10, .int .i64 B.layers), (11, .int .i64 k)])
    B.layers.toNat [(1, .pointer (some ⟨bp, 0, none⟩)), (2, .pointer (some ⟨b2, 0, none⟩)), (3, .pointer (some ⟨bs, 0, none⟩)), (10, .int .i64 B.layers), (11, .int .i64 (0 : Nat))] (⟨bs, 0, cSp (spAt g 0), some 23, 2⟩ :: ⟨b2, 0, cSp ⟨0, 0⟩, some 23, 2⟩ :: ⟨bp, 0, cPr B p g, some 47, 16⟩ :: H) (by (repeat (first | exact Sub.nil _ | refine Sub.cons rfl ?_)); done) (by rw [← lenPr (B := B) (p := p) hg]; exact List.Sublist.refl _) ⟨0, by omega, by omega, rfl, rfl⟩ ?_
  rintro _ _ _ ⟨k, rfl, hk, rfl, rfl⟩
  obtain ⟨s, hsE⟩ : ∃ s, worstF (g.take k) (spAt g 0) = s := ⟨_, rfl⟩
  rw [hsE]
  repeat' (first | (refine XO.op rfl ?_; (first | ((first | refine Xo.ng rfl ?_); (first | (refine Xg.ev (EvF.move rfl rfl) rfl rfl ?_) | (refine Xg.ev (EvF.assign rfl rfl) rfl rfl ?_) | (refine Xg.ev (EvF.cmp rfl rfl rfl rfl) rfl rfl ?_) | (refine Xg.ev (EvF.loadV rfl rfl (LoadV.whole (te rfl) rfl (List.Mem.head _) rfl)) rfl rfl ?_) | (refine Xg.st0 (StF.storeAll (i := 1) rfl rfl rfl (te rfl) rfl rfl rfl rfl) rfl ?_; rintro _ _ ⟨rfl, rfl⟩; dsimp only [List.set]))))) | (refine XO.done rfl ?_; refine hK _ _ ?_; clear hK K) | refine X.seq rfl ?_ | refine X.region rfl (fun K hK => ?_) | refine X.block rfl ?_ | (refine X.brk rfl ?_; first | refine blockX_hit rfl ?_ | skip) | refine X.skip rfl ?_ | refine X.ret rfl ?_ | (refine X.ite rfl rfl (fun hc => ?_); (first | (with_reducible refine Xb.case hc (fun h => ?_) (fun h => ?_))) <;> clear hc))
  · have hkg : k < g.length := by omega
    have e1 : worstF (g.take (k + 1)) (spAt g 0) = ⟨max s.lo (spAt g k).lo, max s.hi (spAt g k).hi⟩ := by unfold worstF; rw [take_snoc (spAt_get hkg), List.foldl_append]; unfold worstF at hsE; rw [hsE]; rfl
    refine X.regionRd ts29 rd29 [3, 4, 1, 2, 10, 11] [(3, .pointer (some ⟨bs, 0, none⟩)), (4, .int .i64 k), (1, .pointer (some ⟨bp, 0, none⟩)), (2, .pointer (some ⟨b2, 0, none⟩)), (10, .int .i64 B.layers), (11, .int .i64 k)]
      (valL [.pointer (some ⟨bs, 0 + 0, none⟩), .int .i64 s.lo, .int .i64 k, .pointer (some ⟨bp, 0 + 6, none⟩), .pointer (some ⟨bp, 6 + k * 2, none⟩), .pointer (some ⟨bp, 6 + k * 2 + 0, none⟩), .int .i64 (spAt g k).lo, .int .i64 (max s.lo (spAt g k).lo),
        .pointer (some ⟨bs, 0 + 1, none⟩), .int .i64 s.hi, .int .i64 k, .pointer (some ⟨bp, 0 + 6, none⟩), .pointer (some ⟨bp, 6 + k * 2, none⟩), .pointer (some ⟨bp, 6 + k * 2 + 1, none⟩), .int .i64 (spAt g k).hi, .int .i64 (max s.hi (spAt g k).hi), .pointer (some ⟨bs, 0 + 0, none⟩), undef, .pointer (some ⟨bs, 0 + 1, none⟩)])
      (rows29 bs s (max s.lo (spAt g k).lo) (max s.hi (spAt g k).hi)) (fun _ => (0, 0)) (⟨b2, 0, cSp ⟨0, 0⟩, some 23, 2⟩ :: ⟨bp, 0, cPr B p g, some 47, 16⟩ :: H) rfl mixed (by (repeat (first | exact Sub.nil _ | refine Sub.cons rfl ?_)); done) rfl (by kernel_rfl) (by kernel_rfl) (fun _ _ _ _ _ _ => ⟨rfl, rfl⟩) (List.Sublist.refl _) ?_ ?_
    · repeat' (first | exact AllF.done rfl | (refine AllF.step rfl ?_ ?_; · (first | exact (Ob.ng rfl (ObK.pure (fun env R hR => by exact ⟨_, EvF.move rfl rfl, rfl⟩) rfl (fun _ => rfl))).toR | exact (Ob.ng rfl (ObK.pure (fun env R hR => by exact ⟨_, EvF.fieldAddr rfl rfl (te rfl) rfl (te rfl) (by decide), rfl⟩) rfl (fun _ => rfl))).toR | (refine ObR.ng rfl ?_; (first | (exact fun env S hS hrd => (StF.ofEv (EvF.max64 rfl rfl rfl)).op.mono (fun v H' ⟨hv, hH⟩ => ⟨(0, 0), fun _ => hv, by rw [hH]; exact List.Perm.refl _⟩)) | (exact fun env S hS hrd => (StF.ofEv (EvF.loadV rfl rfl (LoadV.own (te rfl) rfl (hrd 20 (List.Mem.head _) _ (List.Mem.head _)) rfl))).op.mono (fun v H' ⟨hv, hH⟩ => ⟨(0, 0), fun _ => hv, by rw [hH]; exact List.Perm.refl _⟩)) | (exact fun env S hS hrd => (StF.ofEv (EvF.loadV rfl rfl (LoadV.own (te rfl) rfl (hS _ (List.Mem.tail _ (List.Mem.head _))) (getPr (j := 0) (spAt_get hkg) rfl)))).op.mono (fun v H' ⟨hv, hH⟩ => ⟨(0, 0), fun _ => hv, by rw [hH]; exact List.Perm.refl _⟩)) | (exact fun env S hS hrd => (StF.ofEv (EvF.loadV rfl rfl (LoadV.own (te rfl) rfl (hS _ (List.Mem.tail _ (List.Mem.head _))) (getPr (j := 1) (spAt_get hkg) rfl)))).op.mono (fun v H' ⟨hv, hH⟩ => ⟨(0, 0), fun _ => hv, by rw [hH]; exact List.Perm.refl _⟩)) | (exact fun env S hS hrd => (StF.storeOne (i := 0) (cs := cSp s) rfl rfl rfl rfl (te rfl) rfl rfl (Nat.le_of_ble_eq_true rfl)).op.mono (fun v H' ⟨hv, hH⟩ => ⟨(0, 0), fun h => absurd rfl h, by rw [hH]; exact List.Perm.refl _⟩)) | (exact fun env S hS hrd => (StF.storeOne (i := 0) (cs := cSp ⟨max s.lo (spAt g k).lo, s.hi⟩) rfl rfl rfl rfl (te rfl) rfl rfl (Nat.le_of_ble_eq_true rfl)).op.mono (fun v H' ⟨hv, hH⟩ => ⟨(0, 0), fun h => absurd rfl h, by rw [hH]; exact List.Perm.refl _⟩)) | ((refine fun env S hS hrd => (StF.ofEv (v := .pointer (some ⟨bp, 6 + k * 2, none⟩)) ?_).op.mono (fun v H' ⟨hv, hH⟩ => ⟨(0, 0), fun _ => hv, by rw [hH]; exact List.Perm.refl _⟩); refine EvF.indexArray (i := (k : Int)) (off := 0 + 6) (b := bp) (T := 45) (e := 23) (len := 5) (ti := ⟨.st [(0, 3), (1, 3)], 2, 16⟩) rfl rfl rfl (te rfl) (te rfl) ?_ ?_ <;> omega)))))))
    · intro env t ha hv
      refine ⟨_, ha, ?_⟩
      show X _ _ _ _ (⟨bs, 0, cSp ⟨max s.lo (spAt g k).lo, max s.hi (spAt g k).hi⟩, some 23, 2⟩ :: ⟨b2, 0, cSp ⟨0, 0⟩, some 23, 2⟩ :: ⟨bp, 0, cPr B p g, some 47, 16⟩ :: H) _
      repeat' (first | (refine XO.op rfl ?_; (first | ((first | refine Xo.ng rfl ?_); (first | (refine Xg.ev (EvF.move rfl rfl) rfl rfl ?_) | (refine Xg.ev (EvF.add64 rfl rfl rfl (by omega) (by omega)) rfl rfl ?_))))) | (refine XO.done rfl ?_; refine hK _ _ ?_; clear hK K) | refine X.region rfl (fun K hK => ?_))
      rw [← e1]
      exact ⟨_, _, _, (by (repeat (first | exact Sub.nil _ | refine Sub.cons rfl ?_)); done), List.Sublist.refl _, ⟨k + 1, rfl, by omega, rfl, rfl⟩, by omega⟩
  · obtain rfl : k = B.layers.toNat := by omega
    repeat' (first | (refine XO.op rfl ?_; (first | ((first | refine Xo.ng rfl ?_); (first | (refine Xg.ev (EvF.move rfl rfl) rfl rfl ?_) | (refine Xg.ev (EvF.add64 rfl rfl rfl (by omega) (by omega)) rfl rfl ?_))))) | (refine XO.done rfl ?_; refine hK _ _ ?_; clear hK K) | refine X.region rfl (fun K hK => ?_))
    exact ret_one (by first | exact .inr rfl | exact .inl rfl) Try.results30 ⟨_, rfl, LoadV.whole (te rfl) rfl (List.Mem.tail _ (List.Mem.head _)) rfl⟩ (H' := H) (by (repeat (first | exact List.Sublist.refl _ | apply List.Sublist.cons)); done) ⟨by rw [hsE], rfl⟩
end Go.Proofs.Ytkchlkbceoameaa
end
section
set_option linter.unusedSimpArgs false
namespace Go.Proofs.Ytkchlkbceoameaa
open Go Go.Fw
set_option maxRecDepth 10000
theorem openE_zero {B : Bl} {C : Ca} (h : openE B C = 0) : baleOk B ∧ askL B C ∧ canB B := by
  unfold openE at h
  repeat' split at h
  all_goals first | exact absurd h (by decide) | exact ⟨by assumption, by assumption, by assumption⟩
set_option maxHeartbeats 2000000 in
theorem klayer_spec (B : Bl) (p : Pb) (i : Int) (H : List Row) (hB : BlOk H B p) :
    Fc Try.prog 8 [.agg (cBl B p).toArray, .int .i64 i] H (fun v H' => v = .tuple #[.agg (cSp (spIf (openE B ⟨[i], [], [], []⟩ = 0) (spAt (gradesOf B) i.toNat))).toArray, .int .i64 (openE B ⟨[i], [], [], []⟩)] ∧ H' = H) := by
  have hB4 : ∀ r1 r2 r3 r4, BlOk (r1 :: r2 :: r3 :: r4 :: H) B p := fun r1 r2 r3 r4 => hB.sub (fun _ h => List.Mem.tail _ (List.Mem.tail _ (List.Mem.tail _ (List.Mem.tail _ h))))
  have hr : openE B ⟨[i], [], [], []⟩ = 0 → (0 ≤ i ∧ i < 5) ∧ (gradesOf B).length = 5 := by
    intro h
    obtain ⟨h1, h2, _⟩ := openE_zero h
    have h3 := h2 i (List.mem_singleton.2 rfl)
    have h4 := h1.h5
    refine ⟨⟨h3.1, ?_⟩, gradesOf_len h1⟩
    have := h3.2
    simp only at this
    omega
  refine Fc.mk (callable Try.call8) Try.func8 rfl Try.ntmps8 rfl ?_; dsimp only [fr]
  repeat' (first | (refine XO.op rfl ?_; (first | ((first | refine Xo.ng rfl ?_); (first | (refine Xg.st (StF.buildOne rfl el55 rfl rfl rfl (by decide) (by decide)) rfl rfl ?_; rintro _ _ ⟨bo, rfl, rfl⟩) | (refine Xg.ev (EvF.build (cs := cCa ⟨[i], [], [], []⟩ ⟨some ⟨bo, 0, none⟩, 1, none, 0, none, 0, none, 0⟩) rfl (ArgsP.cons rfl ArgsP.nil) (te rfl) (Places.cons (te rfl) (Places.cons (te rfl) (Places.cons (te rfl) (Places.cons (te rfl) Places.nil)))) Try.zeroValue53 rfl) rfl rfl ?_) | (refine Xg.ev (EvF.makeFunc (fl := []) rfl Args.nil (Args.cons rfl Args.nil)) rfl rfl ?_) | (refine Xg.call (EnF.st rfl (Args.cons rfl (Args.cons rfl (Args.cons rfl Args.nil)))) rfl rfl (toldSp_spec B p ⟨[i], [], [], []⟩ ⟨some ⟨bo, 0, none⟩, 1, none, 0, none, 0, none, 0⟩ 22 [_] (spAt (gradesOf B) i.toNat) _ (hB4 _ _ _ _) ⟨SlE.ofRow (l := [i]) (List.Mem.head _) (fun _ _ => rfl), sleNil, sleNil, sleNil, by simp, by simp, by simp, by simp⟩ (fun h0 H' hs => layer1_spec B p (gradesOf B) i _ _ _ H' (hr h0).1 (hr h0).2 (hs _ (List.Mem.tail _ (List.Mem.tail _ (List.Mem.head _)))))) ?_; rintro _ H9 ⟨rfl, hH9⟩; subst H9) | (refine Xg.ev (EvF.assign rfl rfl) rfl rfl ?_) | (refine Xg.ev (EvF.loadV rfl rfl (LoadV.own (te rfl) rfl (List.Mem.tail _ (List.Mem.head _)) rfl)) rfl rfl ?_) | (refine Xg.ev (EvF.loadV rfl rfl (LoadV.whole (te rfl) rfl (List.Mem.tail _ (List.Mem.tail _ (List.Mem.head _))) rfl)) rfl rfl ?_) | (refine Xg.ev (EvF.extract rfl rfl rfl) rfl rfl ?_) | (refine Xg.st (StF.boxAgg rfl rfl) rfl rfl ?_; rintro _ _ ⟨bx, rfl, rfl⟩) | (refine Xg.st (StF.boxOne rfl rfl rfl) rfl rfl ?_; rintro _ _ ⟨bx, rfl, rfl⟩) | (refine Xg.st (StF.alloc rfl Try.zeroValue23 rfl) rfl rfl ?_; rintro _ _ ⟨bx, rfl, rfl⟩) | (refine Xg.st0 (StF.storeAll (i := 1) rfl rfl rfl (te rfl) rfl rfl rfl rfl) rfl ?_; rintro _ _ ⟨rfl, rfl⟩; dsimp only [List.set]))))) | (refine XO.done rfl ?_; refine hK _ _ ?_; clear hK K) | refine X.seq rfl ?_ | refine X.region rfl (fun K hK => ?_) | refine X.ret rfl ?_)
  exact ret_two (by first | exact .inr rfl | exact .inl rfl) Try.results8 ⟨_, rfl, LoadV.whole (te rfl) rfl (List.Mem.tail _ (List.Mem.head _)) rfl⟩ rfl (H' := H) (by (repeat (first | exact List.Sublist.refl _ | apply List.Sublist.cons)); done) ⟨rfl, rfl⟩
set_option maxHeartbeats 2000000 in
theorem kbest_spec (B : Bl) (p : Pb) (H : List Row) (hB : BlOk H B p) :
    Fc Try.prog 12 [.agg (cBl B p).toArray] H (fun v H' => v = .tuple #[.agg (cSp (spIf (openE B ⟨[], [], [], []⟩ = 0) (bestF ((gradesOf B).take B.layers.toNat) (spAt (gradesOf B) 0)))).toArray, .int .i64 (openE B ⟨[], [], [], []⟩)] ∧ H' = H) := by
  have hB2 : ∀ r1 r2, BlOk (r1 :: r2 :: H) B p := fun r1 r2 => hB.sub (fun _ h => List.Mem.tail _ (List.Mem.tail _ h))
  refine Fc.mk (callable Try.call12) Try.func12 rfl Try.ntmps12 rfl ?_; dsimp only [fr]
  repeat' (first | (refine XO.op rfl ?_; (first | ((first | refine Xo.ng rfl ?_); (first | (refine Xg.ev (EvF.build (cs := cCa ⟨[], [], [], []⟩ ⟨none, 0, none, 0, none, 0, none, 0⟩) rfl ArgsP.nil (te rfl) (Places.cons (te rfl) (Places.cons (te rfl) (Places.cons (te rfl) (Places.cons (te rfl) Places.nil)))) Try.zeroValue53 rfl) rfl rfl ?_) | (refine Xg.call (EnF.st rfl (Args.cons rfl (Args.cons rfl (Args.cons rfl Args.nil)))) rfl rfl (toldSp_spec B p ⟨[], [], [], []⟩ ⟨none, 0, none, 0, none, 0, none, 0⟩ 29 [] (bestF ((gradesOf B).take B.layers.toNat) (spAt (gradesOf B) 0)) _ (hB2 _ _) ⟨sleNil, sleNil, sleNil, sleNil, by simp, by simp, by simp, by simp⟩ (fun h0 H' hs => best1_spec B p (gradesOf B) H' (openE_zero h0).1.h5 (gradesOf_len (openE_zero h0).1))) ?_; rintro _ H9 ⟨rfl, hH9⟩; subst H9) | (refine Xg.ev (EvF.assign rfl rfl) rfl rfl ?_) | (refine Xg.ev (EvF.loadV rfl rfl (LoadV.whole (te rfl) rfl (List.Mem.tail _ (List.Mem.head _)) rfl)) rfl rfl ?_) | (refine Xg.ev (EvF.extract rfl rfl rfl) rfl rfl ?_) | (refine Xg.st (StF.boxAgg rfl rfl) rfl rfl ?_; rintro _ _ ⟨bx, rfl, rfl⟩) | (refine Xg.st (StF.alloc rfl Try.zeroValue23 rfl) rfl rfl ?_; rintro _ _ ⟨bx, rfl, rfl⟩) | (refine Xg.st0 (StF.storeAll (i := 0) rfl rfl rfl (te rfl) rfl rfl rfl rfl) rfl ?_; rintro _ _ ⟨rfl, rfl⟩; dsimp only [List.set]))))) | (refine XO.done rfl ?_; refine hK _ _ ?_; clear hK K) | refine X.seq rfl ?_ | refine X.region rfl (fun K hK => ?_) | refine X.ret rfl ?_)
  exact ret_two (by first | exact .inr rfl | exact .inl rfl) Try.results12 ⟨_, rfl, LoadV.whole (te rfl) rfl (List.Mem.head _) rfl⟩ rfl (H' := H) (by (repeat (first | exact List.Sublist.refl _ | apply List.Sublist.cons)); done) ⟨rfl, rfl⟩
set_option maxHeartbeats 2000000 in
theorem kworst_spec (B : Bl) (p : Pb) (H : List Row) (hB : BlOk H B p) :
    Fc Try.prog 14 [.agg (cBl B p).toArray] H (fun v H' => v = .tuple #[.agg (cSp (spIf (openE B ⟨[], [], [], []⟩ = 0) (worstF ((gradesOf B).take B.layers.toNat) (spAt (gradesOf B) 0)))).toArray, .int .i64 (openE B ⟨[], [], [], []⟩)] ∧ H' = H) := by
  have hB2 : ∀ r1 r2, BlOk (r1 :: r2 :: H) B p := fun r1 r2 => hB.sub (fun _ h => List.Mem.tail _ (List.Mem.tail _ h))
  refine Fc.mk (callable Try.call14) Try.func14 rfl Try.ntmps14 rfl ?_; dsimp only [fr]
  repeat' (first | (refine XO.op rfl ?_; (first | ((first | refine Xo.ng rfl ?_); (first | (refine Xg.ev (EvF.build (cs := cCa ⟨[], [], [], []⟩ ⟨none, 0, none, 0, none, 0, none, 0⟩) rfl ArgsP.nil (te rfl) (Places.cons (te rfl) (Places.cons (te rfl) (Places.cons (te rfl) (Places.cons (te rfl) Places.nil)))) Try.zeroValue53 rfl) rfl rfl ?_) | (refine Xg.call (EnF.st rfl (Args.cons rfl (Args.cons rfl (Args.cons rfl Args.nil)))) rfl rfl (toldSp_spec B p ⟨[], [], [], []⟩ ⟨none, 0, none, 0, none, 0, none, 0⟩ 30 [] (worstF ((gradesOf B).take B.layers.toNat) (spAt (gradesOf B) 0)) _ (hB2 _ _) ⟨sleNil, sleNil, sleNil, sleNil, by simp, by simp, by simp, by simp⟩ (fun h0 H' hs => worst1_spec B p (gradesOf B) H' (openE_zero h0).1.h5 (gradesOf_len (openE_zero h0).1))) ?_; rintro _ H9 ⟨rfl, hH9⟩; subst H9) | (refine Xg.ev (EvF.assign rfl rfl) rfl rfl ?_) | (refine Xg.ev (EvF.loadV rfl rfl (LoadV.whole (te rfl) rfl (List.Mem.tail _ (List.Mem.head _)) rfl)) rfl rfl ?_) | (refine Xg.ev (EvF.extract rfl rfl rfl) rfl rfl ?_) | (refine Xg.st (StF.boxAgg rfl rfl) rfl rfl ?_; rintro _ _ ⟨bx, rfl, rfl⟩) | (refine Xg.st (StF.alloc rfl Try.zeroValue23 rfl) rfl rfl ?_; rintro _ _ ⟨bx, rfl, rfl⟩) | (refine Xg.st0 (StF.storeAll (i := 0) rfl rfl rfl (te rfl) rfl rfl rfl rfl) rfl ?_; rintro _ _ ⟨rfl, rfl⟩; dsimp only [List.set]))))) | (refine XO.done rfl ?_; refine hK _ _ ?_; clear hK K) | refine X.seq rfl ?_ | refine X.region rfl (fun K hK => ?_) | refine X.ret rfl ?_)
  exact ret_two (by first | exact .inr rfl | exact .inl rfl) Try.results14 ⟨_, rfl, LoadV.whole (te rfl) rfl (List.Mem.head _) rfl⟩ rfl (H' := H) (by (repeat (first | exact List.Sublist.refl _ | apply List.Sublist.cons)); done) ⟨rfl, rfl⟩
theorem kcan_spec (B : Bl) (p : Pb) (H : List Row) (hB : BlOk H B p) :
    Fc Try.prog 6 [.agg (cBl B p).toArray] H (fun v H' => v = .tuple #[.bool (decide (baleOk B ∧ canB B)), .int .i64 (if baleOk B then 0 else 30)] ∧ H' = H) := by
  have hB1 : ∀ r1, BlOk (r1 :: H) B p := fun r1 => hB.sub (fun _ h => List.Mem.tail _ h)
  by_cases hb : baleOk B
  · have hk := kcheck_spec B p
    simp only [if_pos hb] at hk ⊢
    refine Fc.mk (callable Try.call6) Try.func6 rfl Try.ntmps6 rfl ?_; dsimp only [fr]
    repeat' (first | (refine XO.op rfl ?_; (first | ((first | refine Xo.ng rfl ?_); (first | (refine Xg.call (EnF.st rfl (Args.cons rfl Args.nil)) rfl rfl (hk _ (hB1 _)) ?_; rintro _ H9 ⟨rfl, hH9⟩; subst H9) | (refine Xg.call (EnF.st rfl (Args.cons rfl Args.nil)) rfl rfl (pressed_spec B p _ hb.h5 hb.hd (hB1 _)) ?_; rintro _ H9 ⟨rfl, hH9⟩; subst H9) | (refine Xg.call (EnF.st rfl (Args.cons rfl Args.nil)) rfl rfl (can_spec B p (gradesOf B) _ hb.h5 hb.hdry hb.hw (gradesOf_len hb) (hB1 _)) ?_; rintro _ H9 ⟨rfl, hH9⟩; subst H9) | (refine Xg.ev (EvF.move rfl rfl) rfl rfl ?_) | (refine Xg.ev (EvF.assign rfl rfl) rfl rfl ?_) | (refine Xg.ev (EvF.cmp rfl rfl rfl rfl) rfl rfl ?_) | (refine Xg.ev (EvF.loadV rfl rfl (LoadV.whole (te rfl) rfl (List.Mem.head _) rfl)) rfl rfl ?_) | (refine Xg.st (StF.boxAgg rfl rfl) rfl rfl ?_; rintro _ _ ⟨bx, rfl, rfl⟩))))) | (refine XO.done rfl ?_; refine hK _ _ ?_; clear hK K) | refine X.seq rfl ?_ | refine X.region rfl (fun K hK => ?_) | refine X.skip rfl ?_ | refine X.ret rfl ?_ | (refine X.ite rfl rfl (fun hc => ?_); (first | (with_reducible refine Xb.caseN hc (fun h => ?_) (fun h => ?_))) <;> clear hc))
    any_goals (exfalso; omega)
    refine ret_two (by first | exact .inr rfl | exact .inl rfl) Try.results6 rfl rfl (H' := H) (by (repeat (first | exact List.Sublist.refl _ | apply List.Sublist.cons)); done) ?_; simp only [and_true, true_and]
    congr 2
    have e : decide (hasG B.layers.toNat (gradesOf B) ∧ (wts B).length > 0) = decide (baleOk B ∧ canB B) := decide_eq_decide.2 ⟨fun q => ⟨hb, q⟩, fun q => q.2⟩
    rw [e]
  · have hk := kcheck_spec B p
    simp only [if_neg hb] at hk ⊢
    refine Fc.mk (callable Try.call6) Try.func6 rfl Try.ntmps6 rfl ?_; dsimp only [fr]
    repeat' (first | (refine XO.op rfl ?_; (first | ((first | refine Xo.ng rfl ?_); (first | (refine Xg.call (EnF.st rfl (Args.cons rfl Args.nil)) rfl rfl (hk _ (hB1 _)) ?_; rintro _ H9 ⟨rfl, hH9⟩; subst H9) | (refine Xg.ev (EvF.move rfl rfl) rfl rfl ?_) | (refine Xg.ev (EvF.assign rfl rfl) rfl rfl ?_) | (refine Xg.ev (EvF.cmp rfl rfl rfl rfl) rfl rfl ?_) | (refine Xg.ev (EvF.loadV rfl rfl (LoadV.whole (te rfl) rfl (List.Mem.head _) rfl)) rfl rfl ?_) | (refine Xg.st (StF.boxAgg rfl rfl) rfl rfl ?_; rintro _ _ ⟨bx, rfl, rfl⟩))))) | (refine XO.done rfl ?_; refine hK _ _ ?_; clear hK K) | refine X.seq rfl ?_ | refine X.region rfl (fun K hK => ?_) | refine X.skip rfl ?_ | refine X.ret rfl ?_ | (refine X.ite rfl rfl (fun hc => ?_); (first | (with_reducible refine Xb.caseN hc (fun h => ?_) (fun h => ?_))) <;> clear hc))
    any_goals (exfalso; omega)
    all_goals (refine ret_two (by first | exact .inr rfl | exact .inl rfl) Try.results6 rfl rfl (H' := H) (by (repeat (first | exact List.Sublist.refl _ | apply List.Sublist.cons)); done) ?_; simp only [and_true, true_and])
    all_goals (congr 2; rw [decide_eq_false (fun q => hb q.1)])
end Go.Proofs.Ytkchlkbceoameaa
end
section
set_option linter.unusedSimpArgs false
namespace Go.Proofs.Ytkchlkbceoameaa
open Go Go.Fw
set_option maxRecDepth 10000
theorem mul_small {a b A B : Int} (ha : 0 ≤ a) (hA : a ≤ A) (hb : 0 ≤ b) (hB : b ≤ B) : 0 ≤ a * b ∧ a * b ≤ A * B := by
  refine ⟨Int.mul_nonneg ha hb, ?_⟩
  exact Int.mul_le_mul hA hB hb (by omega)
def weightP (d r : Int) : Int := d * (1000 + r) / 1000
theorem weight_spec (d r : Int) (H : List Row) (hd : 0 ≤ d ∧ d ≤ 100000) (hr : 0 ≤ r ∧ r ≤ 100000) : Fc Try.prog 55 [.int .i64 d, .int .i64 r] H (fun v H' => v = .int .i64 (weightP d r) ∧ H' = H) := by
  have hm := mul_small hd.1 hd.2 (show 0 ≤ 1000 + r by omega) (show 1000 + r ≤ 101000 by omega)
  refine Fc.mk (callable Try.call55) Try.func55 rfl Try.ntmps55 rfl ?_; dsimp only [fr]
  repeat' (first | (refine XO.op rfl ?_; (first | ((first | refine Xo.ng rfl ?_); (first | (refine Xg.ev (EvF.mul64 rfl rfl rfl (by omega) (by omega)) rfl rfl ?_) | (refine Xg.ev (EvF.quo64 rfl rfl rfl (by omega) (by omega) (by omega)) rfl rfl ?_) | (refine Xg.ev (EvF.move rfl rfl) rfl rfl ?_) | (refine Xg.ev (EvF.assign rfl rfl) rfl rfl ?_) | (refine Xg.ev (EvF.add64 rfl rfl rfl (by omega) (by omega)) rfl rfl ?_))))) | (refine XO.done rfl ?_; refine hK _ _ ?_; clear hK K) | refine X.seq rfl ?_ | refine X.region rfl (fun K hK => ?_) | refine X.ret rfl ?_)
  refine ret_one (by first | exact .inr rfl | exact .inl rfl) Try.results55 rfl (H' := H) (by (repeat (first | exact List.Sublist.refl _ | apply List.Sublist.cons)); done) ?_; simp only [and_true, true_and]
  rfl
def couldP (x : Dr) (d : Int) : Prop := weightP d x.lo ≤ x.val ∧ weightP d x.hi ≥ x.val
instance (x : Dr) (d : Int) : Decidable (couldP x d) := by unfold couldP; infer_instance
def wgOk (x : Wg) : Prop := (0 ≤ x.val ∧ x.val ≤ 1200) ∧ 0 ≤ x.lo ∧ x.lo ≤ x.hi ∧ x.hi ≤ 200
theorem could_spec (x : Wg) (d : Int) (H : List Row) (hd : 1 ≤ d ∧ d ≤ 600) (hx : wgOk x) : Fc Try.prog 49 [.int .i64 d, .agg (cDr x).toArray] H (fun v H' => v = .bool (decide (couldP x d)) ∧ H' = H) := by
  obtain ⟨h1, h2, h3, h4⟩ := hx
  refine Fc.mk (callable Try.call49) Try.func49 rfl Try.ntmps49 rfl ?_; dsimp only [fr]
  repeat' (first | (refine XO.op rfl ?_; (first | ((first | refine Xo.ng rfl ?_); (first | (refine Xg.ev (EvF.assign rfl rfl) rfl rfl ?_) | (refine Xg.st (StF.boxAgg rfl rfl) rfl rfl ?_; rintro _ _ ⟨bx, rfl, rfl⟩))))) | (refine XO.done rfl ?_; refine hK _ _ ?_; clear hK K) | (refine XQ.op rfl ?_; (first | ((first | refine Yo.ng rfl ?_ | (refine Yo.g rfl rfl ?_; with_reducible refine Yw.tt ?_)); (first | (refine Yg.call (EnF.st rfl (Args.cons rfl (Args.cons rfl Args.nil))) rfl rfl (weight_spec d x.lo _ (by omega) (by omega)) ?_) | (refine Yg.call (EnF.st rfl (Args.cons rfl (Args.cons rfl Args.nil))) rfl rfl (weight_spec d x.hi _ (by omega) (by omega)) ?_) | (refine Yg.ev (EvF.move rfl rfl) rfl rfl ?_) | (refine Yg.ev (EvF.assign rfl rfl) rfl rfl ?_) | (refine Yg.ev (EvF.pickT rfl rfl rfl) rfl rfl ?_) | (refine Yg.ev (EvF.pickF rfl rfl rfl) rfl rfl ?_) | (refine Yg.ev (EvF.cmp rfl rfl rfl rfl) rfl rfl ?_) | (refine Yg.ev (EvF.fieldAddr rfl rfl (te rfl) rfl (te rfl) (by decide)) rfl rfl ?_) | (refine Yg.ev (EvF.loadV rfl rfl (LoadV.own (te rfl) rfl (List.Mem.head _) rfl)) rfl rfl ?_))) | (refine Yo.g rfl rfl ?_; (first | (with_reducible refine Yw.ft rfl rfl ?_) | (with_reducible refine Yw.case (fun h => ?_) (fun h => ?_) <;> simp only [h, decide_true, decide_false, Bool.not_true, Bool.not_false, and_self, and_true, true_and, and_false, false_and]))))) | (refine XQ.done rfl ?_; refine hK _ ?_; clear hK K) | refine X.seq rfl ?_ | refine X.region rfl (fun K hK => ?_) | refine X.regionD rfl mixed (by kernel_rfl) (fun K hK => ?_) | refine X.ret rfl ?_)
  all_goals (refine ret_one (by first | exact .inr rfl | exact .inl rfl) Try.results49 rfl (H' := H) (by (repeat (first | exact List.Sublist.refl _ | apply List.Sublist.cons)); done) ?_; simp only [and_true, true_and])
  all_goals (congr 1)
  all_goals first
    | (symm; exact decide_eq_false (fun q => absurd q.1 (by assumption)))
    | exact decide_eq_decide.2 ⟨fun q => ⟨by assumption, q⟩, fun q => q.2⟩
theorem ceil_le {q d m : Int} (hd : 0 < d) : (1000 * q + d - 1) / d ≤ m ↔ 1000 * q ≤ m * d := by
  have h := Int.ediv_lt_iff_lt_mul (a := 1000 * q + d - 1) (b := m + 1) hd
  rw [Int.add_mul, Int.one_mul] at h
  constructor
  · intro h1
    have := h.1 (by omega)
    omega
  · intro h1
    have := h.2 (by omega)
    omega
theorem could_iff {x : Wg} {d : Int} (hx : wgOk x) (hd : 1 ≤ d ∧ d ≤ 600) : ¬ (dampOf x d).lo > (dampOf x d).hi ↔ couldP x d := by
  obtain ⟨h1, h2, h3, h4⟩ := hx
  have e1 : ∀ r q : Int, leastD q d ≤ r ↔ 1000 * q ≤ (r + 1000) * d := by
    intro r q
    have := ceil_le (q := q) (m := r + 1000) (show 0 < d by omega)
    unfold leastD
    rw [← this]; omega
  have e2 : ∀ r : Int, weightP d r ≤ x.val ↔ ¬ leastD (x.val + 1) d ≤ r := by
    intro r
    rw [e1]
    unfold weightP
    rw [Int.mul_comm d, Int.add_comm 1000 r]
    omega
  have e3 : ∀ r : Int, weightP d r ≥ x.val ↔ leastD x.val d ≤ r := by
    intro r
    rw [e1]
    unfold weightP
    rw [Int.mul_comm d, Int.add_comm 1000 r]
    omega
  have e4 : ¬ leastD (x.val + 1) d ≤ leastD x.val d := by
    rw [e1]
    have h5 : (1000 * x.val + d - 1) / d * d ≤ 1000 * x.val + d - 1 := Int.ediv_mul_le _ (by omega)
    have h6 : leastD x.val d + 1000 = (1000 * x.val + d - 1) / d := by unfold leastD; omega
    rw [h6]
    omega
  unfold couldP
  rw [e2, e3]
  simp only [dampOf]
  omega
def allC (l : List Dr) (d : Int) : Bool := l.all (fun x => decide (couldP x d))
def okR (B : Bl) (d : Int) : Bool := allC B.weighs d
theorem ok_eq {B : Bl} {d : Int} (hw : ∀ x ∈ B.weighs, wgOk x) (hd : 1 ≤ d ∧ d ≤ 600) : okR B d = okW B d := by
  rw [Bool.eq_iff_iff]
  unfold okR allC okW
  rw [List.all_eq_true, decide_eq_true_iff]
  unfold canW
  exact ⟨fun q x hx => (could_iff (hw x hx) hd).2 (of_decide_eq_true (q x hx)), fun q x hx => decide_eq_true ((could_iff (hw x hx) hd).1 (q x hx))⟩
theorem wts_eq {B : Bl} (hw : ∀ x ∈ B.weighs, wgOk x) (hd : 1 ≤ B.dlo ∧ B.dlo ≤ B.dhi ∧ B.dhi ≤ 600) : wl (okR B) B.dlo (B.dhi - B.dlo + 1).toNat = wts B := by
  unfold wts
  exact wl_congr _ (fun i hi => ok_eq hw ⟨by omega, by omega⟩)
theorem baleOk.wg {B : Bl} (h : baleOk B) : ∀ x ∈ B.weighs, wgOk x := by
  intro x hx
  have h1 := (h.2.2.2.2.2.2 x hx)
  have h2 := h1.1 x.val (List.mem_singleton.2 rfl)
  have h3 := h1.2
  unfold partOk at h3
  simp only at h2 h3
  unfold wgOk
  omega
set_option maxHeartbeats 4000000 in
theorem dries_spec (B : Bl) (p : Pb) (H : List Row) (hd : 1 ≤ B.dlo ∧ B.dlo ≤ B.dhi ∧ B.dhi ≤ 600) (hw : ∀ x ∈ B.weighs, wgOk x) (hB : BlOk H B p) :
    Fc Try.prog 34 [.agg (cBl B p).toArray] H (fun v H' => ∃ Z, OutI (wts B) v Z ∧ H' = Z ++ H) := by
  rw [← wts_eq hw hd]
  obtain ⟨N, hN⟩ : ∃ N : Nat, (B.dhi - B.dlo + 1).toNat = N := ⟨_, rfl⟩
  rw [hN]
  have hNN : B.dlo + N = B.dhi + 1 := by omega
  have l2 := hB.l2
  have hBZ : ∀ (Z : List Row) r, BlOk (Z ++ r :: H) B p := fun Z r => hB.sub (fun _ h => List.mem_append_right _ (List.mem_cons_of_mem _ h))
  obtain ⟨a1, c1, a2, c2⟩ := p
  refine Fc.mk (callable Try.call34) Try.func34 rfl Try.ntmps34 rfl ?_; dsimp only [fr]
  repeat' (first | (refine XO.op rfl ?_; (first | ((first | refine Xo.ng rfl ?_); (first | (refine Xg.ev (EvF.move rfl rfl) rfl rfl ?_) | (refine Xg.ev (EvF.assign rfl rfl) rfl rfl ?_) | (refine Xg.ev (EvF.cmp rfl rfl rfl rfl) rfl rfl ?_) | (refine Xg.ev (EvF.add64 rfl rfl rfl (by omega) (by omega)) rfl rfl ?_) | (refine Xg.ev (EvF.fieldAddr rfl rfl (te rfl) rfl (te rfl) (by decide)) rfl rfl ?_) | (refine Xg.ev (EvF.loadV rfl rfl (LoadV.own (te rfl) rfl (List.Mem.head _) rfl)) rfl rfl ?_) | (refine Xg.st (StF.boxAgg rfl rfl) rfl rfl ?_; rintro _ _ ⟨bx, rfl, rfl⟩))))) | (refine XO.done rfl ?_; refine hK _ _ ?_; clear hK K) | refine X.seq rfl ?_ | refine X.region rfl (fun K hK => ?_) | refine X.block rfl ?_ | (refine X.brk rfl ?_; first | refine blockX_hit rfl ?_ | skip) | refine X.skip rfl ?_ | (refine X.ite rfl rfl (fun hc => ?_); (first | (with_reducible refine Xb.case hc (fun h => ?_) (fun h => ?_)) | (with_reducible refine Xb.caseB hc (fun h => ?_) (fun h => ?_))) <;> clear hc))
  rename Nat => b1
  refine X.lp rfl (fun m F' H' => ∃ (k : Nat) (d : Int) (out : Value) (Z : List Row), m = N - k ∧ k ≤ N ∧ d = B.dlo + k ∧ OutI (wl (okR B) B.dlo k) out Z ∧ Z ++ ⟨b1, 0, cBl B ⟨a1, c1, a2, c2⟩, some 27, 6⟩ :: H = H' ∧
      F' = [(1, .pointer (some ⟨b1, 0, none⟩)), (3, out), (4, .int .i64 d)])
    N [(1, .pointer (some ⟨b1, 0, none⟩)), (3, .slice none 0 0), (4, .int .i64 B.dlo)] (⟨b1, 0, cBl B ⟨a1, c1, a2, c2⟩, some 27, 6⟩ :: H) (by (repeat (first | exact Sub.nil _ | refine Sub.cons rfl ?_)); done) (List.Sublist.refl _) ⟨0, _, _, [], by omega, by omega, by omega, .inl ⟨rfl, rfl, rfl⟩, rfl, rfl⟩ ?_
  rintro _ _ H2 ⟨k, d, out, Z, rfl, hk, hdk, hO, hH, rfl⟩
  subst hH
  repeat' (first | (refine XO.op rfl ?_; (first | ((first | refine Xo.ng rfl ?_); (first | (refine Xg.ev (EvF.loadV rfl rfl (LoadV.own (te rfl) rfl (List.mem_append_right _ (List.Mem.head _)) rfl)) rfl rfl ?_) | (refine Xg.ev (EvF.move rfl rfl) rfl rfl ?_) | (refine Xg.ev (EvF.assign rfl rfl) rfl rfl ?_) | (refine Xg.ev (EvF.cmp rfl rfl rfl rfl) rfl rfl ?_) | (refine Xg.ev (EvF.fieldAddr rfl rfl (te rfl) rfl (te rfl) (by decide)) rfl rfl ?_) | (refine Xg.ev (EvF.lenSlice rfl rfl (te rfl)) rfl rfl ?_))))) | (refine XO.done rfl ?_; refine hK _ _ ?_; clear hK K) | refine X.seq rfl ?_ | refine X.region rfl (fun K hK => ?_) | refine X.block rfl ?_ | (refine X.brk rfl ?_; first | refine blockX_hit rfl ?_ | skip) | refine X.skip rfl ?_ | refine X.ret rfl ?_ | (refine X.ite rfl rfl (fun hc => ?_); (first | (with_reducible refine Xb.case hc (fun h => ?_) (fun h => ?_))) <;> clear hc))
  · refine X.lp rfl (fun m F' H' => ∃ (q : Nat) (is : Bool), m = B.weighs.length - q ∧ q ≤ B.weighs.length ∧ is = allC (B.weighs.take q) d ∧ Z ++ ⟨b1, 0, cBl B ⟨a1, c1, a2, c2⟩, some 27, 6⟩ :: H = H' ∧
        F' = [(1, .pointer (some ⟨b1, 0, none⟩)), (3, out), (4, .int .i64 d), (5, .bool is), (19, .slice a2 B.weighs.length c2), (20, .int .i64 B.weighs.length), (21, .int .i64 q)])
      B.weighs.length [(1, .pointer (some ⟨b1, 0, none⟩)), (3, out), (4, .int .i64 d), (5, .bool true), (19, .slice a2 B.weighs.length c2), (20, .int .i64 B.weighs.length), (21, .int .i64 (0 : Nat))] _ (by (repeat (first | exact Sub.nil _ | refine Sub.cons rfl ?_)); done) (List.Sublist.refl _) ⟨0, true, by omega, by omega, rfl, rfl, rfl⟩ ?_
    rintro _ _ H2 ⟨q, is, rfl, hq, hn, hH, rfl⟩
    subst hH
    repeat' (first | (refine XO.op rfl ?_; (first | ((first | refine Xo.ng rfl ?_); (first | (refine Xg.ev (EvF.move rfl rfl) rfl rfl ?_) | (refine Xg.ev (EvF.assign rfl rfl) rfl rfl ?_) | (refine Xg.ev (EvF.cmp rfl rfl rfl rfl) rfl rfl ?_) | (refine Xg.ev (EvF.add64 rfl rfl rfl (by omega) (by omega)) rfl rfl ?_) | (refine Xg.ev (EvF.fieldAddr rfl rfl (te rfl) rfl (te rfl) (by decide)) rfl rfl ?_) | (refine Xg.ev (EvF.loadV rfl rfl (LoadV.own (te rfl) rfl (List.Mem.head _) rfl)) rfl rfl ?_) | (refine Xg.st (StF.boxAgg rfl rfl) rfl rfl ?_; rintro _ _ ⟨bx, rfl, rfl⟩))))) | (refine XO.done rfl ?_; refine hK _ _ ?_; clear hK K) | refine X.seq rfl ?_ | refine X.region rfl (fun K hK => ?_) | refine X.block rfl ?_ | (refine X.brk rfl ?_; first | refine blockX_hit rfl ?_ | skip) | refine X.skip rfl ?_ | (refine X.ite rfl rfl (fun hc => ?_); (first | (with_reducible refine Xb.case hc (fun h => ?_) (fun h => ?_)) | (with_reducible refine Xb.caseB hc (fun h => ?_) (fun h => ?_))) <;> clear hc))
    · obtain ⟨b, off, e, rfl, he⟩ := hB.weighs.elem (i := q) (by omega)
      have hwe := hw e (List.mem_of_getElem? he)
      have hn' : allC (B.weighs.take (q + 1)) d = (is && decide (couldP e d)) := by
        rw [take_snoc he, hn]
        unfold allC
        rw [List.all_append]
        simp
      clear hn
      repeat' (first | (refine XO.op rfl ?_; (first | ((first | refine Xo.ng rfl ?_ | (refine Xo.g rfl rfl ?_; with_reducible refine Xw.tt ?_)); (first | (refine Xg.ev (EvF.loadV rfl rfl (LoadV.elA0 (hBZ _ _).weighs he (te rfl) rfl (fun _ hm => hm) rfl)) rfl rfl ?_) | (refine Xg.call (EnF.st rfl (Args.cons rfl (Args.cons rfl Args.nil))) rfl rfl (could_spec e d _ (by omega) hwe) ?_; rintro _ H9 ⟨rfl, hH9⟩; subst H9) | (refine Xg.ev (EvF.move rfl rfl) rfl rfl ?_) | (refine Xg.ev (EvF.assign rfl rfl) rfl rfl ?_) | (refine Xg.ev (EvF.pickT rfl rfl rfl) rfl rfl ?_) | (refine Xg.ev (EvF.pickF rfl rfl rfl) rfl rfl ?_) | (refine Xg.ev (EvF.add64 rfl rfl rfl (by omega) (by omega)) rfl rfl ?_) | (refine Xg.ev (EvF.indexSlice rfl rfl rfl (te rfl) (te rfl) (by omega) (by omega)) rfl rfl ?_) | (refine Xg.ev (EvF.loadV rfl rfl (LoadV.whole (te rfl) rfl (List.Mem.head _) rfl)) rfl rfl ?_) | (refine Xg.st (StF.alloc rfl Try.zeroValue62 rfl) rfl rfl ?_; rintro _ _ ⟨bx, rfl, rfl⟩) | (refine Xg.st0 (StF.storeAll (i := 0) rfl rfl rfl (te rfl) rfl rfl rfl rfl) rfl ?_; rintro _ _ ⟨rfl, rfl⟩; dsimp only [List.set]))) | (refine Xo.g rfl rfl ?_; (first | (with_reducible refine Xw.ft rfl rfl ?_) | (with_reducible refine Xw.caseB (fun h => ?_) (fun h => ?_) <;> simp only [h, decide_true, decide_false, Bool.not_true, Bool.not_false, and_self, and_true, true_and, and_false, false_and]))))) | (refine XO.done rfl ?_; refine hK _ _ ?_; clear hK K) | refine X.region rfl (fun K hK => ?_))
      · refine ⟨_, _, _, (by (repeat (first | exact Sub.nil _ | refine Sub.cons rfl ?_)); done), (by (repeat (first | exact List.Sublist.refl _ | apply List.Sublist.cons)); done), ⟨q + 1, _, rfl, by omega, by rw [hn']; simp_all, rfl, rfl⟩, by omega⟩
      · refine ⟨_, _, _, (by (repeat (first | exact Sub.nil _ | refine Sub.cons rfl ?_)); done), (by (repeat (first | exact List.Sublist.refl _ | apply List.Sublist.cons)); done), ⟨q + 1, _, rfl, by omega, by rw [hn']; simp_all, rfl, rfl⟩, by omega⟩
    · have hyes : okR B d = is := by rw [hn, List.take_of_length_le (by omega)]; rfl
      have hi : is = true := by assumption
      rw [hi] at hyes
      have hwl : wl (okR B) B.dlo (k + 1) = wl (okR B) B.dlo k ++ [d] := by
        rw [hdk] at hyes
        simp only [wl, hyes, if_true, hdk]
      have hk1 := wl_len (okR B) B.dlo k
      obtain ⟨l, hlE⟩ : ∃ l, wl (okR B) B.dlo k = l := ⟨_, rfl⟩
      rw [hlE] at hO hwl hk1
      clear hn
      rcases hO with ⟨rfl, rfl, rfl⟩ | ⟨b0, q0, rfl, rfl⟩
      · repeat' (first | (refine XO.op rfl ?_; (first | ((first | refine Xo.ng rfl ?_); (first | (refine Xg.st (StF.buildOne rfl el55 rfl rfl rfl (by decide) (by decide)) rfl rfl ?_; rintro _ _ ⟨bs, rfl, rfl⟩) | (refine Xg.st (StF.appendNew rfl el55 rfl rfl (by decide) rfl (Rd.own (List.Mem.head _)) (by decide)) rfl rfl ?_; rintro _ _ ⟨bn, kn, rfl, rfl⟩) | (refine Xg.ev (EvF.move rfl rfl) rfl rfl ?_) | (refine Xg.ev (EvF.assign rfl rfl) rfl rfl ?_) | (refine Xg.ev (EvF.add64 rfl rfl rfl (by omega) (by omega)) rfl rfl ?_))))) | (refine XO.done rfl ?_; refine hK _ _ ?_; clear hK K) | refine X.region rfl (fun K hK => ?_))
        refine ⟨_, _, _, (by (repeat (first | exact Sub.nil _ | refine Sub.cons rfl ?_)); done), ?_, ⟨k + 1, _, _, [⟨bn, 0, ([] ++ [d]).flatMap cI, some 3, kn * 1⟩], rfl, by omega, ?_, ?_, rfl, rfl⟩, by omega⟩
        · exact List.Sublist.cons_cons _ (List.Sublist.cons _ (List.Sublist.refl _))
        · omega
        · rw [hwl]; exact .inr ⟨_, _, rfl, rfl⟩
      · have hlen : (l.flatMap cI).length = l.length * 1 := lenI l
        repeat' (first | (refine XO.op rfl ?_; (first | ((first | refine Xo.ng rfl ?_); (first | (refine Xg.st (StF.buildOne rfl el55 rfl rfl rfl (by decide) (by decide)) rfl rfl ?_; rintro _ _ ⟨bs, rfl, rfl⟩) | (refine Xg.st (StF.appendOwn (i := 1) rfl el55 rfl rfl rfl hlen rfl (Rd.own (List.Mem.head _)) rfl (by omega)) rfl rfl ?_; rintro _ _ ⟨bn, kn, rfl, rfl⟩; dsimp only [List.eraseIdx]) | (refine Xg.ev (EvF.move rfl rfl) rfl rfl ?_) | (refine Xg.ev (EvF.assign rfl rfl) rfl rfl ?_) | (refine Xg.ev (EvF.add64 rfl rfl rfl (by omega) (by omega)) rfl rfl ?_))))) | (refine XO.done rfl ?_; refine hK _ _ ?_; clear hK K) | refine X.region rfl (fun K hK => ?_))
        refine ⟨_, _, _, (by (repeat (first | exact Sub.nil _ | refine Sub.cons rfl ?_)); done), ?_, ⟨k + 1, _, _, [⟨bn, 0, (l ++ [d]).flatMap cI, some 3, kn * 1⟩], rfl, by omega, ?_, ?_, rfl, rfl⟩, by omega⟩
        · rw [List.flatMap_append]
          exact List.Sublist.cons_cons _ (List.Sublist.cons _ (List.Sublist.refl _))
        · omega
        · rw [hwl]; exact .inr ⟨_, _, by rw [List.length_append]; rfl, rfl⟩
    · have hno : okR B d = is := by rw [hn, List.take_of_length_le (by omega)]; rfl
      have hi : is = false := by assumption
      rw [hi] at hno
      refine ⟨_, _, _, (by (repeat (first | exact Sub.nil _ | refine Sub.cons rfl ?_)); done), (by (repeat (first | exact List.Sublist.refl _ | apply List.Sublist.cons)); done), ⟨k + 1, _, _, Z, rfl, by omega, ?_, ?_, rfl, rfl⟩, by omega⟩
      · omega
      · rw [hdk] at hno
        simp only [wl, hno, Bool.false_eq_true, if_false, List.append_nil]
        exact hO
  · obtain rfl : k = N := by omega
    exact ret_one (by first | exact .inr rfl | exact .inl rfl) Try.results34 rfl (H' := Z ++ H) (List.Sublist.append (List.Sublist.refl _) (List.sublist_cons_self _ _)) ⟨Z, hO, rfl⟩
end Go.Proofs.Ytkchlkbceoameaa
end
section
set_option linter.unusedSimpArgs false
namespace Go.Proofs.Ytkchlkbceoameaa
open Go Go.Fw
set_option maxRecDepth 10000
def stp (i : Int) (s : Sp) (x : Dr) : Sp := if x.val = i then ⟨max s.lo x.lo, min s.hi x.hi⟩ else s
def gr1 (l : List Dr) (i : Int) : Sp := l.foldl (stp i) ⟨1, 9⟩
theorem spAt_set {g : List Sp} {i j : Nat} {s : Sp} (h : i < g.length) : spAt (g.set i s) j = if i = j then s else spAt g j := by
  unfold spAt List.getD
  rw [List.getElem?_set]
  by_cases h1 : i = j
  · subst h1; simp [h]
  · simp [h1]
theorem fold_at (i : Nat) : ∀ (l : List Dr) (g : List Sp), g.length = 5 → i < 5 → (∀ x ∈ l, 0 ≤ x.val ∧ x.val < 5) → spAt (l.foldl stepG g) i = l.foldl (stp i) (spAt g i)
  | [], g, _, _, _ => rfl
  | x :: l, g, hg, hi, hx => by
    have h1 := hx x List.mem_cons_self
    rw [List.foldl_cons, List.foldl_cons, fold_at i l (stepG g x) (by rw [stepG_len, hg]) hi (fun y hy => hx y (List.mem_cons_of_mem _ hy))]
    congr 1
    unfold stepG stp
    rw [spAt_set (by omega)]
    by_cases h2 : x.val = i
    · rw [if_pos (by omega), if_pos h2, show x.val.toNat = i by omega]
    · rw [if_neg (by omega), if_neg h2]
theorem initG_at {n i : Nat} (hi : i < n) : spAt (initG n) i = ⟨1, 9⟩ := by
  unfold spAt initG List.getD
  rw [List.getElem?_append_left (by simpa using hi), List.getElem?_replicate, if_pos hi]
  rfl
theorem gr1_eq {B : Bl} (h5 : 1 ≤ B.layers ∧ B.layers ≤ 5) (hd : ∀ x ∈ B.draws, 0 ≤ x.val ∧ x.val < 5) {i : Nat} (hi : i < B.layers.toNat) : gr1 B.draws i = spAt (gradesOf B) i := by
  unfold gr1 gradesOf
  rw [fold_at i B.draws _ (initG_len (by omega)) (by omega) hd, initG_at hi]
/-- a list of spans in memory of one's own, or nil -/
def OutS (l : List Sp) (out : Value) (Z : List Row) : Prop := (l = [] ∧ out = .slice none 0 0 ∧ Z = []) ∨ ∃ b q, out = .slice (some ⟨b, 0, none⟩) l.length q ∧ Z = [⟨b, 0, l.flatMap cSp, some 23, q * 2⟩]
theorem OutS.sl {l : List Sp} {out : Value} {Z H : List Row} (h : OutS l out Z) : ∃ a c, out = .slice a l.length c ∧ SlE (Z ++ H) a cSp 2 l := by
  rcases h with ⟨rfl, rfl, rfl⟩ | ⟨b, q, rfl, rfl⟩
  · exact ⟨none, 0, rfl, sleNil⟩
  · exact ⟨_, _, rfl, SlE.ofRow (List.Mem.head _) (fun _ _ => rfl)⟩
def gsOf (B : Bl) : List Sp := (gradesOf B).take B.layers.toNat
set_option maxHeartbeats 4000000 in
theorem layers_spec (B : Bl) (p : Pb) (H : List Row) (h5 : 1 ≤ B.layers ∧ B.layers ≤ 5) (hd : ∀ x ∈ B.draws, 0 ≤ x.val ∧ x.val < 5) (hB : BlOk H B p) :
    Fc Try.prog 33 [.agg (cBl B p).toArray] H (fun v H' => (hasG B.layers.toNat (gradesOf B) ∧ ∃ out Z, OutS (gsOf B) out Z ∧ v = .tuple #[out, .bool true] ∧ H' = Z ++ H) ∨ (¬ hasG B.layers.toNat (gradesOf B) ∧ v = .tuple #[.slice none 0 0, .bool false] ∧ H' = H)) := by
  obtain ⟨N, hN⟩ : ∃ N : Nat, B.layers.toNat = N := ⟨_, rfl⟩
  obtain ⟨g, hg⟩ : ∃ g, gradesOf B = g := ⟨_, rfl⟩
  have hgl : g.length = 5 := by rw [← hg]; unfold gradesOf; rw [foldG_len, initG_len (by omega)]
  have hgr : ∀ i : Nat, i < N → gr1 B.draws i = spAt g i := fun i hi => by rw [← hg]; exact gr1_eq h5 hd (by omega)
  unfold gsOf
  rw [hN, hg]
  have l1 := hB.l1
  have hBZ : ∀ (Z : List Row) r0 r, BlOk (r0 :: (Z ++ r :: H)) B p := fun Z r0 r => hB.sub (fun _ h => List.Mem.tail _ (List.mem_append_right _ (List.mem_cons_of_mem _ h)))
  obtain ⟨a1, c1, a2, c2⟩ := p
  refine Fc.mk (callable Try.call33) Try.func33 rfl Try.ntmps33 rfl ?_; dsimp only [fr]
  repeat' (first | (refine XO.op rfl ?_; (first | ((first | refine Xo.ng rfl ?_); (first | (refine Xg.ev (EvF.move rfl rfl) rfl rfl ?_) | (refine Xg.ev (EvF.assign rfl rfl) rfl rfl ?_) | (refine Xg.ev (EvF.cmp rfl rfl rfl rfl) rfl rfl ?_) | (refine Xg.ev (EvF.fieldAddr rfl rfl (te rfl) rfl (te rfl) (by decide)) rfl rfl ?_) | (refine Xg.ev (EvF.loadV rfl rfl (LoadV.own (te rfl) rfl (List.Mem.head _) rfl)) rfl rfl ?_) | (refine Xg.ev (EvF.loadV rfl rfl (LoadV.whole (te rfl) rfl (List.Mem.head _) rfl)) rfl rfl ?_) | (refine Xg.st (StF.boxAgg rfl rfl) rfl rfl ?_; rintro _ _ ⟨bx, rfl, rfl⟩))))) | (refine XO.done rfl ?_; refine hK _ _ ?_; clear hK K) | refine X.seq rfl ?_ | refine X.region rfl (fun K hK => ?_) | refine X.block rfl ?_ | (refine X.brk rfl ?_; first | refine blockX_hit rfl ?_ | skip) | refine X.skip rfl ?_ | refine X.ret rfl ?_ | (refine X.ite rfl rfl (fun hc => ?_); (first | (with_reducible refine Xb.case hc (fun h => ?_) (fun h => ?_))) <;> clear hc))
  rename Nat => b1
  refine X.lp rfl (fun m F' H' => ∃ (k : Nat) (out : Value) (Z : List Row), m = N - k ∧ k ≤ N ∧ OutS (g.take k) out Z ∧ (∀ s ∈ g.take k, ¬ s.lo > s.hi) ∧ Z ++ ⟨b1, 0, cBl B ⟨a1, c1, a2, c2⟩, some 27, 6⟩ :: H = H' ∧
      F' = [(1, .pointer (some ⟨b1, 0, none⟩)), (4, out), (5, .int .i64 k)])
    N [(1, .pointer (some ⟨b1, 0, none⟩)), (4, .slice none 0 0), (5, .int .i64 (0 : Nat))] (⟨b1, 0, cBl B ⟨a1, c1, a2, c2⟩, some 27, 6⟩ :: H) (by (repeat (first | exact Sub.nil _ | refine Sub.cons rfl ?_)); done) (List.Sublist.refl _) ⟨0, _, [], by omega, by omega, .inl ⟨rfl, rfl, rfl⟩, by simp, rfl, rfl⟩ ?_
  rintro _ _ H2 ⟨k, out, Z, rfl, hk, hO, hall, hH, rfl⟩
  subst hH
  repeat' (first | (refine XO.op rfl ?_; (first | ((first | refine Xo.ng rfl ?_); (first | (refine Xg.ev (EvF.loadV rfl rfl (LoadV.own (te rfl) rfl (List.mem_append_right _ (List.Mem.head _)) rfl)) rfl rfl ?_) | (refine Xg.ev (EvF.loadV rfl rfl (LoadV.own (te rfl) rfl (List.Mem.tail _ (List.mem_append_right _ (List.Mem.head _))) rfl)) rfl rfl ?_) | (refine Xg.ev (EvF.build (cs := cSp ⟨1, 9⟩) rfl (ArgsP.cons rfl (ArgsP.cons rfl ArgsP.nil)) (te rfl) (Places.cons (te rfl) (Places.cons (te rfl) Places.nil)) Try.zeroValue23 rfl) rfl rfl ?_) | (refine Xg.ev (EvF.move rfl rfl) rfl rfl ?_) | (refine Xg.ev (EvF.assign rfl rfl) rfl rfl ?_) | (refine Xg.ev (EvF.cmp rfl rfl rfl rfl) rfl rfl ?_) | (refine Xg.ev (EvF.fieldAddr rfl rfl (te rfl) rfl (te rfl) (by decide)) rfl rfl ?_) | (refine Xg.ev (EvF.lenSlice rfl rfl (te rfl)) rfl rfl ?_) | (refine Xg.st (StF.alloc rfl Try.zeroValue23 rfl) rfl rfl ?_; rintro _ _ ⟨bx, rfl, rfl⟩) | (refine Xg.st0 (StF.storeAll (i := 0) rfl rfl rfl (te rfl) rfl rfl rfl rfl) rfl ?_; rintro _ _ ⟨rfl, rfl⟩; dsimp only [List.set]))))) | (refine XO.done rfl ?_; refine hK _ _ ?_; clear hK K) | refine X.seq rfl ?_ | refine X.region rfl (fun K hK => ?_) | refine X.block rfl ?_ | (refine X.brk rfl ?_; first | refine blockX_hit rfl ?_ | skip) | refine X.skip rfl ?_ | refine X.ret rfl ?_ | (refine X.ite rfl rfl (fun hc => ?_); (first | (with_reducible refine Xb.case hc (fun h => ?_) (fun h => ?_))) <;> clear hc))
  · rename Nat => bs
    refine X.lp rfl (fun m F' H' => ∃ q : Nat, m = B.draws.length - q ∧ q ≤ B.draws.length ∧ ⟨bs, 0, cSp (gr1 (B.draws.take q) k), some 23, 2⟩ :: (Z ++ ⟨b1, 0, cBl B ⟨a1, c1, a2, c2⟩, some 27, 6⟩ :: H) = H' ∧
        F' = [(1, .pointer (some ⟨b1, 0, none⟩)), (4, out), (5, .int .i64 k), (6, .pointer (some ⟨bs, 0, none⟩)), (17, .slice a1 B.draws.length c1), (18, .int .i64 B.draws.length), (19, .int .i64 q)])
      B.draws.length [(1, .pointer (some ⟨b1, 0, none⟩)), (4, out), (5, .int .i64 k), (6, .pointer (some ⟨bs, 0, none⟩)), (17, .slice a1 B.draws.length c1), (18, .int .i64 B.draws.length), (19, .int .i64 (0 : Nat))] (⟨bs, 0, cSp (gr1 (B.draws.take 0) k), some 23, 2⟩ :: (Z ++ ⟨b1, 0, cBl B ⟨a1, c1, a2, c2⟩, some 27, 6⟩ :: H)) (by (repeat (first | exact Sub.nil _ | refine Sub.cons rfl ?_)); done) (List.Sublist.refl _) ⟨0, by omega, by omega, rfl, rfl⟩ ?_
    rintro _ _ H2 ⟨q, rfl, hq, hH, rfl⟩
    subst hH
    obtain ⟨s, hs⟩ : ∃ s, gr1 (B.draws.take q) k = s := ⟨_, rfl⟩
    rw [hs]
    repeat' (first | (refine XO.op rfl ?_; (first | ((first | refine Xo.ng rfl ?_); (first | (refine Xg.ev (EvF.move rfl rfl) rfl rfl ?_) | (refine Xg.ev (EvF.assign rfl rfl) rfl rfl ?_) | (refine Xg.ev (EvF.cmp rfl rfl rfl rfl) rfl rfl ?_) | (refine Xg.ev (EvF.fieldAddr rfl rfl (te rfl) rfl (te rfl) (by decide)) rfl rfl ?_) | (refine Xg.ev (EvF.loadV rfl rfl (LoadV.own (te rfl) rfl (List.Mem.head _) rfl)) rfl rfl ?_) | (refine Xg.ev (EvF.loadV rfl rfl (LoadV.whole (te rfl) rfl (List.Mem.head _) rfl)) rfl rfl ?_) | (refine Xg.st (StF.boxAgg rfl rfl) rfl rfl ?_; rintro _ _ ⟨bx, rfl, rfl⟩))))) | (refine XO.done rfl ?_; refine hK _ _ ?_; clear hK K) | refine X.seq rfl ?_ | refine X.region rfl (fun K hK => ?_) | refine X.block rfl ?_ | (refine X.brk rfl ?_; first | refine blockX_hit rfl ?_ | skip) | refine X.skip rfl ?_ | refine X.ret rfl ?_ | (refine X.ite rfl rfl (fun hc => ?_); (first | (with_reducible refine Xb.case hc (fun h => ?_) (fun h => ?_))) <;> clear hc))
    · obtain ⟨b, off, e, rfl, he⟩ := hB.draws.elem (i := q) (by omega)
      have hn : gr1 (B.draws.take (q + 1)) k = stp k s e := by unfold gr1 at hs ⊢; rw [take_snoc he, List.foldl_append, hs]; rfl
      unfold stp at hn
      repeat' (first | (refine XO.op rfl ?_; (first | ((first | refine Xo.ng rfl ?_); (first | (refine Xg.ev (EvF.loadV rfl rfl (LoadV.elA0 (hBZ _ _ _).draws he (te rfl) rfl (fun _ hm => hm) rfl)) rfl rfl ?_) | (refine Xg.ev (EvF.build (cs := cSp ⟨max s.lo e.lo, min s.hi e.hi⟩) rfl (ArgsP.cons rfl (ArgsP.cons rfl ArgsP.nil)) (te rfl) (Places.cons (te rfl) (Places.cons (te rfl) Places.nil)) Try.zeroValue23 rfl) rfl rfl ?_) | (refine Xg.ev (EvF.move rfl rfl) rfl rfl ?_) | (refine Xg.ev (EvF.cmp rfl rfl rfl rfl) rfl rfl ?_) | (refine Xg.ev (EvF.add64 rfl rfl rfl (by omega) (by omega)) rfl rfl ?_) | (refine Xg.ev (EvF.fieldAddr rfl rfl (te rfl) rfl (te rfl) (by decide)) rfl rfl ?_) | (refine Xg.ev (EvF.indexSlice rfl rfl rfl (te rfl) (te rfl) (by omega) (by omega)) rfl rfl ?_) | (refine Xg.ev (EvF.loadV rfl rfl (LoadV.own (te rfl) rfl (List.Mem.head _) rfl)) rfl rfl ?_) | (refine Xg.ev (EvF.loadV rfl rfl (LoadV.own (te rfl) rfl (List.Mem.tail _ (List.Mem.head _)) rfl)) rfl rfl ?_) | (refine Xg.ev (EvF.min64 rfl rfl rfl) rfl rfl ?_) | (refine Xg.ev (EvF.max64 rfl rfl rfl) rfl rfl ?_) | (refine Xg.st (StF.alloc rfl Try.zeroValue62 rfl) rfl rfl ?_; rintro _ _ ⟨bx, rfl, rfl⟩) | (refine Xg.st0 (StF.storeAll (i := 0) rfl rfl rfl (te rfl) rfl rfl rfl rfl) rfl ?_; rintro _ _ ⟨rfl, rfl⟩; dsimp only [List.set]) | (refine Xg.st0 (StF.storeAll (i := 1) rfl rfl rfl (te rfl) rfl rfl rfl rfl) rfl ?_; rintro _ _ ⟨rfl, rfl⟩; dsimp only [List.set]))))) | (refine XO.done rfl ?_; refine hK _ _ ?_; clear hK K) | refine X.seq rfl ?_ | refine X.region rfl (fun K hK => ?_) | refine X.skip rfl ?_ | (refine X.ite rfl rfl (fun hc => ?_); (first | (with_reducible refine Xb.case hc (fun h => ?_) (fun h => ?_))) <;> clear hc))
      · rw [if_pos (by assumption)] at hn
        rw [← hn]
        exact ⟨_, _, _, (by (repeat (first | exact Sub.nil _ | refine Sub.cons rfl ?_)); done), List.Sublist.cons _ (List.Sublist.refl _), ⟨q + 1, rfl, by omega, rfl, rfl⟩, by omega⟩
      · rw [if_neg (by assumption)] at hn
        rw [← hn]
        exact ⟨_, _, _, (by (repeat (first | exact Sub.nil _ | refine Sub.cons rfl ?_)); done), List.Sublist.cons _ (List.Sublist.refl _), ⟨q + 1, rfl, by omega, rfl, rfl⟩, by omega⟩
    · have hsk : spAt g k = s := by rw [← hgr k (by omega), ← hs, List.take_of_length_le (by omega)]
      have hkg := spAt_get (g := g) (i := k) (by omega)
      rw [hsk] at hkg
      exact ret_two (by first | exact .inr rfl | exact .inl rfl) Try.results33 rfl rfl (H' := H) (List.Sublist.cons _ ((List.sublist_cons_self _ _).trans (List.sublist_append_right _ _))) (.inr ⟨fun hh => hh s (List.mem_of_getElem? (i := k) (by rw [List.getElem?_take, if_pos (by omega)]; exact hkg)) (by assumption), rfl, rfl⟩)
    · have hsk : spAt g k = s := by rw [← hgr k (by omega), ← hs, List.take_of_length_le (by omega)]
      have hkg := spAt_get (g := g) (i := k) (by omega)
      rw [hsk] at hkg
      have hok : ¬ s.lo > s.hi := by assumption
      have htk := take_snoc hkg
      have hall' : ∀ s ∈ g.take (k + 1), ¬ s.lo > s.hi := by
        intro x hx
        rw [htk, List.mem_append, List.mem_singleton] at hx
        rcases hx with hx | rfl
        · exact hall x hx
        · exact hok
      obtain ⟨l, hlE⟩ : ∃ l, g.take k = l := ⟨_, rfl⟩
      have hlk : l.length ≤ 5 := by rw [← hlE, List.length_take]; omega
      rw [hlE] at hO htk
      rcases hO with ⟨rfl, rfl, rfl⟩ | ⟨b0, q0, rfl, rfl⟩
      · repeat' (first | (refine XO.op rfl ?_; (first | ((first | refine Xo.ng rfl ?_); (first | (refine Xg.st (StF.buildOne rfl el22 rfl rfl rfl (by decide) (by decide)) rfl rfl ?_; rintro _ _ ⟨bo, rfl, rfl⟩) | (refine Xg.st (StF.appendNew rfl el22 rfl rfl (by decide) rfl (Rd.own (List.Mem.head _)) (by decide)) rfl rfl ?_; rintro _ _ ⟨bn, kn, rfl, rfl⟩) | (refine Xg.ev (EvF.move rfl rfl) rfl rfl ?_) | (refine Xg.ev (EvF.assign rfl rfl) rfl rfl ?_) | (refine Xg.ev (EvF.add64 rfl rfl rfl (by omega) (by omega)) rfl rfl ?_))))) | (refine XO.done rfl ?_; refine hK _ _ ?_; clear hK K) | refine X.region rfl (fun K hK => ?_))
        refine ⟨_, _, _, (by (repeat (first | exact Sub.nil _ | refine Sub.cons rfl ?_)); done), ?_, ⟨k + 1, _, [⟨bn, 0, ([] ++ [s]).flatMap cSp, some 23, kn * 2⟩], rfl, by omega, ?_, hall', rfl, rfl⟩, by omega⟩
        · exact List.Sublist.cons_cons _ (List.Sublist.cons _ (List.Sublist.cons _ (List.Sublist.refl _)))
        · rw [htk]; exact .inr ⟨_, _, rfl, rfl⟩
      · have hlen : (l.flatMap cSp).length = l.length * 2 := lenSp l
        repeat' (first | (refine XO.op rfl ?_; (first | ((first | refine Xo.ng rfl ?_); (first | (refine Xg.st (StF.buildOne rfl el22 rfl rfl rfl (by decide) (by decide)) rfl rfl ?_; rintro _ _ ⟨bo, rfl, rfl⟩) | (refine Xg.st (StF.appendOwn (i := 2) rfl el22 rfl rfl rfl hlen rfl (Rd.own (List.Mem.head _)) rfl (by omega)) rfl rfl ?_; rintro _ _ ⟨bn, kn, rfl, rfl⟩; dsimp only [List.eraseIdx]) | (refine Xg.ev (EvF.move rfl rfl) rfl rfl ?_) | (refine Xg.ev (EvF.assign rfl rfl) rfl rfl ?_) | (refine Xg.ev (EvF.add64 rfl rfl rfl (by omega) (by omega)) rfl rfl ?_))))) | (refine XO.done rfl ?_; refine hK _ _ ?_; clear hK K) | refine X.region rfl (fun K hK => ?_))
        refine ⟨_, _, _, (by (repeat (first | exact Sub.nil _ | refine Sub.cons rfl ?_)); done), ?_, ⟨k + 1, _, [⟨bn, 0, (l ++ [s]).flatMap cSp, some 23, kn * 2⟩], rfl, by omega, ?_, hall', rfl, rfl⟩, by omega⟩
        · rw [List.flatMap_append]
          exact List.Sublist.cons_cons _ (List.Sublist.cons _ (List.Sublist.cons _ (List.Sublist.refl _)))
        · rw [htk]; exact .inr ⟨_, _, by rw [List.length_append]; rfl, rfl⟩
  · obtain rfl : k = N := by omega
    exact ret_two (by first | exact .inr rfl | exact .inl rfl) Try.results33 rfl rfl (H' := Z ++ H) (List.Sublist.append (List.Sublist.refl _) (List.sublist_cons_self _ _)) (.inl ⟨hall, out, Z, hO, rfl, rfl⟩)
theorem true_spec (B : Bl) (p : Pb) (H : List Row) (hb : baleOk B) (hB : BlOk H B p) :
    Fc Try.prog 20 [.agg (cBl B p).toArray] H (fun v H' => v = .bool (decide (canB B)) ∧ H' = H) := by
  have hB1 : ∀ r1, BlOk (r1 :: H) B p := fun r1 => hB.sub (fun _ h => List.Mem.tail _ h)
  have hBZ : ∀ (Z : List Row) r1, BlOk (Z ++ r1 :: H) B p := fun Z r1 => hB.sub (fun _ h => List.mem_append_right _ (List.Mem.tail _ h))
  have hl := wl_len (okW B) B.dlo (B.dhi - B.dlo + 1).toNat
  have hd := hb.hdry
  refine Fc.mk (callable Try.call20) Try.func20 rfl Try.ntmps20 rfl ?_; dsimp only [fr]
  repeat' (first | (refine XO.op rfl ?_; (first | ((first | refine Xo.ng rfl ?_ | (refine Xo.g rfl rfl ?_; with_reducible refine Xw.tt ?_)); (first | (refine Xg.call (EnF.st rfl (by (repeat (first | exact Args.nil | refine Args.cons rfl ?_)); done)) rfl rfl (layers_spec B p _ hb.h5 hb.hd (hB1 _)) ?_; rintro _ H9 (⟨hG, out, Z, hO, rfl, hH9⟩ | ⟨hG, rfl, hH9⟩) <;> subst H9) | (refine Xg.ev (EvF.loadV rfl rfl (LoadV.whole (te rfl) rfl (List.mem_append_right _ (List.Mem.head _)) rfl)) rfl rfl ?_) | (refine Xg.call (EnF.st rfl (by (repeat (first | exact Args.nil | refine Args.cons rfl ?_)); done)) rfl rfl (dries_spec B p _ hd hb.wg (hBZ _ _)) ?_; rintro _ _ ⟨Z2, hO2, rfl⟩; obtain ⟨a, c, rfl, hs2⟩ := hO2.sl (H := [])) | (refine Xg.ev (EvF.move rfl rfl) rfl rfl ?_) | (refine Xg.ev (EvF.assign rfl rfl) rfl rfl ?_) | (refine Xg.ev (EvF.pickT rfl rfl rfl) rfl rfl ?_) | (refine Xg.ev (EvF.pickF rfl rfl rfl) rfl rfl ?_) | (refine Xg.ev (EvF.cmp rfl rfl rfl rfl) rfl rfl ?_) | (refine Xg.ev (EvF.lenSlice rfl rfl (te rfl)) rfl rfl ?_) | (refine Xg.ev (EvF.loadV rfl rfl (LoadV.whole (te rfl) rfl (List.Mem.head _) rfl)) rfl rfl ?_) | (refine Xg.ev (EvF.extract rfl rfl rfl) rfl rfl ?_) | (refine Xg.st (StF.boxAgg rfl rfl) rfl rfl ?_; rintro _ _ ⟨bx, rfl, rfl⟩))) | (refine Xo.g rfl rfl ?_; (first | (with_reducible refine Xw.ft rfl rfl ?_))))) | (refine XO.done rfl ?_; refine hK _ _ ?_; clear hK K) | refine X.seq rfl ?_ | refine X.region rfl (fun K hK => ?_) | refine X.ret rfl ?_)
  · refine ret_one (by first | exact .inr rfl | exact .inl rfl) Try.results20 rfl (H' := H) (((List.sublist_cons_self _ _).trans (List.sublist_append_right _ _)).trans (List.sublist_append_right _ _)) ⟨?_, rfl⟩
    congr 1
    exact decide_eq_decide.2 ⟨fun q => ⟨hG, by omega⟩, fun q => by have := q.2; omega⟩
  · refine ret_one (by first | exact .inr rfl | exact .inl rfl) Try.results20 rfl (H' := H) (by (repeat (first | exact List.Sublist.refl _ | apply List.Sublist.cons)); done) ?_; simp only [and_true, true_and]
    congr 1; symm; exact decide_eq_false (fun q => hG q.1)
theorem rcan_spec (B : Bl) (p : Pb) (H : List Row) (hB : BlOk H B p) :
    Fc Try.prog 7 [.agg (cBl B p).toArray] H (fun v H' => v = .tuple #[.bool (decide (baleOk B ∧ canB B)), .int .i64 (if baleOk B then 0 else 30)] ∧ H' = H) := by
  have hB1 : ∀ r1, BlOk (r1 :: H) B p := fun r1 => hB.sub (fun _ h => List.Mem.tail _ h)
  refine Fc.mk (callable Try.call7) Try.func7 rfl Try.ntmps7 rfl ?_; dsimp only [fr]
  repeat' (first | (refine XO.op rfl ?_; (first | ((first | refine Xo.ng rfl ?_); (first | (refine Xg.call (EnF.st rfl (Args.cons rfl Args.nil)) rfl rfl (bale_spec B p _ (hB1 _)) ?_; rintro _ H9 ⟨rfl, hH9⟩; subst H9) | (refine Xg.call (EnF.st rfl (Args.cons rfl Args.nil)) rfl rfl (true_spec B p _ (by assumption) (hB1 _)) ?_; rintro _ H9 ⟨rfl, hH9⟩; subst H9) | (refine Xg.ev (EvF.assign rfl rfl) rfl rfl ?_) | (refine Xg.ev (EvF.not rfl rfl) rfl rfl ?_) | (refine Xg.ev (EvF.loadV rfl rfl (LoadV.whole (te rfl) rfl (List.Mem.head _) rfl)) rfl rfl ?_) | (refine Xg.st (StF.boxAgg rfl rfl) rfl rfl ?_; rintro _ _ ⟨bx, rfl, rfl⟩))))) | (refine XO.done rfl ?_; refine hK _ _ ?_; clear hK K) | refine X.seq rfl ?_ | refine X.region rfl (fun K hK => ?_) | refine X.skip rfl ?_ | refine X.ret rfl ?_ | (refine X.ite rfl rfl (fun hc => ?_); (first | (with_reducible refine Xb.caseN hc (fun h => ?_) (fun h => ?_))) <;> clear hc))
  · have hb : ¬ baleOk B := by assumption
    refine ret_two (by first | exact .inr rfl | exact .inl rfl) Try.results7 rfl rfl (H' := H) (by (repeat (first | exact List.Sublist.refl _ | apply List.Sublist.cons)); done) ?_; simp only [and_true, true_and]
    rw [if_neg hb, decide_eq_false (fun q : baleOk B ∧ canB B => hb q.1)]
  · have hb : baleOk B := by assumption
    refine ret_two (by first | exact .inr rfl | exact .inl rfl) Try.results7 rfl rfl (H' := H) (by (repeat (first | exact List.Sublist.refl _ | apply List.Sublist.cons)); done) ?_; simp only [and_true, true_and]
    rw [if_pos hb]
    have e : decide (canB B) = decide (baleOk B ∧ canB B) := decide_eq_decide.2 ⟨fun q => ⟨hb, q⟩, fun q => q.2⟩
    rw [e]
theorem rcheck_spec (B : Bl) (p : Pb) (H : List Row) (hB : BlOk H B p) :
    Fc Try.prog 11 [.agg (cBl B p).toArray] H (fun v H' => v = .int .i64 (if baleOk B then 0 else 30) ∧ H' = H) := by
  have hB1 : ∀ r1, BlOk (r1 :: H) B p := fun r1 => hB.sub (fun _ h => List.Mem.tail _ h)
  refine Fc.mk (callable Try.call11) Try.func11 rfl Try.ntmps11 rfl ?_; dsimp only [fr]
  repeat' (first | (refine XO.op rfl ?_; (first | ((first | refine Xo.ng rfl ?_); (first | (refine Xg.call (EnF.st rfl (Args.cons rfl Args.nil)) rfl rfl (bale_spec B p _ (hB1 _)) ?_; rintro _ H9 ⟨rfl, hH9⟩; subst H9) | (refine Xg.ev (EvF.assign rfl rfl) rfl rfl ?_) | (refine Xg.ev (EvF.not rfl rfl) rfl rfl ?_) | (refine Xg.ev (EvF.loadV rfl rfl (LoadV.whole (te rfl) rfl (List.Mem.head _) rfl)) rfl rfl ?_) | (refine Xg.st (StF.boxAgg rfl rfl) rfl rfl ?_; rintro _ _ ⟨bx, rfl, rfl⟩))))) | (refine XO.done rfl ?_; refine hK _ _ ?_; clear hK K) | refine X.seq rfl ?_ | refine X.region rfl (fun K hK => ?_) | refine X.skip rfl ?_ | refine X.ret rfl ?_ | (refine X.ite rfl rfl (fun hc => ?_); (first | (with_reducible refine Xb.caseN hc (fun h => ?_) (fun h => ?_))) <;> clear hc))
  · have hb : ¬ baleOk B := by assumption
    refine ret_one (by first | exact .inr rfl | exact .inl rfl) Try.results11 rfl (H' := H) (by (repeat (first | exact List.Sublist.refl _ | apply List.Sublist.cons)); done) ?_; simp only [and_true, true_and]
    rw [if_neg hb]
  · have hb : baleOk B := by assumption
    refine ret_one (by first | exact .inr rfl | exact .inl rfl) Try.results11 rfl (H' := H) (by (repeat (first | exact List.Sublist.refl _ | apply List.Sublist.cons)); done) ?_; simp only [and_true, true_and]
    rw [if_pos hb]
end Go.Proofs.Ytkchlkbceoameaa
end
section
set_option linter.unusedSimpArgs false
namespace Go.Proofs.Ytkchlkbceoameaa
open Go Go.Fw
set_option maxRecDepth 10000
theorem StF.storeZ {P : Program} {n : Nat} {F : FS} {o : Oper} {Z rest : List Row} {T : TypeId} {a x : Operand} {b cap : Nat} {el : TypeId} {cs vs : List Value} {ti : TI} (h : o.op = .store T a x) (hx : evF F a = some (.pointer (some ⟨b, 0, none⟩))) (hv : evF F x = some (.agg vs.toArray)) (hT : tiOf P T = some ti)
    (hn : vs.length = ti.size) (h1 : vs.all (·.oneCell') = true) (hl : vs.length = cs.length) : StF P n (Z ++ ⟨b, 0, cs, some el, cap⟩ :: rest) F o (fun u H' => u = undef ∧ H' = Z ++ ⟨b, 0, vs, some el, cap⟩ :: rest) := by
  have hi : (Z ++ (⟨b, 0, cs, some el, cap⟩ : Row) :: rest)[Z.length]? = some ⟨b, 0, cs, some el, cap⟩ := by simp
  have := StF.storeAll (P := P) (n := n) (H := Z ++ ⟨b, 0, cs, some el, cap⟩ :: rest) (i := Z.length) h hx hv hT hi hn h1 hl
  simpa using this
open Classical in
noncomputable def askE (B : Bl) : Int := if baleOk B then (if canB B then 0 else 8) else 30
theorem openE_nil (B : Bl) : openE B ⟨[], [], [], []⟩ = askE B := by
  unfold openE askE askL askK askW askD
  simp
theorem openE_one (B : Bl) (i : Int) : openE B ⟨[i], [], [], []⟩ = if baleOk B then (if 0 ≤ i ∧ i ≤ B.layers - 1 then (if canB B then 0 else 8) else 31) else 30 := by
  unfold openE askL askK askW askD
  simp
theorem gsOf_len {B : Bl} (h : baleOk B) : (gsOf B).length = B.layers.toNat := by
  unfold gsOf; rw [List.length_take, gradesOf_len h]; have := h.h5; omega
set_option maxHeartbeats 4000000 in
theorem asked_spec (B : Bl) (p : Pb) (H : List Row) (hB : BlOk H B p) :
    Fc Try.prog 24 [.agg (cBl B p).toArray] H (fun v H' => (askE B = 0 ∧ ∃ (a : Option Addr) (c : Nat) (o2 : Value) (Z : List Row), SlE (Z ++ H) a cSp 2 (gsOf B) ∧ v = .tuple #[.slice a (gsOf B).length c, o2, .int .i64 0] ∧ H' = Z ++ H) ∨ (askE B ≠ 0 ∧ v = .tuple #[.slice none 0 0, .slice none 0 0, .int .i64 (askE B)] ∧ H' = H)) := by
  have hB1 : ∀ r1, BlOk (r1 :: H) B p := fun r1 => hB.sub (fun _ h => List.Mem.tail _ h)
  have hBZ : ∀ (Z : List Row) r1, BlOk (Z ++ r1 :: H) B p := fun Z r1 => hB.sub (fun _ h => List.mem_append_right _ (List.Mem.tail _ h))
  have hl := wl_len (okW B) B.dlo (B.dhi - B.dlo + 1).toNat
  by_cases hb : baleOk B
  · have hd := hb.hdry
    have hbs := bale_spec B p
    simp only [decide_eq_true hb] at hbs
    refine Fc.mk (callable Try.call24) Try.func24 rfl Try.ntmps24 rfl ?_; dsimp only [fr]
    repeat' (first | (refine XO.op rfl ?_; (first | ((first | refine Xo.ng rfl ?_ | (refine Xo.g rfl rfl ?_; with_reducible refine Xw.ff ?_)); (first | (refine Xg.call (EnF.st rfl (Args.cons rfl Args.nil)) rfl rfl (hbs _ (hB1 _)) ?_; rintro _ H9 ⟨rfl, hH9⟩; subst H9) | (refine Xg.call (EnF.st rfl (by (repeat (first | exact Args.nil | refine Args.cons rfl ?_)); done)) rfl rfl (layers_spec B p _ hb.h5 hb.hd (hB1 _)) ?_; rintro _ H9 (⟨hG, out, Z, hO, rfl, hH9⟩ | ⟨hG, rfl, hH9⟩) <;> subst H9) | (refine Xg.ev (EvF.loadV rfl rfl (LoadV.whole (te rfl) rfl (List.mem_append_right _ (List.Mem.head _)) rfl)) rfl rfl ?_) | (refine Xg.call (EnF.st rfl (by (repeat (first | exact Args.nil | refine Args.cons rfl ?_)); done)) rfl rfl (dries_spec B p _ hd hb.wg (hBZ _ _)) ?_; rintro _ _ ⟨Z2, hO2, rfl⟩; obtain ⟨a, c, rfl, hs2⟩ := hO2.sl (H := [])) | (refine Xg.call (EnF.st rfl (by (repeat (first | exact Args.nil | refine Args.cons rfl ?_)); done)) rfl rfl (dries_spec B p _ hd hb.wg (hBZ [] _)) ?_; rintro _ _ ⟨Z2, hO2, rfl⟩; obtain ⟨a, c, rfl, hs2⟩ := hO2.sl (H := [])) | (refine Xg.ev (EvF.move rfl rfl) rfl rfl ?_) | (refine Xg.ev (EvF.assign rfl rfl) rfl rfl ?_) | (refine Xg.ev (EvF.pickT rfl rfl rfl) rfl rfl ?_) | (refine Xg.ev (EvF.pickF rfl rfl rfl) rfl rfl ?_) | (refine Xg.ev (EvF.cmp rfl rfl rfl rfl) rfl rfl ?_) | (refine Xg.ev (EvF.not rfl rfl) rfl rfl ?_) | (refine Xg.ev (EvF.lenSlice rfl rfl (te rfl)) rfl rfl ?_) | (refine Xg.ev (EvF.loadV rfl rfl (LoadV.whole (te rfl) rfl (List.Mem.head _) rfl)) rfl rfl ?_) | (refine Xg.ev (EvF.extract rfl rfl rfl) rfl rfl ?_) | (refine Xg.st (StF.boxAgg rfl rfl) rfl rfl ?_; rintro _ _ ⟨bx, rfl, rfl⟩))) | (refine Xo.g rfl rfl ?_; (first | (with_reducible refine Xw.tf rfl rfl ?_) | (with_reducible refine Xw.caseB (fun h => ?_) (fun h => ?_) <;> simp only [h, decide_true, decide_false, Bool.not_true, Bool.not_false, and_self, and_true, true_and, and_false, false_and]))))) | (refine XO.done rfl ?_; refine hK _ _ ?_; clear hK K) | refine X.seq rfl ?_ | refine X.region rfl (fun K hK => ?_) | refine X.skip rfl ?_ | refine X.ret rfl ?_ | (refine X.ite rfl rfl (fun hc => ?_); (first | (with_reducible refine Xb.t hc ?_) | (with_reducible refine Xb.case hc (fun h => ?_) (fun h => ?_)) | (with_reducible refine Xb.caseB hc (fun h => ?_) (fun h => ?_))) <;> clear hc))
    any_goals (exfalso; contradiction)
    · have hE : askE B = 8 := by unfold askE; rw [if_pos hb, if_neg (fun q => by have := q.2; omega)]
      exact ret_three (by first | exact .inr rfl | exact .inl rfl) Try.results24 rfl rfl rfl (H' := H) (((List.sublist_cons_self _ _).trans (List.sublist_append_right _ _)).trans (List.sublist_append_right _ _)) (.inr ⟨by rw [hE]; decide, by rw [hE], rfl⟩)
    · have hE : askE B = 0 := by unfold askE; rw [if_pos hb, if_pos ⟨hG, by omega⟩]
      obtain ⟨a3, c3, rfl, hs3⟩ := hO.sl (H := H)
      exact ret_three (by first | exact .inr rfl | exact .inl rfl) Try.results24 rfl rfl rfl (H' := Z ++ H) ((List.Sublist.append (List.Sublist.refl _) (List.sublist_cons_self _ _)).trans (List.sublist_append_right _ _)) (.inl ⟨hE, _, _, _, Z, hs3, rfl, rfl⟩)
    · have hE : askE B = 8 := by unfold askE; rw [if_pos hb, if_neg (fun q => hG q.1)]
      exact ret_three (by first | exact .inr rfl | exact .inl rfl) Try.results24 rfl rfl rfl (H' := H) ((List.sublist_cons_self _ _).trans (List.sublist_append_right _ _)) (.inr ⟨by rw [hE]; decide, by rw [hE], rfl⟩)
  · have hbs := bale_spec B p
    simp only [decide_eq_false hb] at hbs
    refine Fc.mk (callable Try.call24) Try.func24 rfl Try.ntmps24 rfl ?_; dsimp only [fr]
    repeat' (first | (refine XO.op rfl ?_; (first | ((first | refine Xo.ng rfl ?_); (first | (refine Xg.call (EnF.st rfl (Args.cons rfl Args.nil)) rfl rfl (hbs _ (hB1 _)) ?_; rintro _ H9 ⟨rfl, hH9⟩; subst H9) | (refine Xg.ev (EvF.assign rfl rfl) rfl rfl ?_) | (refine Xg.ev (EvF.not rfl rfl) rfl rfl ?_) | (refine Xg.ev (EvF.loadV rfl rfl (LoadV.whole (te rfl) rfl (List.Mem.head _) rfl)) rfl rfl ?_) | (refine Xg.st (StF.boxAgg rfl rfl) rfl rfl ?_; rintro _ _ ⟨bx, rfl, rfl⟩))))) | (refine XO.done rfl ?_; refine hK _ _ ?_; clear hK K) | refine X.seq rfl ?_ | refine X.region rfl (fun K hK => ?_) | refine X.skip rfl ?_ | refine X.ret rfl ?_ | (refine X.ite rfl rfl (fun hc => ?_); (first | (with_reducible refine Xb.caseB hc (fun h => ?_) (fun h => ?_))) <;> clear hc))
    any_goals (exfalso; contradiction)
    have hE : askE B = 30 := by unfold askE; rw [if_neg hb]
    exact ret_three (by first | exact .inr rfl | exact .inl rfl) Try.results24 rfl rfl rfl (H' := H) (by (repeat (first | exact List.Sublist.refl _ | apply List.Sublist.cons)); done) (.inr ⟨by rw [hE]; decide, by rw [hE], rfl⟩)
theorem spAt_gs {B : Bl} {i : Nat} (hi : i < B.layers.toNat) : spAt (gsOf B) i = spAt (gradesOf B) i := by
  unfold spAt gsOf List.getD
  rw [List.getElem?_take, if_pos hi]
set_option maxHeartbeats 2000000 in
theorem rlayer_spec (B : Bl) (p : Pb) (i : Int) (H : List Row) (hB : BlOk H B p) :
    Fc Try.prog 9 [.agg (cBl B p).toArray, .int .i64 i] H (fun v H' => v = .tuple #[.agg (cSp (spIf (openE B ⟨[i], [], [], []⟩ = 0) (spAt (gradesOf B) i.toNat))).toArray, .int .i64 (openE B ⟨[i], [], [], []⟩)] ∧ H' = H) := by
  have hB2 : ∀ r1 r2, BlOk (r1 :: r2 :: H) B p := fun r1 r2 => hB.sub (fun _ h => List.Mem.tail _ (List.Mem.tail _ h))
  rw [openE_one]
  have hm : baleOk B → 1 ≤ B.layers ∧ B.layers ≤ 5 := fun h => h.h5
  refine Fc.mk (callable Try.call9) Try.func9 rfl Try.ntmps9 rfl ?_; dsimp only [fr]
  repeat' (first | (refine XO.op rfl ?_; (first | ((first | refine Xo.ng rfl ?_); (first | (refine Xg.ev (EvF.build (cs := cSp ⟨0, 0⟩) rfl ArgsP.nil (te rfl) (Places.cons (te rfl) (Places.cons (te rfl) Places.nil)) Try.zeroValue23 rfl) rfl rfl ?_) | (refine Xg.call (EnF.st rfl (Args.cons rfl Args.nil)) rfl rfl (bale_spec B p _ (hB2 _ _)) ?_; rintro _ H9 ⟨rfl, hH9⟩; subst H9) | (refine Xg.ev (EvF.sub64 rfl rfl rfl (by have := hm (by assumption); omega) (by have := hm (by assumption); omega)) rfl rfl ?_) | (refine Xg.call (EnF.st rfl (Args.cons rfl (Args.cons rfl (Args.cons rfl Args.nil)))) rfl rfl (within3_spec _ _ _ _) ?_; rintro _ H9 ⟨rfl, hH9⟩; subst H9) | (refine Xg.call (EnF.st rfl (by (repeat (first | exact Args.nil | refine Args.cons rfl ?_)); done)) rfl rfl (asked_spec B p _ (hB2 _ _)) ?_; rintro _ H9 (⟨hE, a3, c3, o2, Z, hs, rfl, hH9⟩ | ⟨hE, rfl, hH9⟩) <;> subst H9) | (refine Xg.ev (EvF.move rfl rfl) rfl rfl ?_) | (refine Xg.ev (EvF.assign rfl rfl) rfl rfl ?_) | (refine Xg.ev (EvF.cmp rfl rfl rfl rfl) rfl rfl ?_) | (refine Xg.ev (EvF.not rfl rfl) rfl rfl ?_) | (refine Xg.ev (EvF.fieldAddr rfl rfl (te rfl) rfl (te rfl) (by decide)) rfl rfl ?_) | (refine Xg.ev (EvF.loadV rfl rfl (LoadV.own (te rfl) rfl (List.Mem.tail _ (List.Mem.head _)) rfl)) rfl rfl ?_) | (refine Xg.ev (EvF.loadV rfl rfl (LoadV.whole (te rfl) rfl (List.Mem.tail _ (List.Mem.head _)) rfl)) rfl rfl ?_) | (refine Xg.ev (EvF.extract rfl rfl rfl) rfl rfl ?_) | (refine Xg.st (StF.boxAgg rfl rfl) rfl rfl ?_; rintro _ _ ⟨bx, rfl, rfl⟩) | (refine Xg.st (StF.alloc rfl Try.zeroValue23 rfl) rfl rfl ?_; rintro _ _ ⟨bx, rfl, rfl⟩) | (refine Xg.st0 (StF.storeAll (i := 0) rfl rfl rfl (te rfl) rfl rfl rfl rfl) rfl ?_; rintro _ _ ⟨rfl, rfl⟩; dsimp only [List.set]))))) | (refine XO.done rfl ?_; refine hK _ _ ?_; clear hK K) | refine X.seq rfl ?_ | refine X.region rfl (fun K hK => ?_) | refine X.skip rfl ?_ | refine X.ret rfl ?_ | (refine X.ite rfl rfl (fun hc => ?_); (first | (with_reducible refine Xb.caseN hc (fun h => ?_) (fun h => ?_))) <;> clear hc))
  any_goals (exfalso; contradiction)
  · have hb : ¬ baleOk B := by assumption
    refine ret_two (by first | exact .inr rfl | exact .inl rfl) Try.results9 ⟨_, rfl, LoadV.whole (te rfl) rfl (List.Mem.head _) rfl⟩ rfl (H' := H) (by (repeat (first | exact List.Sublist.refl _ | apply List.Sublist.cons)); done) ⟨?_, rfl⟩
    rw [if_neg hb]; unfold spIf; rw [if_neg (by decide)]
  · have hb : baleOk B := by assumption
    refine ret_two (by first | exact .inr rfl | exact .inl rfl) Try.results9 ⟨_, rfl, LoadV.whole (te rfl) rfl (List.Mem.head _) rfl⟩ rfl (H' := H) (by (repeat (first | exact List.Sublist.refl _ | apply List.Sublist.cons)); done) ⟨?_, rfl⟩
    rw [if_pos hb, if_neg (by assumption)]; unfold spIf; rw [if_neg (by decide)]
  · have hb : baleOk B := by assumption
    have hi : 0 ≤ i ∧ i ≤ B.layers - 1 := by assumption
    have h5 := hb.h5
    have hgl := gsOf_len hb
    have hc : canB B := by
      unfold askE at hE
      rw [if_pos hb] at hE
      by_cases hc : canB B
      · exact hc
      · rw [if_neg hc] at hE; cases hE
    obtain ⟨b, off, e, rfl, he⟩ := hs.elem (i := i.toNat) (by omega)
    have hee : e = spAt (gradesOf B) i.toNat := by
      rw [← spAt_gs (by omega)]
      have := spAt_get (g := gsOf B) (i := i.toNat) (by omega)
      rw [he] at this
      exact Option.some.inj this
    repeat' (first | (refine XO.op rfl ?_; (first | ((first | refine Xo.ng rfl ?_); (first | (refine Xg.ev (EvF.loadV rfl rfl (LoadV.elA0 hs he (te rfl) rfl (fun _ hm => hm) rfl)) rfl rfl ?_) | (refine Xg.st0 (StF.storeZ rfl rfl rfl (te rfl) rfl rfl rfl) rfl ?_; rintro _ _ ⟨rfl, rfl⟩) | (refine Xg.ev (EvF.assign rfl rfl) rfl rfl ?_) | (refine Xg.ev (EvF.indexSlice rfl rfl rfl (te rfl) (te rfl) (by omega) (by omega)) rfl rfl ?_))))) | (refine XO.done rfl ?_; refine hK _ _ ?_; clear hK K) | refine X.ret rfl ?_)
    refine ret_two (by first | exact .inr rfl | exact .inl rfl) Try.results9 ⟨_, rfl, LoadV.whole (te rfl) rfl (List.mem_append_right _ (List.Mem.head _)) rfl⟩ rfl (H' := H) (((List.sublist_cons_self _ _).trans (List.sublist_cons_self _ _)).trans (List.sublist_append_right _ _)) ⟨?_, rfl⟩
    rw [if_pos hb, if_pos hi, if_pos hc, hee]; unfold spIf; rw [if_pos rfl]
  · have hb : baleOk B := by assumption
    have hc : ¬ canB B := by
      intro hc
      apply hE
      unfold askE
      rw [if_pos hb, if_pos hc]
    have hE8 : askE B = 8 := by unfold askE; rw [if_pos hb, if_neg hc]
    refine ret_two (by first | exact .inr rfl | exact .inl rfl) Try.results9 ⟨_, rfl, LoadV.whole (te rfl) rfl (List.Mem.head _) rfl⟩ rfl (H' := H) (by (repeat (first | exact List.Sublist.refl _ | apply List.Sublist.cons)); done) ⟨?_, rfl⟩
    rw [if_pos hb, if_pos (by assumption), if_neg hc, hE8]; unfold spIf; rw [if_neg (by decide)]
set_option maxHeartbeats 4000000 in
theorem rbest_spec (B : Bl) (p : Pb) (H : List Row) (hB : BlOk H B p) :
    Fc Try.prog 13 [.agg (cBl B p).toArray] H (fun v H' => v = .tuple #[.agg (cSp (spIf (openE B ⟨[], [], [], []⟩ = 0) (bestF ((gradesOf B).take B.layers.toNat) (spAt (gradesOf B) 0)))).toArray, .int .i64 (openE B ⟨[], [], [], []⟩)] ∧ H' = H) := by
  have hB2 : ∀ r1 r2, BlOk (r1 :: r2 :: H) B p := fun r1 r2 => hB.sub (fun _ h => List.Mem.tail _ (List.Mem.tail _ h))
  rw [openE_nil]
  refine Fc.mk (callable Try.call13) Try.func13 rfl Try.ntmps13 rfl ?_; dsimp only [fr]
  repeat' (first | (refine XO.op rfl ?_; (first | ((first | refine Xo.ng rfl ?_); (first | (refine Xg.ev (EvF.build (cs := cSp ⟨0, 0⟩) rfl ArgsP.nil (te rfl) (Places.cons (te rfl) (Places.cons (te rfl) Places.nil)) Try.zeroValue23 rfl) rfl rfl ?_) | (refine Xg.call (EnF.st rfl (by (repeat (first | exact Args.nil | refine Args.cons rfl ?_)); done)) rfl rfl (asked_spec B p _ (hB2 _ _)) ?_; rintro _ H9 (⟨hE, a3, c3, o2, Z, hs, rfl, hH9⟩ | ⟨hE, rfl, hH9⟩) <;> subst H9) | (refine Xg.ev (EvF.move rfl rfl) rfl rfl ?_) | (refine Xg.ev (EvF.assign rfl rfl) rfl rfl ?_) | (refine Xg.ev (EvF.cmp rfl rfl rfl rfl) rfl rfl ?_) | (refine Xg.ev (EvF.loadV rfl rfl (LoadV.whole (te rfl) rfl (List.Mem.tail _ (List.Mem.head _)) rfl)) rfl rfl ?_) | (refine Xg.ev (EvF.extract rfl rfl rfl) rfl rfl ?_) | (refine Xg.st (StF.boxAgg rfl rfl) rfl rfl ?_; rintro _ _ ⟨bx, rfl, rfl⟩) | (refine Xg.st (StF.alloc rfl Try.zeroValue23 rfl) rfl rfl ?_; rintro _ _ ⟨bx, rfl, rfl⟩) | (refine Xg.st0 (StF.storeAll (i := 0) rfl rfl rfl (te rfl) rfl rfl rfl rfl) rfl ?_; rintro _ _ ⟨rfl, rfl⟩; dsimp only [List.set]))))) | (refine XO.done rfl ?_; refine hK _ _ ?_; clear hK K) | refine X.seq rfl ?_ | refine X.region rfl (fun K hK => ?_) | refine X.skip rfl ?_ | refine X.ret rfl ?_ | (refine X.ite rfl rfl (fun hc => ?_); (first | (with_reducible refine Xb.caseN hc (fun h => ?_) (fun h => ?_))) <;> clear hc))
  any_goals (exfalso; contradiction)
  · have hb : baleOk B := by
      unfold askE at hE
      by_cases hb : baleOk B
      · exact hb
      · rw [if_neg hb] at hE; cases hE
    have h5 := hb.h5
    have hgl := gsOf_len hb
    obtain ⟨b, off, e, rfl, he⟩ := hs.elem (i := 0) (by omega)
    have hee : e = spAt (gradesOf B) 0 := by
      rw [← spAt_gs (by omega)]
      have := spAt_get (g := gsOf B) (i := 0) (by omega)
      rw [he] at this
      exact Option.some.inj this
    repeat' (first | (refine XO.op rfl ?_; (first | ((first | refine Xo.ng rfl ?_); (first | (refine Xg.ev (EvF.indexSlice (i := ((0 : Nat) : Int)) rfl rfl rfl (te rfl) (te rfl) (by omega) (by omega)) rfl rfl ?_) | (refine Xg.ev (EvF.loadV rfl rfl (LoadV.elA0 hs he (te rfl) rfl (fun _ hm => hm) rfl)) rfl rfl ?_) | (refine Xg.ev (EvF.move rfl rfl) rfl rfl ?_) | (refine Xg.ev (EvF.lenSlice rfl rfl (te rfl)) rfl rfl ?_) | (refine Xg.st (StF.alloc rfl Try.zeroValue23 rfl) rfl rfl ?_; rintro _ _ ⟨bx, rfl, rfl⟩) | (refine Xg.st0 (StF.storeAll (i := 0) rfl rfl rfl (te rfl) rfl rfl rfl rfl) rfl ?_; rintro _ _ ⟨rfl, rfl⟩; dsimp only [List.set]))))) | (refine XO.done rfl ?_; refine hK _ _ ?_; clear hK K) | refine X.seq rfl ?_ | refine X.region rfl (fun K hK => ?_) | refine X.block rfl ?_)
    rename_i b1 b2; rename Nat => bo
    subst hee
    have hsr : ∀ r1, SlE (r1 :: (Z ++ ⟨b2, 0, cSp ⟨0, 0⟩, some 23, 2⟩ :: ⟨b1, 0, cBl B p, some 27, 6⟩ :: H)) (some ⟨b, off, none⟩) cSp 2 (gsOf B) := fun _ => hs.sub (fun _ h => List.Mem.tail _ h)
    refine X.lp rfl (fun m F' H' => ∃ k : Nat, m = (gsOf B).length - k ∧ k ≤ (gsOf B).length ∧ H' = ⟨bo, 0, cSp (bestF ((gsOf B).take k) (spAt (gradesOf B) 0)), some 23, 2⟩ :: (Z ++ ⟨b2, 0, cSp ⟨0, 0⟩, some 23, 2⟩ :: ⟨b1, 0, cBl B p, some 27, 6⟩ :: H) ∧
        F' = [(2, .pointer (some ⟨b2, 0, none⟩)), (7, .pointer (some ⟨bo, 0, none⟩)), (23, .slice (some ⟨b, off, none⟩) (gsOf B).length c3), (24, .int .i64 (gsOf B).length), (25, .int .i64 k)])
      (gsOf B).length [(2, .pointer (some ⟨b2, 0, none⟩)), (7, .pointer (some ⟨bo, 0, none⟩)), (23, .slice (some ⟨b, off, none⟩) (gsOf B).length c3), (24, .int .i64 (gsOf B).length), (25, .int .i64 (0 : Nat))] _ (by (repeat (first | exact Sub.nil _ | refine Sub.cons rfl ?_)); done) (List.Sublist.refl _) ⟨0, by omega, by omega, rfl, rfl⟩ ?_
    rintro _ _ _ ⟨k, rfl, hk, rfl, rfl⟩
    obtain ⟨s, hsE⟩ : ∃ s, bestF ((gsOf B).take k) (spAt (gradesOf B) 0) = s := ⟨_, rfl⟩
    rw [hsE]
    repeat' (first | (refine XO.op rfl ?_; (first | ((first | refine Xo.ng rfl ?_); (first | (refine Xg.ev (EvF.cmp rfl rfl rfl rfl) rfl rfl ?_) | (refine Xg.ev (EvF.indexSlice rfl rfl rfl (te rfl) (te rfl) (by omega) (by omega)) rfl rfl ?_) | (refine Xg.ev (EvF.loadV rfl rfl (LoadV.whole (te rfl) rfl (List.Mem.head _) rfl)) rfl rfl ?_))))) | (refine XO.done rfl ?_; refine hK _ _ ?_; clear hK K) | refine X.seq rfl ?_ | refine X.region rfl (fun K hK => ?_) | refine X.block rfl ?_ | (refine X.brk rfl ?_; first | refine blockX_hit rfl ?_ | skip) | refine X.skip rfl ?_ | (refine X.ite rfl rfl (fun hc => ?_); (first | (with_reducible refine Xb.case hc (fun h => ?_) (fun h => ?_))) <;> clear hc))
    · have hx := spAt_get (g := gsOf B) (i := k) (by omega)
      obtain ⟨x, hxE⟩ : ∃ x, spAt (gsOf B) k = x := ⟨_, rfl⟩
      rw [hxE] at hx
      have e1 : bestF ((gsOf B).take (k + 1)) (spAt (gradesOf B) 0) = ⟨min s.lo x.lo, min s.hi x.hi⟩ := by unfold bestF; rw [take_snoc hx, List.foldl_append]; unfold bestF at hsE; rw [hsE]; rfl
      repeat' (first | (refine XO.op rfl ?_; (first | ((first | refine Xo.ng rfl ?_); (first | (refine Xg.ev (EvF.loadV rfl rfl (LoadV.elA0 (hsr _) hx (te rfl) rfl (fun _ hm => hm) rfl)) rfl rfl ?_) | (refine Xg.ev (EvF.build (cs := cSp ⟨min s.lo x.lo, min s.hi x.hi⟩) rfl (ArgsP.cons rfl (ArgsP.cons rfl ArgsP.nil)) (te rfl) (Places.cons (te rfl) (Places.cons (te rfl) Places.nil)) Try.zeroValue23 rfl) rfl rfl ?_) | (refine Xg.ev (EvF.move rfl rfl) rfl rfl ?_) | (refine Xg.ev (EvF.add64 rfl rfl rfl (by omega) (by omega)) rfl rfl ?_) | (refine Xg.ev (EvF.fieldAddr rfl rfl (te rfl) rfl (te rfl) (by decide)) rfl rfl ?_) | (refine Xg.ev (EvF.loadV rfl rfl (LoadV.own (te rfl) rfl (List.Mem.head _) rfl)) rfl rfl ?_) | (refine Xg.ev (EvF.loadV rfl rfl (LoadV.own (te rfl) rfl (List.Mem.tail _ (List.Mem.head _)) rfl)) rfl rfl ?_) | (refine Xg.ev (EvF.min64 rfl rfl rfl) rfl rfl ?_) | (refine Xg.st (StF.alloc rfl Try.zeroValue23 rfl) rfl rfl ?_; rintro _ _ ⟨bx, rfl, rfl⟩) | (refine Xg.st0 (StF.storeAll (i := 0) rfl rfl rfl (te rfl) rfl rfl rfl rfl) rfl ?_; rintro _ _ ⟨rfl, rfl⟩; dsimp only [List.set]) | (refine Xg.st0 (StF.storeAll (i := 1) rfl rfl rfl (te rfl) rfl rfl rfl rfl) rfl ?_; rintro _ _ ⟨rfl, rfl⟩; dsimp only [List.set]))))) | (refine XO.done rfl ?_; refine hK _ _ ?_; clear hK K) | refine X.region rfl (fun K hK => ?_))
      rw [← e1]
      exact ⟨_, _, _, (by (repeat (first | exact Sub.nil _ | refine Sub.cons rfl ?_)); done), List.Sublist.cons _ (List.Sublist.refl _), ⟨k + 1, rfl, by omega, rfl, rfl⟩, by omega⟩
    · have e2 : s = bestF ((gradesOf B).take B.layers.toNat) (spAt (gradesOf B) 0) := by rw [← hsE, List.take_of_length_le (by omega)]; rfl
      repeat' (first | (refine XO.op rfl ?_; (first | ((first | refine Xo.ng rfl ?_); (first | (refine Xg.st0 (StF.storeZ (Z := _ :: Z) rfl rfl rfl (te rfl) rfl rfl rfl) rfl ?_; rintro _ _ ⟨rfl, rfl⟩) | (refine Xg.ev (EvF.assign rfl rfl) rfl rfl ?_))))) | (refine XO.done rfl ?_; refine hK _ _ ?_; clear hK K) | refine X.ret rfl ?_)
      refine ret_two (by first | exact .inr rfl | exact .inl rfl) Try.results13 ⟨_, rfl, LoadV.whole (te rfl) rfl (List.mem_append_right _ (List.Mem.head _)) rfl⟩ rfl (H' := H) (((List.sublist_cons_self _ _).trans (List.sublist_cons_self _ _)).trans (List.sublist_append_right _ _)) ⟨?_, rfl⟩
      rw [hE, e2]; unfold spIf; rw [if_pos rfl]
  · unfold spIf; rw [if_neg hE]
    exact ret_two (by first | exact .inr rfl | exact .inl rfl) Try.results13 ⟨_, rfl, LoadV.whole (te rfl) rfl (List.Mem.head _) rfl⟩ rfl (H' := H) (by (repeat (first | exact List.Sublist.refl _ | apply List.Sublist.cons)); done) ⟨rfl, rfl⟩
set_option maxHeartbeats 4000000 in
theorem rworst_spec (B : Bl) (p : Pb) (H : List Row) (hB : BlOk H B p) :
    Fc Try.prog 15 [.agg (cBl B p).toArray] H (fun v H' => v = .tuple #[.agg (cSp (spIf (openE B ⟨[], [], [], []⟩ = 0) (worstF ((gradesOf B).take B.layers.toNat) (spAt (gradesOf B) 0)))).toArray, .int .i64 (openE B ⟨[], [], [], []⟩)] ∧ H' = H) := by
  have hB2 : ∀ r1 r2, BlOk (r1 :: r2 :: H) B p := fun r1 r2 => hB.sub (fun _ h => List.Mem.tail _ (List.Mem.tail _ h))
  rw [openE_nil]
  refine Fc.mk (callable Try.call15) Try.func15 rfl Try.ntmps15 rfl ?_; dsimp only [fr]
  repeat' (first | (refine XO.op rfl ?_; (first | ((first | refine Xo.ng rfl ?_); (first | (refine Xg.ev (EvF.build (cs := cSp ⟨0, 0⟩) rfl ArgsP.nil (te rfl) (Places.cons (te rfl) (Places.cons (te rfl) Places.nil)) Try.zeroValue23 rfl) rfl rfl ?_) | (refine Xg.call (EnF.st rfl (by (repeat (first | exact Args.nil | refine Args.cons rfl ?_)); done)) rfl rfl (asked_spec B p _ (hB2 _ _)) ?_; rintro _ H9 (⟨hE, a3, c3, o2, Z, hs, rfl, hH9⟩ | ⟨hE, rfl, hH9⟩) <;> subst H9) | (refine Xg.ev (EvF.move rfl rfl) rfl rfl ?_) | (refine Xg.ev (EvF.assign rfl rfl) rfl rfl ?_) | (refine Xg.ev (EvF.cmp rfl rfl rfl rfl) rfl rfl ?_) | (refine Xg.ev (EvF.loadV rfl rfl (LoadV.whole (te rfl) rfl (List.Mem.tail _ (List.Mem.head _)) rfl)) rfl rfl ?_) | (refine Xg.ev (EvF.extract rfl rfl rfl) rfl rfl ?_) | (refine Xg.st (StF.boxAgg rfl rfl) rfl rfl ?_; rintro _ _ ⟨bx, rfl, rfl⟩) | (refine Xg.st (StF.alloc rfl Try.zeroValue23 rfl) rfl rfl ?_; rintro _ _ ⟨bx, rfl, rfl⟩) | (refine Xg.st0 (StF.storeAll (i := 0) rfl rfl rfl (te rfl) rfl rfl rfl rfl) rfl ?_; rintro _ _ ⟨rfl, rfl⟩; dsimp only [List.set]))))) | (refine XO.done rfl ?_; refine hK _ _ ?_; clear hK K) | refine X.seq rfl ?_ | refine X.region rfl (fun K hK => ?_) | refine X.skip rfl ?_ | refine X.ret rfl ?_ | (refine X.ite rfl rfl (fun hc => ?_); (first | (with_reducible refine Xb.caseN hc (fun h => ?_) (fun h => ?_))) <;> clear hc))
  any_goals (exfalso; contradiction)
  · have hb : baleOk B := by
      unfold askE at hE
      by_cases hb : baleOk B
      · exact hb
      · rw [if_neg hb] at hE; cases hE
    have h5 := hb.h5
    have hgl := gsOf_len hb
    obtain ⟨b, off, e, rfl, he⟩ := hs.elem (i := 0) (by omega)
    have hee : e = spAt (gradesOf B) 0 := by
      rw [← spAt_gs (by omega)]
      have := spAt_get (g := gsOf B) (i := 0) (by omega)
      rw [he] at this
      exact Option.some.inj this
    repeat' (first | (refine XO.op rfl ?_; (first | ((first | refine Xo.ng rfl ?_); (first | (refine Xg.ev (EvF.indexSlice (i := ((0 : Nat) : Int)) rfl rfl rfl (te rfl) (te rfl) (by omega) (by omega)) rfl rfl ?_) | (refine Xg.ev (EvF.loadV rfl rfl (LoadV.elA0 hs he (te rfl) rfl (fun _ hm => hm) rfl)) rfl rfl ?_) | (refine Xg.ev (EvF.move rfl rfl) rfl rfl ?_) | (refine Xg.ev (EvF.lenSlice rfl rfl (te rfl)) rfl rfl ?_) | (refine Xg.st (StF.alloc rfl Try.zeroValue23 rfl) rfl rfl ?_; rintro _ _ ⟨bx, rfl, rfl⟩) | (refine Xg.st0 (StF.storeAll (i := 0) rfl rfl rfl (te rfl) rfl rfl rfl rfl) rfl ?_; rintro _ _ ⟨rfl, rfl⟩; dsimp only [List.set]))))) | (refine XO.done rfl ?_; refine hK _ _ ?_; clear hK K) | refine X.seq rfl ?_ | refine X.region rfl (fun K hK => ?_) | refine X.block rfl ?_)
    rename_i b1 b2; rename Nat => bo
    subst hee
    have hsr : ∀ r1, SlE (r1 :: (Z ++ ⟨b2, 0, cSp ⟨0, 0⟩, some 23, 2⟩ :: ⟨b1, 0, cBl B p, some 27, 6⟩ :: H)) (some ⟨b, off, none⟩) cSp 2 (gsOf B) := fun _ => hs.sub (fun _ h => List.Mem.tail _ h)
    refine X.lp rfl (fun m F' H' => ∃ k : Nat, m = (gsOf B).length - k ∧ k ≤ (gsOf B).length ∧ H' = ⟨bo, 0, cSp (worstF ((gsOf B).take k) (spAt (gradesOf B) 0)), some 23, 2⟩ :: (Z ++ ⟨b2, 0, cSp ⟨0, 0⟩, some 23, 2⟩ :: ⟨b1, 0, cBl B p, some 27, 6⟩ :: H) ∧
        F' = [(2, .pointer (some ⟨b2, 0, none⟩)), (7, .pointer (some ⟨bo, 0, none⟩)), (23, .slice (some ⟨b, off, none⟩) (gsOf B).length c3), (24, .int .i64 (gsOf B).length), (25, .int .i64 k)])
      (gsOf B).length [(2, .pointer (some ⟨b2, 0, none⟩)), (7, .pointer (some ⟨bo, 0, none⟩)), (23, .slice (some ⟨b, off, none⟩) (gsOf B).length c3), (24, .int .i64 (gsOf B).length), (25, .int .i64 (0 : Nat))] _ (by (repeat (first | exact Sub.nil _ | refine Sub.cons rfl ?_)); done) (List.Sublist.refl _) ⟨0, by omega, by omega, rfl, rfl⟩ ?_
    rintro _ _ _ ⟨k, rfl, hk, rfl, rfl⟩
    obtain ⟨s, hsE⟩ : ∃ s, worstF ((gsOf B).take k) (spAt (gradesOf B) 0) = s := ⟨_, rfl⟩
    rw [hsE]
    repeat' (first | (refine XO.op rfl ?_; (first | ((first | refine Xo.ng rfl ?_); (first | (refine Xg.ev (EvF.cmp rfl rfl rfl rfl) rfl rfl ?_) | (refine Xg.ev (EvF.indexSlice rfl rfl rfl (te rfl) (te rfl) (by omega) (by omega)) rfl rfl ?_) | (refine Xg.ev (EvF.loadV rfl rfl (LoadV.whole (te rfl) rfl (List.Mem.head _) rfl)) rfl rfl ?_))))) | (refine XO.done rfl ?_; refine hK _ _ ?_; clear hK K) | refine X.seq rfl ?_ | refine X.region rfl (fun K hK => ?_) | refine X.block rfl ?_ | (refine X.brk rfl ?_; first | refine blockX_hit rfl ?_ | skip) | refine X.skip rfl ?_ | (refine X.ite rfl rfl (fun hc => ?_); (first | (with_reducible refine Xb.case hc (fun h => ?_) (fun h => ?_))) <;> clear hc))
    · have hx := spAt_get (g := gsOf B) (i := k) (by omega)
      obtain ⟨x, hxE⟩ : ∃ x, spAt (gsOf B) k = x := ⟨_, rfl⟩
      rw [hxE] at hx
      have e1 : worstF ((gsOf B).take (k + 1)) (spAt (gradesOf B) 0) = ⟨max s.lo x.lo, max s.hi x.hi⟩ := by unfold worstF; rw [take_snoc hx, List.foldl_append]; unfold worstF at hsE; rw [hsE]; rfl
      repeat' (first | (refine XO.op rfl ?_; (first | ((first | refine Xo.ng rfl ?_); (first | (refine Xg.ev (EvF.loadV rfl rfl (LoadV.elA0 (hsr _) hx (te rfl) rfl (fun _ hm => hm) rfl)) rfl rfl ?_) | (refine Xg.ev (EvF.build (cs := cSp ⟨max s.lo x.lo, max s.hi x.hi⟩) rfl (ArgsP.cons rfl (ArgsP.cons rfl ArgsP.nil)) (te rfl) (Places.cons (te rfl) (Places.cons (te rfl) Places.nil)) Try.zeroValue23 rfl) rfl rfl ?_) | (refine Xg.ev (EvF.move rfl rfl) rfl rfl ?_) | (refine Xg.ev (EvF.add64 rfl rfl rfl (by omega) (by omega)) rfl rfl ?_) | (refine Xg.ev (EvF.fieldAddr rfl rfl (te rfl) rfl (te rfl) (by decide)) rfl rfl ?_) | (refine Xg.ev (EvF.loadV rfl rfl (LoadV.own (te rfl) rfl (List.Mem.head _) rfl)) rfl rfl ?_) | (refine Xg.ev (EvF.loadV rfl rfl (LoadV.own (te rfl) rfl (List.Mem.tail _ (List.Mem.head _)) rfl)) rfl rfl ?_) | (refine Xg.ev (EvF.max64 rfl rfl rfl) rfl rfl ?_) | (refine Xg.st (StF.alloc rfl Try.zeroValue23 rfl) rfl rfl ?_; rintro _ _ ⟨bx, rfl, rfl⟩) | (refine Xg.st0 (StF.storeAll (i := 0) rfl rfl rfl (te rfl) rfl rfl rfl rfl) rfl ?_; rintro _ _ ⟨rfl, rfl⟩; dsimp only [List.set]) | (refine Xg.st0 (StF.storeAll (i := 1) rfl rfl rfl (te rfl) rfl rfl rfl rfl) rfl ?_; rintro _ _ ⟨rfl, rfl⟩; dsimp only [List.set]))))) | (refine XO.done rfl ?_; refine hK _ _ ?_; clear hK K) | refine X.region rfl (fun K hK => ?_))
      rw [← e1]
      exact ⟨_, _, _, (by (repeat (first | exact Sub.nil _ | refine Sub.cons rfl ?_)); done), List.Sublist.cons _ (List.Sublist.refl _), ⟨k + 1, rfl, by omega, rfl, rfl⟩, by omega⟩
    · have e2 : s = worstF ((gradesOf B).take B.layers.toNat) (spAt (gradesOf B) 0) := by rw [← hsE, List.take_of_length_le (by omega)]; rfl
      repeat' (first | (refine XO.op rfl ?_; (first | ((first | refine Xo.ng rfl ?_); (first | (refine Xg.st0 (StF.storeZ (Z := _ :: Z) rfl rfl rfl (te rfl) rfl rfl rfl) rfl ?_; rintro _ _ ⟨rfl, rfl⟩) | (refine Xg.ev (EvF.assign rfl rfl) rfl rfl ?_))))) | (refine XO.done rfl ?_; refine hK _ _ ?_; clear hK K) | refine X.ret rfl ?_)
      refine ret_two (by first | exact .inr rfl | exact .inl rfl) Try.results15 ⟨_, rfl, LoadV.whole (te rfl) rfl (List.mem_append_right _ (List.Mem.head _)) rfl⟩ rfl (H' := H) (((List.sublist_cons_self _ _).trans (List.sublist_cons_self _ _)).trans (List.sublist_append_right _ _)) ⟨?_, rfl⟩
      rw [hE, e2]; unfold spIf; rw [if_pos rfl]
  · unfold spIf; rw [if_neg hE]
    exact ret_two (by first | exact .inr rfl | exact .inl rfl) Try.results15 ⟨_, rfl, LoadV.whole (te rfl) rfl (List.Mem.head _) rfl⟩ rfl (H' := H) (by (repeat (first | exact List.Sublist.refl _ | apply List.Sublist.cons)); done) ⟨rfl, rfl⟩
end Go.Proofs.Ytkchlkbceoameaa
end
section
set_option linter.unusedSimpArgs false
namespace Go.Fw
open Go
theorem EvF.eqSelf {P : Program} {n : Nat} {H : List Row} {F : FS} {o : Oper} {T T' : TypeId} {x y : Operand} {k : IntKind} {p : Int} (h : o.op = .binOp .eql T x y T') (hx : evF F x = some (.int k p)) (hy : evF F y = some (.int k p)) : EvF P n H F o (.bool true) := by
  have := EvF.cmp (P := P) (n := n) (H := H) h hx hy rfl
  rwa [decide_eq_true rfl] at this
theorem EvF.neSelf {P : Program} {n : Nat} {H : List Row} {F : FS} {o : Oper} {T T' : TypeId} {x y : Operand} {k : IntKind} {p : Int} (h : o.op = .binOp .neq T x y T') (hx : evF F x = some (.int k p)) (hy : evF F y = some (.int k p)) : EvF P n H F o (.bool false) := by
  have := EvF.cmp (P := P) (n := n) (H := H) h hx hy rfl
  rwa [decide_eq_true rfl] at this
theorem EvF.neSelfB {P : Program} {n : Nat} {H : List Row} {F : FS} {o : Oper} {T T' : TypeId} {x y : Operand} {p : Bool} (h : o.op = .binOp .neq T x y T') (hx : evF F x = some (.bool p)) (hy : evF F y = some (.bool p)) (hu : P.underlying T = some .bool) : EvF P n H F o (.bool false) := by
  have := EvF.cmpB (P := P) (n := n) (H := H) h hx hy hu rfl
  rwa [beq_self_eq_true] at this
end Go.Fw
namespace Go.Proofs.Ytkchlkbceoameaa
open Go Go.Fw
set_option maxRecDepth 10000
theorem sameB_self (B : Bl) (p q : Pb) (H : List Row) (hB : BlOk H B p) (hC : BlOk H B q) : Fc Try.prog 16 [.agg (cBl B p).toArray, .agg (cBl B q).toArray] H (fun v H' => v = .bool true ∧ H' = H) :=
  (sameB_spec B B p q H hB hC).mono (fun v H' ⟨h1, h2⟩ => ⟨by rw [h1, decide_eq_true rfl], h2⟩)
theorem eqSp_self (e : Sp) (w : World) : (Op.equalIn 10000 23 (.agg (cSp e).toArray) (.agg (cSp e).toArray)).run Try.prog w = .ok true w := by
  rw [eqSp 9998, decide_eq_true rfl]
set_option maxHeartbeats 8000000 in
theorem coreTells_spec (B : Bl) (p : Pb) (i : Int) (H : List Row) (hd : SlE H p.a1 cDr 4 B.draws) (hw : SlE H p.a2 cDr 4 B.weighs) :
    Fc Try.prog 3 [.agg (cBl B p).toArray, .int .i64 i] H (fun v _ => v = .bool true) := by
  by_cases hg : B.draws.length > 20 ∨ B.weighs.length > 16
  · have hgr := greatB_spec B p
    simp only [decide_eq_true hg] at hgr
    refine Fc.mk (callable Try.call3) Try.func3 rfl Try.ntmps3 rfl ?_; dsimp only [fr]
    repeat' (first | (refine XO.op rfl ?_; (first | ((first | refine Xo.ng rfl ?_); (first | (refine Xg.call (EnF.st rfl (Args.cons rfl Args.nil)) rfl rfl (hgr _) ?_; rintro _ H9 ⟨rfl, hH9⟩; subst H9) | (refine Xg.ev (EvF.assign rfl rfl) rfl rfl ?_) | (refine Xg.ev (EvF.loadV rfl rfl (LoadV.whole (te rfl) rfl (List.Mem.head _) rfl)) rfl rfl ?_) | (refine Xg.st (StF.boxAgg rfl rfl) rfl rfl ?_; rintro _ _ ⟨bx, rfl, rfl⟩))))) | (refine XO.done rfl ?_; refine hK _ _ ?_; clear hK K) | refine X.seq rfl ?_ | refine X.region rfl (fun K hK => ?_) | refine X.ret rfl ?_ | (refine X.ite rfl rfl (fun hc => ?_); (first | (with_reducible refine Xb.t hc ?_)) <;> clear hc))
    all_goals try (exfalso; contradiction)
    exact ret_one (by first | exact .inr rfl | exact .inl rfl) Try.results3 rfl (H' := _) (List.Sublist.refl _) rfl
  · have hgr := greatB_spec B p
    simp only [decide_eq_false hg] at hgr
    have hB : BlOk H B p := ⟨hd, hw, by omega, by omega⟩
    have hB' : ∀ H', (∀ r ∈ H, r ∈ H') → BlOk H' B p := fun H' hs => hB.sub hs
    refine Fc.mk (callable Try.call3) Try.func3 rfl Try.ntmps3 rfl ?_; dsimp only [fr]
    repeat' (first | (refine XO.op rfl ?_; (first | ((first | refine Xo.ng rfl ?_); (first | (refine Xg.call (EnF.st rfl (Args.cons rfl Args.nil)) rfl rfl (hgr _) ?_; rintro _ H9 ⟨rfl, hH9⟩; subst H9) | (refine Xg.call (EnF.st rfl (by (repeat (first | exact Args.nil | refine Args.cons rfl ?_)); done)) rfl rfl (twinB_spec B p _ (hB' _ (fun _ hm => List.Mem.tail _ hm))) ?_; rintro _ _ ⟨t1, k1, t2, k2, rfl, rfl⟩) | (refine Xg.ev (EvF.assign rfl rfl) rfl rfl ?_) | (refine Xg.ev (EvF.loadV rfl rfl (LoadV.whole (te rfl) rfl (List.Mem.head _) rfl)) rfl rfl ?_) | (refine Xg.st (StF.boxAgg rfl rfl) rfl rfl ?_; rintro _ _ ⟨bx, rfl, rfl⟩) | (refine Xg.st (StF.alloc rfl Try.zeroValue27 rfl) rfl rfl ?_; rintro _ _ ⟨bx, rfl, rfl⟩) | (refine Xg.st0 (StF.storeAll (i := 0) rfl rfl rfl (te rfl) rfl rfl rfl rfl) rfl ?_; rintro _ _ ⟨rfl, rfl⟩; dsimp only [List.set]))))) | (refine XO.done rfl ?_; refine hK _ _ ?_; clear hK K) | refine X.seq rfl ?_ | refine X.region rfl (fun K hK => ?_) | refine X.skip rfl ?_ | (refine X.ite rfl rfl (fun hc => ?_); (first | (with_reducible refine Xb.f hc ?_)) <;> clear hc))
    all_goals try (exfalso; contradiction)
    have hT : ∀ H', (⟨t1, 0, B.draws.flatMap cDr, some 62, k1 * 4⟩ : Row) ∈ H' → (⟨t2, 0, B.weighs.flatMap cDr, some 64, k2 * 4⟩ : Row) ∈ H' → BlOk H' B ⟨some ⟨t1, 0, none⟩, k1, some ⟨t2, 0, none⟩, k2⟩ :=
      fun H' m1 m2 => ⟨SlE.ofRow m1 (fun _ _ => rfl), SlE.ofRow m2 (fun _ _ => rfl), by omega, by omega⟩
    repeat' (first | (refine XO.op rfl ?_; (first | ((first | refine Xo.ng rfl ?_ | (refine Xo.g rfl rfl ?_; with_reducible refine Xw.tt ?_)); (first | (refine Xg.ev (EvF.eqSelf rfl rfl rfl) rfl rfl ?_) | (refine Xg.ev (EvF.eqSt (r := true) (b := true) rfl rfl rfl (by kernel_rfl) (fun w => eqSp_self _ w) rfl) rfl rfl ?_) | (refine Xg.ev (EvF.loadV rfl rfl (LoadV.whole (te rfl) rfl (List.Mem.tail _ (List.Mem.tail _ (List.Mem.tail _ (List.Mem.tail _ (List.Mem.tail _ (List.Mem.tail _ (List.Mem.tail _ (List.Mem.head _)))))))) rfl)) rfl rfl ?_) | (refine Xg.call (EnF.st rfl (by (repeat (first | exact Args.nil | refine Args.cons rfl ?_)); done)) rfl rfl (kcan_spec B _ _ (hT _ (by repeat (first | exact List.Mem.head _ | apply List.Mem.tail)) (by repeat (first | exact List.Mem.head _ | apply List.Mem.tail)))) ?_; rintro _ H9 ⟨rfl, hH9⟩; subst H9) | (refine Xg.call (EnF.st rfl (by (repeat (first | exact Args.nil | refine Args.cons rfl ?_)); done)) rfl rfl (klayer_spec B _ i _ (hT _ (by repeat (first | exact List.Mem.head _ | apply List.Mem.tail)) (by repeat (first | exact List.Mem.head _ | apply List.Mem.tail)))) ?_; rintro _ H9 ⟨rfl, hH9⟩; subst H9) | (refine Xg.call (EnF.st rfl (by (repeat (first | exact Args.nil | refine Args.cons rfl ?_)); done)) rfl rfl (kbest_spec B _ _ (hT _ (by repeat (first | exact List.Mem.head _ | apply List.Mem.tail)) (by repeat (first | exact List.Mem.head _ | apply List.Mem.tail)))) ?_; rintro _ H9 ⟨rfl, hH9⟩; subst H9) | (refine Xg.call (EnF.st rfl (by (repeat (first | exact Args.nil | refine Args.cons rfl ?_)); done)) rfl rfl (kworst_spec B _ _ (hT _ (by repeat (first | exact List.Mem.head _ | apply List.Mem.tail)) (by repeat (first | exact List.Mem.head _ | apply List.Mem.tail)))) ?_; rintro _ H9 ⟨rfl, hH9⟩; subst H9) | (refine Xg.call (EnF.st rfl (by (repeat (first | exact Args.nil | refine Args.cons rfl ?_)); done)) rfl rfl (rcan_spec B p _ (hB' _ (fun _ hm => by repeat (first | exact hm | apply List.Mem.tail)))) ?_; rintro _ H9 ⟨rfl, hH9⟩; subst H9) | (refine Xg.call (EnF.st rfl (by (repeat (first | exact Args.nil | refine Args.cons rfl ?_)); done)) rfl rfl (rlayer_spec B p i _ (hB' _ (fun _ hm => by repeat (first | exact hm | apply List.Mem.tail)))) ?_; rintro _ H9 ⟨rfl, hH9⟩; subst H9) | (refine Xg.call (EnF.st rfl (by (repeat (first | exact Args.nil | refine Args.cons rfl ?_)); done)) rfl rfl (rbest_spec B p _ (hB' _ (fun _ hm => by repeat (first | exact hm | apply List.Mem.tail)))) ?_; rintro _ H9 ⟨rfl, hH9⟩; subst H9) | (refine Xg.call (EnF.st rfl (by (repeat (first | exact Args.nil | refine Args.cons rfl ?_)); done)) rfl rfl (rworst_spec B p _ (hB' _ (fun _ hm => by repeat (first | exact hm | apply List.Mem.tail)))) ?_; rintro _ H9 ⟨rfl, hH9⟩; subst H9) | (refine Xg.call (EnF.st rfl (by (repeat (first | exact Args.nil | refine Args.cons rfl ?_)); done)) rfl rfl (sameB_self B _ p _ (hT _ (by repeat (first | exact List.Mem.head _ | apply List.Mem.tail)) (by repeat (first | exact List.Mem.head _ | apply List.Mem.tail))) (hB' _ (fun _ hm => by repeat (first | exact hm | apply List.Mem.tail)))) ?_; rintro _ H9 ⟨rfl, hH9⟩; subst H9) | (refine Xg.ev (EvF.move rfl rfl) rfl rfl ?_) | (refine Xg.ev (EvF.assign rfl rfl) rfl rfl ?_) | (refine Xg.ev (EvF.pickT rfl rfl rfl) rfl rfl ?_) | (refine Xg.ev (EvF.loadV rfl rfl (LoadV.whole (te rfl) rfl (List.Mem.head _) rfl)) rfl rfl ?_) | (refine Xg.ev (EvF.loadV rfl rfl (LoadV.whole (te rfl) rfl (List.Mem.tail _ (List.Mem.head _)) rfl)) rfl rfl ?_) | (refine Xg.ev (EvF.loadV rfl rfl (LoadV.whole (te rfl) rfl (List.Mem.tail _ (List.Mem.tail _ (List.Mem.head _))) rfl)) rfl rfl ?_) | (refine Xg.ev (EvF.loadV rfl rfl (LoadV.whole (te rfl) rfl (List.Mem.tail _ (List.Mem.tail _ (List.Mem.tail _ (List.Mem.head _)))) rfl)) rfl rfl ?_) | (refine Xg.ev (EvF.loadV rfl rfl (LoadV.whole (te rfl) rfl (List.Mem.tail _ (List.Mem.tail _ (List.Mem.tail _ (List.Mem.tail _ (List.Mem.head _))))) rfl)) rfl rfl ?_) | (refine Xg.ev (EvF.loadV rfl rfl (LoadV.whole (te rfl) rfl (List.Mem.tail _ (List.Mem.tail _ (List.Mem.tail _ (List.Mem.tail _ (List.Mem.tail _ (List.Mem.head _)))))) rfl)) rfl rfl ?_) | (refine Xg.ev (EvF.loadV rfl rfl (LoadV.whole (te rfl) rfl (List.Mem.tail _ (List.Mem.tail _ (List.Mem.tail _ (List.Mem.tail _ (List.Mem.tail _ (List.Mem.tail _ (List.Mem.head _))))))) rfl)) rfl rfl ?_) | (refine Xg.ev (EvF.extract rfl rfl rfl) rfl rfl ?_) | (refine Xg.st (StF.alloc rfl Try.zeroValue23 rfl) rfl rfl ?_; rintro _ _ ⟨bx, rfl, rfl⟩) | (refine Xg.st0 (StF.storeAll (i := 0) rfl rfl rfl (te rfl) rfl rfl rfl rfl) rfl ?_; rintro _ _ ⟨rfl, rfl⟩; dsimp only [List.set]) | (refine Xg.st0 (StF.storeAll (i := 1) rfl rfl rfl (te rfl) rfl rfl rfl rfl) rfl ?_; rintro _ _ ⟨rfl, rfl⟩; dsimp only [List.set]))))) | (refine XO.done rfl ?_; refine hK _ _ ?_; clear hK K) | (refine XQ.op rfl ?_; (first | ((first | refine Yo.ng rfl ?_ | (refine Yo.g rfl rfl ?_; with_reducible refine Yw.ff ?_)); (first | (refine Yg.ev (EvF.neSelf rfl rfl rfl) rfl rfl ?_) | (refine Yg.ev (EvF.neSelfB rfl rfl rfl (by kernel_rfl)) rfl rfl ?_) | (refine Yg.ev (EvF.eqSt (r := true) (b := false) rfl rfl rfl (by kernel_rfl) (fun w => eqSp_self _ w) rfl) rfl rfl ?_) | (refine Yg.call (EnF.st rfl (by (repeat (first | exact Args.nil | refine Args.cons rfl ?_)); done)) rfl rfl (kcheck_spec B _ _ (hT _ (by repeat (first | exact List.Mem.head _ | apply List.Mem.tail)) (by repeat (first | exact List.Mem.head _ | apply List.Mem.tail)))) ?_) | (refine Yg.call (EnF.st rfl (by (repeat (first | exact Args.nil | refine Args.cons rfl ?_)); done)) rfl rfl (rcheck_spec B p _ (hB' _ (fun _ hm => by repeat (first | exact hm | apply List.Mem.tail)))) ?_) | (refine Yg.ev (EvF.move rfl rfl) rfl rfl ?_) | (refine Yg.ev (EvF.pickF rfl rfl rfl) rfl rfl ?_) | (refine Yg.ev (EvF.loadV rfl rfl (LoadV.whole (te rfl) rfl (List.Mem.head _) rfl)) rfl rfl ?_) | (refine Yg.ev (EvF.loadV rfl rfl (LoadV.whole (te rfl) rfl (List.Mem.tail _ (List.Mem.head _)) rfl)) rfl rfl ?_) | (refine Yg.ev (EvF.loadV rfl rfl (LoadV.whole (te rfl) rfl (List.Mem.tail _ (List.Mem.tail _ (List.Mem.head _))) rfl)) rfl rfl ?_) | (refine Yg.ev (EvF.loadV rfl rfl (LoadV.whole (te rfl) rfl (List.Mem.tail _ (List.Mem.tail _ (List.Mem.tail _ (List.Mem.tail _ (List.Mem.tail _ (List.Mem.head _)))))) rfl)) rfl rfl ?_))))) | (refine XQ.done rfl ?_; refine hK _ ?_; clear hK K) | refine X.seq rfl ?_ | refine X.region rfl (fun K hK => ?_) | refine X.regionD rfl mixed (by kernel_rfl) (fun K hK => ?_) | refine X.skip rfl ?_ | refine X.ret rfl ?_ | (refine X.ite rfl rfl (fun hc => ?_); (first | (with_reducible refine Xb.f hc ?_)) <;> clear hc))
    exact ret_one (by first | exact .inr rfl | exact .inl rfl) Try.results3 rfl (H' := _) (List.Sublist.refl _) rfl
end Go.Proofs.Ytkchlkbceoameaa
end
section
namespace Go.Proofs.Ytkchlkbceoameaa
open Go Go.Fw Go.ChangeShapes Go.WideShapes
set_option maxRecDepth 10000
instance : Inhabited Sp := ⟨⟨0, 0⟩⟩
instance : Inhabited Bx := ⟨⟨0, 0⟩⟩
instance : Inhabited Mt := ⟨⟨0, 0, 0, 0, 0, 0⟩⟩
def w64 (n : Int) : Prop := (Lit.int .i64 n).wf = true
theorem w64.b {n : Int} (h : w64 n) : -9223372036854775808 ≤ n ∧ n ≤ 9223372036854775807 := by
  unfold w64 Lit.wf at h
  simp [IntKind.min, IntKind.max, IntKind.bits, IntKind.signed] at h
  omega
section
variable {H : Type} {enc : TypeId × Value → H} {w : World} {base : Nat} {spare : Nat → Bool} {held : Bool} {fuel : Nat} {cs : List Value} {x : DataW H × List MemPlace}
theorem open_i (h : DataW.trod enc Try.prog w base spare held fuel 3 cs = some x) : ∃ q : Int, cs = cI q ∧ w64 q := trod_i (te rfl) h
theorem open_sp (h : DataW.trod enc Try.prog w base spare held fuel 23 cs = some x) : ∃ q : Sp, cs = cSp q ∧ (w64 q.lo ∧ w64 q.hi) := by
  obtain ⟨hl, hf⟩ := trod_st (te rfl) h
  obtain ⟨n0, y0, h0⟩ := hf 0 0 3 _ rfl (te rfl)
  obtain ⟨n1, y1, h1⟩ := hf 1 1 3 _ rfl (te rfl)
  match cs, hl with
  | [a, b], _ =>
    obtain ⟨lo, e0, w0⟩ := open_i h0
    obtain ⟨hi, e1, w1⟩ := open_i h1
    simp [cI] at e0 e1
    subst e0 e1
    exact ⟨⟨lo, hi⟩, rfl, w0, w1⟩
end
structure InRm (w : World) (R : Rm) (p : Pl) : Prop where
  ages : InSl w p.a1 cSp 2 R.ages
  boxes : InSl w p.a2 cBx 2 R.boxes
  mats : InSl w p.a3 cMt 6 R.mats
  mo : w64 R.months
  st : w64 R.step
  k1 : R.ages.length ≤ p.c1
  k2 : R.boxes.length ≤ p.c2
  k3 : R.mats.length ≤ p.c3
def rowsRm (R : Rm) (p : Pl) : List Row := rowsOf p.a1 cSp R.ages ++ (rowsOf p.a2 cBx R.boxes ++ rowsOf p.a3 cMt R.mats)
theorem InRm.rm {w : World} {R : Rm} {p : Pl} {H : List Row} (h : InRm w R p) (hs : ∀ r ∈ rowsRm R p, r ∈ H) : RmOk H R p where
  ages := h.ages.sl fun r hr => hs r (List.mem_append_left _ hr)
  boxes := h.boxes.sl fun r hr => hs r (List.mem_append_right _ (List.mem_append_left _ hr))
  mats := h.mats.sl fun r hr => hs r (List.mem_append_right _ (List.mem_append_right _ hr))
  l1 := by have := h.ages.2.1; unfold maxLen at this; omega
  l2 := by have := h.boxes.2.1; unfold maxLen at this; omega
  l3 := by have := h.mats.2.1; unfold maxLen at this; omega
theorem InRm.ok {w : World} {R : Rm} {p : Pl} {B : Nat} (h : InRm w R p) : ∀ r ∈ rowsRm R p, r.own = none ∧ r.ok B w := by
  intro r hr
  rcases List.mem_append.1 hr with hr | hr
  · exact h.ages.ok r hr
  · rcases List.mem_append.1 hr with hr | hr
    · exact h.boxes.ok r hr
    · exact h.mats.ok r hr
section
variable {H : Type} {enc : TypeId × Value → H} {w : World} {base : Nat} {spare : Nat → Bool} {held : Bool} {v : Value} {d : DataW H} {p : List MemPlace} {r : Reach} {b0 : Nat}
theorem open_list (hv : Value.okWide Try.prog w r b0 51 v) (h : DataW.Trod enc Try.prog w base spare held 51 v d p) : ∃ (l : List Int) (a : Option Addr) (c : Nat), v = .slice a l.length c ∧ InSl w a cI 1 l ∧ (∀ q ∈ l, w64 q) ∧ l.length ≤ c := by
  obtain ⟨a, len, cap, rfl⟩ := okWide_slice Try.underlying51 hv
  obtain ⟨fuel, hf⟩ := h
  exact open_sl (te rfl) (te rfl) rfl (by decide) (fun _ _ _ => open_i) (fun _ => rfl) hf
end
end Go.Proofs.Ytkchlkbceoameaa
end
section
namespace Go.Proofs.Ytkchlkbceoameaa
open Go Go.Fw Go.ChangeShapes Go.WideShapes Go.ChangeAt Go.RowKit
set_option linter.unusedVariables false
set_option maxRecDepth 100000
instance : Inhabited Dr := ⟨⟨0, 0, 0, 0⟩⟩
section
variable {H : Type} {enc : TypeId × Value → H} {w : World} {base : Nat} {spare : Nat → Bool} {held : Bool} {fuel : Nat} {cs : List Value} {x : DataW H × List MemPlace}
theorem open_dr (h : DataW.trod enc Try.prog w base spare held fuel 62 cs = some x) : ∃ q : Dr, cs = cDr q ∧ True := by
  obtain ⟨hl, hf⟩ := trod_st (te rfl) h
  obtain ⟨n0, y0, h0⟩ := hf 0 0 3 _ rfl (te rfl)
  obtain ⟨n1, y1, h1⟩ := hf 1 1 3 _ rfl (te rfl)
  obtain ⟨n2, y2, h2⟩ := hf 2 2 23 _ rfl (te rfl)
  match cs, hl with
  | [a, b, c, d], _ =>
    obtain ⟨q0, e0, w0⟩ := open_i h0
    obtain ⟨q1, e1, w1⟩ := open_i h1
    obtain ⟨q2, e2, w2⟩ := open_sp h2
    simp [cI, cSp] at e0 e1 e2
    obtain ⟨e2, e3⟩ := e2
    subst e0 e1 e2 e3
    exact ⟨⟨q0, q1, q2.lo, q2.hi⟩, rfl, trivial⟩
theorem open_wg (h : DataW.trod enc Try.prog w base spare held fuel 64 cs = some x) : ∃ q : Dr, cs = cDr q ∧ True := by
  obtain ⟨hl, hf⟩ := trod_st (te rfl) h
  obtain ⟨n0, y0, h0⟩ := hf 0 0 3 _ rfl (te rfl)
  obtain ⟨n1, y1, h1⟩ := hf 1 1 3 _ rfl (te rfl)
  obtain ⟨n2, y2, h2⟩ := hf 2 2 23 _ rfl (te rfl)
  match cs, hl with
  | [a, b, c, d], _ =>
    obtain ⟨q0, e0, w0⟩ := open_i h0
    obtain ⟨q1, e1, w1⟩ := open_i h1
    obtain ⟨q2, e2, w2⟩ := open_sp h2
    simp [cI, cSp] at e0 e1 e2
    obtain ⟨e2, e3⟩ := e2
    subst e0 e1 e2 e3
    exact ⟨⟨q0, q1, q2.lo, q2.hi⟩, rfl, trivial⟩
end
structure InBl (w : World) (B : Bl) (p : Pb) : Prop where
  draws : InSl w p.a1 cDr 4 B.draws
  weighs : InSl w p.a2 cDr 4 B.weighs
def rowsBl (B : Bl) (p : Pb) : List Row := rowsOf p.a1 cDr B.draws ++ rowsOf p.a2 cDr B.weighs
theorem InBl.ok {w : World} {B : Bl} {p : Pb} {N : Nat} (h : InBl w B p) : ∀ r ∈ rowsBl B p, r.own = none ∧ r.ok N w := by
  intro r hr
  rcases List.mem_append.1 hr with hr | hr
  · exact h.draws.ok r hr
  · exact h.weighs.ok r hr
section
variable {H : Type} {enc : TypeId × Value → H} {w : World} {base : Nat} {spare : Nat → Bool} {held : Bool} {v : Value} {d : DataW H} {p : List MemPlace} {r : Reach} {b0 : Nat}
theorem open_bale (hv : Value.okWide Try.prog w r b0 27 v) (h : DataW.Trod enc Try.prog w base spare held 27 v d p) : ∃ B pl, v = .agg (cBl B pl).toArray ∧ InBl w B pl := by
  obtain ⟨fa, hu, _⟩ := ti_struct (te (T := 27) rfl)
  obtain ⟨⟨cs⟩, rfl, _⟩ := okWide_struct hu hv
  obtain ⟨fuel, hf⟩ := h
  obtain ⟨hl, hf⟩ := trod_st (te rfl) hf
  obtain ⟨n0, y0, h0⟩ := hf 0 0 3 _ rfl (te rfl)
  obtain ⟨n1, y1, h1⟩ := hf 1 1 3 _ rfl (te rfl)
  obtain ⟨n2, y2, h2⟩ := hf 2 2 23 _ rfl (te rfl)
  obtain ⟨n3, y3, h3⟩ := hf 3 4 24 _ rfl (te rfl)
  obtain ⟨n4, y4, h4⟩ := hf 4 5 25 _ rfl (te rfl)
  match cs, hl with
  | [a, b, c, d, e, f], _ =>
    obtain ⟨q0, e0, w0⟩ := open_i h0
    obtain ⟨q1, e1, w1⟩ := open_i h1
    obtain ⟨q2, e2, w2⟩ := open_sp h2
    simp [cI, cSp, Value.cells] at e0 e1 e2
    obtain ⟨l3, a3, c3, e3, i3, _, k3⟩ := open_sl (te rfl) (te rfl) rfl (by decide) (fun _ _ _ => open_dr) (fun _ => rfl) h3
    obtain ⟨l4, a4, c4, e4, i4, _, k4⟩ := open_sl (te rfl) (te rfl) rfl (by decide) (fun _ _ _ => open_wg) (fun _ => rfl) h4
    obtain ⟨ea, eb⟩ := e2
    subst e0 e1 ea eb e3 e4
    exact ⟨⟨q0, q1, q2.lo, q2.hi, l3, l4⟩, ⟨a3, c3, a4, c4⟩, rfl, i3, i4⟩
theorem open_int (hv : Value.okWide Try.prog w r b0 3 v) : ∃ q : Int, v = .int .i64 q := okWide_int Try.underlying3 hv
end
theorem ownK : ownKnob Try.prog.godebug = none := by kernel_rfl
theorem laidO : laidOutB Try.prog = true := by kernel_rfl
theorem coreTells_run (B : Bl) (p : Pb) (i : Int) (w : World) (hB : InBl w B p) :
    Calls Try.prog 3 #[.agg (cBl B p).toArray, .int .i64 i] w fun e w' => e = .returned (.bool true) ∧ Below w.heap.size w w' := by
  refine Fc.calls (H := rowsBl B p) (coreTells_spec B p i _ (hB.draws.sl (fun r h => List.mem_append_left _ h)) (hB.weighs.sl (fun r h => List.mem_append_right _ h))) (fun r hr => ?_)
  exact hB.ok r hr
theorem lifted (os : Os) (started : os.Started) (H : Type) (enc : TypeId × Value → H) :
    ReturnsInHanded {} Try.checked os 3 .any (Rows.coreTellsSpec.pre6 enc Try.prog Try.f3 Rows.coreTellsRow.domain false) (Rows.coreTellsSpec.post enc Try.prog Try.f3 false true false false) := by
  refine returnsInHanded_of_change (C := Try.checked) ownK started (by kernel_rfl) Try.func3
    (ChangeSpec.witness6 (enc := enc) (C := Try.checked) false ⟨#[], #[.agg (cBl Bz pzb).toArray, .int .i64 0], []⟩ 8 (by kernel_rfl) (by kernel_rfl) (by kernel_rfl) (by kernel_rfl)) ?_
  intro W base args ds gs before hval0 hW hcnd _
  have hval : ∀ (j : Nat) t v, Try.f3.params[j]? = some t → args[j]? = some v → Value.okWide Try.prog W .any base t v := hval0
  have hW' := hW
  obtain ⟨p, q, hA0, hV, rfl, hfz, hnd⟩ := hW
  have hA : DataW.TrodAll enc Try.prog W 0 (fun _ => true) true Try.f3.params.toList args.toList ds p := hA0
  rw [Try.params3] at hA hval
  obtain ⟨v0, vs0, d0, ds0, p0, q0, hargs, rfl, rfl, h0, r0⟩ := trodAll_cons hA
  obtain ⟨v1, vs1, d1, ds1, p1, q1, rfl, rfl, rfl, h1, r1⟩ := trodAll_cons r0
  obtain ⟨rfl, rfl, rfl⟩ := trodAll_nil r1
  obtain rfl : args = #[v0, v1] := by cases args; simp_all
  obtain ⟨rfl, rfl⟩ := trodVars_none hV
  have lt : ∀ {t v d ps}, DataW.Trod enc Try.prog W 0 (fun _ => true) true t v d ps → ∀ x ∈ ps, x.block < W.heap.size := fun h => by obtain ⟨m, hm⟩ := h; exact DataW.trod_lt m _ _ _ hm
  obtain ⟨B, pl, rfl, hB⟩ := open_bale (hval 0 _ v0 rfl rfl) h0
  obtain ⟨i, rfl⟩ := open_int (hval 1 _ v1 rfl rfl)
  clear hA0 hval0
  refine (coreTells_run B pl i W hB).mono fun e W' ⟨he, bel⟩ => ?_
  subst he
  exact ⟨_, rfl, _, _, _, [], _, [], hW', trodAll_mk1 (shut_bool Try.underlying4 _), (trodAll_cons_mk (Below.trod laidO (by kernel_rfl) (of_decide_eq_true (by kernel_rfl)) h0 bel (lt h0)) (trodAll_cons_mk (Below.trod laidO (by kernel_rfl) (of_decide_eq_true (by kernel_rfl)) h1 bel (lt h1)) trodAll_mk0)), rfl, bel.frame _, fun h => by cases h⟩
theorem over : Rows.coreTellsRow.holds Try.pinned (OpenSpec.ofChange Rows.coreTellsSpec) :=
  OpenClaim.holds_of_wide 3 Try.f3 rfl rfl rfl rfl rfl rfl rfl ⟨rfl, rfl, rfl, rfl, rfl⟩ rfl rfl rfl rfl rfl (by kernel_rfl) Try.func3 (by kernel_rfl)
    (of_decide_eq_true (by kernel_rfl)) (by unfold Func.isWrapper; first | (rw [if_pos (by decide +kernel)]; kernel_rfl) | (rw [if_neg (by decide +kernel)]; exact ⟨rfl, rfl⟩))
    (fun os started H enc _ => lifted os started H enc)
theorem coreTells_proved : Rows.CoreTellsSaid := over
#print axioms coreTells_proved
end Go.Proofs.Ytkchlkbceoameaa
end
