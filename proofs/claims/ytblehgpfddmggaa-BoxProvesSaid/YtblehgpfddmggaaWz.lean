/- BoxProves: for every room, a box and a month the law returns true (the fewest matches that prove what a box has yellowed, those on which it rests, and the fewest matches that must be wrong, or the errors, are those of the reference, and the room stays), and each argument reads afterwards as before. No condition. -/
import Derived.Test.YtblehgpfddmggaaW07
import Derived.OpenShut
import Derived.ProofKit
import Derived.Test.YtblehgpfddmggaaRows
import Derived.WalkKit
import Derived.ChangeOld
import Derived.ShutString
section
set_option linter.unusedVariables false
set_option linter.unusedSimpArgs false
namespace Go.Proofs.Ytblehgpfddmggaa
open Go Go.Fw
set_option maxRecDepth 10000
theorem numsSl (R : Rm) (p : Pl) (H : List Row) (hM : SlE H p.a3 cMt 6 R.mats) (hl : R.mats.length ≤ 1000000) : Fc Try.prog 87 [.slice p.a3 R.mats.length p.c3, .func (.func 88) #[] #[]] H (fun v H' => ∃ a c Z, v = .slice a (R.mats.map (·.number)).length c ∧ (∀ S, SlE (Z ++ S) a cI 1 (R.mats.map (·.number))) ∧ H' = Z ++ H) :=
  (numsMt R p H hM hl).mono fun v H' h => by
    rcases h with ⟨h0, hv, hH⟩ | ⟨b, q, _, hv, hH⟩
    · exact ⟨none, 0, [], by rw [hv, h0]; rfl, fun _ => by rw [h0]; exact sleNil, hH⟩
    · exact ⟨some ⟨b, 0, none⟩, q, [_], hv, fun _ => SlE.ofRow (List.Mem.head _) (fun _ _ => rfl), hH⟩
theorem numsRow (R : Rm) (p : Pl) (H : List Row) (hM : SlE H p.a3 cMt 6 R.mats) (hl : R.mats.length ≤ 1000000) (h0 : R.mats ≠ []) : Fc Try.prog 87 [.slice p.a3 R.mats.length p.c3, .func (.func 88) #[] #[]] H (fun v H' => ∃ b q, v = .slice (some ⟨b, 0, none⟩) (R.mats.map (·.number)).length q ∧ H' = ⟨b, 0, (R.mats.map (·.number)).flatMap cI, some 3, q * 1⟩ :: H) :=
  (numsMt R p H hM hl).mono fun v H' h => by
    rcases h with ⟨h1, _, _⟩ | ⟨b, q, _, hv, hH⟩
    · exact absurd h1 h0
    · exact ⟨b, q, hv, hH⟩
theorem in_out {R : Rm} (hn : (R.mats.map (·.number)).Nodup) {k : Nat} {x : Mt} (hx : R.mats[k]? = some x) : inM R.mats ((R.mats.map (·.number)).take k ++ (R.mats.map (·.number)).drop (k + 1)) = outM R.mats [x.number] := by
  obtain ⟨L, hL⟩ : ∃ L, L = R.mats.map (·.number) := ⟨_, rfl⟩
  have hxL : L[k]? = some x.number := by rw [hL, List.getElem?_map, hx]; rfl
  have hmem : ∀ y ∈ R.mats, y.number ∈ L := fun y hy => by rw [hL]; exact List.mem_map.2 ⟨y, hy, rfl⟩
  rw [← hL] at hn ⊢
  have hsp : L.take k ++ x.number :: L.drop (k + 1) = L := by rw [← drop_cons hxL]; exact List.take_append_drop _ _
  obtain ⟨A, hA⟩ : ∃ A, A = L.take k := ⟨_, rfl⟩
  obtain ⟨B, hB⟩ : ∃ B, B = L.drop (k + 1) := ⟨_, rfl⟩
  rw [← hA, ← hB] at hsp ⊢
  rw [← hsp] at hn hmem
  have hne : x.number ∉ A ++ B := ((List.perm_middle.nodup_iff).1 hn |> List.nodup_cons.1).1
  unfold inM outM
  refine List.filter_congr fun y hy => ?_
  have hy' := hmem y hy
  by_cases h : y.number = x.number
  · rw [h, decide_eq_false hne]
    simp
  · rw [decide_eq_true (p := y.number ∈ A ++ B) ?_]
    · simp [h]
    · rcases List.mem_append.1 hy' with q | q
      · exact List.mem_append_left _ q
      · rcases List.mem_cons.1 q with q | q
        · exact absurd q h
        · exact List.mem_append_right _ q
set_option maxHeartbeats 8000000 in
theorem kRests_spec (R : Rm) (p : Pl) (x m : Int) (H : List Row) (hR : RmOk H R p) (h2 : R.boxes.length ≤ 1000000) : Fc Try.prog 42 [.agg (cRm R p).toArray, .int .i64 x, .int .i64 m] H (LstR (rstF R x m).1 (rstF R x m).2 H) := by
  obtain ⟨e, he⟩ : ∃ e, openE R [x] [m] = e := ⟨_, rfl⟩
  by_cases h0 : e = 0
  · subst h0
    obtain ⟨hok, _, _, hT⟩ := openE_ok he
    have hml : R.mats.length ≤ 8 := hok.1.2.2.2.2.2.2
    have hnd := hok.nums
    have hpq := plcs_of he (List.mem_singleton.2 rfl) (List.mem_singleton.2 rfl)
    have hcm := fun S hS => claimedY R p x m S hS h2 he
    have hy : rstF R x m = (rsG (prvM R ⟨x, m⟩ (rng R R.mats ⟨x, m⟩ zp)) R R.mats, 0) := by
      unfold rstF
      rw [if_pos he]
      rfl
    rw [hy]
    clear hy
    obtain ⟨s, hs⟩ : ∃ s, s = rng R R.mats ⟨x, m⟩ zp := ⟨_, rfl⟩
    rw [← hs] at hcm ⊢
    clear hs
    have hio : ∀ (k : Nat) (y : Mt), R.mats[k]? = some y → prvN R ⟨x, m⟩ s ((R.mats.map (·.number)).take k ++ (R.mats.map (·.number)).drop (k + 1)) = prvM R ⟨x, m⟩ s (outM R.mats [y.number]) := fun k y hy => by
      unfold prvN
      rw [in_out hnd hy]
    have hns := fun S hS => numsSl R p S hS (by omega)
    have hnr := fun S hS => numsRow R p S hS (by omega)
    obtain ⟨L, hL⟩ : ∃ L, L = R.mats.map (·.number) := ⟨_, rfl⟩
    have hLl : L.length = R.mats.length := by rw [hL, List.length_map]
    have hLg : ∀ (k : Nat) (y : Mt), R.mats[k]? = some y → L[k]? = some y.number := fun k y hy => by rw [hL, List.getElem?_map, hy]; rfl
    rw [← hL] at hns hnr
    simp only [← hL] at hio
    obtain ⟨ok, hok'⟩ : ∃ ok, ok = prvM R ⟨x, m⟩ s := ⟨_, rfl⟩
    rw [← hok']
    simp only [← hok'] at hio
    refine Fc.mk (callable Try.call42) Try.func42 rfl Try.ntmps42 rfl ?_; dsimp only [fr]
    repeat' (first | (refine XO.op rfl ?_; (first | ((first | refine Xo.ng rfl ?_); (first | (refine Xg.ev (EvF.cmp (b := false) rfl rfl rfl (congrArg some (nd_f (by omega)))) rfl rfl ?_) | (refine Xg.ev (EvF.loadV rfl rfl (LoadV.whole (T := 26) (cs := cRm R p) (te rfl) rfl (by repeat (first | exact List.Mem.head _ | apply List.Mem.tail)) rfl)) rfl rfl ?_) | (refine Xg.call (EnF.st rfl (by (repeat (first | exact Args.nil | refine Args.cons rfl ?_)); done)) rfl rfl (hcm _ (hR.sub (fun _ h => by repeat (first | exact h | apply List.Mem.tail)))) ?_; rintro _ _ ⟨b, k, hbk, rfl, rfl⟩) | (refine Xg.ev (EvF.extract rfl rfl rfl) rfl rfl ?_) | (refine Xg.st (StF.alloc rfl Try.zeroValue132 rfl) rfl rfl ?_; rintro _ _ ⟨b8, rfl, rfl⟩) | (refine Xg.st0 (StF.storeAll (i := 0) (vs := cCm R p (some ⟨b, 0, none⟩) k ⟨x, m⟩ s) rfl rfl rfl (te rfl) rfl rfl rfl rfl) rfl ?_; rintro _ _ ⟨rfl, rfl⟩; dsimp only [List.set]) | (refine Xg.ev (EvF.loadV rfl rfl (LoadV.own (cs := cRm R p) (te rfl) rfl (by repeat (first | exact List.Mem.head _ | apply List.Mem.tail)) rfl)) rfl rfl ?_) | (refine Xg.call (EnF.st rfl (by (repeat (first | exact Args.nil | refine Args.cons rfl ?_)); done)) rfl rfl (hns _ (hR.mats.sub (fun _ h => by repeat (first | exact h | apply List.Mem.tail)))) ?_; rintro _ _ ⟨an, cn, Z0, rfl, hZ0, rfl⟩) | (refine Xg.ev (EvF.move rfl rfl) rfl rfl ?_) | (refine Xg.ev (EvF.assign rfl rfl) rfl rfl ?_) | (refine Xg.ev (EvF.fieldAddr rfl rfl (te rfl) rfl (te rfl) (by decide)) rfl rfl ?_) | (refine Xg.ev (EvF.lenSlice rfl rfl (te rfl)) rfl rfl ?_) | (refine Xg.st (StF.boxAgg rfl rfl) rfl rfl ?_; rintro _ _ ⟨bx, rfl, rfl⟩))))) | (refine XO.done rfl ?_; refine hK _ _ ?_; clear hK K) | refine X.seq rfl ?_ | refine X.region rfl (fun K hK => ?_) | refine X.block rfl ?_ | refine X.skip rfl ?_ | (refine X.ite rfl rfl (fun hc => ?_); (first | (with_reducible refine Xb.f hc ?_)) <;> clear hc))
    all_goals try (exfalso; contradiction)
    generalize bx = b3
    obtain ⟨G, hG⟩ : ∃ G : List Row, G = Z0 ++ ⟨b8, 0, cCm R p (some ⟨b, 0, none⟩) k ⟨x, m⟩ s, some 132, 10⟩ :: ⟨b, 0, (plcs R).flatMap cPk, some 104, k * 2⟩ :: ⟨b3, 0, cRm R p, some 26, 5⟩ :: H := ⟨_, rfl⟩
    have hg8 : (⟨b8, 0, cCm R p (some ⟨b, 0, none⟩) k ⟨x, m⟩ s, some 132, 10⟩ : Row) ∈ G := by rw [hG]; exact List.mem_append_right _ (List.Mem.head _)
    have hgb : (⟨b, 0, (plcs R).flatMap cPk, some 104, k * 2⟩ : Row) ∈ G := by rw [hG]; exact List.mem_append_right _ (List.Mem.tail _ (List.Mem.head _))
    have hg3 : (⟨b3, 0, cRm R p, some 26, 5⟩ : Row) ∈ G := by rw [hG]; exact List.mem_append_right _ (List.Mem.tail _ (List.Mem.tail _ (List.Mem.head _)))
    have hHG : H.Sublist G := by rw [hG]; exact (List.Sublist.cons _ (List.Sublist.cons _ (List.Sublist.cons _ (List.Sublist.refl _)))).trans (List.sublist_append_right _ _)
    have hGl : SlE G an cI 1 L := by rw [hG]; exact hZ0 _
    have hGR : RmOk G R p := hR.sub (fun r h => hHG.subset h)
    have hCt : CtOk G R p (some ⟨b, 0, none⟩) := ⟨hGR, SlE.ofRow hgb (fun _ _ => rfl)⟩
    have hpr : ∀ (l : List Int) (al : Option Addr) (cl : Nat) (S : List Row), (∀ r ∈ G, r ∈ S) → SlE S al cI 1 l → l.length ≤ 1000000 → Fc Try.prog 89 [.agg (cCm R p (some ⟨b, 0, none⟩) k ⟨x, m⟩ s).toArray, .slice al l.length cl] S (fun v H' => v = .bool (prvN R ⟨x, m⟩ s l) ∧ H' = S) := fun l al cl S hS hsl hl =>
      kproves_spec R p (some ⟨b, 0, none⟩) k ⟨x, m⟩ s l al cl S hok.ok hok.mats (CtOk.sub hCt hS) hok.lens.ages hok.lens.mats hbk hT hpq hsl hl
    refine X.lp rfl (fun q F' H' => ∃ (i : Nat) (out : Value) (Z : List Row), q = R.mats.length - i ∧ i ≤ R.mats.length ∧ ((rsG ok R (R.mats.take i) = [] ∧ out = .slice none 0 0 ∧ Z = []) ∨ ∃ bn kn, out = .slice (some ⟨bn, 0, none⟩) (rsG ok R (R.mats.take i)).length kn ∧ Z = [⟨bn, 0, (rsG ok R (R.mats.take i)).flatMap cI, some 3, kn * 1⟩]) ∧ Z ++ G = H' ∧ F' = [(3, .pointer (some ⟨b3, 0, none⟩)), (8, .pointer (some ⟨b8, 0, none⟩)), (10, out), (26, .slice an L.length cn), (27, .int .i64 L.length), (28, .int .i64 (i : Nat))])
      R.mats.length [(3, .pointer (some ⟨b3, 0, none⟩)), (8, .pointer (some ⟨b8, 0, none⟩)), (10, .slice none 0 0), (26, .slice an L.length cn), (27, .int .i64 L.length), (28, .int .i64 (0 : Nat))] G (by (repeat (first | exact Sub.nil _ | refine Sub.cons rfl ?_)); done) (by rw [hG]; exact List.Sublist.refl _) ⟨0, _, [], rfl, by omega, .inl ⟨rfl, rfl, rfl⟩, rfl, rfl⟩ ?_
    clear hG hZ0 hR hns
    rintro _ _ _ ⟨i, out, Z, rfl, hi, hTz, rfl, rfl⟩
    have hzl := rsG_len ok R (R.mats.take i)
    have hlT := List.length_take (i := i) (l := R.mats)
    by_cases hlt : i < R.mats.length
    · obtain ⟨y, hyi⟩ : ∃ y, R.mats[i]? = some y := ⟨_, List.getElem?_eq_getElem hlt⟩
      have hyL := hLg i y hyi
      obtain ⟨bl, off, _, hqa, _⟩ := hGl.elem (i := i) (by omega)
      subst hqa
      have hsn := rsG_snoc ok R hyi
      obtain ⟨G2, hG2⟩ : ∃ G2 : List Row, Z ++ G = G2 := ⟨_, rfl⟩
      have hGS : ∀ r ∈ G, r ∈ G2 := fun r h => by rw [← hG2]; exact List.mem_append_right _ h
      have hg8' := hGS _ hg8
      have hg3' := hGS _ hg3
      have hGm' := hGR.mats.sub hGS
      have hGl' := hGl.sub hGS
      obtain ⟨Q, hQ⟩ : ∃ Q, Q = L.take i ++ L.drop (i + 1) := ⟨_, rfl⟩
      have hQl : Q.length ≤ 1000000 := by rw [hQ, List.length_append, List.length_take, List.length_drop]; omega
      have hprQ := fun al cl S hS hsl => hpr Q al cl S hS hsl hQl
      rw [show prvN R ⟨x, m⟩ s Q = ok (outM R.mats [y.number]) by rw [hQ]; exact hio i y hyi] at hprQ
      have hdl := fun b9 c9 S => delete_spec L b9 c9 i S (by omega) (by omega)
      rw [← hQ] at hdl
      have hne : R.mats ≠ [] := fun h => by rw [h] at hlt; simp at hlt
      obtain ⟨w, hw⟩ : ∃ w, w = ok (outM R.mats [y.number]) := ⟨_, rfl⟩
      rw [← hw] at hprQ hsn
      rw [hG2]
      cases w with
      | true =>
        rw [if_pos rfl, List.append_nil] at hsn
        repeat' (first | (refine XO.op rfl ?_; (first | ((first | refine Xo.ng rfl ?_); (first | (refine Xg.ev (EvF.cmp (b := true) rfl rfl rfl (congrArg some (decide_eq_true (by omega)))) rfl rfl ?_) | (refine Xg.ev (EvF.loadV rfl rfl (LoadV.el0 (hGl') hyL (te rfl) rfl (fun _ hm => hm) rfl)) rfl rfl ?_) | (refine Xg.ev (EvF.loadV rfl rfl (LoadV.own (cs := cRm R p) (te rfl) rfl hg3' rfl)) rfl rfl ?_) | (refine Xg.call (EnF.st rfl (by (repeat (first | exact Args.nil | refine Args.cons rfl ?_)); done)) rfl rfl (hnr _ (hGm'.sub (fun _ h => by repeat (first | exact h | apply List.Mem.tail))) hne) ?_; rintro _ _ ⟨b9, c9, rfl, rfl⟩) | (refine Xg.call (EnF.st rfl (Args.cons rfl (Args.cons rfl (Args.cons rfl Args.nil)))) rfl rfl (hdl b9 c9 _) ?_; rintro _ H9 ⟨rfl, hH9⟩; subst H9) | (refine Xg.ev (EvF.add64 (p := (i : Int)) (q := 1) rfl rfl rfl (by omega) (by omega)) rfl rfl ?_) | (refine Xg.ev (EvF.loadV rfl rfl (LoadV.whole (T := 132) (cs := cCm R p (some ⟨b, 0, none⟩) k ⟨x, m⟩ s) (te rfl) rfl (List.Mem.tail _ hg8') rfl)) rfl rfl ?_) | (refine Xg.call (EnF.st rfl (Args.cons rfl (Args.cons rfl Args.nil))) rfl rfl (hprQ (some ⟨b9, 0, none⟩) c9 _ (fun r h => List.Mem.tail _ (hGS r h)) (SlE.ofRow (List.Mem.head _) (fun _ _ => rfl))) ?_; rintro _ H9 ⟨rfl, hH9⟩; subst H9) | (refine Xg.ev (EvF.move rfl rfl) rfl rfl ?_) | (refine Xg.ev (EvF.assign rfl rfl) rfl rfl ?_) | (refine Xg.ev (EvF.not rfl rfl) rfl rfl ?_) | (refine Xg.ev (EvF.fieldAddr rfl rfl (te rfl) rfl (te rfl) (by decide)) rfl rfl ?_) | (refine Xg.ev (EvF.indexSlice rfl rfl rfl (te rfl) (te rfl) (by omega) (by omega)) rfl rfl ?_))))) | (refine XO.done rfl ?_; refine hK _ _ ?_; clear hK K) | refine X.seq rfl ?_ | refine X.region rfl (fun K hK => ?_) | refine X.block rfl ?_ | refine X.skip rfl ?_ | (refine X.ite rfl rfl (fun hc => ?_); (first | (with_reducible refine Xb.t hc ?_) | (with_reducible refine Xb.caseB hc (fun h => ?_) (fun h => ?_))) <;> clear hc))
        all_goals try (exfalso; contradiction)
        exact ⟨_, [(3, .pointer (some ⟨b3, 0, none⟩)), (8, .pointer (some ⟨b8, 0, none⟩)), (10, out), (26, .slice (some ⟨bl, off, none⟩) L.length cn), (27, .int .i64 L.length), (28, .int .i64 (i + 1 : Nat))], G2, (by (repeat (first | exact Sub.nil _ | refine Sub.cons rfl ?_)); done), (by (repeat (first | exact List.Sublist.refl _ | apply List.Sublist.cons_cons | apply List.Sublist.cons)); done), ⟨i + 1, out, Z, rfl, by omega, by rw [hsn]; exact hTz, hG2, rfl⟩, by omega⟩
      | false =>
        rw [if_neg (fun q => by cases q)] at hsn
        rcases hTz with ⟨h9, rfl, rfl⟩ | ⟨bo, ko, rfl, rfl⟩
        · rw [h9, List.nil_append] at hsn
          rw [List.nil_append] at hG2
          subst hG2
          repeat' (first | (refine XO.op rfl ?_; (first | ((first | refine Xo.ng rfl ?_); (first | (refine Xg.ev (EvF.cmp (b := true) rfl rfl rfl (congrArg some (decide_eq_true (by omega)))) rfl rfl ?_) | (refine Xg.ev (EvF.loadV rfl rfl (LoadV.el0 (hGl') hyL (te rfl) rfl (fun _ hm => hm) rfl)) rfl rfl ?_) | (refine Xg.ev (EvF.loadV rfl rfl (LoadV.own (cs := cRm R p) (te rfl) rfl hg3' rfl)) rfl rfl ?_) | (refine Xg.call (EnF.st rfl (by (repeat (first | exact Args.nil | refine Args.cons rfl ?_)); done)) rfl rfl (hnr _ (hGm'.sub (fun _ h => by repeat (first | exact h | apply List.Mem.tail))) hne) ?_; rintro _ _ ⟨b9, c9, rfl, rfl⟩) | (refine Xg.call (EnF.st rfl (Args.cons rfl (Args.cons rfl (Args.cons rfl Args.nil)))) rfl rfl (hdl b9 c9 _) ?_; rintro _ H9 ⟨rfl, hH9⟩; subst H9) | (refine Xg.ev (EvF.add64 (p := (i : Int)) (q := 1) rfl rfl rfl (by omega) (by omega)) rfl rfl ?_) | (refine Xg.ev (EvF.loadV rfl rfl (LoadV.whole (T := 132) (cs := cCm R p (some ⟨b, 0, none⟩) k ⟨x, m⟩ s) (te rfl) rfl (List.Mem.tail _ hg8') rfl)) rfl rfl ?_) | (refine Xg.call (EnF.st rfl (Args.cons rfl (Args.cons rfl Args.nil))) rfl rfl (hprQ (some ⟨b9, 0, none⟩) c9 _ (fun r h => List.Mem.tail _ (hGS r h)) (SlE.ofRow (List.Mem.head _) (fun _ _ => rfl))) ?_; rintro _ H9 ⟨rfl, hH9⟩; subst H9) | (refine Xg.st (StF.buildOne rfl el55 rfl rfl rfl (by decide) (by decide)) rfl rfl ?_; rintro _ _ ⟨bs, rfl, rfl⟩) | (refine Xg.st (StF.appendNew rfl el55 rfl rfl (by decide) rfl (Rd.own (List.Mem.head _)) (by decide)) rfl rfl ?_; rintro _ _ ⟨bn, kn, rfl, rfl⟩) | (refine Xg.ev (EvF.move rfl rfl) rfl rfl ?_) | (refine Xg.ev (EvF.assign rfl rfl) rfl rfl ?_) | (refine Xg.ev (EvF.not rfl rfl) rfl rfl ?_) | (refine Xg.ev (EvF.fieldAddr rfl rfl (te rfl) rfl (te rfl) (by decide)) rfl rfl ?_) | (refine Xg.ev (EvF.indexSlice rfl rfl rfl (te rfl) (te rfl) (by omega) (by omega)) rfl rfl ?_))))) | (refine XO.done rfl ?_; refine hK _ _ ?_; clear hK K) | refine X.seq rfl ?_ | refine X.region rfl (fun K hK => ?_) | refine X.block rfl ?_ | refine X.skip rfl ?_ | (refine X.ite rfl rfl (fun hc => ?_); (first | (with_reducible refine Xb.t hc ?_) | (with_reducible refine Xb.caseB hc (fun h => ?_) (fun h => ?_))) <;> clear hc))
          all_goals try (exfalso; contradiction)
          refine ⟨_, [(3, .pointer (some ⟨b3, 0, none⟩)), (8, .pointer (some ⟨b8, 0, none⟩)), (10, .slice (some ⟨bn, 0, none⟩) 1 kn), (26, .slice (some ⟨bl, off, none⟩) L.length cn), (27, .int .i64 L.length), (28, .int .i64 (i + 1 : Nat))], ⟨bn, 0, (rsG ok R (R.mats.take (i + 1))).flatMap cI, some 3, kn * 1⟩ :: G, (by (repeat (first | exact Sub.nil _ | refine Sub.cons rfl ?_)); done), ?_, ⟨i + 1, _, [_], rfl, by omega, .inr ⟨bn, kn, by rw [hsn]; rfl, rfl⟩, rfl, rfl⟩, by omega⟩
          rw [hsn]
          exact (by (repeat (first | exact List.Sublist.refl _ | apply List.Sublist.cons_cons | apply List.Sublist.cons)); done)
        · simp only [List.cons_append, List.nil_append] at hG2
          subst hG2
          have hlen9 : ((rsG ok R (R.mats.take i)).flatMap cI).length = (rsG ok R (R.mats.take i)).length * 1 := lenI _
          repeat' (first | (refine XO.op rfl ?_; (first | ((first | refine Xo.ng rfl ?_); (first | (refine Xg.ev (EvF.cmp (b := true) rfl rfl rfl (congrArg some (decide_eq_true (by omega)))) rfl rfl ?_) | (refine Xg.ev (EvF.loadV rfl rfl (LoadV.el0 (hGl') hyL (te rfl) rfl (fun _ hm => hm) rfl)) rfl rfl ?_) | (refine Xg.ev (EvF.loadV rfl rfl (LoadV.own (cs := cRm R p) (te rfl) rfl hg3' rfl)) rfl rfl ?_) | (refine Xg.call (EnF.st rfl (by (repeat (first | exact Args.nil | refine Args.cons rfl ?_)); done)) rfl rfl (hnr _ (hGm'.sub (fun _ h => by repeat (first | exact h | apply List.Mem.tail))) hne) ?_; rintro _ _ ⟨b9, c9, rfl, rfl⟩) | (refine Xg.call (EnF.st rfl (Args.cons rfl (Args.cons rfl (Args.cons rfl Args.nil)))) rfl rfl (hdl b9 c9 _) ?_; rintro _ H9 ⟨rfl, hH9⟩; subst H9) | (refine Xg.ev (EvF.add64 (p := (i : Int)) (q := 1) rfl rfl rfl (by omega) (by omega)) rfl rfl ?_) | (refine Xg.ev (EvF.loadV rfl rfl (LoadV.whole (T := 132) (cs := cCm R p (some ⟨b, 0, none⟩) k ⟨x, m⟩ s) (te rfl) rfl (List.Mem.tail _ hg8') rfl)) rfl rfl ?_) | (refine Xg.call (EnF.st rfl (Args.cons rfl (Args.cons rfl Args.nil))) rfl rfl (hprQ (some ⟨b9, 0, none⟩) c9 _ (fun r h => List.Mem.tail _ (hGS r h)) (SlE.ofRow (List.Mem.head _) (fun _ _ => rfl))) ?_; rintro _ H9 ⟨rfl, hH9⟩; subst H9) | (refine Xg.st (StF.buildOne rfl el55 rfl rfl rfl (by decide) (by decide)) rfl rfl ?_; rintro _ _ ⟨bs, rfl, rfl⟩) | (refine Xg.st (StF.appendOwn (i := 2) rfl el55 rfl rfl rfl hlen9 rfl (Rd.own (List.Mem.head _)) rfl (by omega)) rfl rfl ?_; rintro _ _ ⟨bn, kn, rfl, rfl⟩; dsimp only [List.eraseIdx]) | (refine Xg.ev (EvF.move rfl rfl) rfl rfl ?_) | (refine Xg.ev (EvF.assign rfl rfl) rfl rfl ?_) | (refine Xg.ev (EvF.not rfl rfl) rfl rfl ?_) | (refine Xg.ev (EvF.fieldAddr rfl rfl (te rfl) rfl (te rfl) (by decide)) rfl rfl ?_) | (refine Xg.ev (EvF.indexSlice rfl rfl rfl (te rfl) (te rfl) (by omega) (by omega)) rfl rfl ?_))))) | (refine XO.done rfl ?_; refine hK _ _ ?_; clear hK K) | refine X.seq rfl ?_ | refine X.region rfl (fun K hK => ?_) | refine X.block rfl ?_ | refine X.skip rfl ?_ | (refine X.ite rfl rfl (fun hc => ?_); (first | (with_reducible refine Xb.t hc ?_) | (with_reducible refine Xb.caseB hc (fun h => ?_) (fun h => ?_))) <;> clear hc))
          all_goals try (exfalso; contradiction)
          refine ⟨_, [(3, .pointer (some ⟨b3, 0, none⟩)), (8, .pointer (some ⟨b8, 0, none⟩)), (10, .slice (some ⟨bn, 0, none⟩) ((rsG ok R (R.mats.take i)).length + 1) kn), (26, .slice (some ⟨bl, off, none⟩) L.length cn), (27, .int .i64 L.length), (28, .int .i64 (i + 1 : Nat))], ⟨bn, 0, (rsG ok R (R.mats.take (i + 1))).flatMap cI, some 3, kn * 1⟩ :: G, (by (repeat (first | exact Sub.nil _ | refine Sub.cons rfl ?_)); done), ?_, ⟨i + 1, _, [_], rfl, by omega, .inr ⟨bn, kn, by rw [hsn, List.length_append]; rfl, rfl⟩, rfl, rfl⟩, by omega⟩
          rw [hsn, List.flatMap_append]
          exact (by (repeat (first | exact List.Sublist.refl _ | apply List.Sublist.cons_cons | apply List.Sublist.cons)); done)
    · obtain rfl : i = R.mats.length := by omega
      rw [List.take_length] at hTz
      repeat' (first | (refine XO.op rfl ?_; (first | ((first | refine Xo.ng rfl ?_); (first | (refine Xg.ev (EvF.cmp (b := false) rfl rfl rfl (congrArg some (decide_eq_false (by omega)))) rfl rfl ?_) | (refine Xg.ev (EvF.move rfl rfl) rfl rfl ?_) | (refine Xg.ev (EvF.assign rfl rfl) rfl rfl ?_))))) | (refine XO.done rfl ?_; refine hK _ _ ?_; clear hK K) | refine X.seq rfl ?_ | refine X.region rfl (fun K hK => ?_) | (refine X.brk rfl ?_; repeat (first | refine blockX_hit rfl ?_ | refine blockX_miss (by decide) ?_)) | refine X.ret rfl ?_ | (refine X.ite rfl rfl (fun hc => ?_); (first | (with_reducible refine Xb.f hc ?_)) <;> clear hc))
      all_goals try (exfalso; contradiction)
      rcases hTz with ⟨h9, rfl, rfl⟩ | ⟨bo, ko, rfl, rfl⟩
      · rw [h9]
        exact ret_two (by first | exact .inr rfl | exact .inl rfl) Try.results42 rfl rfl (H' := H) hHG ⟨none, 0, [], rfl, sleNil, rfl⟩
      · exact ret_two (by first | exact .inr rfl | exact .inl rfl) Try.results42 rfl rfl (H' := ⟨bo, 0, (rsG ok R R.mats).flatMap cI, some 3, ko * 1⟩ :: H) (List.Sublist.cons_cons _ hHG) ⟨some ⟨bo, 0, none⟩, ko, [⟨bo, 0, (rsG ok R R.mats).flatMap cI, some 3, ko * 1⟩], rfl, SlE.ofRow (List.Mem.head _) (fun _ _ => rfl), rfl⟩
  · have hy : rstF R x m = ([], e) := by unfold rstF; rw [if_neg (by rw [he]; exact h0), he]
    rw [hy]
    refine Fc.mk (callable Try.call42) Try.func42 rfl Try.ntmps42 rfl ?_; dsimp only [fr]
    repeat' (first | (refine XO.op rfl ?_; (first | ((first | refine Xo.ng rfl ?_); (first | (refine Xg.ev (EvF.loadV rfl rfl (LoadV.whole (T := 26) (cs := cRm R p) (te rfl) rfl (by repeat (first | exact List.Mem.head _ | apply List.Mem.tail)) rfl)) rfl rfl ?_) | (refine Xg.call (EnF.st rfl (Args.cons rfl (Args.cons rfl (Args.cons rfl Args.nil)))) rfl rfl (claimedN R p x m e _ (hR.sub (fun _ h => by repeat (first | exact h | apply List.Mem.tail))) h2 he h0) ?_; rintro _ H9 ⟨rfl, hH9⟩; subst H9) | (refine Xg.ev (EvF.extract rfl rfl rfl) rfl rfl ?_) | (refine Xg.st (StF.alloc rfl Try.zeroValue132 rfl) rfl rfl ?_; rintro _ _ ⟨b8, rfl, rfl⟩) | (refine Xg.st0 (StF.storeAll (i := 0) (vs := zCm) rfl rfl rfl (te rfl) rfl rfl rfl rfl) rfl ?_; rintro _ _ ⟨rfl, rfl⟩; dsimp only [List.set]) | (refine Xg.ev (EvF.move rfl rfl) rfl rfl ?_) | (refine Xg.ev (EvF.assign rfl rfl) rfl rfl ?_) | (refine Xg.ev (EvF.cmp rfl rfl rfl rfl) rfl rfl ?_) | (refine Xg.ev (EvF.fieldAddr rfl rfl (te rfl) rfl (te rfl) (by decide)) rfl rfl ?_) | (refine Xg.ev (EvF.loadV rfl rfl (LoadV.own (te rfl) rfl (List.Mem.tail _ (List.Mem.head _)) rfl)) rfl rfl ?_) | (refine Xg.st (StF.boxAgg rfl rfl) rfl rfl ?_; rintro _ _ ⟨bx, rfl, rfl⟩))))) | (refine XO.done rfl ?_; refine hK _ _ ?_; clear hK K) | refine X.seq rfl ?_ | refine X.region rfl (fun K hK => ?_) | refine X.skip rfl ?_ | refine X.ret rfl ?_ | (refine X.ite rfl rfl (fun hc => ?_); (first | (with_reducible refine Xb.caseN hc (fun h => ?_) (fun h => ?_))) <;> clear hc))
    all_goals try (exfalso; simp_all; done)
    exact ret_two (by first | exact .inr rfl | exact .inl rfl) Try.results42 rfl rfl (H' := H) (by (repeat (first | exact List.Sublist.refl _ | apply List.Sublist.cons)); done) ⟨none, 0, [], rfl, sleNil, rfl⟩
end Go.Proofs.Ytblehgpfddmggaa
end
section
set_option linter.unusedVariables false
set_option linter.unusedSimpArgs false
namespace Go.Proofs.Ytblehgpfddmggaa
open Go Go.Fw
set_option maxRecDepth 10000
theorem fewG_len {α : Type} {ok : List α → Bool} {l : List α} : ∀ (k n : Nat) (r : List α), fewG ok l k n = some r → r.length ≤ l.length
  | 0, _, _, h => by cases h
  | k + 1, n, r, h => by
    simp only [fewG] at h
    split at h
    · rename_i r' h'
      cases h
      obtain ⟨s, h1, h2, _⟩ := lonG_sub ok l n [] _ h'
      have := h1.length_le
      rw [h2, List.nil_append]; exact this
    · exact fewG_len k (n + 1) r h
theorem whyF_len (R : Rm) (a m : Int) : (whyF R a m).1.length ≤ R.mats.length := by
  unfold whyF
  split
  · show (whyL R ⟨a, m⟩).length ≤ _
    unfold whyL
    cases q : fewG (prvN R ⟨a, m⟩ (rng R R.mats ⟨a, m⟩ zp)) (R.mats.map (·.number)) (R.mats.length + 1) 0 with
    | none => exact Nat.zero_le _
    | some r =>
      have := fewG_len _ _ r q
      rw [List.length_map] at this
      exact this
  · exact Nat.zero_le _
theorem rstF_len (R : Rm) (a m : Int) : (rstF R a m).1.length ≤ R.mats.length := by
  unfold rstF
  split
  · show (rstL R ⟨a, m⟩ R.mats).length ≤ _
    unfold rstL
    rw [List.length_map]
    exact List.length_filter_le _ _
  · exact Nat.zero_le _
theorem wrgF_len (R : Rm) : (wrgF R).1.length ≤ R.mats.length := by
  unfold wrgF
  split
  · cases q : fewG (okW R) (R.mats.map (·.number)) 4 0 with
    | none => exact Nat.zero_le _
    | some r =>
      have := fewG_len _ _ r q
      rw [List.length_map] at this
      exact this
  · exact Nat.zero_le _
set_option maxHeartbeats 16000000 in
theorem boxProves_spec (R : Rm) (p : Pl) (x m : Int) (H : List Row) (hR : RmOk H R p) :
    Fc Try.prog 6 [.agg (cRm R p).toArray, .int .i64 x, .int .i64 m] H (fun v _ => v = .bool true) := by
  by_cases hg : great R
  · have hgr := great_spec R p
    simp only [decide_eq_true hg] at hgr
    refine Fc.mk (callable Try.call6) Try.func6 rfl Try.ntmps6 rfl ?_; dsimp only [fr]
    repeat' (first | (refine XO.op rfl ?_; (first | ((first | refine Xo.ng rfl ?_); (first | (refine Xg.call (EnF.st rfl (Args.cons rfl Args.nil)) rfl rfl (hgr _) ?_; rintro _ H9 ⟨rfl, hH9⟩; subst H9) | (refine Xg.ev (EvF.assign rfl rfl) rfl rfl ?_) | (refine Xg.ev (EvF.loadV rfl rfl (LoadV.whole (te rfl) rfl (List.Mem.head _) rfl)) rfl rfl ?_) | (refine Xg.st (StF.boxAgg rfl rfl) rfl rfl ?_; rintro _ _ ⟨bx, rfl, rfl⟩))))) | (refine XO.done rfl ?_; refine hK _ _ ?_; clear hK K) | refine X.seq rfl ?_ | refine X.region rfl (fun K hK => ?_) | refine X.ret rfl ?_ | (refine X.ite rfl rfl (fun hc => ?_); (first | (with_reducible refine Xb.t hc ?_)) <;> clear hc))
    all_goals try (exfalso; contradiction)
    exact ret_one (by first | exact .inr rfl | exact .inl rfl) Try.results6 rfl (H' := _) (List.Sublist.refl _) rfl
  · have hgr := great_spec R p
    simp only [decide_eq_false hg] at hgr
    have h1 : R.ages.length ≤ 1000000 := by unfold great at hg; omega
    have h2 : R.boxes.length ≤ 1000000 := by unfold great at hg; omega
    have h3 : R.mats.length ≤ 1000000 := by unfold great at hg; omega
    have hal := whyF_len R x m
    have hbl := rstF_len R x m
    have hcl := wrgF_len R
    obtain ⟨⟨al, ae⟩, ha⟩ : ∃ y, y = whyF R x m := ⟨_, rfl⟩
    obtain ⟨⟨bl, be⟩, hb⟩ : ∃ y, y = rstF R x m := ⟨_, rfl⟩
    obtain ⟨⟨cl, ce⟩, hc⟩ : ∃ y, y = wrgF R := ⟨_, rfl⟩
    have kwh := fun p' H' (h : RmOk H' R p') => kWhy_spec R p' x m H' h h2
    have rwh := fun p' H' (h : RmOk H' R p') => rWhy_spec R p' x m H' h
    have kre := fun p' H' (h : RmOk H' R p') => kRests_spec R p' x m H' h h2
    have rre := fun p' H' (h : RmOk H' R p') => rRests_spec R p' x m H' h
    have kwr := fun p' H' (h : RmOk H' R p') => kWrong_spec R p' H' h h2
    have rwr := fun p' H' (h : RmOk H' R p') => rWrong_spec R p' H' h
    rw [← ha] at kwh rwh hal
    rw [← hb] at kre rre hbl
    rw [← hc] at kwr rwr hcl
    clear ha hb hc
    have hal' : al.length ≤ 9223372036854775807 := by have : al.length ≤ R.mats.length := hal; omega
    have hbl' : bl.length ≤ 9223372036854775807 := by have : bl.length ≤ R.mats.length := hbl; omega
    have hcl' : cl.length ≤ 9223372036854775807 := by have : cl.length ≤ R.mats.length := hcl; omega
    refine Fc.mk (callable Try.call6) Try.func6 rfl Try.ntmps6 rfl ?_; dsimp only [fr]
    repeat' (first | (refine XO.op rfl ?_; (first | ((first | refine Xo.ng rfl ?_); (first | (refine Xg.call (EnF.st rfl (Args.cons rfl Args.nil)) rfl rfl (hgr _) ?_; rintro _ H9 ⟨rfl, hH9⟩; subst H9) | (refine Xg.call (EnF.st rfl (by (repeat (first | exact Args.nil | refine Args.cons rfl ?_)); done)) rfl rfl (twin_spec R p _ (hR.sub (fun _ h => by repeat (first | exact h | apply List.Mem.tail))) h1 h2 h3) ?_; rintro _ _ ⟨t1, k1, t2, k2, t3, k3, rfl, rfl⟩) | (refine Xg.ev (EvF.move rfl rfl) rfl rfl ?_) | (refine Xg.ev (EvF.assign rfl rfl) rfl rfl ?_) | (refine Xg.ev (EvF.loadV rfl rfl (LoadV.whole (te rfl) rfl (List.Mem.head _) rfl)) rfl rfl ?_) | (refine Xg.st (StF.boxAgg rfl rfl) rfl rfl ?_; rintro _ _ ⟨bx, rfl, rfl⟩) | (refine Xg.st (StF.alloc rfl Try.zeroValue26 rfl) rfl rfl ?_; rintro _ _ ⟨bx, rfl, rfl⟩) | (refine Xg.st0 (StF.storeAll (i := 0) rfl rfl rfl (te rfl) rfl rfl rfl rfl) rfl ?_; rintro _ _ ⟨rfl, rfl⟩; dsimp only [List.set]))))) | (refine XO.done rfl ?_; refine hK _ _ ?_; clear hK K) | refine X.seq rfl ?_ | refine X.region rfl (fun K hK => ?_) | refine X.skip rfl ?_ | (refine X.ite rfl rfl (fun hc => ?_); (first | (with_reducible refine Xb.f hc ?_)) <;> clear hc))
    all_goals try (exfalso; contradiction)
    have hT : ∀ H', (⟨t1, 0, R.ages.flatMap cSp, some 35, k1 * 2⟩ : Row) ∈ H' → (⟨t2, 0, R.boxes.flatMap cBx, some 81, k2 * 2⟩ : Row) ∈ H' → (⟨t3, 0, R.mats.flatMap cMt, some 114, k3 * 6⟩ : Row) ∈ H' → RmOk H' R ⟨some ⟨t1, 0, none⟩, k1, some ⟨t2, 0, none⟩, k2, some ⟨t3, 0, none⟩, k3⟩ :=
      fun H' m1 m2 m3 => ⟨SlE.ofRow m1 (fun _ _ => rfl), SlE.ofRow m2 (fun _ _ => rfl), SlE.ofRow m3 (fun _ _ => rfl), by omega, by omega, by omega⟩
    obtain ⟨po, hpo⟩ : ∃ po, po = (⟨some ⟨t1, 0, none⟩, k1, some ⟨t2, 0, none⟩, k2, some ⟨t3, 0, none⟩, k3⟩ : Pl) := ⟨_, rfl⟩
    rw [← hpo] at hT ⊢
    clear hpo
    rename_i b3
    generalize bx = b7
    obtain ⟨HX, hHX⟩ : ∃ HX : List Row, HX = ⟨b7, 0, cRm R po, some 26, 5⟩ :: ⟨t1, 0, R.ages.flatMap cSp, some 35, k1 * 2⟩ :: ⟨t2, 0, R.boxes.flatMap cBx, some 81, k2 * 2⟩ :: ⟨t3, 0, R.mats.flatMap cMt, some 114, k3 * 6⟩ :: ⟨b3, 0, cRm R p, some 26, 5⟩ :: H := ⟨_, rfl⟩
    have m7 : (⟨b7, 0, cRm R po, some 26, 5⟩ : Row) ∈ HX := by rw [hHX]; exact List.Mem.head _
    have m3 : (⟨b3, 0, cRm R p, some 26, 5⟩ : Row) ∈ HX := by rw [hHX]; exact (by repeat (first | exact List.Mem.head _ | apply List.Mem.tail))
    have hO : ∀ S : List Row, (∀ r ∈ HX, r ∈ S) → RmOk S R po := fun S hS => hT S (hS _ (by rw [hHX]; exact (by repeat (first | exact List.Mem.head _ | apply List.Mem.tail)))) (hS _ (by rw [hHX]; exact (by repeat (first | exact List.Mem.head _ | apply List.Mem.tail)))) (hS _ (by rw [hHX]; exact (by repeat (first | exact List.Mem.head _ | apply List.Mem.tail))))
    have hP : ∀ S : List Row, (∀ r ∈ HX, r ∈ S) → RmOk S R p := fun S hS => hR.sub (fun r h => hS r (by rw [hHX]; exact List.Mem.tail _ (List.Mem.tail _ (List.Mem.tail _ (List.Mem.tail _ (List.Mem.tail _ h))))))
    refine XO.weakQ (H' := HX) (by rw [hHX]; exact (by (repeat (first | exact List.Sublist.refl _ | apply List.Sublist.cons_cons | apply List.Sublist.cons)); done)) ?_
    clear hHX hT
    repeat' (first | (refine XO.op rfl ?_; (first | ((first | refine Xo.ng rfl ?_ | (refine Xo.g rfl rfl ?_; with_reducible refine Xw.tt ?_)); (first | (refine Xg.ev (EvF.eqSf rfl rfl rfl) rfl rfl ?_) | (refine Xg.ev (EvF.extract rfl rfl rfl) rfl rfl ?_) | (refine Xg.ev (EvF.loadV rfl rfl (LoadV.whole (T := 26) (cs := cRm R po) (te rfl) rfl (by repeat (first | exact m7 | apply List.mem_append_right | apply List.Mem.tail)) rfl)) rfl rfl ?_) | (refine Xg.ev (EvF.loadV rfl rfl (LoadV.whole (T := 26) (cs := cRm R p) (te rfl) rfl (by repeat (first | exact m3 | apply List.mem_append_right | apply List.Mem.tail)) rfl)) rfl rfl ?_) | (refine Xg.call (EnF.st rfl (by (repeat (first | exact Args.nil | refine Args.cons rfl ?_)); done)) rfl rfl (kwh _ _ (hO _ (fun _ h => by repeat (first | exact h | apply List.mem_append_right | apply List.Mem.tail)))) ?_; rintro _ _ ⟨a1, c1, Z1, rfl, s1, rfl⟩) | (refine Xg.call (EnF.st rfl (by (repeat (first | exact Args.nil | refine Args.cons rfl ?_)); done)) rfl rfl (rwh p _ (hP _ (fun _ h => by repeat (first | exact h | apply List.mem_append_right | apply List.Mem.tail)))) ?_; rintro _ _ ⟨a2, c2, Z2, rfl, s2, rfl⟩) | (refine Xg.call (EnF.st rfl (by (repeat (first | exact Args.nil | refine Args.cons rfl ?_)); done)) rfl rfl (kre _ _ (hO _ (fun _ h => by repeat (first | exact h | apply List.mem_append_right | apply List.Mem.tail)))) ?_; rintro _ _ ⟨a3, c3, Z3, rfl, s3, rfl⟩) | (refine Xg.call (EnF.st rfl (by (repeat (first | exact Args.nil | refine Args.cons rfl ?_)); done)) rfl rfl (rre p _ (hP _ (fun _ h => by repeat (first | exact h | apply List.mem_append_right | apply List.Mem.tail)))) ?_; rintro _ _ ⟨a4, c4, Z4, rfl, s4, rfl⟩) | (refine Xg.call (EnF.st rfl (by (repeat (first | exact Args.nil | refine Args.cons rfl ?_)); done)) rfl rfl (kwr _ _ (hO _ (fun _ h => by repeat (first | exact h | apply List.mem_append_right | apply List.Mem.tail)))) ?_; rintro _ _ ⟨a5, c5, Z5, rfl, s5, rfl⟩) | (refine Xg.call (EnF.st rfl (by (repeat (first | exact Args.nil | refine Args.cons rfl ?_)); done)) rfl rfl (rwr p _ (hP _ (fun _ h => by repeat (first | exact h | apply List.mem_append_right | apply List.Mem.tail)))) ?_; rintro _ _ ⟨a6, c6, Z6, rfl, s6, rfl⟩) | (refine Xg.call (EnF.st rfl (Args.cons rfl (Args.cons rfl Args.nil))) rfl rfl (sameI_self al a1 a2 c1 c2 _ (s1.sub (fun _ h => by repeat (first | exact h | apply List.mem_append_right | apply List.Mem.tail))) (s2.sub (fun _ h => by repeat (first | exact h | apply List.mem_append_right | apply List.Mem.tail))) hal') ?_; rintro _ H9 ⟨rfl, hH9⟩; subst H9) | (refine Xg.call (EnF.st rfl (Args.cons rfl (Args.cons rfl Args.nil))) rfl rfl (sameI_self bl a3 a4 c3 c4 _ (s3.sub (fun _ h => by repeat (first | exact h | apply List.mem_append_right | apply List.Mem.tail))) (s4.sub (fun _ h => by repeat (first | exact h | apply List.mem_append_right | apply List.Mem.tail))) hbl') ?_; rintro _ H9 ⟨rfl, hH9⟩; subst H9) | (refine Xg.call (EnF.st rfl (Args.cons rfl (Args.cons rfl Args.nil))) rfl rfl (sameI_self cl a5 a6 c5 c6 _ (s5.sub (fun _ h => by repeat (first | exact h | apply List.mem_append_right | apply List.Mem.tail))) (s6.sub (fun _ h => by repeat (first | exact h | apply List.mem_append_right | apply List.Mem.tail))) hcl') ?_; rintro _ H9 ⟨rfl, hH9⟩; subst H9) | (refine Xg.call (EnF.st rfl (by (repeat (first | exact Args.nil | refine Args.cons rfl ?_)); done)) rfl rfl (sameR_self R po p _ (hO _ (fun _ h => by repeat (first | exact h | apply List.mem_append_right | apply List.Mem.tail))) (hP _ (fun _ h => by repeat (first | exact h | apply List.mem_append_right | apply List.Mem.tail)))) ?_; rintro _ H9 ⟨rfl, hH9⟩; subst H9) | (refine Xg.ev (EvF.move rfl rfl) rfl rfl ?_) | (refine Xg.ev (EvF.assign rfl rfl) rfl rfl ?_) | (refine Xg.ev (EvF.pickT rfl rfl rfl) rfl rfl ?_))))) | (refine XO.done rfl ?_; refine hK _ _ ?_; clear hK K) | refine X.seq rfl ?_ | refine X.region rfl (fun K hK => ?_) | refine X.ret rfl ?_)
    all_goals try (exfalso; contradiction)
    exact ret_one (by first | exact .inr rfl | exact .inl rfl) Try.results6 rfl (H' := _) (List.Sublist.refl _) rfl
end Go.Proofs.Ytblehgpfddmggaa
end
section
set_option linter.unusedVariables false
namespace Go.Proofs.Ytblehgpfddmggaa
open Go Go.Fw Go.ChangeShapes Go.WideShapes
set_option maxRecDepth 10000
instance : Inhabited Sp := ⟨⟨0, 0⟩⟩
instance : Inhabited Bx := ⟨⟨0, 0⟩⟩
instance : Inhabited Mt := ⟨⟨0, 0, 0, 0, 0, 0⟩⟩
def w64 (n : Int) : Prop := (Lit.int .i64 n).wf = true
section
variable {H : Type} {enc : TypeId × Value → H} {w : World} {base : Nat} {spare : Nat → Bool} {held : Bool} {fuel : Nat} {cs : List Value} {x : DataW H × List MemPlace}
theorem open_i (h : DataW.trod enc Try.prog w base spare held fuel 3 cs = some x) : ∃ q : Int, cs = cI q ∧ w64 q := trod_i (te rfl) h
theorem open_sp (h : DataW.trod enc Try.prog w base spare held fuel 35 cs = some x) : ∃ q : Sp, cs = cSp q ∧ (w64 q.lo ∧ w64 q.hi) := by
  obtain ⟨hl, hf⟩ := trod_st (te rfl) h
  obtain ⟨n0, y0, h0⟩ := hf 0 0 3 _ rfl (te rfl)
  obtain ⟨n1, y1, h1⟩ := hf 1 1 3 _ rfl (te rfl)
  match cs, hl with
  | [a, b], _ =>
    obtain ⟨lo, e0, w0⟩ := open_i h0
    obtain ⟨hi, e1, w1⟩ := open_i h1
    simp [cI] at e0 e1
    subst e0 e1
    exact ⟨⟨lo, hi⟩, rfl, w0, w1⟩
theorem open_bx (h : DataW.trod enc Try.prog w base spare held fuel 81 cs = some x) : ∃ q : Bx, cs = cBx q ∧ (w64 q.id ∧ w64 q.made) := by
  obtain ⟨hl, hf⟩ := trod_st (te rfl) h
  obtain ⟨n0, y0, h0⟩ := hf 0 0 3 _ rfl (te rfl)
  obtain ⟨n1, y1, h1⟩ := hf 1 1 3 _ rfl (te rfl)
  match cs, hl with
  | [a, b], _ =>
    obtain ⟨lo, e0, w0⟩ := open_i h0
    obtain ⟨hi, e1, w1⟩ := open_i h1
    simp [cI] at e0 e1
    subst e0 e1
    exact ⟨⟨lo, hi⟩, rfl, w0, w1⟩
theorem open_mt (h : DataW.trod enc Try.prog w base spare held fuel 114 cs = some x) : ∃ q : Mt, cs = cMt q ∧ (w64 q.number ∧ w64 q.month ∧ w64 q.a ∧ w64 q.b ∧ w64 q.lo ∧ w64 q.hi) := by
  obtain ⟨hl, hf⟩ := trod_st (te rfl) h
  obtain ⟨n0, y0, h0⟩ := hf 0 0 3 _ rfl (te rfl)
  obtain ⟨n1, y1, h1⟩ := hf 1 1 3 _ rfl (te rfl)
  obtain ⟨n2, y2, h2⟩ := hf 2 2 3 _ rfl (te rfl)
  obtain ⟨n3, y3, h3⟩ := hf 3 3 3 _ rfl (te rfl)
  obtain ⟨n4, y4, h4⟩ := hf 4 4 35 _ rfl (te rfl)
  match cs, hl with
  | [a, b, c, d, e, f], _ =>
    obtain ⟨q0, e0, w0⟩ := open_i h0
    obtain ⟨q1, e1, w1⟩ := open_i h1
    obtain ⟨q2, e2, w2⟩ := open_i h2
    obtain ⟨q3, e3, w3⟩ := open_i h3
    obtain ⟨q4, e4, w4⟩ := open_sp h4
    simp [cI, cSp] at e0 e1 e2 e3 e4
    obtain ⟨e4, e5⟩ := e4
    subst e0 e1 e2 e3 e4 e5
    exact ⟨⟨q0, q1, q2, q3, q4.lo, q4.hi⟩, rfl, w0, w1, w2, w3, w4.1, w4.2⟩
end
structure InRm (w : World) (R : Rm) (p : Pl) : Prop where
  ages : InSl w p.a1 cSp 2 R.ages
  boxes : InSl w p.a2 cBx 2 R.boxes
  mats : InSl w p.a3 cMt 6 R.mats
  mo : w64 R.months
  st : w64 R.step
  k1 : R.ages.length ≤ p.c1
  k2 : R.boxes.length ≤ p.c2
  k3 : R.mats.length ≤ p.c3
def rowsRm (R : Rm) (p : Pl) : List Row := rowsOf p.a1 cSp R.ages ++ (rowsOf p.a2 cBx R.boxes ++ rowsOf p.a3 cMt R.mats)
theorem InRm.rm {w : World} {R : Rm} {p : Pl} {H : List Row} (h : InRm w R p) (hs : ∀ r ∈ rowsRm R p, r ∈ H) : RmOk H R p where
  ages := h.ages.sl fun r hr => hs r (List.mem_append_left _ hr)
  boxes := h.boxes.sl fun r hr => hs r (List.mem_append_right _ (List.mem_append_left _ hr))
  mats := h.mats.sl fun r hr => hs r (List.mem_append_right _ (List.mem_append_right _ hr))
  l1 := by have := h.ages.2.1; unfold maxLen at this; omega
  l2 := by have := h.boxes.2.1; unfold maxLen at this; omega
  l3 := by have := h.mats.2.1; unfold maxLen at this; omega
theorem InRm.ok {w : World} {R : Rm} {p : Pl} {B : Nat} (h : InRm w R p) : ∀ r ∈ rowsRm R p, r.own = none ∧ r.ok B w := by
  intro r hr
  rcases List.mem_append.1 hr with hr | hr
  · exact h.ages.ok r hr
  · rcases List.mem_append.1 hr with hr | hr
    · exact h.boxes.ok r hr
    · exact h.mats.ok r hr
section
variable {H : Type} {enc : TypeId × Value → H} {w : World} {base : Nat} {spare : Nat → Bool} {held : Bool} {v : Value} {d : DataW H} {p : List MemPlace} {r : Reach} {b0 : Nat}
theorem open_room (hv : Value.okWide Try.prog w r b0 26 v) (h : DataW.Trod enc Try.prog w base spare held 26 v d p) : ∃ R pl, v = .agg (cRm R pl).toArray ∧ InRm w R pl := by
  obtain ⟨fa, hu, _⟩ := ti_struct (te (T := 26) rfl)
  obtain ⟨⟨cs⟩, rfl, _⟩ := okWide_struct hu hv
  obtain ⟨fuel, hf⟩ := h
  obtain ⟨hl, hf⟩ := trod_st (te rfl) hf
  obtain ⟨n0, y0, h0⟩ := hf 0 0 3 _ rfl (te rfl)
  obtain ⟨n1, y1, h1⟩ := hf 1 1 3 _ rfl (te rfl)
  obtain ⟨n2, y2, h2⟩ := hf 2 2 22 _ rfl (te rfl)
  obtain ⟨n3, y3, h3⟩ := hf 3 3 23 _ rfl (te rfl)
  obtain ⟨n4, y4, h4⟩ := hf 4 4 24 _ rfl (te rfl)
  match cs, hl with
  | [a, b, c, d, e], _ =>
    obtain ⟨q0, e0, w0⟩ := open_i h0
    obtain ⟨q1, e1, w1⟩ := open_i h1
    simp [cI, Value.cells] at e0 e1
    obtain ⟨l2, a2, c2, e2, i2, _, k2⟩ := open_sl (te rfl) (te rfl) rfl (by decide) (fun _ _ _ => open_sp) (fun _ => rfl) h2
    obtain ⟨l3, a3, c3, e3, i3, _, k3⟩ := open_sl (te rfl) (te rfl) rfl (by decide) (fun _ _ _ => open_bx) (fun _ => rfl) h3
    obtain ⟨l4, a4, c4, e4, i4, _, k4⟩ := open_sl (te rfl) (te rfl) rfl (by decide) (fun _ _ _ => open_mt) (fun _ => rfl) h4
    subst e0 e1 e2 e3 e4
    exact ⟨⟨q0, q1, l2, l3, l4⟩, ⟨a2, c2, a3, c3, a4, c4⟩, rfl, i2, i3, i4, w0, w1, k2, k3, k4⟩
end
end Go.Proofs.Ytblehgpfddmggaa
end
section
set_option linter.unusedVariables false
namespace Go.Proofs.Ytblehgpfddmggaa
open Go Go.Fw Go.ChangeShapes Go.WideShapes Go.ChangeAt Go.RowKit
set_option linter.unusedVariables false
set_option maxRecDepth 100000
theorem ownK : ownKnob Try.prog.godebug = none := by kernel_rfl
theorem laidO : laidOutB Try.prog = true := by kernel_rfl
theorem open_in {w : World} {r : Reach} {b0 : Nat} {v : Value} (hv : Value.okWide Try.prog w r b0 3 v) : ∃ q : Int, v = .int .i64 q := okWide_int Try.underlying3 hv
theorem boxTells_run (R : Rm) (p : Pl) (a b m : Int) (w : World) (hR : InRm w R p) :
    Calls Try.prog 3 #[.agg (cRm R p).toArray, .int .i64 a, .int .i64 b, .int .i64 m] w fun e w' => e = .returned (.bool true) ∧ Below w.heap.size w w' :=
  Fc.calls (H := rowsRm R p) (boxTells_spec R p a b m _ (hR.rm (fun _ h => h))) (fun r hr => hR.ok r hr)
theorem lifted (os : Os) (started : os.Started) (H : Type) (enc : TypeId × Value → H) :
    ReturnsInHanded {} Try.checked os 3 .any (Rows.boxTellsSpec.pre6 enc Try.prog Try.f3 Rows.boxTellsRow.domain false) (Rows.boxTellsSpec.post enc Try.prog Try.f3 false true false false) := by
  refine returnsInHanded_of_change (C := Try.checked) ownK started (by kernel_rfl) Try.func3
    (ChangeSpec.witness6 (enc := enc) (C := Try.checked) false ⟨#[], #[.agg (cRm ⟨0, 0, [], [], []⟩ ⟨none, 0, none, 0, none, 0⟩).toArray, .int .i64 0, .int .i64 0, .int .i64 0], []⟩ 8 (by kernel_rfl) (by kernel_rfl) (by kernel_rfl) (by kernel_rfl)) ?_
  intro W base args ds gs before hval0 hW hcnd _
  have hval : ∀ (j : Nat) t v, Try.f3.params[j]? = some t → args[j]? = some v → Value.okWide Try.prog W .any base t v := hval0
  have hW' := hW
  obtain ⟨p, q, hA0, hV, rfl, hfz, hnd⟩ := hW
  have hA : DataW.TrodAll enc Try.prog W 0 (fun _ => true) true Try.f3.params.toList args.toList ds p := hA0
  rw [Try.params3] at hA hval
  obtain ⟨v0, vs0, d0, ds0, p0, q0, hargs, rfl, rfl, h0, r0⟩ := trodAll_cons hA
  obtain ⟨v1, vs1, d1, ds1, p1, q1, rfl, rfl, rfl, h1, r1⟩ := trodAll_cons r0
  obtain ⟨v2, vs2, d2, ds2, p2, q2, rfl, rfl, rfl, h2, r2⟩ := trodAll_cons r1
  obtain ⟨v3, vs3, d3, ds3, p3, q3, rfl, rfl, rfl, h3, r3⟩ := trodAll_cons r2
  obtain ⟨rfl, rfl, rfl⟩ := trodAll_nil r3
  obtain rfl : args = #[v0, v1, v2, v3] := by cases args; simp_all
  obtain ⟨rfl, rfl⟩ := trodVars_none hV
  have lt : ∀ {t v d ps}, DataW.Trod enc Try.prog W 0 (fun _ => true) true t v d ps → ∀ x ∈ ps, x.block < W.heap.size := fun h => by obtain ⟨m, hm⟩ := h; exact DataW.trod_lt m _ _ _ hm
  obtain ⟨R, pl, rfl, hR⟩ := open_room (hval 0 _ v0 rfl rfl) h0
  obtain ⟨a, rfl⟩ := open_in (hval 1 _ v1 rfl rfl)
  obtain ⟨b, rfl⟩ := open_in (hval 2 _ v2 rfl rfl)
  obtain ⟨m, rfl⟩ := open_in (hval 3 _ v3 rfl rfl)
  clear hA0 hval0
  refine (boxTells_run R pl a b m W hR).mono fun e W' ⟨he, bel⟩ => ?_
  subst he
  exact ⟨_, rfl, _, _, _, [], _, [], hW', trodAll_mk1 (shut_bool Try.underlying4 _), (trodAll_cons_mk (Below.trod laidO (by kernel_rfl) (of_decide_eq_true (by kernel_rfl)) h0 bel (lt h0)) (trodAll_cons_mk (Below.trod laidO (by kernel_rfl) (of_decide_eq_true (by kernel_rfl)) h1 bel (lt h1)) (trodAll_cons_mk (Below.trod laidO (by kernel_rfl) (of_decide_eq_true (by kernel_rfl)) h2 bel (lt h2)) (trodAll_cons_mk (Below.trod laidO (by kernel_rfl) (of_decide_eq_true (by kernel_rfl)) h3 bel (lt h3)) trodAll_mk0)))), rfl, bel.frame _, fun h => by cases h⟩
theorem over : Rows.boxTellsRow.holds Try.pinned (OpenSpec.ofChange Rows.boxTellsSpec) :=
  OpenClaim.holds_of_wide 3 Try.f3 rfl rfl rfl rfl rfl rfl rfl ⟨rfl, rfl, rfl, rfl, rfl⟩ rfl rfl rfl rfl rfl (by kernel_rfl) Try.func3 (by kernel_rfl)
    (of_decide_eq_true (by kernel_rfl)) (by unfold Func.isWrapper; first | (rw [if_pos (by decide +kernel)]; kernel_rfl) | (rw [if_neg (by decide +kernel)]; exact ⟨rfl, rfl⟩))
    (fun os started H enc _ => lifted os started H enc)
end Go.Proofs.Ytblehgpfddmggaa
end
section
set_option linter.unusedVariables false
namespace Go.Proofs.Ytblehgpfddmggaa
open Go Go.Fw Go.ChangeShapes Go.WideShapes Go.ChangeAt Go.RowKit
set_option linter.unusedVariables false
set_option maxRecDepth 100000
theorem boxProves_run (R : Rm) (pR : Pl) (n : Int) (m : Int) (w : World)  (hR : InRm w R pR) :
    Calls Try.prog 6 #[.agg (cRm R pR).toArray, .int .i64 n, .int .i64 m] w fun e w' => e = .returned (.bool true) ∧ Below w.heap.size w w' :=
  Fc.calls (H := rowsRm R pR) (boxProves_spec R pR n m _ (hR.rm (fun _ h => h))) (fun r hr => by
    exact hR.ok r hr
  )
theorem boxProves_lifted (os : Os) (started : os.Started) (H : Type) (enc : TypeId × Value → H) :
    ReturnsInHanded {} Try.checked os 6 .any (Rows.boxProvesSpec.pre6 enc Try.prog Try.f6 Rows.boxProvesRow.domain false) (Rows.boxProvesSpec.post enc Try.prog Try.f6 false true false false) := by
  refine returnsInHanded_of_change (C := Try.checked) ownK started (by kernel_rfl) Try.func6
    (ChangeSpec.witness6 (enc := enc) (C := Try.checked) false ⟨#[], #[.agg (cRm ⟨0, 0, [], [], []⟩ ⟨none, 0, none, 0, none, 0⟩).toArray, .int .i64 0, .int .i64 0], []⟩ 8 (by kernel_rfl) (by kernel_rfl) (by kernel_rfl) (by kernel_rfl)) ?_
  intro W base args ds gs before hval0 hW hcnd _
  have hval : ∀ (j : Nat) t v, Try.f6.params[j]? = some t → args[j]? = some v → Value.okWide Try.prog W .any base t v := hval0
  have hW' := hW
  obtain ⟨p, q, hA0, hV, rfl, hfz, hnd⟩ := hW
  have hA : DataW.TrodAll enc Try.prog W 0 (fun _ => true) true Try.f6.params.toList args.toList ds p := hA0
  rw [Try.params6] at hA hval
  obtain ⟨v0, vs0, d0, ds0, p0, q0, hargs, rfl, rfl, h0, r0⟩ := trodAll_cons hA
  obtain ⟨v1, vs1, d1, ds1, p1, q1, rfl, rfl, rfl, h1, r1⟩ := trodAll_cons r0
  obtain ⟨v2, vs2, d2, ds2, p2, q2, rfl, rfl, rfl, h2, r2⟩ := trodAll_cons r1
  obtain ⟨rfl, rfl, rfl⟩ := trodAll_nil r2
  obtain rfl : args = #[v0, v1, v2] := by cases args; simp_all
  obtain ⟨rfl, rfl⟩ := trodVars_none hV
  have lt : ∀ {t v d ps}, DataW.Trod enc Try.prog W 0 (fun _ => true) true t v d ps → ∀ x ∈ ps, x.block < W.heap.size := fun h => by obtain ⟨m, hm⟩ := h; exact DataW.trod_lt m _ _ _ hm
  obtain ⟨R, pR, rfl, hR⟩ := open_room (hval 0 _ v0 rfl rfl) h0
  obtain ⟨n, rfl⟩ := open_in (hval 1 _ v1 rfl rfl)
  obtain ⟨m, rfl⟩ := open_in (hval 2 _ v2 rfl rfl)
  clear hA0 hval0
  refine (boxProves_run R pR n m W hR).mono fun e W' ⟨he, bel⟩ => ?_
  subst he
  exact ⟨_, rfl, _, _, _, [], _, [], hW', trodAll_mk1 (shut_bool Try.underlying4 _), (trodAll_cons_mk (Below.trod laidO (by kernel_rfl) (of_decide_eq_true (by kernel_rfl)) h0 bel (lt h0)) (trodAll_cons_mk (Below.trod laidO (by kernel_rfl) (of_decide_eq_true (by kernel_rfl)) h1 bel (lt h1)) (trodAll_cons_mk (Below.trod laidO (by kernel_rfl) (of_decide_eq_true (by kernel_rfl)) h2 bel (lt h2)) trodAll_mk0))), rfl, bel.frame _, fun h => by cases h⟩
theorem boxProves_over : Rows.boxProvesRow.holds Try.pinned (OpenSpec.ofChange Rows.boxProvesSpec) :=
  OpenClaim.holds_of_wide 6 Try.f6 rfl rfl rfl rfl rfl rfl rfl ⟨rfl, rfl, rfl, rfl, rfl⟩ rfl rfl rfl rfl rfl (by kernel_rfl) Try.func6 (by kernel_rfl)
    (of_decide_eq_true (by kernel_rfl)) (by unfold Func.isWrapper; first | (rw [if_pos (by decide +kernel)]; kernel_rfl) | (rw [if_neg (by decide +kernel)]; exact ⟨rfl, rfl⟩))
    (fun os started H enc _ => boxProves_lifted os started H enc)
theorem boxProves_proved : Rows.BoxProvesSaid := boxProves_over
#print axioms boxProves_proved
end Go.Proofs.Ytblehgpfddmggaa
end
