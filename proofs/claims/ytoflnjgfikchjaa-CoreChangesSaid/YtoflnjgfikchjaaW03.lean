/- Own work: contracts of functions, from rows of what is known of the memory; Own work: what came in, opened as rows that are only read. No condition.; contracts of functions, from rows of what is known of the memory; contracts of functions, from rows of what is known of the memory; contracts of functions, from rows of what is known of the memory; contracts of functions, from rows of what is known of the memory; contracts of functions, from rows of what is known of the memory; contracts of functions, from rows of what is known of the memory; contracts of functions, from rows of what is known of the memory; contracts of functions, from rows of what is known of the memory; contracts of functions, from rows of what is known of the memory; contracts of functions, from rows of what is known of the memory -/
import Derived.Test.YtoflnjgfikchjaaW02
import Derived.Deep.Slices
import Derived.ChangeSame
section
set_option linter.unusedVariables false
set_option linter.unusedSimpArgs false
namespace Go.Proofs.Ytoflnjgfikchjaa
open Go Go.Fw
set_option maxRecDepth 10000
/-- the first list of m things more that is right -/
def lon (ok : List Dr → Bool) : List Dr → Nat → List Dr → Option (List Dr)
  | [], 0, acc => if ok acc = true then some acc else none
  | [], _ + 1, _ => none
  | _ :: _, 0, acc => if ok acc = true then some acc else none
  | x :: t, m + 1, acc => match lon ok t m (acc ++ [x]) with
    | some r => some r
    | none => lon ok t (m + 1) acc
theorem lon_zero (ok : List Dr → Bool) (t acc : List Dr) : lon ok t 0 acc = if ok acc = true then some acc else none := by cases t <;> rfl
theorem lon_short (ok : List Dr → Bool) : ∀ (t : List Dr) (m : Nat) (acc : List Dr), t.length < m → lon ok t m acc = none
  | [], 0, _, h => by simp at h
  | [], _ + 1, _, _ => rfl
  | _ :: _, 0, _, h => by simp at h
  | x :: t, m + 1, acc, h => by
    simp only [List.length_cons] at h
    simp only [lon]
    rw [lon_short ok t m _ (by omega), lon_short ok t (m + 1) _ (by omega)]
theorem lon_len (ok : List Dr → Bool) : ∀ (t : List Dr) (m : Nat) (acc r : List Dr), lon ok t m acc = some r → r.length = acc.length + m
  | [], 0, acc, r, h => by simp only [lon] at h; split at h <;> simp_all
  | [], _ + 1, _, _, h => by simp [lon] at h
  | _ :: _, 0, acc, r, h => by simp only [lon] at h; split at h <;> simp_all
  | x :: t, m + 1, acc, r, h => by
    simp only [lon] at h
    split at h
    · rename_i r' h'
      have := lon_len ok t m _ r' h'
      rw [List.length_append] at this
      simp only [Option.some.injEq] at h
      subst h
      simp at this; omega
    · exact lon_len ok t (m + 1) acc r h
def few (ok : List Dr → Bool) (l : List Dr) : Nat → Nat → Option (List Dr)
  | 0, _ => none
  | k + 1, n => match lon ok l n [] with
    | some r => some r
    | none => few ok l k (n + 1)
theorem few_beyond (ok : List Dr → Bool) (l : List Dr) : ∀ k n, l.length < n → few ok l k n = none
  | 0, _, _ => rfl
  | k + 1, n, h => by simp only [few]; rw [lon_short ok l n [] h, few_beyond ok l k (n + 1) (by omega)]
theorem few_more (ok : List Dr → Bool) (l : List Dr) : ∀ k k' n, k ≤ k' → l.length < n + k → few ok l k' n = few ok l k n
  | 0, k', n, _, h => by rw [few_beyond ok l k' n (by omega)]; rfl
  | k + 1, 0, n, h1, _ => by omega
  | k + 1, k' + 1, n, h1, h => by
    simp only [few]
    split
    · rfl
    · exact few_more ok l k k' (n + 1) (by omega) (by omega)
def ts70 : List TOp := [⟨some 24, [], [], []⟩, ⟨some 25, [], [], []⟩, ⟨some 26, [], [], []⟩, ⟨some 27, [1, 2], [1, 2], []⟩, ⟨some 28, [1, 2, 3], [3], []⟩, ⟨some 29, [1, 2, 3, 4], [4], []⟩, ⟨some 30, [0, 1, 2, 3, 4, 5], [0, 5], [9]⟩, ⟨none, [0, 1, 2, 3, 4, 5, 6], [6], [8]⟩, ⟨none, [], [], []⟩, ⟨none, [], [], []⟩]
def rd70 (k : Nat) : List Nat := match k with
  | 0 => [8]
  | 6 => [5]
  | _ => []
def TrvDr (l : List Dr) (out : Value) (Z : List Row) : Prop := (l = [] ∧ out = .slice none 0 0 ∧ Z = []) ∨ ∃ b q, out = .slice (some ⟨b, 0, none⟩) l.length q ∧ Z = [⟨b, 0, l.flatMap cDr, some 29, q * 4⟩]
theorem TrvDr.sl {l : List Dr} {out : Value} {Z H : List Row} (h : TrvDr l out Z) : ∃ a c, out = .slice a l.length c ∧ SlE (Z ++ H) a cDr 4 l := by
  rcases h with ⟨rfl, rfl, rfl⟩ | ⟨b, q, rfl, rfl⟩
  · exact ⟨none, 0, rfl, sleNil⟩
  · exact ⟨_, _, rfl, SlE.ofRow (List.Mem.head _) (fun _ _ => rfl)⟩
def val70Dr (out : Value) (lb lo n c : Nat) (ll : Nat) (i : Nat) (e : Dr) (k : Nat) (env : Env) : Value :=
  match k with
  | 0 => out
  | 1 => .slice (some ⟨lb, lo, none⟩) ll c
  | 2 => .int .i64 i
  | 3 => .pointer (some ⟨lb, lo + i * 4, none⟩)
  | 4 => .agg (cDr e).toArray
  | 5 => .slice (some ⟨(env 5).1, 0, none⟩) 1 1
  | 6 => .slice (some ⟨(env 6).1, 0, none⟩) (n + 1) (env 6).2
  | _ => undef
def rows70Dr (bt : Nat) (out : Value) (Z : List Row) (acc : List Dr) (e : Dr) (k : Nat) (env : Env) : List Row :=
  match k with
  | 5 => [⟨(env 5).1, 0, cDr e, some 29, 1 * 4⟩]
  | 6 => [⟨(env 6).1, 0, acc.flatMap cDr ++ cDr e, some 29, (env 6).2 * 4⟩]
  | 7 => [⟨bt, 0, [.slice (some ⟨(env 6).1, 0, none⟩) (acc.length + 1) (env 6).2], some 24, 1⟩]
  | 8 => [⟨bt, 0, [out], some 24, 1⟩]
  | 9 => Z
  | _ => []
theorem loc70Dr (bt : Nat) (out : Value) (Z : List Row) (acc : List Dr) (lb lo c ll j : Nat) (e : Dr) : ∀ k env i q9, i ≠ k → (tAt ts70 k).sup.contains i = false → val70Dr out lb lo acc.length c ll j e k (upd env i q9) = val70Dr out lb lo acc.length c ll j e k env ∧ rows70Dr bt out Z acc e k (upd env i q9) = rows70Dr bt out Z acc e k env := by
  intro k env i q hk hs
  have hu : ∀ j, j ≠ i → upd env i q j = env j := fun j hj => by unfold upd; rw [if_neg hj]
  match k, hk, hs with
  | 0, _, _ => exact ⟨rfl, rfl⟩
  | 1, _, _ => exact ⟨rfl, rfl⟩
  | 2, _, _ => exact ⟨rfl, rfl⟩
  | 3, _, _ => exact ⟨rfl, rfl⟩
  | 4, _, _ => exact ⟨rfl, rfl⟩
  | 5, hk, hs => exact ⟨by simp only [val70Dr, hu 5 (fun e => hk e.symm)], by simp only [rows70Dr, hu 5 (fun e => hk e.symm)]⟩
  | 6, hk, hs => exact ⟨by simp only [val70Dr, hu 6 (fun e => hk e.symm)], by simp only [rows70Dr, hu 6 (fun e => hk e.symm)]⟩
  | 7, hk, hs => exact ⟨by simp only [val70Dr, hu 6 (by rintro rfl; cases hs)], by simp only [rows70Dr, hu 6 (by rintro rfl; cases hs)]⟩
  | 8, _, _ => exact ⟨rfl, rfl⟩
  | 9, _, _ => exact ⟨rfl, rfl⟩
  | _ + 10, _, _ => exact ⟨rfl, rfl⟩
set_option maxHeartbeats 8000000 in
theorem longer_specDr (ok : List Dr → Bool) (l : List Dr) (a : Option Addr) (c g : Nat) (cap : List Value) (bt br bl bg : Nat) (w1 w2 w3 : Option Kd) (k1 k2 k3 : Nat) (H0 : List Row) (hl : SlE H0 a cDr 4 l) (hb : l.length ≤ 1000000)
    (mr : ⟨br, 0, [.func (.func g) #[] cap.toArray], w1, k1⟩ ∈ H0) (ml : ⟨bl, 0, [.slice a l.length c], w2, k2⟩ ∈ H0) (mg : ⟨bg, 0, [.func (.func 70) #[] #[.pointer (some ⟨br, 0, none⟩), .pointer (some ⟨bt, 0, none⟩), .pointer (some ⟨bl, 0, none⟩), .pointer (some ⟨bg, 0, none⟩)]], w3, k3⟩ ∈ H0)
    (hr : ∀ acc a' c' H', (∀ r ∈ H0, r ∈ H') → SlE H' a' cDr 4 acc → acc.length ≤ 1000000 → Fc Try.prog g ([.slice a' acc.length c'] ++ cap) H' (fun v H'' => v = .bool (ok acc) ∧ H'' = H')) :
    ∀ (m f0 : Nat) (mi fi : Int) (acc : List Dr) (out : Value) (Z : List Row), mi = m → fi = f0 → f0 ≤ l.length → acc.length + m ≤ 1000000 → TrvDr acc out Z →
    Fc Try.prog 70 ([.int .i64 fi, .int .i64 mi] ++ [.pointer (some ⟨br, 0, none⟩), .pointer (some ⟨bt, 0, none⟩), .pointer (some ⟨bl, 0, none⟩), .pointer (some ⟨bg, 0, none⟩)]) (⟨bt, 0, [out], some 24, 1⟩ :: (Z ++ H0))
      (fun v H' => ∃ out' Z', ((∃ r, lon ok (l.drop f0) m acc = some r ∧ v = .bool true ∧ TrvDr r out' Z') ∨ (lon ok (l.drop f0) m acc = none ∧ v = .bool false ∧ TrvDr acc out' Z')) ∧ H' = ⟨bt, 0, [out'], some 24, 1⟩ :: (Z' ++ H0)) := by
  intro m
  induction m with
  | zero =>
    intro f0 mi fi acc out Z hmi hfi hfr hacc hT
    subst hmi
    obtain ⟨a', c', rfl, hs⟩ := hT.sl (H := H0)
    show Fc Try.prog 70 [.int .i64 fi, .int .i64 ((0 : Nat) : Int), .pointer (some ⟨br, 0, none⟩), .pointer (some ⟨bt, 0, none⟩), .pointer (some ⟨bl, 0, none⟩), .pointer (some ⟨bg, 0, none⟩)] _ _
    refine Fc.mk (callable Try.call70) Try.func70 rfl Try.ntmps70 rfl ?_; dsimp only [fr]
    repeat' (first | (refine XO.op rfl ?_; (first | ((first | refine Xo.ng rfl ?_); (first | (refine Xg.ev (EvF.loadV rfl rfl (LoadV.own (te rfl) rfl (List.Mem.tail _ (List.mem_append_right _ mr)) rfl)) rfl rfl ?_) | (refine Xg.call (EnF.dyn0 rfl rfl (by (repeat (first | exact Args.nil | refine Args.cons rfl ?_)); done)) rfl rfl (hr acc a' c' _ (fun _ h => List.Mem.tail _ (List.mem_append_right _ h)) (hs.sub (fun _ h => List.Mem.tail _ h)) (by omega)) ?_; rintro _ H9 ⟨rfl, hH9⟩; subst H9) | (refine Xg.ev (EvF.move rfl rfl) rfl rfl ?_) | (refine Xg.ev (EvF.assign rfl rfl) rfl rfl ?_) | (refine Xg.ev (EvF.cmp rfl rfl rfl rfl) rfl rfl ?_) | (refine Xg.ev (EvF.loadV rfl rfl (LoadV.own (te rfl) rfl (List.Mem.head _) rfl)) rfl rfl ?_))))) | (refine XO.done rfl ?_; refine hK _ _ ?_; clear hK K) | refine X.seq rfl ?_ | refine X.region rfl (fun K hK => ?_) | refine X.block rfl ?_ | refine X.skip rfl ?_ | refine X.ret rfl ?_ | (refine X.ite rfl rfl (fun hc => ?_); (first | (with_reducible refine Xb.case hc (fun h => ?_) (fun h => ?_))) <;> clear hc))
    · refine ret_one (by first | exact .inr rfl | exact .inl rfl) Try.results70 rfl (H' := _) (List.Sublist.refl _) ⟨_, Z, ?_, rfl⟩
      rw [lon_zero]
      by_cases hk : ok acc = true
      · exact .inl ⟨acc, by rw [if_pos hk], by rw [hk], hT⟩
      · exact .inr ⟨by rw [if_neg hk], by rw [Bool.eq_false_iff.2 hk], hT⟩
    · exfalso; omega
  | succ m ih =>
    intro f0 mi fi acc out Z hmi hfi hfr hacc hT
    subst hfi
    show Fc Try.prog 70 [.int .i64 (f0 : Int), .int .i64 mi, .pointer (some ⟨br, 0, none⟩), .pointer (some ⟨bt, 0, none⟩), .pointer (some ⟨bl, 0, none⟩), .pointer (some ⟨bg, 0, none⟩)] _ _
    refine Fc.mk (callable Try.call70) Try.func70 rfl Try.ntmps70 rfl ?_; dsimp only [fr]
    repeat' (first | (refine XO.op rfl ?_; (first | ((first | refine Xo.ng rfl ?_); (first | (refine Xg.ev (EvF.move rfl rfl) rfl rfl ?_) | (refine Xg.ev (EvF.assign rfl rfl) rfl rfl ?_) | (refine Xg.ev (EvF.cmp rfl rfl rfl rfl) rfl rfl ?_))))) | (refine XO.done rfl ?_; refine hK _ _ ?_; clear hK K) | refine X.seq rfl ?_ | refine X.region rfl (fun K hK => ?_) | refine X.block rfl ?_ | refine X.skip rfl ?_ | (refine X.ite rfl rfl (fun hc => ?_); (first | (with_reducible refine Xb.case hc (fun h => ?_) (fun h => ?_))) <;> clear hc))
    · exfalso; omega
    refine X.lp rfl (fun q F' H' => ∃ (i : Nat) (out : Value) (Z : List Row), q = l.length + 1 - i ∧ i ≤ l.length ∧ TrvDr acc out Z ∧ lon ok (l.drop f0) (m + 1) acc = lon ok (l.drop i) (m + 1) acc ∧ ⟨bt, 0, [out], some 24, 1⟩ :: (Z ++ H0) = H' ∧
        F' = [(1, .int .i64 mi), (2, .pointer (some ⟨br, 0, none⟩)), (3, .pointer (some ⟨bt, 0, none⟩)), (4, .pointer (some ⟨bl, 0, none⟩)), (5, .pointer (some ⟨bg, 0, none⟩)), (9, .int .i64 i)])
      (l.length + 1 - f0) [(1, .int .i64 mi), (2, .pointer (some ⟨br, 0, none⟩)), (3, .pointer (some ⟨bt, 0, none⟩)), (4, .pointer (some ⟨bl, 0, none⟩)), (5, .pointer (some ⟨bg, 0, none⟩)), (9, .int .i64 f0)] _ (by (repeat (first | exact Sub.nil _ | refine Sub.cons rfl ?_)); done) (List.Sublist.refl _) ⟨f0, out, Z, rfl, hfr, hT, rfl, rfl, rfl⟩ ?_
    clear hT
    rintro _ _ H2 ⟨i, out, Z, rfl, hi, hT, hlon, hH, rfl⟩
    subst hH
    repeat' (first | (refine XO.op rfl ?_; (first | ((first | refine Xo.ng rfl ?_); (first | (refine Xg.ev (EvF.loadV rfl rfl (LoadV.own (te rfl) rfl (List.Mem.tail _ (List.mem_append_right _ ml)) rfl)) rfl rfl ?_) | (refine Xg.ev (EvF.move rfl rfl) rfl rfl ?_) | (refine Xg.ev (EvF.assign rfl rfl) rfl rfl ?_) | (refine Xg.ev (EvF.cmp rfl rfl rfl rfl) rfl rfl ?_) | (refine Xg.ev (EvF.add64 rfl rfl rfl (by omega) (by omega)) rfl rfl ?_) | (refine Xg.ev (EvF.lenSlice rfl rfl (te rfl)) rfl rfl ?_))))) | (refine XO.done rfl ?_; refine hK _ _ ?_; clear hK K) | refine X.seq rfl ?_ | refine X.region rfl (fun K hK => ?_) | refine X.block rfl ?_ | (refine X.brk rfl ?_; first | refine blockX_hit rfl ?_ | skip) | refine X.skip rfl ?_ | refine X.ret rfl ?_ | (refine X.ite rfl rfl (fun hc => ?_); (first | (with_reducible refine Xb.case hc (fun h => ?_) (fun h => ?_))) <;> clear hc))
    · obtain ⟨lb, lo, e, rfl, he⟩ := hl.elem (i := i) (by omega)
      have hil := (List.getElem?_eq_some_iff.1 he).1
      have hle : (acc ++ [e]).length = acc.length + 1 := by rw [List.length_append]; rfl
      have hfm : acc.flatMap cDr ++ cDr e = (acc ++ [e]).flatMap cDr := by rw [List.flatMap_append, List.flatMap_singleton]
      have hal : (acc.flatMap cDr).length = acc.length * 4 := lenDr acc
      refine X.regionRd ts70 rd70 [3, 4, 9, 1, 2, 5] [(3, .pointer (some ⟨bt, 0, none⟩)), (4, .pointer (some ⟨bl, 0, none⟩)), (9, .int .i64 i), (1, .int .i64 mi), (2, .pointer (some ⟨br, 0, none⟩)), (5, .pointer (some ⟨bg, 0, none⟩))]
        (val70Dr out lb lo acc.length c l.length i e) (rows70Dr bt out Z acc e) (fun _ => (0, 0)) H0 rfl mixed (by (repeat (first | exact Sub.nil _ | refine Sub.cons rfl ?_)); done) rfl (by kernel_rfl) (by kernel_rfl) (loc70Dr bt out Z acc lb lo c l.length i e) (by show List.Sublist ((⟨bt, 0, [out], some 24, 1⟩ :: (Z ++ [])) ++ H0) _; rw [List.append_nil]; exact List.Sublist.refl _) ?_ ?_
      · repeat' (first | exact AllF.done rfl | (refine AllF.step rfl ?_ ?_; · (first | exact (Ob.ng rfl (ObK.pure (fun env R hR => by exact ⟨_, EvF.move rfl rfl, rfl⟩) rfl (fun _ => rfl))).toR | (refine ObR.ng rfl ?_; (first | (exact fun env S hS hrd => (StF.ofEv (EvF.loadV rfl rfl (LoadV.own (te rfl) rfl (hrd 8 (List.Mem.head _) _ (List.Mem.head _)) rfl))).op.mono (fun v H' ⟨hv, hH⟩ => ⟨(0, 0), fun _ => hv, by rw [hH]; exact List.Perm.refl _⟩)) | (exact fun env S hS hrd => (StF.ofEv (EvF.loadV rfl rfl (LoadV.own (te rfl) rfl (hS _ ml) rfl))).op.mono (fun v H' ⟨hv, hH⟩ => ⟨(0, 0), fun _ => hv, by rw [hH]; exact List.Perm.refl _⟩)) | ((refine fun env S hS hrd => (StF.ofEv (v := .pointer (some ⟨lb, lo + i * 4, none⟩)) ?_).op.mono (fun v H' ⟨hv, hH⟩ => ⟨(0, 0), fun _ => hv, by rw [hH]; exact List.Perm.refl _⟩); refine EvF.indexSlice (T := 24) (e := 29) (i := (i : Int)) (off := lo) (b := lb) (len := l.length) (ti := ⟨.st [(0, 3), (1, 3), (2, 23)], 4, 32⟩) rfl rfl rfl (te rfl) (te rfl) ?_ ?_ <;> omega)) | (exact fun env S hS hrd => (StF.ofEv (v := .agg (cDr e).toArray) (EvF.loadV rfl rfl (LoadV.elA0 (n := i) hl he (te rfl) rfl (fun _ h => hS _ h) rfl))).op.mono (fun v H' ⟨hv, hH⟩ => ⟨(0, 0), fun _ => hv, by rw [hH]; exact List.Perm.refl _⟩)) | (exact fun env S hS hrd => (StF.buildOne rfl elDr rfl rfl rfl (by decide) (by decide)).op.mono (fun v H' ⟨b, hv, hH⟩ => ⟨(b, 0), fun _ => hv, by rw [hH]; exact List.Perm.refl _⟩)) | (exact fun env S hS hrd => (StF.storeOne (i := 0) rfl rfl rfl rfl (te rfl) rfl rfl (Nat.le_of_ble_eq_true rfl)).op.mono (fun v H' ⟨hv, hH⟩ => ⟨(0, 0), fun h => absurd rfl h, by rw [hH]; exact List.Perm.refl _⟩)) | ((rcases hT with ⟨rfl, rfl, rfl⟩ | ⟨b, q, rfl, rfl⟩ <;> first | exact fun env S hS hrd => (StF.appendNew rfl elDr rfl rfl (by decide) rfl (Rd.own (hrd 5 (List.Mem.head _) _ (List.Mem.head _))) (by decide)).op.mono (fun v H' ⟨b, c, hv, hH⟩ => ⟨(b, c), fun _ => hv, by rw [hH]; exact List.Perm.refl _⟩) | exact fun env S hS hrd => (StF.appendOwn (i := 0) rfl elDr rfl rfl rfl hal rfl (Rd.own (List.Mem.tail _ (hrd 5 (List.Mem.head _) _ (List.Mem.head _)))) rfl (by omega)).op.mono (fun v H' ⟨b, c, hv, hH⟩ => ⟨(b, c), fun _ => hv, by rw [hH]; exact List.Perm.refl _⟩))))))))
      · intro env t ha hv
        refine ⟨_, ha, ?_⟩
        show X _ _ _ _ (⟨(env 5).1, 0, cDr e, some 29, 1 * 4⟩ :: ⟨(env 6).1, 0, acc.flatMap cDr ++ cDr e, some 29, (env 6).2 * 4⟩ :: ⟨bt, 0, [.slice (some ⟨(env 6).1, 0, none⟩) (acc.length + 1) (env 6).2], some 24, 1⟩ :: H0) _
        rw [hfm]
        refine X.weakR (List.sublist_cons_self _ _) ?_
        refine X.permH (H' := ⟨bt, 0, [.slice (some ⟨(env 6).1, 0, none⟩) (acc.length + 1) (env 6).2], some 24, 1⟩ :: ⟨(env 6).1, 0, (acc ++ [e]).flatMap cDr, some 29, (env 6).2 * 4⟩ :: H0) (List.Perm.swap _ _ _) ?_
        clear hT
        repeat' (first | (refine XO.op rfl ?_; (first | ((first | refine Xo.ng rfl ?_); (first | (refine Xg.ev (EvF.loadV rfl rfl (LoadV.own (te rfl) rfl (List.Mem.tail _ (List.Mem.tail _ mg)) rfl)) rfl rfl ?_) | (refine Xg.call (EnF.dyn0 rfl rfl (by (repeat (first | exact Args.nil | refine Args.cons rfl ?_)); done)) rfl rfl (ih (i + 1) _ _ (acc ++ [e]) _ [⟨(env 6).1, 0, (acc ++ [e]).flatMap cDr, some 29, (env 6).2 * 4⟩] (by omega) (by omega) (by omega) (by omega) (.inr ⟨_, _, by rw [hle], rfl⟩)) ?_; rintro _ _ ⟨out', Z', (⟨r, hlr, rfl, hT'⟩ | ⟨hln, rfl, ⟨h0, _, _⟩ | ⟨b', q', rfl, rfl⟩⟩), rfl⟩; rotate_left; · exact absurd h0 (by simp)) | (refine Xg.ev (EvF.move rfl rfl) rfl rfl ?_) | (refine Xg.ev (EvF.assign rfl rfl) rfl rfl ?_) | (refine Xg.ev (EvF.add64 rfl rfl rfl (by omega) (by omega)) rfl rfl ?_) | (refine Xg.ev (EvF.sub64 rfl rfl rfl (by omega) (by omega)) rfl rfl ?_) | (refine Xg.ev (EvF.lenSlice rfl rfl (te rfl)) rfl rfl ?_) | (refine Xg.ev (EvF.loadV rfl rfl (LoadV.own (te rfl) rfl (List.Mem.head _) rfl)) rfl rfl ?_))))) | (refine XO.done rfl ?_; refine hK _ _ ?_; clear hK K) | refine X.seq rfl ?_ | refine X.region rfl (fun K hK => ?_) | refine X.skip rfl ?_ | refine X.ret rfl ?_ | (refine X.ite rfl rfl (fun hc => ?_); (first | (with_reducible refine Xb.t hc ?_) | (with_reducible refine Xb.f hc ?_)) <;> clear hc))
        · refine XO.reveal (q := 1) rfl (fun rest hrest => ?_)
          have hcap : (acc ++ [e]).length ≤ q' := by
            rw [List.length_append, lenDr] at hrest
            omega
          refine XO.forget (q := 1) (cs := acc.flatMap cDr) (cs' := cDr e ++ rest) (by show some (⟨b', 0, (acc ++ [e]).flatMap cDr ++ rest, some 29, q' * 4⟩ : Row) = _; rw [← hfm, List.append_assoc]; rfl) ?_
          dsimp only [List.set, List.cons_append, List.nil_append]
          repeat' (first | (refine XO.op rfl ?_; (first | ((first | refine Xo.ng rfl ?_); (first | (refine Xg.ev (EvF.sliceTo (hh := acc.length) rfl rfl (te rfl) (te rfl) (congrArg (fun z => some (Value.int .i64 z)) (by omega : (((acc ++ [e]).length : Nat) : Int) - 1 = (acc.length : Int))) (by omega)) rfl rfl ?_) | (refine Xg.ev (EvF.move rfl rfl) rfl rfl ?_) | (refine Xg.ev (EvF.assign rfl rfl) rfl rfl ?_) | (refine Xg.ev (EvF.add64 rfl rfl rfl (by omega) (by omega)) rfl rfl ?_) | (refine Xg.st0 (StF.storeOne (i := 0) rfl rfl rfl rfl (te rfl) rfl rfl (Nat.le_of_ble_eq_true rfl)) rfl ?_; rintro _ _ ⟨rfl, rfl⟩; dsimp only [List.set]))))) | (refine XO.done rfl ?_; refine hK _ _ ?_; clear hK K) | refine X.region rfl (fun K hK => ?_))
          refine ⟨_, _, _, (by (repeat (first | exact Sub.nil _ | refine Sub.cons rfl ?_)); done), List.Sublist.refl _, ⟨i + 1, _, [⟨b', 0, acc.flatMap cDr, some 29, q' * 4⟩], rfl, by omega, .inr ⟨b', q', rfl, rfl⟩, ?_, rfl, rfl⟩, by omega⟩
          rw [hlon, drop_cons he]
          simp only [lon, hln]
        · refine ret_one (by first | exact .inr rfl | exact .inl rfl) Try.results70 rfl (H' := _) (List.Sublist.refl _) ⟨out', Z', .inl ⟨r, ?_, rfl, hT'⟩, rfl⟩
          rw [hlon, drop_cons he]
          simp only [lon, hlr]
    · refine ret_one (by first | exact .inr rfl | exact .inl rfl) Try.results70 rfl (H' := _) (List.Sublist.refl _) ⟨out, Z, .inr ⟨?_, rfl, hT⟩, rfl⟩
      rw [hlon]
      exact lon_short ok _ _ _ (by rw [List.length_drop]; omega)
def TrvWg (l : List Dr) (out : Value) (Z : List Row) : Prop := (l = [] ∧ out = .slice none 0 0 ∧ Z = []) ∨ ∃ b q, out = .slice (some ⟨b, 0, none⟩) l.length q ∧ Z = [⟨b, 0, l.flatMap cDr, some 31, q * 4⟩]
theorem TrvWg.sl {l : List Dr} {out : Value} {Z H : List Row} (h : TrvWg l out Z) : ∃ a c, out = .slice a l.length c ∧ SlE (Z ++ H) a cDr 4 l := by
  rcases h with ⟨rfl, rfl, rfl⟩ | ⟨b, q, rfl, rfl⟩
  · exact ⟨none, 0, rfl, sleNil⟩
  · exact ⟨_, _, rfl, SlE.ofRow (List.Mem.head _) (fun _ _ => rfl)⟩
def val70Wg (out : Value) (lb lo n c : Nat) (ll : Nat) (i : Nat) (e : Dr) (k : Nat) (env : Env) : Value :=
  match k with
  | 0 => out
  | 1 => .slice (some ⟨lb, lo, none⟩) ll c
  | 2 => .int .i64 i
  | 3 => .pointer (some ⟨lb, lo + i * 4, none⟩)
  | 4 => .agg (cDr e).toArray
  | 5 => .slice (some ⟨(env 5).1, 0, none⟩) 1 1
  | 6 => .slice (some ⟨(env 6).1, 0, none⟩) (n + 1) (env 6).2
  | _ => undef
def rows70Wg (bt : Nat) (out : Value) (Z : List Row) (acc : List Dr) (e : Dr) (k : Nat) (env : Env) : List Row :=
  match k with
  | 5 => [⟨(env 5).1, 0, cDr e, some 31, 1 * 4⟩]
  | 6 => [⟨(env 6).1, 0, acc.flatMap cDr ++ cDr e, some 31, (env 6).2 * 4⟩]
  | 7 => [⟨bt, 0, [.slice (some ⟨(env 6).1, 0, none⟩) (acc.length + 1) (env 6).2], some 25, 1⟩]
  | 8 => [⟨bt, 0, [out], some 25, 1⟩]
  | 9 => Z
  | _ => []
theorem loc70Wg (bt : Nat) (out : Value) (Z : List Row) (acc : List Dr) (lb lo c ll j : Nat) (e : Dr) : ∀ k env i q9, i ≠ k → (tAt ts70 k).sup.contains i = false → val70Wg out lb lo acc.length c ll j e k (upd env i q9) = val70Wg out lb lo acc.length c ll j e k env ∧ rows70Wg bt out Z acc e k (upd env i q9) = rows70Wg bt out Z acc e k env := by
  intro k env i q hk hs
  have hu : ∀ j, j ≠ i → upd env i q j = env j := fun j hj => by unfold upd; rw [if_neg hj]
  match k, hk, hs with
  | 0, _, _ => exact ⟨rfl, rfl⟩
  | 1, _, _ => exact ⟨rfl, rfl⟩
  | 2, _, _ => exact ⟨rfl, rfl⟩
  | 3, _, _ => exact ⟨rfl, rfl⟩
  | 4, _, _ => exact ⟨rfl, rfl⟩
  | 5, hk, hs => exact ⟨by simp only [val70Wg, hu 5 (fun e => hk e.symm)], by simp only [rows70Wg, hu 5 (fun e => hk e.symm)]⟩
  | 6, hk, hs => exact ⟨by simp only [val70Wg, hu 6 (fun e => hk e.symm)], by simp only [rows70Wg, hu 6 (fun e => hk e.symm)]⟩
  | 7, hk, hs => exact ⟨by simp only [val70Wg, hu 6 (by rintro rfl; cases hs)], by simp only [rows70Wg, hu 6 (by rintro rfl; cases hs)]⟩
  | 8, _, _ => exact ⟨rfl, rfl⟩
  | 9, _, _ => exact ⟨rfl, rfl⟩
  | _ + 10, _, _ => exact ⟨rfl, rfl⟩
set_option maxHeartbeats 8000000 in
theorem longer_specWg (ok : List Dr → Bool) (l : List Dr) (a : Option Addr) (c g : Nat) (cap : List Value) (bt br bl bg : Nat) (w1 w2 w3 : Option Kd) (k1 k2 k3 : Nat) (H0 : List Row) (hl : SlE H0 a cDr 4 l) (hb : l.length ≤ 1000000)
    (mr : ⟨br, 0, [.func (.func g) #[] cap.toArray], w1, k1⟩ ∈ H0) (ml : ⟨bl, 0, [.slice a l.length c], w2, k2⟩ ∈ H0) (mg : ⟨bg, 0, [.func (.func 75) #[] #[.pointer (some ⟨br, 0, none⟩), .pointer (some ⟨bt, 0, none⟩), .pointer (some ⟨bl, 0, none⟩), .pointer (some ⟨bg, 0, none⟩)]], w3, k3⟩ ∈ H0)
    (hr : ∀ acc a' c' H', (∀ r ∈ H0, r ∈ H') → SlE H' a' cDr 4 acc → acc.length ≤ 1000000 → Fc Try.prog g ([.slice a' acc.length c'] ++ cap) H' (fun v H'' => v = .bool (ok acc) ∧ H'' = H')) :
    ∀ (m f0 : Nat) (mi fi : Int) (acc : List Dr) (out : Value) (Z : List Row), mi = m → fi = f0 → f0 ≤ l.length → acc.length + m ≤ 1000000 → TrvWg acc out Z →
    Fc Try.prog 75 ([.int .i64 fi, .int .i64 mi] ++ [.pointer (some ⟨br, 0, none⟩), .pointer (some ⟨bt, 0, none⟩), .pointer (some ⟨bl, 0, none⟩), .pointer (some ⟨bg, 0, none⟩)]) (⟨bt, 0, [out], some 25, 1⟩ :: (Z ++ H0))
      (fun v H' => ∃ out' Z', ((∃ r, lon ok (l.drop f0) m acc = some r ∧ v = .bool true ∧ TrvWg r out' Z') ∨ (lon ok (l.drop f0) m acc = none ∧ v = .bool false ∧ TrvWg acc out' Z')) ∧ H' = ⟨bt, 0, [out'], some 25, 1⟩ :: (Z' ++ H0)) := by
  intro m
  induction m with
  | zero =>
    intro f0 mi fi acc out Z hmi hfi hfr hacc hT
    subst hmi
    obtain ⟨a', c', rfl, hs⟩ := hT.sl (H := H0)
    show Fc Try.prog 75 [.int .i64 fi, .int .i64 ((0 : Nat) : Int), .pointer (some ⟨br, 0, none⟩), .pointer (some ⟨bt, 0, none⟩), .pointer (some ⟨bl, 0, none⟩), .pointer (some ⟨bg, 0, none⟩)] _ _
    refine Fc.mk (callable Try.call75) Try.func75 rfl Try.ntmps75 rfl ?_; dsimp only [fr]
    repeat' (first | (refine XO.op rfl ?_; (first | ((first | refine Xo.ng rfl ?_); (first | (refine Xg.ev (EvF.loadV rfl rfl (LoadV.own (te rfl) rfl (List.Mem.tail _ (List.mem_append_right _ mr)) rfl)) rfl rfl ?_) | (refine Xg.call (EnF.dyn0 rfl rfl (by (repeat (first | exact Args.nil | refine Args.cons rfl ?_)); done)) rfl rfl (hr acc a' c' _ (fun _ h => List.Mem.tail _ (List.mem_append_right _ h)) (hs.sub (fun _ h => List.Mem.tail _ h)) (by omega)) ?_; rintro _ H9 ⟨rfl, hH9⟩; subst H9) | (refine Xg.ev (EvF.move rfl rfl) rfl rfl ?_) | (refine Xg.ev (EvF.assign rfl rfl) rfl rfl ?_) | (refine Xg.ev (EvF.cmp rfl rfl rfl rfl) rfl rfl ?_) | (refine Xg.ev (EvF.loadV rfl rfl (LoadV.own (te rfl) rfl (List.Mem.head _) rfl)) rfl rfl ?_))))) | (refine XO.done rfl ?_; refine hK _ _ ?_; clear hK K) | refine X.seq rfl ?_ | refine X.region rfl (fun K hK => ?_) | refine X.block rfl ?_ | refine X.skip rfl ?_ | refine X.ret rfl ?_ | (refine X.ite rfl rfl (fun hc => ?_); (first | (with_reducible refine Xb.case hc (fun h => ?_) (fun h => ?_))) <;> clear hc))
    · refine ret_one (by first | exact .inr rfl | exact .inl rfl) Try.results75 rfl (H' := _) (List.Sublist.refl _) ⟨_, Z, ?_, rfl⟩
      rw [lon_zero]
      by_cases hk : ok acc = true
      · exact .inl ⟨acc, by rw [if_pos hk], by rw [hk], hT⟩
      · exact .inr ⟨by rw [if_neg hk], by rw [Bool.eq_false_iff.2 hk], hT⟩
    · exfalso; omega
  | succ m ih =>
    intro f0 mi fi acc out Z hmi hfi hfr hacc hT
    subst hfi
    show Fc Try.prog 75 [.int .i64 (f0 : Int), .int .i64 mi, .pointer (some ⟨br, 0, none⟩), .pointer (some ⟨bt, 0, none⟩), .pointer (some ⟨bl, 0, none⟩), .pointer (some ⟨bg, 0, none⟩)] _ _
    refine Fc.mk (callable Try.call75) Try.func75 rfl Try.ntmps75 rfl ?_; dsimp only [fr]
    repeat' (first | (refine XO.op rfl ?_; (first | ((first | refine Xo.ng rfl ?_); (first | (refine Xg.ev (EvF.move rfl rfl) rfl rfl ?_) | (refine Xg.ev (EvF.assign rfl rfl) rfl rfl ?_) | (refine Xg.ev (EvF.cmp rfl rfl rfl rfl) rfl rfl ?_))))) | (refine XO.done rfl ?_; refine hK _ _ ?_; clear hK K) | refine X.seq rfl ?_ | refine X.region rfl (fun K hK => ?_) | refine X.block rfl ?_ | refine X.skip rfl ?_ | (refine X.ite rfl rfl (fun hc => ?_); (first | (with_reducible refine Xb.case hc (fun h => ?_) (fun h => ?_))) <;> clear hc))
    · exfalso; omega
    refine X.lp rfl (fun q F' H' => ∃ (i : Nat) (out : Value) (Z : List Row), q = l.length + 1 - i ∧ i ≤ l.length ∧ TrvWg acc out Z ∧ lon ok (l.drop f0) (m + 1) acc = lon ok (l.drop i) (m + 1) acc ∧ ⟨bt, 0, [out], some 25, 1⟩ :: (Z ++ H0) = H' ∧
        F' = [(1, .int .i64 mi), (2, .pointer (some ⟨br, 0, none⟩)), (3, .pointer (some ⟨bt, 0, none⟩)), (4, .pointer (some ⟨bl, 0, none⟩)), (5, .pointer (some ⟨bg, 0, none⟩)), (9, .int .i64 i)])
      (l.length + 1 - f0) [(1, .int .i64 mi), (2, .pointer (some ⟨br, 0, none⟩)), (3, .pointer (some ⟨bt, 0, none⟩)), (4, .pointer (some ⟨bl, 0, none⟩)), (5, .pointer (some ⟨bg, 0, none⟩)), (9, .int .i64 f0)] _ (by (repeat (first | exact Sub.nil _ | refine Sub.cons rfl ?_)); done) (List.Sublist.refl _) ⟨f0, out, Z, rfl, hfr, hT, rfl, rfl, rfl⟩ ?_
    clear hT
    rintro _ _ H2 ⟨i, out, Z, rfl, hi, hT, hlon, hH, rfl⟩
    subst hH
    repeat' (first | (refine XO.op rfl ?_; (first | ((first | refine Xo.ng rfl ?_); (first | (refine Xg.ev (EvF.loadV rfl rfl (LoadV.own (te rfl) rfl (List.Mem.tail _ (List.mem_append_right _ ml)) rfl)) rfl rfl ?_) | (refine Xg.ev (EvF.move rfl rfl) rfl rfl ?_) | (refine Xg.ev (EvF.assign rfl rfl) rfl rfl ?_) | (refine Xg.ev (EvF.cmp rfl rfl rfl rfl) rfl rfl ?_) | (refine Xg.ev (EvF.add64 rfl rfl rfl (by omega) (by omega)) rfl rfl ?_) | (refine Xg.ev (EvF.lenSlice rfl rfl (te rfl)) rfl rfl ?_))))) | (refine XO.done rfl ?_; refine hK _ _ ?_; clear hK K) | refine X.seq rfl ?_ | refine X.region rfl (fun K hK => ?_) | refine X.block rfl ?_ | (refine X.brk rfl ?_; first | refine blockX_hit rfl ?_ | skip) | refine X.skip rfl ?_ | refine X.ret rfl ?_ | (refine X.ite rfl rfl (fun hc => ?_); (first | (with_reducible refine Xb.case hc (fun h => ?_) (fun h => ?_))) <;> clear hc))
    · obtain ⟨lb, lo, e, rfl, he⟩ := hl.elem (i := i) (by omega)
      have hil := (List.getElem?_eq_some_iff.1 he).1
      have hle : (acc ++ [e]).length = acc.length + 1 := by rw [List.length_append]; rfl
      have hfm : acc.flatMap cDr ++ cDr e = (acc ++ [e]).flatMap cDr := by rw [List.flatMap_append, List.flatMap_singleton]
      have hal : (acc.flatMap cDr).length = acc.length * 4 := lenDr acc
      refine X.regionRd ts70 rd70 [3, 4, 9, 1, 2, 5] [(3, .pointer (some ⟨bt, 0, none⟩)), (4, .pointer (some ⟨bl, 0, none⟩)), (9, .int .i64 i), (1, .int .i64 mi), (2, .pointer (some ⟨br, 0, none⟩)), (5, .pointer (some ⟨bg, 0, none⟩))]
        (val70Wg out lb lo acc.length c l.length i e) (rows70Wg bt out Z acc e) (fun _ => (0, 0)) H0 rfl mixed (by (repeat (first | exact Sub.nil _ | refine Sub.cons rfl ?_)); done) rfl (by kernel_rfl) (by kernel_rfl) (loc70Wg bt out Z acc lb lo c l.length i e) (by show List.Sublist ((⟨bt, 0, [out], some 25, 1⟩ :: (Z ++ [])) ++ H0) _; rw [List.append_nil]; exact List.Sublist.refl _) ?_ ?_
      · repeat' (first | exact AllF.done rfl | (refine AllF.step rfl ?_ ?_; · (first | exact (Ob.ng rfl (ObK.pure (fun env R hR => by exact ⟨_, EvF.move rfl rfl, rfl⟩) rfl (fun _ => rfl))).toR | (refine ObR.ng rfl ?_; (first | (exact fun env S hS hrd => (StF.ofEv (EvF.loadV rfl rfl (LoadV.own (te rfl) rfl (hrd 8 (List.Mem.head _) _ (List.Mem.head _)) rfl))).op.mono (fun v H' ⟨hv, hH⟩ => ⟨(0, 0), fun _ => hv, by rw [hH]; exact List.Perm.refl _⟩)) | (exact fun env S hS hrd => (StF.ofEv (EvF.loadV rfl rfl (LoadV.own (te rfl) rfl (hS _ ml) rfl))).op.mono (fun v H' ⟨hv, hH⟩ => ⟨(0, 0), fun _ => hv, by rw [hH]; exact List.Perm.refl _⟩)) | ((refine fun env S hS hrd => (StF.ofEv (v := .pointer (some ⟨lb, lo + i * 4, none⟩)) ?_).op.mono (fun v H' ⟨hv, hH⟩ => ⟨(0, 0), fun _ => hv, by rw [hH]; exact List.Perm.refl _⟩); refine EvF.indexSlice (T := 25) (e := 31) (i := (i : Int)) (off := lo) (b := lb) (len := l.length) (ti := ⟨.st [(0, 3), (1, 3), (2, 23)], 4, 32⟩) rfl rfl rfl (te rfl) (te rfl) ?_ ?_ <;> omega)) | (exact fun env S hS hrd => (StF.ofEv (v := .agg (cDr e).toArray) (EvF.loadV rfl rfl (LoadV.elA0 (n := i) hl he (te rfl) rfl (fun _ h => hS _ h) rfl))).op.mono (fun v H' ⟨hv, hH⟩ => ⟨(0, 0), fun _ => hv, by rw [hH]; exact List.Perm.refl _⟩)) | (exact fun env S hS hrd => (StF.buildOne rfl elWg rfl rfl rfl (by decide) (by decide)).op.mono (fun v H' ⟨b, hv, hH⟩ => ⟨(b, 0), fun _ => hv, by rw [hH]; exact List.Perm.refl _⟩)) | (exact fun env S hS hrd => (StF.storeOne (i := 0) rfl rfl rfl rfl (te rfl) rfl rfl (Nat.le_of_ble_eq_true rfl)).op.mono (fun v H' ⟨hv, hH⟩ => ⟨(0, 0), fun h => absurd rfl h, by rw [hH]; exact List.Perm.refl _⟩)) | ((rcases hT with ⟨rfl, rfl, rfl⟩ | ⟨b, q, rfl, rfl⟩ <;> first | exact fun env S hS hrd => (StF.appendNew rfl elWg rfl rfl (by decide) rfl (Rd.own (hrd 5 (List.Mem.head _) _ (List.Mem.head _))) (by decide)).op.mono (fun v H' ⟨b, c, hv, hH⟩ => ⟨(b, c), fun _ => hv, by rw [hH]; exact List.Perm.refl _⟩) | exact fun env S hS hrd => (StF.appendOwn (i := 0) rfl elWg rfl rfl rfl hal rfl (Rd.own (List.Mem.tail _ (hrd 5 (List.Mem.head _) _ (List.Mem.head _)))) rfl (by omega)).op.mono (fun v H' ⟨b, c, hv, hH⟩ => ⟨(b, c), fun _ => hv, by rw [hH]; exact List.Perm.refl _⟩))))))))
      · intro env t ha hv
        refine ⟨_, ha, ?_⟩
        show X _ _ _ _ (⟨(env 5).1, 0, cDr e, some 31, 1 * 4⟩ :: ⟨(env 6).1, 0, acc.flatMap cDr ++ cDr e, some 31, (env 6).2 * 4⟩ :: ⟨bt, 0, [.slice (some ⟨(env 6).1, 0, none⟩) (acc.length + 1) (env 6).2], some 25, 1⟩ :: H0) _
        rw [hfm]
        refine X.weakR (List.sublist_cons_self _ _) ?_
        refine X.permH (H' := ⟨bt, 0, [.slice (some ⟨(env 6).1, 0, none⟩) (acc.length + 1) (env 6).2], some 25, 1⟩ :: ⟨(env 6).1, 0, (acc ++ [e]).flatMap cDr, some 31, (env 6).2 * 4⟩ :: H0) (List.Perm.swap _ _ _) ?_
        clear hT
        repeat' (first | (refine XO.op rfl ?_; (first | ((first | refine Xo.ng rfl ?_); (first | (refine Xg.ev (EvF.loadV rfl rfl (LoadV.own (te rfl) rfl (List.Mem.tail _ (List.Mem.tail _ mg)) rfl)) rfl rfl ?_) | (refine Xg.call (EnF.dyn0 rfl rfl (by (repeat (first | exact Args.nil | refine Args.cons rfl ?_)); done)) rfl rfl (ih (i + 1) _ _ (acc ++ [e]) _ [⟨(env 6).1, 0, (acc ++ [e]).flatMap cDr, some 31, (env 6).2 * 4⟩] (by omega) (by omega) (by omega) (by omega) (.inr ⟨_, _, by rw [hle], rfl⟩)) ?_; rintro _ _ ⟨out', Z', (⟨r, hlr, rfl, hT'⟩ | ⟨hln, rfl, ⟨h0, _, _⟩ | ⟨b', q', rfl, rfl⟩⟩), rfl⟩; rotate_left; · exact absurd h0 (by simp)) | (refine Xg.ev (EvF.move rfl rfl) rfl rfl ?_) | (refine Xg.ev (EvF.assign rfl rfl) rfl rfl ?_) | (refine Xg.ev (EvF.add64 rfl rfl rfl (by omega) (by omega)) rfl rfl ?_) | (refine Xg.ev (EvF.sub64 rfl rfl rfl (by omega) (by omega)) rfl rfl ?_) | (refine Xg.ev (EvF.lenSlice rfl rfl (te rfl)) rfl rfl ?_) | (refine Xg.ev (EvF.loadV rfl rfl (LoadV.own (te rfl) rfl (List.Mem.head _) rfl)) rfl rfl ?_))))) | (refine XO.done rfl ?_; refine hK _ _ ?_; clear hK K) | refine X.seq rfl ?_ | refine X.region rfl (fun K hK => ?_) | refine X.skip rfl ?_ | refine X.ret rfl ?_ | (refine X.ite rfl rfl (fun hc => ?_); (first | (with_reducible refine Xb.t hc ?_) | (with_reducible refine Xb.f hc ?_)) <;> clear hc))
        · refine XO.reveal (q := 1) rfl (fun rest hrest => ?_)
          have hcap : (acc ++ [e]).length ≤ q' := by
            rw [List.length_append, lenDr] at hrest
            omega
          refine XO.forget (q := 1) (cs := acc.flatMap cDr) (cs' := cDr e ++ rest) (by show some (⟨b', 0, (acc ++ [e]).flatMap cDr ++ rest, some 31, q' * 4⟩ : Row) = _; rw [← hfm, List.append_assoc]; rfl) ?_
          dsimp only [List.set, List.cons_append, List.nil_append]
          repeat' (first | (refine XO.op rfl ?_; (first | ((first | refine Xo.ng rfl ?_); (first | (refine Xg.ev (EvF.sliceTo (hh := acc.length) rfl rfl (te rfl) (te rfl) (congrArg (fun z => some (Value.int .i64 z)) (by omega : (((acc ++ [e]).length : Nat) : Int) - 1 = (acc.length : Int))) (by omega)) rfl rfl ?_) | (refine Xg.ev (EvF.move rfl rfl) rfl rfl ?_) | (refine Xg.ev (EvF.assign rfl rfl) rfl rfl ?_) | (refine Xg.ev (EvF.add64 rfl rfl rfl (by omega) (by omega)) rfl rfl ?_) | (refine Xg.st0 (StF.storeOne (i := 0) rfl rfl rfl rfl (te rfl) rfl rfl (Nat.le_of_ble_eq_true rfl)) rfl ?_; rintro _ _ ⟨rfl, rfl⟩; dsimp only [List.set]))))) | (refine XO.done rfl ?_; refine hK _ _ ?_; clear hK K) | refine X.region rfl (fun K hK => ?_))
          refine ⟨_, _, _, (by (repeat (first | exact Sub.nil _ | refine Sub.cons rfl ?_)); done), List.Sublist.refl _, ⟨i + 1, _, [⟨b', 0, acc.flatMap cDr, some 31, q' * 4⟩], rfl, by omega, .inr ⟨b', q', rfl, rfl⟩, ?_, rfl, rfl⟩, by omega⟩
          rw [hlon, drop_cons he]
          simp only [lon, hln]
        · refine ret_one (by first | exact .inr rfl | exact .inl rfl) Try.results75 rfl (H' := _) (List.Sublist.refl _) ⟨out', Z', .inl ⟨r, ?_, rfl, hT'⟩, rfl⟩
          rw [hlon, drop_cons he]
          simp only [lon, hlr]
    · refine ret_one (by first | exact .inr rfl | exact .inl rfl) Try.results75 rfl (H' := _) (List.Sublist.refl _) ⟨out, Z, .inr ⟨?_, rfl, hT⟩, rfl⟩
      rw [hlon]
      exact lon_short ok _ _ _ (by rw [List.length_drop]; omega)
end Go.Proofs.Ytoflnjgfikchjaa
end
section
set_option linter.unusedVariables false
namespace Go.Fw
open Go Go.RowKit Go.ChangeShapes Go.WideShapes Go.Deep
theorem flat_at {α : Type} {enc : α → List Value} {sz : Nat} : ∀ {l : List α}, (∀ e ∈ l, (enc e).length = sz) → ∀ (i : Nat) (e : α) (j : Nat) (v : Value), l[i]? = some e → (enc e)[j]? = some v → (l.flatMap enc)[i * sz + j]? = some v
  | [], _, i, e, j, v, hi, _ => by simp at hi
  | q :: l, hl, i, e, j, v, hi, hj => by
    rw [List.flatMap_cons, List.getElem?_append]
    have hq := hl q (List.mem_cons_self ..)
    cases i with
    | zero =>
      simp only [List.getElem?_cons_zero, Option.some.injEq] at hi
      subst hi
      rw [if_pos (by have := (List.getElem?_eq_some_iff.1 hj).1; omega)]
      simpa using hj
    | succ i =>
      rw [if_neg (by rw [hq, Nat.add_mul]; omega), hq, show (i + 1) * sz + j - sz = i * sz + j by rw [Nat.add_mul]; omega]
      exact flat_at (fun e he => hl e (List.mem_cons_of_mem _ he)) i e j v (by simpa using hi) hj
section
variable {H : Type} {enc : TypeId × Value → H} {P : Program} {w : World} {base : Nat} {spare : Nat → Bool} {held : Bool}
theorem cellsOf_ti {T : TypeId} {ti : TI} (h : tiOf P T = some ti) : P.cellsOf T = ti.size := by
  obtain ⟨i, d, hi, _, _, hs, _⟩ := ti_spec h
  simp [Program.cellsOf, hi, hs]
theorem trod_st {T : TypeId} {fs : List (Nat × TypeId)} {s y fuel : Nat} {cs : List Value} {x : DataW H × List MemPlace} (hT : tiOf P T = some ⟨.st fs, s, y⟩) (h : DataW.trod enc P w base spare held fuel T cs = some x) :
    cs.length = s ∧ ∀ (i o F : Nat) (ti : TI), fs[i]? = some (o, F) → tiOf P F = some ti → ∃ n x', DataW.trod enc P w base spare held n F ((cs.drop o).take ti.size) = some x' := by
  obtain ⟨fa, hu, hm⟩ := ti_struct hT
  obtain ⟨xs, n, _, _, hl, hxl, hf⟩ := DataW.trod_struct hu h
  refine ⟨by rw [hl, cellsOf_ti hT], fun i o F ti hi hF => ?_⟩
  rw [← hm] at hi
  simp only [List.getElem?_map, Option.map_eq_some_iff] at hi
  obtain ⟨f, h1, h2⟩ := hi
  simp only [Prod.mk.injEq] at h2
  obtain ⟨rfl, rfl⟩ := h2
  have h3 := hf i f (by simpa using h1)
  rw [cellsOf_ti hF] at h3
  have hlt : i < xs.length := by
    have := (List.getElem?_eq_some_iff.1 h1).1
    rw [hxl]; simpa using this
  exact ⟨n, xs[i], by rw [h3, List.getElem?_eq_getElem hlt]⟩
theorem trod_i {T : TypeId} {k : IntKind} {s y fuel : Nat} {cs : List Value} {x : DataW H × List MemPlace} (hT : tiOf P T = some ⟨.int k, s, y⟩) (h : DataW.trod enc P w base spare held fuel T cs = some x) : ∃ n, cs = [.int k n] ∧ (Lit.int k n).wf = true := by
  obtain ⟨i, d, _, hd, hk, _, _⟩ := ti_spec hT
  cases d <;> simp only [tkOf, reduceCtorEq, TK.int.injEq] at hk
  subst hk
  obtain ⟨n, h1, _, h2⟩ := DataW.trod_int hd h
  exact ⟨n, h1, h2⟩
/-- What is known of a slice that came in. -/
def InSl {α : Type} (w : World) (a : Option Addr) (e : α → List Value) (sz : Nat) (l : List α) : Prop :=
  (∀ q ∈ l, (e q).length = sz) ∧ l.length ≤ maxLen ∧ (0 < l.length → ∃ b off, a = some ⟨b, off, none⟩ ∧ b < w.heap.size ∧ ∀ i q j v, l[i]? = some q → (e q)[j]? = some v → w.cell? ⟨b, off + (i * sz + j), none⟩ = some v)
theorem open_sl {α : Type} [Inhabited α] {e : α → List Value} {ok : α → Prop} {T E sz s y : Nat} {ti : TI} {fuel : Nat} {v : Value} {x : DataW H × List MemPlace} (hT : tiOf P T = some ⟨.sl E, s, y⟩) (hE : tiOf P E = some ti) (hsz : ti.size = sz) (hpos : 0 < sz)
    (hel : ∀ n cs x, DataW.trod enc P w base spare held n E cs = some x → ∃ q : α, cs = e q ∧ ok q) (hlen : ∀ q, (e q).length = sz) (h : DataW.trod enc P w base spare held fuel T [v] = some x) :
    ∃ (l : List α) (a : Option Addr) (c : Nat), v = .slice a l.length c ∧ InSl w a e sz l ∧ (∀ q ∈ l, ok q) ∧ l.length ≤ c := by
  rcases open_slice (ti_slice hT) h with ⟨hc, _⟩ | ⟨a, len, cap, m, n, D, Pl, hcs, _, hl, hm, hmm, _, hi⟩
  · simp only [List.cons.injEq, and_true] at hc
    subst hc
    exact ⟨[], none, 0, rfl, ⟨by simp, by simp, by simp⟩, by simp, Nat.le_refl _⟩
  · simp only [List.cons.injEq, and_true] at hcs
    subst hcs
    have hlm : len ≤ m := by rw [hmm]; split <;> omega
    have hex : ∀ i, ∃ q : α, i < len → ok q ∧ w.cells? base (a.add (i * sz)) sz = some (e q) := by
      intro i
      by_cases hil : i < len
      · obtain ⟨cs', h1, h2⟩ := hi i (by omega)
        obtain ⟨q, rfl, hq⟩ := hel _ _ _ h2
        rw [cellsOf_ti hE, hsz] at h1
        exact ⟨q, fun _ => ⟨hq, h1⟩⟩
      · exact ⟨default, fun h => absurd h hil⟩
    let f : Nat → α := fun i => Classical.choose (hex i)
    have hf : ∀ i, i < len → ok (f i) ∧ w.cells? base (a.add (i * sz)) sz = some (e (f i)) := fun i => Classical.choose_spec (hex i)
    refine ⟨(List.range len).map f, some a, cap, by simp, ⟨fun q _ => hlen q, by simp; omega, fun hp => ?_⟩, ?_, by simp; omega⟩
    · simp only [List.length_map, List.length_range] at hp
      have h0 := (hf 0 hp).2
      obtain ⟨_, _, hat⟩ := World.cells?_some h0
      have hc0 := hat 0 hpos
      have hv0 : (e (f 0))[0]? = some ((e (f 0))[0]'(by rw [hlen]; exact hpos)) := List.getElem?_eq_getElem _
      rw [hv0, Nat.zero_mul] at hc0
      have hadd : ((a.add 0).add 0) = a := rfl
      rw [hadd] at hc0
      obtain ⟨b, off, sp⟩ := a
      have hsp : sp = none := by
        cases sp with
        | none => rfl
        | some q => unfold World.cell? at hc0; simp only at hc0; split at hc0 <;> simp at hc0
      subst hsp
      refine ⟨b, off, rfl, World.block_lt_of_cell? _ _ hc0, fun i q j v hq hj => ?_⟩
      have hil : i < len := by have := (List.getElem?_eq_some_iff.1 hq).1; simpa using this
      have hqe : f i = q := by
        rw [List.getElem?_map, List.getElem?_range hil] at hq
        simpa using hq
      obtain ⟨_, _, hat⟩ := World.cells?_some (hf i hil).2
      have hjl : j < sz := by have := (List.getElem?_eq_some_iff.1 hj).1; rw [hlen] at this; exact this
      have := hat j hjl
      rw [hqe, hj, add_none, add_none, Nat.add_assoc] at this
      exact this
    · intro q hq
      obtain ⟨i, hi, rfl⟩ := List.mem_map.1 hq
      exact (hf i (List.mem_range.1 hi)).1
end
/-- the row of a slice that came in -/
def rowsOf {α : Type} (a : Option Addr) (e : α → List Value) (l : List α) : List Row :=
  match a, l with
  | some ⟨b, off, _⟩, _ :: _ => [⟨b, off, l.flatMap e, none, 0⟩]
  | _, _ => []
theorem InSl.ok {α : Type} {w : World} {a : Option Addr} {e : α → List Value} {sz B : Nat} {l : List α} (h : InSl w a e sz l) : ∀ r ∈ rowsOf a e l, r.own = none ∧ r.ok B w := by
  intro r hr
  cases l with
  | nil => cases a with | none => cases hr | some a => cases hr
  | cons q l =>
    obtain ⟨b, off, rfl, hb, hc⟩ := h.2.2 (by simp)
    simp only [rowsOf, List.mem_singleton] at hr
    subst hr
    refine ⟨rfl, hb, fun j v hj => ?_⟩
    obtain ⟨i, q', k, rfl, hi, hk⟩ := flat_get h.1 hj
    exact hc i q' k v hi hk
theorem InSl.sl {α : Type} {w : World} {a : Option Addr} {e : α → List Value} {sz : Nat} {l : List α} {H : List Row} (h : InSl w a e sz l) (hs : ∀ r ∈ rowsOf a e l, r ∈ H) : SlE H a e sz l := by
  refine ⟨h.1, fun hp => ?_⟩
  obtain ⟨b, off, rfl, _, _⟩ := h.2.2 hp
  cases l with
  | nil => simp at hp
  | cons q l =>
    refine ⟨b, off, rfl, _, 0, hs _ (List.mem_singleton.2 rfl), rfl, rfl, fun i q' j v hi hj => ?_⟩
    rw [Nat.zero_add]
    exact flat_at h.1 i q' j v hi hj
/-- the start: only what came in is known -/
theorem St.start {w : World} {H : List Row} (h : ∀ r ∈ H, r.own = none ∧ r.ok w.heap.size w) : St w.heap.size w H w := by
  refine ⟨Below.refl _ _, Nat.le_refl _, fun r hr => (h r hr).2, ?_⟩
  rw [List.pairwise_iff_getElem]
  intro i j hi hj _ ho
  have h1 := (h _ (List.getElem_mem hi)).1
  have h2 := (h _ (List.getElem_mem hj)).1
  rw [h1, h2] at ho
  simp at ho
/-- from a contract to the call in a world -/
theorem Fc.calls {P : Program} {f : FuncId} {args : List Value} {H : List Row} {v : Value} {w : World} (h : Fc P f args H (fun u _ => u = v)) (hH : ∀ r ∈ H, r.own = none ∧ r.ok w.heap.size w) :
    Calls P f args.toArray w fun e w' => e = .returned v ∧ Below w.heap.size w w' := by
  unfold Fc at h
  refine (h.2 _ _ _ (St.start hH)).mono ?_
  rintro e w' ⟨u, H', rfl, rfl, hS⟩
  exact ⟨rfl, hS.below⟩
end Go.Fw
end
section
set_option linter.unusedVariables false
set_option linter.unusedSimpArgs false
namespace Go.Proofs.Ytoflnjgfikchjaa
open Go Go.Fw
set_option maxRecDepth 10000
/-- a press at work: the bale, and the grades that its draws leave each layer -/
def cPr (B : Bl) (p : Pb) (g : List Sp) : List Value := cBl B p ++ g.flatMap cSp
theorem lenSp (g : List Sp) : (g.flatMap cSp).length = g.length * 2 := flat_len (fun _ _ => rfl)
theorem lenPr {B : Bl} {p : Pb} {g : List Sp} (h : g.length = 5) : (cPr B p g).length = 16 := by
  unfold cPr; rw [List.length_append, lenSp, h]; rfl
theorem onePr (B : Bl) (p : Pb) (g : List Sp) : (cPr B p g).all (·.oneCell') = true := by
  unfold cPr
  rw [List.all_append, oneBl, Bool.true_and, List.all_eq_true]
  intro v hv
  obtain ⟨e, _, he⟩ := List.mem_flatMap.1 hv
  exact List.all_eq_true.1 (one_sp e) v he
theorem getPr {B : Bl} {p : Pb} {g : List Sp} {i j : Nat} {s : Sp} {v : Value} (h : g[i]? = some s) (hj : (cSp s)[j]? = some v) : (cPr B p g)[6 + i * 2 + j]? = some v := by
  unfold cPr
  have h6 : (cBl B p).length = 6 := rfl
  rw [List.getElem?_append_right (by omega), h6, show 6 + i * 2 + j - 6 = i * 2 + j by omega]
  exact flat_at (enc := cSp) (sz := 2) (fun _ _ => rfl) i s j v h hj
theorem set_flat : ∀ (g : List Sp) (i : Nat) (a b : Int), i < g.length → ((g.flatMap cSp).set (i * 2) (.int .i64 a)).set (i * 2 + 1) (.int .i64 b) = (g.set i ⟨a, b⟩).flatMap cSp
  | [], i, a, b, h => by simp at h
  | s :: g, 0, a, b, _ => rfl
  | s :: g, i + 1, a, b, h => by
    have ih := set_flat g i a b (by simpa using h)
    have e1 : (i + 1) * 2 = i * 2 + 2 := by omega
    rw [List.flatMap_cons, List.set_cons_succ, List.flatMap_cons, ← ih, e1]
    rfl
theorem setPr {B : Bl} {p : Pb} {g : List Sp} {i : Nat} {a b : Int} (h : i < g.length) : ((cPr B p g).set (6 + i * 2) (.int .i64 a)).set (6 + i * 2 + 1) (.int .i64 b) = cPr B p (g.set i ⟨a, b⟩) := by
  unfold cPr
  have h6 : (cBl B p).length = 6 := rfl
  rw [← set_flat g i a b h, List.set_append_right _ _ (by omega), List.set_append_right _ _ (by omega), h6, show 6 + i * 2 - 6 = i * 2 by omega, show 6 + i * 2 + 1 - 6 = i * 2 + 1 by omega]
theorem splicePr {B : Bl} {p : Pb} {g : List Sp} {i : Nat} {s : Sp} (h : i < g.length) : splice (cPr B p g) (6 + i * 2) (cSp s) = cPr B p (g.set i s) := by
  have hl : 6 + i * 2 + 1 < (cPr B p g).length := by unfold cPr; rw [List.length_append, lenSp]; show _ < 6 + _; omega
  have := setPr (B := B) (p := p) (a := s.lo) (b := s.hi) h
  rw [← this]
  show splice _ _ [.int .i64 s.lo, .int .i64 s.hi] = _
  rw [← splice_cons (by simp; omega), ← splice_cons (by simp; omega), splice_nil]
theorem StF.storePr {n bp j k : Nat} {F : FS} {o : Oper} {a x : Operand} {B : Bl} {p : Pb} {g : List Sp} {s : Sp} {H0 : List Row} (h : o.op = .store 23 a x) (hx : evF F a = some (.pointer (some ⟨bp, j, none⟩))) (hv : evF F x = some (.agg (cSp s).toArray)) (hg : g.length = 5) (hk : k < 5) (hj : j = 6 + k * 2) :
    StF Try.prog n (⟨bp, 0, cPr B p g, some 75, 16⟩ :: H0) F o (fun u H' => u = undef ∧ H' = ⟨bp, 0, cPr B p (g.set k s), some 75, 16⟩ :: H0) := by
  subst hj
  have := StF.storeAt (P := Try.prog) (n := n) (q := 0) (H := ⟨bp, 0, cPr B p g, some 75, 16⟩ :: H0) h hx hv (te rfl) rfl rfl rfl (by rw [lenPr hg]; show 6 + k * 2 + 2 ≤ 16; omega)
  rw [splicePr (by omega)] at this
  exact this
def Bz : Bl := ⟨0, 0, 0, 0, [], []⟩
def pzb : Pb := ⟨none, 0, none, 0⟩
def initG (n : Nat) : List Sp := List.replicate n ⟨1, 9⟩ ++ List.replicate (5 - n) ⟨0, 0⟩
theorem initG_len {n : Nat} (h : n ≤ 5) : (initG n).length = 5 := by unfold initG; simp; omega
theorem initG_set {n : Nat} (h : n < 5) : (initG n).set n ⟨1, 9⟩ = initG (n + 1) := by
  match n, h with
  | 0, _ => rfl
  | 1, _ => rfl
  | 2, _ => rfl
  | 3, _ => rfl
  | 4, _ => rfl
def spAt (g : List Sp) (i : Nat) : Sp := g.getD i ⟨0, 0⟩
theorem spAt_get {g : List Sp} {i : Nat} (h : i < g.length) : g[i]? = some (spAt g i) := by simp [spAt, List.getD, List.getElem?_eq_getElem h]
def stepG (g : List Sp) (x : Dr) : List Sp := g.set x.val.toNat ⟨max (spAt g x.val.toNat).lo x.lo, min (spAt g x.val.toNat).hi x.hi⟩
theorem stepG_len (g : List Sp) (x : Dr) : (stepG g x).length = g.length := by unfold stepG; simp
theorem foldG_len (l : List Dr) (g : List Sp) : (l.foldl stepG g).length = g.length := by
  induction l generalizing g with
  | nil => rfl
  | cons x l ih => rw [List.foldl_cons, ih, stepG_len]
def gradesOf (B : Bl) : List Sp := B.draws.foldl stepG (initG B.layers.toNat)
def ts11 : List TOp := [⟨some 33, [], [], []⟩, ⟨some 34, [], [], []⟩, ⟨some 35, [], [], []⟩, ⟨some 36, [2], [2], []⟩, ⟨some 37, [2, 3], [3], []⟩, ⟨some 38, [2, 3, 4], [4], []⟩, ⟨some 39, [], [], []⟩, ⟨some 40, [6], [6], []⟩, ⟨some 41, [6, 7], [7], []⟩, ⟨some 42, [2, 3, 4, 5, 6, 7, 8], [5, 8], []⟩, ⟨some 43, [], [], []⟩, ⟨some 44, [10], [10], []⟩, ⟨some 45, [10, 11], [11], []⟩, ⟨some 46, [10, 11, 12], [12], []⟩, ⟨some 47, [], [], []⟩, ⟨some 48, [14], [14], []⟩, ⟨some 49, [14, 15], [15], []⟩, ⟨some 50, [10, 11, 12, 13, 14, 15, 16], [13, 16], []⟩, ⟨some 51, [0, 2, 3, 4, 5, 6, 7, 8, 9, 10, 11, 12, 13], [0], []⟩, ⟨some 52, [0, 2, 3, 4, 5, 6, 7, 8, 9, 10, 11, 12, 13, 18], [18], []⟩, ⟨none, [0, 2, 3, 4, 5, 6, 7, 8, 9, 10, 11, 12, 13, 18, 19], [19, 9], [24]⟩, ⟨some 53, [0, 1, 2, 3, 4, 5, 6, 7, 8, 9, 10, 11, 12, 13, 14, 15, 16, 17, 18, 19, 20], [1], []⟩, ⟨some 54, [0, 1, 2, 3, 4, 5, 6, 7, 8, 9, 10, 11, 12, 13, 14, 15, 16, 17, 18, 19, 20, 21], [21], []⟩, ⟨none, [0, 1, 2, 3, 4, 5, 6, 7, 8, 9, 10, 11, 12, 13, 14, 15, 16, 17, 18, 19, 20, 21, 22], [22, 17], [20]⟩, ⟨none, [], [], []⟩]
def rd11 (k : Nat) : List Nat := match k with
  | 5 => [24]
  | 13 => [24]
  | _ => []
def rows11 (bp : Nat) (B : Bl) (p : Pb) (g : List Sp) (i : Nat) (a b : Int) (k : Nat) (_ : Env) : List Row :=
  match k with
  | 20 => [⟨bp, 0, (cPr B p g).set (6 + i * 2) (.int .i64 a), some 75, 16⟩]
  | 23 => [⟨bp, 0, cPr B p (g.set i ⟨a, b⟩), some 75, 16⟩]
  | 24 => [⟨bp, 0, cPr B p g, some 75, 16⟩]
  | _ => []
set_option maxHeartbeats 4000000 in
theorem pressed_spec (B : Bl) (p : Pb) (H : List Row) (h5 : 1 ≤ B.layers ∧ B.layers ≤ 5) (hd : ∀ x ∈ B.draws, 0 ≤ x.val ∧ x.val < 5) (hB : BlOk H B p) : Fc Try.prog 41 [.agg (cBl B p).toArray] H (fun v H' => v = .agg (cPr B p (gradesOf B)).toArray ∧ H' = H) := by
  have hB3 : ∀ r1 r2 r3, BlOk (r1 :: r2 :: r3 :: H) B p := fun r1 r2 r3 => hB.sub (fun _ h => List.Mem.tail _ (List.Mem.tail _ (List.Mem.tail _ h)))
  have l1 := hB.l1
  obtain ⟨a1, c1, a2, c2⟩ := p
  refine Fc.mk (callable Try.call41) Try.func41 rfl Try.ntmps41 rfl ?_; dsimp only [fr]
  repeat' (first | (refine XO.op rfl ?_; (first | ((first | refine Xo.ng rfl ?_); (first | (refine Xg.ev (EvF.build (cs := cPr B ⟨a1, c1, a2, c2⟩ (initG 0)) rfl (ArgsP.cons rfl ArgsP.nil) (te rfl) (Places.cons (te rfl) (Places.cons (te rfl) Places.nil)) Try.zeroValue75 rfl) rfl rfl ?_) | (refine Xg.ev (EvF.move rfl rfl) rfl rfl ?_) | (refine Xg.ev (EvF.fieldAddr rfl rfl (te rfl) rfl (te rfl) (by decide)) rfl rfl ?_) | (refine Xg.ev (EvF.loadV rfl rfl (LoadV.own (te rfl) rfl (List.Mem.head _) rfl)) rfl rfl ?_) | (refine Xg.ev (EvF.loadV rfl rfl (LoadV.whole (te rfl) rfl (List.Mem.tail _ (List.Mem.head _)) rfl)) rfl rfl ?_) | (refine Xg.st (StF.boxAgg rfl rfl) rfl rfl ?_; rintro _ _ ⟨bx, rfl, rfl⟩) | (refine Xg.st (StF.alloc rfl Try.zeroValue75 rfl) rfl rfl ?_; rintro _ _ ⟨bx, rfl, rfl⟩) | (refine Xg.st0 (StF.storeAll (i := 0) rfl rfl rfl (te rfl) rfl rfl rfl rfl) rfl ?_; rintro _ _ ⟨rfl, rfl⟩; dsimp only [List.set]))))) | (refine XO.done rfl ?_; refine hK _ _ ?_; clear hK K) | refine X.seq rfl ?_ | refine X.region rfl (fun K hK => ?_) | refine X.block rfl ?_)
  rename_i b1 b2; rename Nat => bp
  have hn5 : B.layers.toNat ≤ 5 := by omega
  refine X.lp rfl (fun m F' H' => ∃ k : Nat, m = B.layers.toNat - k ∧ k ≤ B.layers.toNat ∧ H' = ⟨bp, 0, cPr B ⟨a1, c1, a2, c2⟩ (initG k), some 75, 16⟩ :: ⟨b2, 0, cPr Bz pzb (initG 0), some 75, 16⟩ :: ⟨b1, 0, cBl B ⟨a1, c1, a2, c2⟩, some 27, 6⟩ :: H ∧
      F' = [(2, .pointer (some ⟨b2, 0, none⟩)), (3, .pointer (some ⟨bp, 0, none⟩)), (12, .int .i64 B.layers), (13, .int .i64 k)])
    B.layers.toNat [(2, .pointer (some ⟨b2, 0, none⟩)), (3, .pointer (some ⟨bp, 0, none⟩)), (12, .int .i64 B.layers), (13, .int .i64 (0 : Nat))] _ (by (repeat (first | exact Sub.nil _ | refine Sub.cons rfl ?_)); done) (List.Sublist.refl _) ⟨0, by omega, by omega, rfl, rfl⟩ ?_
  rintro _ _ _ ⟨k, rfl, hk, rfl, rfl⟩
  repeat' (first | (refine XO.op rfl ?_; (first | ((first | refine Xo.ng rfl ?_); (first | (refine Xg.ev (EvF.build (cs := cSp ⟨1, 9⟩) rfl (ArgsP.cons rfl (ArgsP.cons rfl ArgsP.nil)) (te rfl) (Places.cons (te rfl) (Places.cons (te rfl) Places.nil)) Try.zeroValue23 rfl) rfl rfl ?_) | (refine Xg.ev (EvF.indexArray rfl rfl rfl (te rfl) (te rfl) (by omega) (by omega)) rfl rfl ?_) | (refine Xg.st0 (StF.storePr (k := k) (s := ⟨1, 9⟩) rfl rfl rfl (initG_len (by omega)) (by omega) rfl) rfl ?_; rintro _ _ ⟨rfl, rfl⟩) | (refine Xg.ev (EvF.move rfl rfl) rfl rfl ?_) | (refine Xg.ev (EvF.assign rfl rfl) rfl rfl ?_) | (refine Xg.ev (EvF.cmp rfl rfl rfl rfl) rfl rfl ?_) | (refine Xg.ev (EvF.add64 rfl rfl rfl (by omega) (by omega)) rfl rfl ?_) | (refine Xg.ev (EvF.fieldAddr rfl rfl (te rfl) rfl (te rfl) (by decide)) rfl rfl ?_) | (refine Xg.ev (EvF.lenSlice rfl rfl (te rfl)) rfl rfl ?_) | (refine Xg.ev (EvF.loadV rfl rfl (LoadV.own (te rfl) rfl (List.Mem.head _) rfl)) rfl rfl ?_))))) | (refine XO.done rfl ?_; refine hK _ _ ?_; clear hK K) | refine X.seq rfl ?_ | refine X.region rfl (fun K hK => ?_) | refine X.block rfl ?_ | (refine X.brk rfl ?_; first | refine blockX_hit rfl ?_ | skip) | refine X.skip rfl ?_ | (refine X.ite rfl rfl (fun hc => ?_); (first | (with_reducible refine Xb.case hc (fun h => ?_) (fun h => ?_))) <;> clear hc))
  · rw [initG_set (by omega)]
    exact ⟨_, _, _, (by (repeat (first | exact Sub.nil _ | refine Sub.cons rfl ?_)); done), List.Sublist.refl _, ⟨k + 1, rfl, by omega, rfl, rfl⟩, by omega⟩
  obtain rfl : k = B.layers.toNat := by omega
  refine X.lp rfl (fun m F' H' => ∃ k : Nat, m = B.draws.length - k ∧ k ≤ B.draws.length ∧ H' = ⟨bp, 0, cPr B ⟨a1, c1, a2, c2⟩ ((B.draws.take k).foldl stepG (initG B.layers.toNat)), some 75, 16⟩ :: ⟨b2, 0, cPr Bz pzb (initG 0), some 75, 16⟩ :: ⟨b1, 0, cBl B ⟨a1, c1, a2, c2⟩, some 27, 6⟩ :: H ∧
      F' = [(2, .pointer (some ⟨b2, 0, none⟩)), (3, .pointer (some ⟨bp, 0, none⟩)), (23, .slice a1 B.draws.length c1), (24, .int .i64 B.draws.length), (25, .int .i64 k)])
    B.draws.length [(2, .pointer (some ⟨b2, 0, none⟩)), (3, .pointer (some ⟨bp, 0, none⟩)), (23, .slice a1 B.draws.length c1), (24, .int .i64 B.draws.length), (25, .int .i64 (0 : Nat))] _ (by (repeat (first | exact Sub.nil _ | refine Sub.cons rfl ?_)); done) (List.Sublist.refl _) ⟨0, by omega, by omega, rfl, rfl⟩ ?_
  rintro _ _ _ ⟨k, rfl, hk, rfl, rfl⟩
  obtain ⟨g, hgE⟩ : ∃ g, (B.draws.take k).foldl stepG (initG B.layers.toNat) = g := ⟨_, rfl⟩
  have hg : g.length = 5 := by rw [← hgE, foldG_len, initG_len hn5]
  rw [hgE]
  repeat' (first | (refine XO.op rfl ?_; (first | ((first | refine Xo.ng rfl ?_); (first | (refine Xg.ev (EvF.cmp rfl rfl rfl rfl) rfl rfl ?_))))) | (refine XO.done rfl ?_; refine hK _ _ ?_; clear hK K) | refine X.seq rfl ?_ | refine X.region rfl (fun K hK => ?_) | refine X.block rfl ?_ | (refine X.brk rfl ?_; first | refine blockX_hit rfl ?_ | skip) | refine X.skip rfl ?_ | (refine X.ite rfl rfl (fun hc => ?_); (first | (with_reducible refine Xb.case hc (fun h => ?_) (fun h => ?_))) <;> clear hc))
  · obtain ⟨b, off, e, rfl, he⟩ := hB.draws.elem (i := k) (by omega)
    obtain ⟨hv0, hv5⟩ := hd e (List.mem_of_getElem? he)
    repeat' (first | (refine XO.op rfl ?_; (first | ((first | refine Xo.ng rfl ?_); (first | (refine Xg.ev (EvF.loadV rfl rfl (LoadV.elA0 (hB3 _ _ _).draws he (te rfl) rfl (fun _ hm => hm) rfl)) rfl rfl ?_) | (refine Xg.ev (EvF.indexArray rfl rfl rfl (te rfl) (te rfl) (by omega) (by omega)) rfl rfl ?_) | (refine Xg.ev (EvF.assign rfl rfl) rfl rfl ?_) | (refine Xg.ev (EvF.fieldAddr rfl rfl (te rfl) rfl (te rfl) (by decide)) rfl rfl ?_) | (refine Xg.ev (EvF.indexSlice rfl rfl rfl (te rfl) (te rfl) (by omega) (by omega)) rfl rfl ?_) | (refine Xg.ev (EvF.loadV rfl rfl (LoadV.own (te rfl) rfl (List.Mem.head _) rfl)) rfl rfl ?_) | (refine Xg.st (StF.alloc rfl Try.zeroValue29 rfl) rfl rfl ?_; rintro _ _ ⟨bx, rfl, rfl⟩) | (refine Xg.st0 (StF.storeAll (i := 0) rfl rfl rfl (te rfl) rfl rfl rfl rfl) rfl ?_; rintro _ _ ⟨rfl, rfl⟩; dsimp only [List.set]))))) | (refine XO.done rfl ?_; refine hK _ _ ?_; clear hK K) | refine X.seq rfl ?_ | refine X.region rfl (fun K hK => ?_))
    have hi : e.val.toNat < g.length := by omega
    have e1 : (B.draws.take (k + 1)).foldl stepG (initG B.layers.toNat) = g.set e.val.toNat ⟨max (spAt g e.val.toNat).lo e.lo, min (spAt g e.val.toNat).hi e.hi⟩ := by rw [take_snoc he, List.foldl_append, hgE]; rfl
    refine X.permH (H' := ⟨bp, 0, cPr B ⟨some ⟨b, off, none⟩, c1, a2, c2⟩ g, some 75, 16⟩ :: ⟨bx, 0, cDr e, some 29, 4⟩ :: ⟨b2, 0, cPr Bz pzb (initG 0), some 75, 16⟩ :: ⟨b1, 0, cBl B ⟨some ⟨b, off, none⟩, c1, a2, c2⟩, some 27, 6⟩ :: H) (List.Perm.swap _ _ _) ?_
    refine X.regionRd ts11 rd11 [7, 6, 2, 3, 23, 24, 25] [(7, .pointer (some ⟨bp, 6 + e.val.toNat * 2, none⟩)), (6, .pointer (some ⟨bx, 0, none⟩)), (2, .pointer (some ⟨b2, 0, none⟩)), (3, .pointer (some ⟨bp, 0, none⟩)), (23, .slice (some ⟨b, off, none⟩) B.draws.length c1), (24, .int .i64 B.draws.length), (25, .int .i64 k)]
      (valL [.pointer (some ⟨bp, 6 + e.val.toNat * 2, none⟩), .pointer (some ⟨bp, 6 + e.val.toNat * 2, none⟩), .pointer (some ⟨bp, 6 + e.val.toNat * 2, none⟩), .pointer (some ⟨bp, 6 + e.val.toNat * 2, none⟩), .pointer (some ⟨bp, 6 + e.val.toNat * 2 + 0, none⟩), .int .i64 (spAt g e.val.toNat).lo, .pointer (some ⟨bx, 0 + 2, none⟩), .pointer (some ⟨bx, 0 + 2 + 0, none⟩), .int .i64 e.lo, .int .i64 (max (spAt g e.val.toNat).lo e.lo),
        .pointer (some ⟨bp, 6 + e.val.toNat * 2, none⟩), .pointer (some ⟨bp, 6 + e.val.toNat * 2, none⟩), .pointer (some ⟨bp, 6 + e.val.toNat * 2 + 1, none⟩), .int .i64 (spAt g e.val.toNat).hi, .pointer (some ⟨bx, 0 + 2, none⟩), .pointer (some ⟨bx, 0 + 2 + 1, none⟩), .int .i64 e.hi, .int .i64 (min (spAt g e.val.toNat).hi e.hi),
        .pointer (some ⟨bp, 6 + e.val.toNat * 2, none⟩), .pointer (some ⟨bp, 6 + e.val.toNat * 2 + 0, none⟩), undef, .pointer (some ⟨bp, 6 + e.val.toNat * 2, none⟩), .pointer (some ⟨bp, 6 + e.val.toNat * 2 + 1, none⟩)])
      (rows11 bp B ⟨some ⟨b, off, none⟩, c1, a2, c2⟩ g e.val.toNat (max (spAt g e.val.toNat).lo e.lo) (min (spAt g e.val.toNat).hi e.hi)) (fun _ => (0, 0))
      (⟨bx, 0, cDr e, some 29, 4⟩ :: ⟨b2, 0, cPr Bz pzb (initG 0), some 75, 16⟩ :: ⟨b1, 0, cBl B ⟨some ⟨b, off, none⟩, c1, a2, c2⟩, some 27, 6⟩ :: H) rfl mixed (by (repeat (first | exact Sub.nil _ | refine Sub.cons rfl ?_)); done) rfl (by kernel_rfl) (by kernel_rfl) (fun _ _ _ _ _ _ => ⟨rfl, rfl⟩) (List.Sublist.refl _) ?_ ?_
    · have hl16 := lenPr (B := B) (p := ⟨some ⟨b, off, none⟩, c1, a2, c2⟩) hg
      repeat' (first | exact AllF.done rfl | (refine AllF.step rfl ?_ ?_; · (first | exact (Ob.ng rfl (ObK.pure (fun env R hR => by exact ⟨_, EvF.move rfl rfl, rfl⟩) rfl (fun _ => rfl))).toR | exact (Ob.ng rfl (ObK.pure (fun env R hR => by exact ⟨_, EvF.fieldAddr rfl rfl (te rfl) rfl (te rfl) (by decide), rfl⟩) rfl (fun _ => rfl))).toR | exact (Ob.ng rfl (ObK.pure (fun env R hR => by exact ⟨_, EvF.loadV rfl rfl (LoadV.own (te rfl) rfl (hR _ (List.Mem.head _)) rfl), rfl⟩) rfl (fun _ => rfl))).toR | (refine ObR.ng rfl ?_; (first | (exact fun env S hS hrd => (StF.ofEv (EvF.nilCheck rfl rfl)).op.mono (fun v H' ⟨hv, hH⟩ => ⟨(0, 0), fun _ => hv, by rw [hH]; exact List.Perm.refl _⟩)) | (exact fun env S hS hrd => (StF.ofEv (EvF.max64 rfl rfl rfl)).op.mono (fun v H' ⟨hv, hH⟩ => ⟨(0, 0), fun _ => hv, by rw [hH]; exact List.Perm.refl _⟩)) | (exact fun env S hS hrd => (StF.ofEv (EvF.min64 rfl rfl rfl)).op.mono (fun v H' ⟨hv, hH⟩ => ⟨(0, 0), fun _ => hv, by rw [hH]; exact List.Perm.refl _⟩)) | (exact fun env S hS hrd => (StF.ofEv (EvF.loadV rfl rfl (LoadV.own (te rfl) rfl (hrd 24 (List.Mem.head _) _ (List.Mem.head _)) (getPr (j := 0) (spAt_get hi) rfl)))).op.mono (fun v H' ⟨hv, hH⟩ => ⟨(0, 0), fun _ => hv, by rw [hH]; exact List.Perm.refl _⟩)) | (exact fun env S hS hrd => (StF.ofEv (EvF.loadV rfl rfl (LoadV.own (te rfl) rfl (hrd 24 (List.Mem.head _) _ (List.Mem.head _)) (getPr (j := 1) (spAt_get hi) rfl)))).op.mono (fun v H' ⟨hv, hH⟩ => ⟨(0, 0), fun _ => hv, by rw [hH]; exact List.Perm.refl _⟩)) | (exact fun env S hS hrd => (StF.storeOne (i := 0) (cs := cPr B ⟨some ⟨b, off, none⟩, c1, a2, c2⟩ g) rfl rfl rfl rfl (te rfl) rfl rfl (by rw [hl16]; omega)).op.mono (fun v H' ⟨hv, hH⟩ => ⟨(0, 0), fun h => absurd rfl h, by rw [hH]; exact List.Perm.refl _⟩)) | (exact fun env S hS hrd => (StF.storeOne (i := 0) (cs := (cPr B ⟨some ⟨b, off, none⟩, c1, a2, c2⟩ g).set (6 + e.val.toNat * 2) (.int .i64 (max (spAt g e.val.toNat).lo e.lo))) rfl rfl rfl rfl (te rfl) rfl rfl (by rw [List.length_set, hl16]; omega)).op.mono (fun v H' ⟨hv, hH⟩ => ⟨(0, 0), fun h => absurd rfl h, by rw [hH]; show List.Perm (⟨bp, 0, ((cPr B ⟨some ⟨b, off, none⟩, c1, a2, c2⟩ g).set (6 + e.val.toNat * 2) (.int .i64 (max (spAt g e.val.toNat).lo e.lo))).set (6 + e.val.toNat * 2 + 1) (.int .i64 (min (spAt g e.val.toNat).hi e.hi)), some 75, 16⟩ :: S) _; rw [setPr hi]; exact List.Perm.refl _⟩)))))))
    · intro env t ha hv
      refine ⟨_, ha, ?_⟩
      show X _ _ _ _ (⟨bp, 0, cPr B ⟨some ⟨b, off, none⟩, c1, a2, c2⟩ (g.set e.val.toNat ⟨max (spAt g e.val.toNat).lo e.lo, min (spAt g e.val.toNat).hi e.hi⟩), some 75, 16⟩ :: ⟨bx, 0, cDr e, some 29, 4⟩ :: ⟨b2, 0, cPr Bz pzb (initG 0), some 75, 16⟩ :: ⟨b1, 0, cBl B ⟨some ⟨b, off, none⟩, c1, a2, c2⟩, some 27, 6⟩ :: H) _
      repeat' (first | (refine XO.op rfl ?_; (first | ((first | refine Xo.ng rfl ?_); (first | (refine Xg.ev (EvF.move rfl rfl) rfl rfl ?_) | (refine Xg.ev (EvF.add64 rfl rfl rfl (by omega) (by omega)) rfl rfl ?_))))) | (refine XO.done rfl ?_; refine hK _ _ ?_; clear hK K) | refine X.region rfl (fun K hK => ?_))
      rw [← e1]
      exact ⟨_, _, _, (by (repeat (first | exact Sub.nil _ | refine Sub.cons rfl ?_)); done), List.Sublist.cons_cons _ (List.Sublist.cons _ (List.Sublist.refl _)), ⟨k + 1, rfl, by omega, rfl, rfl⟩, by omega⟩
  · have e2 : g = gradesOf B := by rw [← hgE, List.take_of_length_le (by omega)]; rfl
    subst e2
    repeat' (first | (refine XO.op rfl ?_; (first | ((first | refine Xo.ng rfl ?_); (first | (refine Xg.ev (EvF.loadV rfl rfl (LoadV.whole (te rfl) rfl (List.Mem.head _) (lenPr hg))) rfl rfl ?_) | (refine Xg.st0 (StF.storeAll (i := 1) (vs := cPr B ⟨a1, c1, a2, c2⟩ (gradesOf B)) rfl rfl rfl (te rfl) rfl (lenPr hg) (onePr _ _ _) (lenPr hg)) rfl ?_; rintro _ _ ⟨rfl, rfl⟩; dsimp only [List.set]))))) | (refine XO.done rfl ?_; refine hK _ _ ?_; clear hK K) | refine X.ret rfl ?_)
    exact ret_one (by first | exact .inr rfl | exact .inl rfl) Try.results41 ⟨_, rfl, LoadV.whole (te rfl) rfl (List.Mem.tail _ (List.Mem.head _)) (lenPr hg)⟩ (H' := H) (by (repeat (first | exact List.Sublist.refl _ | apply List.Sublist.cons)); done) ⟨rfl, rfl⟩
end Go.Proofs.Ytoflnjgfikchjaa
end
section
set_option linter.unusedVariables false
set_option linter.unusedSimpArgs false
namespace Go.Proofs.Ytoflnjgfikchjaa
open Go Go.Fw
set_option maxRecDepth 10000
theorem slePr {B : Bl} {p : Pb} {g : List Sp} {b cap n : Nat} {ow : Option Kd} {H : List Row} (hm : ⟨b, 0, cPr B p g, ow, cap⟩ ∈ H) : SlE H (some ⟨b, 6, none⟩) cSp 2 (g.take n) := by
  refine ⟨fun _ _ => rfl, fun _ => ⟨b, 6, rfl, _, 6, hm, rfl, rfl, fun i e j v hi hj => ?_⟩⟩
  have hi' : g[i]? = some e := by
    rw [List.getElem?_take] at hi
    split at hi
    · exact hi
    · cases hi
  rw [← Nat.add_assoc]
  exact getPr hi' hj
theorem hasGrades1_spec (s : Sp) (H : List Row) : Fc Try.prog 74 ([.agg (cSp s).toArray] ++ []) H (fun v H' => v = .bool (decide (s.lo > s.hi)) ∧ H' = H) := by
  show Fc Try.prog 74 [.agg (cSp s).toArray] H _
  refine Fc.mk (callable Try.call74) Try.func74 rfl Try.ntmps74 rfl ?_; dsimp only [fr]
  repeat' (first | (refine XO.op rfl ?_; (first | ((first | refine Xo.ng rfl ?_); (first | (refine Xg.ev (EvF.assign rfl rfl) rfl rfl ?_) | (refine Xg.ev (EvF.cmp rfl rfl rfl rfl) rfl rfl ?_) | (refine Xg.ev (EvF.fieldAddr rfl rfl (te rfl) rfl (te rfl) (by decide)) rfl rfl ?_) | (refine Xg.ev (EvF.loadV rfl rfl (LoadV.own (te rfl) rfl (List.Mem.head _) rfl)) rfl rfl ?_) | (refine Xg.st (StF.boxAgg rfl rfl) rfl rfl ?_; rintro _ _ ⟨bx, rfl, rfl⟩))))) | (refine XO.done rfl ?_; refine hK _ _ ?_; clear hK K) | refine X.seq rfl ?_ | refine X.region rfl (fun K hK => ?_) | refine X.ret rfl ?_)
  refine ret_one (by first | exact .inr rfl | exact .inl rfl) Try.results74 rfl (H' := H) (by (repeat (first | exact List.Sublist.refl _ | apply List.Sublist.cons)); done) ?_; simp only [and_true, true_and]
/-- the draws leave each layer some grade -/
def hasG (n : Nat) (g : List Sp) : Prop := ∀ s ∈ g.take n, ¬ s.lo > s.hi
instance (n : Nat) (g : List Sp) : Decidable (hasG n g) := by unfold hasG; infer_instance
theorem hasGrades_spec (B : Bl) (p : Pb) (g : List Sp) (H : List Row) (h5 : 1 ≤ B.layers ∧ B.layers ≤ 5) (hg : g.length = 5) : Fc Try.prog 42 [.agg (cPr B p g).toArray] H (fun v H' => v = .bool (decide (hasG B.layers.toNat g)) ∧ H' = H) := by
  obtain ⟨n, hn⟩ : ∃ n : Nat, B.layers = n := ⟨B.layers.toNat, by omega⟩
  have hnn : B.layers.toNat = n := by omega
  have hl : (g.take n).length = n := by rw [List.length_take]; omega
  rw [hnn]
  refine Fc.mk (callable Try.call42) Try.func42 rfl Try.ntmps42 rfl ?_; dsimp only [fr]
  repeat' (first | (refine XO.op rfl ?_; (first | ((first | refine Xo.ng rfl ?_); (first | (refine Xg.ev (EvF.sliceArr (hh := n) rfl rfl (te rfl) (te rfl) (show _ = some (Value.int .i64 (n : Int)) from by rw [← hn]; rfl) (by omega)) rfl rfl ?_) | (refine Xg.call (EnF.st rfl (Args.cons rfl (Args.cons rfl Args.nil))) rfl rfl (hl ▸ containsFunc_specSp (g.take n) (some ⟨_, 6, none⟩) 5 74 (fun s => decide (s.lo > s.hi)) [] _ (slePr (List.Mem.head _)) (by omega) (fun e _ => hasGrades1_spec e _)) ?_; rintro _ H9 ⟨rfl, hH9⟩; subst H9) | (refine Xg.ev (EvF.assign rfl rfl) rfl rfl ?_) | (refine Xg.ev (EvF.not rfl rfl) rfl rfl ?_) | (refine Xg.ev (EvF.fieldAddr rfl rfl (te rfl) rfl (te rfl) (by decide)) rfl rfl ?_) | (refine Xg.ev (EvF.loadV rfl rfl (LoadV.own (te rfl) rfl (List.Mem.head _) rfl)) rfl rfl ?_) | (refine Xg.st (StF.boxAgg rfl rfl) rfl rfl ?_; rintro _ _ ⟨bx, rfl, rfl⟩))))) | (refine XO.done rfl ?_; refine hK _ _ ?_; clear hK K) | refine X.seq rfl ?_ | refine X.region rfl (fun K hK => ?_) | refine X.ret rfl ?_)
  refine ret_one (by first | exact .inr rfl | exact .inl rfl) Try.results42 rfl (H' := H) (by (repeat (first | exact List.Sublist.refl _ | apply List.Sublist.cons)); done) ?_; simp only [and_true, true_and]
  congr 1
  have hx : (∃ e, e ∈ List.take n g ∧ decide (e.lo > e.hi) = true) ↔ ¬ hasG n g := by unfold hasG; simp
  by_cases hh : hasG n g
  · rw [decide_eq_true hh, decide_eq_false (fun q => hx.1 q hh)]; rfl
  · rw [decide_eq_false hh, decide_eq_true (hx.2 hh)]; rfl
theorem leastDamp_spec (q d : Int) (H : List Row) (hq : 0 ≤ q ∧ q ≤ 100000) (hd : 1 ≤ d ∧ d ≤ 100000) : Fc Try.prog 92 [.int .i64 q, .int .i64 d] H (fun v H' => v = .int .i64 ((1000 * q + d - 1) / d - 1000) ∧ H' = H) := by
  have h1 : 0 ≤ (1000 * q + d - 1) / d := Int.ediv_nonneg (by omega) (by omega)
  have h2 : (1000 * q + d - 1) / d ≤ 1000 * q + d - 1 := Int.ediv_le_self _ (by omega)
  refine Fc.mk (callable Try.call92) Try.func92 rfl Try.ntmps92 rfl ?_; dsimp only [fr]
  repeat' (first | (refine XO.op rfl ?_; (first | ((first | refine Xo.ng rfl ?_); (first | (refine Xg.ev (EvF.mul64 rfl rfl rfl (by omega) (by omega)) rfl rfl ?_) | (refine Xg.ev (EvF.quo64 rfl rfl rfl (by omega) (by omega) (by omega)) rfl rfl ?_) | (refine Xg.ev (EvF.move rfl rfl) rfl rfl ?_) | (refine Xg.ev (EvF.assign rfl rfl) rfl rfl ?_) | (refine Xg.ev (EvF.add64 rfl rfl rfl (by omega) (by omega)) rfl rfl ?_) | (refine Xg.ev (EvF.sub64 rfl rfl rfl (by omega) (by omega)) rfl rfl ?_))))) | (refine XO.done rfl ?_; refine hK _ _ ?_; clear hK K) | refine X.seq rfl ?_ | refine X.region rfl (fun K hK => ?_) | refine X.ret rfl ?_)
  refine ret_one (by first | exact .inr rfl | exact .inl rfl) Try.results92 rfl (H' := H) (by (repeat (first | exact List.Sublist.refl _ | apply List.Sublist.cons)); done) ?_; simp only [and_true, true_and]
def leastD (q d : Int) : Int := (1000 * q + d - 1) / d - 1000
def dampOf (x : Dr) (d : Int) : Sp := ⟨max x.lo (leastD x.val d), min x.hi (leastD (x.val + 1) d - 1)⟩
def ts54 : List TOp := [⟨some 5, [], [], []⟩, ⟨some 6, [0], [0], []⟩, ⟨some 7, [0, 1], [1], []⟩, ⟨some 8, [], [], []⟩, ⟨some 9, [3], [3], []⟩, ⟨some 10, [], [], []⟩, ⟨some 11, [3, 4, 5], [4, 5], []⟩, ⟨some 12, [0, 1, 2, 3, 4, 5, 6], [2, 6], []⟩, ⟨some 13, [], [], []⟩, ⟨some 14, [8], [8], []⟩, ⟨some 15, [8, 9], [9], []⟩, ⟨some 16, [], [], []⟩, ⟨some 17, [11], [11], []⟩, ⟨some 18, [11, 12], [12], []⟩, ⟨some 19, [], [], []⟩, ⟨some 20, [3, 4, 5, 6, 11, 12, 13, 14], [13, 14], []⟩, ⟨some 21, [3, 4, 5, 6, 11, 12, 13, 14, 15], [15], []⟩, ⟨some 22, [3, 4, 5, 6, 8, 9, 10, 11, 12, 13, 14, 15, 16], [10, 16], []⟩, ⟨some 23, [0, 1, 2, 3, 4, 5, 6, 7, 8, 9, 10, 11, 12, 13, 14, 15, 16, 17], [7, 17], []⟩, ⟨none, [0, 1, 2, 3, 4, 5, 6, 7, 8, 9, 10, 11, 12, 13, 14, 15, 16, 17, 18], [18], [20]⟩, ⟨none, [], [], []⟩]
set_option maxHeartbeats 2000000 in
theorem damp_spec (x : Wg) (d : Int) (H : List Row) (hq : 0 ≤ x.val ∧ x.val ≤ 10000) (hd : 1 ≤ d ∧ d ≤ 100000) : Fc Try.prog 88 [.agg (cDr x).toArray, .int .i64 d] H (fun v H' => v = .agg (cSp (dampOf x d)).toArray ∧ H' = H) := by
  have h1 : 0 ≤ (1000 * (x.val + 1) + d - 1) / d := Int.ediv_nonneg (by omega) (by omega)
  have h2 : (1000 * (x.val + 1) + d - 1) / d ≤ 1000 * (x.val + 1) + d - 1 := Int.ediv_le_self _ (by omega)
  refine Fc.mk (callable Try.call88) Try.func88 rfl Try.ntmps88 rfl ?_; dsimp only [fr]
  refine X.seq rfl ?_; refine X.region rfl (fun K hK => ?_); repeat' (first | (refine XO.op rfl ?_; (first | ((first | refine Xo.ng rfl ?_); (first | (refine Xg.st (StF.boxAgg rfl rfl) rfl rfl ?_; rintro _ _ ⟨bx, rfl, rfl⟩) | (refine Xg.st (StF.alloc rfl Try.zeroValue23 rfl) rfl rfl ?_; rintro _ _ ⟨bx, rfl, rfl⟩))))) | (refine XO.done rfl ?_; refine hK _ _ ?_; clear hK K))
  rename_i b1; rename Nat => b2
  refine X.seq rfl ?_
  refine X.regionOb ts54 [2, 4, 1] [(2, .pointer (some ⟨b1, 0, none⟩)), (4, .pointer (some ⟨b2, 0, none⟩)), (1, .int .i64 d)]
    (valL [.pointer (some ⟨b1, 0 + 2, none⟩), .pointer (some ⟨b1, 0 + 2 + 0, none⟩), .int .i64 x.lo, .pointer (some ⟨b1, 0 + 1, none⟩), .int .i64 x.val, .int .i64 d, .int .i64 (leastD x.val d), .int .i64 (max x.lo (leastD x.val d)),
      .pointer (some ⟨b1, 0 + 2, none⟩), .pointer (some ⟨b1, 0 + 2 + 1, none⟩), .int .i64 x.hi, .pointer (some ⟨b1, 0 + 1, none⟩), .int .i64 x.val, .int .i64 (x.val + 1), .int .i64 d, .int .i64 (leastD (x.val + 1) d), .int .i64 (leastD (x.val + 1) d - 1), .int .i64 (min x.hi (leastD (x.val + 1) d - 1)), .agg (cSp (dampOf x d)).toArray])
    (rowsL 19 ⟨b2, 0, cSp (dampOf x d), some 23, 2⟩ ⟨b2, 0, cSp ⟨0, 0⟩, some 23, 2⟩) (fun _ => (0, 0)) (⟨b1, 0, cDr x, some 31, 4⟩ :: H) rfl mixed (by (repeat (first | exact Sub.nil _ | refine Sub.cons rfl ?_)); done) rfl (by kernel_rfl) (fun _ _ _ _ _ _ => ⟨rfl, rfl⟩) (List.Sublist.refl _) ?_ ?_
  · repeat' (first | exact AllF.done rfl | (refine AllF.step rfl ?_ ?_; · (first | fail | ((first | refine Ob.ng rfl ?_); (first | exact ObK.pure (fun env R hR => by exact ⟨_, EvF.move rfl rfl, rfl⟩) rfl (fun _ => rfl) | exact ObK.pure (fun env R hR => by exact ⟨_, EvF.fieldAddr rfl rfl (te rfl) rfl (te rfl) (by decide), rfl⟩) rfl (fun _ => rfl) | exact ObK.pure (fun env R hR => by exact ⟨_, EvF.loadV rfl rfl (LoadV.own (te rfl) rfl (hR _ (List.Mem.head _)) rfl), rfl⟩) rfl (fun _ => rfl) | (exact ObK.pure (fun env S hS => ⟨_, EvF.max64 rfl rfl rfl, rfl⟩) rfl (fun _ => rfl)) | (exact ObK.pure (fun env S hS => ⟨_, EvF.min64 rfl rfl rfl, rfl⟩) rfl (fun _ => rfl)) | (exact ObK.pure (fun env S hS => ⟨_, EvF.add64 rfl rfl rfl (by omega) (by omega), rfl⟩) rfl (fun _ => rfl)) | (exact ObK.pure (fun env S hS => ⟨_, EvF.sub64 (p := leastD (x.val + 1) d) rfl rfl rfl (by unfold leastD; omega) (by unfold leastD; omega), rfl⟩) rfl (fun _ => rfl)) | (exact ObK.pure (fun env S hS => ⟨_, EvF.build (cs := cSp (dampOf x d)) rfl (ArgsP.cons rfl (ArgsP.cons rfl ArgsP.nil)) (te rfl) (Places.cons (te rfl) (Places.cons (te rfl) Places.nil)) Try.zeroValue23 rfl, rfl⟩) rfl (fun _ => rfl)) | (exact fun env S hS => OpF.callV (Z := []) (EnF.st rfl (by (repeat (first | exact Args.nil | refine Args.cons rfl ?_)); done)) (leastDamp_spec x.val d _ (by omega) hd) rfl rfl) | (exact fun env S hS => OpF.callV (Z := []) (EnF.st rfl (by (repeat (first | exact Args.nil | refine Args.cons rfl ?_)); done)) (leastDamp_spec (x.val + 1) d _ (by omega) hd) rfl rfl) | (exact fun env S hS => (StF.storeAll (i := 0) (vs := cSp (dampOf x d)) (cs := cSp ⟨0, 0⟩) rfl rfl rfl (te rfl) rfl rfl rfl rfl).op.mono (fun v H' ⟨hv, hH⟩ => ⟨(0, 0), fun h => absurd rfl h, by rw [hH]; exact List.Perm.refl _⟩)))))))
  · intro env t ha hv
    refine ⟨_, ha, ?_⟩
    show X _ _ _ _ (⟨b2, 0, cSp (dampOf x d), some 23, 2⟩ :: ⟨b1, 0, cDr x, some 31, 4⟩ :: H) _
    repeat' (first | (refine XO.op rfl ?_; (first | ((first | refine Xo.ng rfl ?_); (first | (refine Xg.ev (EvF.assign rfl rfl) rfl rfl ?_) | (refine Xg.ev (EvF.cmp rfl rfl rfl rfl) rfl rfl ?_) | (refine Xg.ev (EvF.fieldAddr rfl rfl (te rfl) rfl (te rfl) (by decide)) rfl rfl ?_) | (refine Xg.ev (EvF.loadV rfl rfl (LoadV.own (te rfl) rfl (List.Mem.head _) rfl)) rfl rfl ?_) | (refine Xg.st (StF.boxAgg rfl rfl) rfl rfl ?_; rintro _ _ ⟨bx, rfl, rfl⟩))))) | (refine XO.done rfl ?_; refine hK _ _ ?_; clear hK K) | refine X.seq rfl ?_ | refine X.region rfl (fun K hK => ?_) | refine X.ret rfl ?_)
    exact ret_one (by first | exact .inr rfl | exact .inl rfl) Try.results88 ⟨_, rfl, LoadV.whole (te rfl) rfl (List.Mem.head _) rfl⟩ (H' := H) (by (repeat (first | exact List.Sublist.refl _ | apply List.Sublist.cons)); done) ⟨rfl, rfl⟩
end Go.Proofs.Ytoflnjgfikchjaa
end
section
set_option linter.unusedVariables false
set_option linter.unusedSimpArgs false
namespace Go.Proofs.Ytoflnjgfikchjaa
open Go Go.Fw
set_option maxRecDepth 10000
/-- the numbers from lo on, k of them, of which something is so -/
def wl (ok : Int → Bool) (lo : Int) : Nat → List Int
  | 0 => []
  | k + 1 => wl ok lo k ++ (if ok (lo + k) = true then [lo + k] else [])
theorem wl_len (ok : Int → Bool) (lo : Int) : ∀ k, (wl ok lo k).length ≤ k
  | 0 => Nat.le_refl _
  | k + 1 => by
    have := wl_len ok lo k
    simp only [wl, List.length_append]
    split <;> simp <;> omega
theorem wl_congr {ok ok' : Int → Bool} {lo : Int} : ∀ k, (∀ i : Nat, i < k → ok (lo + i) = ok' (lo + i)) → wl ok lo k = wl ok' lo k
  | 0, _ => rfl
  | k + 1, h => by
    simp only [wl]
    rw [wl_congr k (fun i hi => h i (by omega)), h k (by omega)]
/-- a list of numbers in memory of one's own, or nil -/
def OutI (l : List Int) (out : Value) (Z : List Row) : Prop := (l = [] ∧ out = .slice none 0 0 ∧ Z = []) ∨ ∃ b q, out = .slice (some ⟨b, 0, none⟩) l.length q ∧ Z = [⟨b, 0, l.flatMap cI, some 3, q * 1⟩]
theorem OutI.sl {l : List Int} {out : Value} {Z H : List Row} (h : OutI l out Z) : ∃ a c, out = .slice a l.length c ∧ SlE (Z ++ H) a cI 1 l := by
  rcases h with ⟨rfl, rfl, rfl⟩ | ⟨b, q, rfl, rfl⟩
  · exact ⟨none, 0, rfl, sleNil⟩
  · exact ⟨_, _, rfl, SlE.ofRow (List.Mem.head _) (fun _ _ => rfl)⟩
def canW (B : Bl) (d : Int) : Prop := ∀ x ∈ B.weighs, ¬ (dampOf x d).lo > (dampOf x d).hi
noncomputable instance (B : Bl) (d : Int) : Decidable (canW B d) := Classical.propDecidable _
noncomputable def okW (B : Bl) (d : Int) : Bool := decide (canW B d)
noncomputable def wts (B : Bl) : List Int := wl (okW B) B.dlo (B.dhi - B.dlo + 1).toNat
set_option maxHeartbeats 4000000 in
theorem weights_spec (B : Bl) (p : Pb) (g : List Sp) (H : List Row) (hd : 1 ≤ B.dlo ∧ B.dlo ≤ B.dhi ∧ B.dhi ≤ 600) (hw : ∀ x ∈ B.weighs, 0 ≤ x.val ∧ x.val ≤ 10000) (hg : g.length = 5) (hB : BlOk H B p) :
    Fc Try.prog 78 [.agg (cPr B p g).toArray] H (fun v H' => ∃ Z, OutI (wts B) v Z ∧ H' = Z ++ H) := by
  obtain ⟨N, hN⟩ : ∃ N : Nat, (B.dhi - B.dlo + 1).toNat = N := ⟨_, rfl⟩
  unfold wts
  rw [hN]
  have hNN : B.dlo + N = B.dhi + 1 := by omega
  have l2 := hB.l2
  have hBZ : ∀ (Z : List Row) r, BlOk (Z ++ r :: H) B p := fun Z r => hB.sub (fun _ h => List.mem_append_right _ (List.mem_cons_of_mem _ h))
  obtain ⟨a1, c1, a2, c2⟩ := p
  refine Fc.mk (callable Try.call78) Try.func78 rfl Try.ntmps78 rfl ?_; dsimp only [fr]
  repeat' (first | (refine XO.op rfl ?_; (first | ((first | refine Xo.ng rfl ?_); (first | (refine Xg.ev (EvF.move rfl rfl) rfl rfl ?_) | (refine Xg.ev (EvF.assign rfl rfl) rfl rfl ?_) | (refine Xg.ev (EvF.cmp rfl rfl rfl rfl) rfl rfl ?_) | (refine Xg.ev (EvF.fieldAddr rfl rfl (te rfl) rfl (te rfl) (by decide)) rfl rfl ?_) | (refine Xg.ev (EvF.loadV rfl rfl (LoadV.own (te rfl) rfl (List.Mem.head _) rfl)) rfl rfl ?_) | (refine Xg.st (StF.boxAgg rfl rfl) rfl rfl ?_; rintro _ _ ⟨bx, rfl, rfl⟩))))) | (refine XO.done rfl ?_; refine hK _ _ ?_; clear hK K) | refine X.seq rfl ?_ | refine X.region rfl (fun K hK => ?_) | refine X.block rfl ?_ | (refine X.brk rfl ?_; first | refine blockX_hit rfl ?_ | skip) | refine X.skip rfl ?_ | (refine X.ite rfl rfl (fun hc => ?_); (first | (with_reducible refine Xb.case hc (fun h => ?_) (fun h => ?_))) <;> clear hc))
  refine X.scope rfl ?_
  repeat' (first | (refine XO.op rfl ?_; (first | ((first | refine Xo.ng rfl ?_); (first | (refine Xg.ev (EvF.move rfl rfl) rfl rfl ?_) | (refine Xg.ev (EvF.assign rfl rfl) rfl rfl ?_) | (refine Xg.ev (EvF.cmp rfl rfl rfl rfl) rfl rfl ?_) | (refine Xg.ev (EvF.fieldAddr rfl rfl (te rfl) rfl (te rfl) (by decide)) rfl rfl ?_) | (refine Xg.ev (EvF.loadV rfl rfl (LoadV.own (te rfl) rfl (List.Mem.head _) rfl)) rfl rfl ?_) | (refine Xg.st (StF.boxAgg rfl rfl) rfl rfl ?_; rintro _ _ ⟨bx, rfl, rfl⟩))))) | (refine XO.done rfl ?_; refine hK _ _ ?_; clear hK K) | refine X.seq rfl ?_ | refine X.region rfl (fun K hK => ?_) | refine X.block rfl ?_ | (refine X.brk rfl ?_; first | refine blockX_hit rfl ?_ | skip) | refine X.skip rfl ?_ | (refine X.ite rfl rfl (fun hc => ?_); (first | (with_reducible refine Xb.case hc (fun h => ?_) (fun h => ?_))) <;> clear hc))
  refine X.label rfl ?_
  repeat' (first | (refine XO.op rfl ?_; (first | ((first | refine Xo.ng rfl ?_); (first | (refine Xg.ev (EvF.move rfl rfl) rfl rfl ?_) | (refine Xg.ev (EvF.assign rfl rfl) rfl rfl ?_) | (refine Xg.ev (EvF.cmp rfl rfl rfl rfl) rfl rfl ?_) | (refine Xg.ev (EvF.fieldAddr rfl rfl (te rfl) rfl (te rfl) (by decide)) rfl rfl ?_) | (refine Xg.ev (EvF.loadV rfl rfl (LoadV.own (te rfl) rfl (List.Mem.head _) rfl)) rfl rfl ?_) | (refine Xg.st (StF.boxAgg rfl rfl) rfl rfl ?_; rintro _ _ ⟨bx, rfl, rfl⟩))))) | (refine XO.done rfl ?_; refine hK _ _ ?_; clear hK K) | refine X.seq rfl ?_ | refine X.region rfl (fun K hK => ?_) | refine X.block rfl ?_ | (refine X.brk rfl ?_; first | refine blockX_hit rfl ?_ | skip) | refine X.skip rfl ?_ | (refine X.ite rfl rfl (fun hc => ?_); (first | (with_reducible refine Xb.case hc (fun h => ?_) (fun h => ?_))) <;> clear hc))
  rename Nat => b1
  refine X.lp rfl (fun m F' H' => ∃ (k : Nat) (d : Int) (out : Value) (Z : List Row), m = N - k ∧ k ≤ N ∧ d = B.dlo + k ∧ OutI (wl (okW B) B.dlo k) out Z ∧ Z ++ ⟨b1, 0, cPr B ⟨a1, c1, a2, c2⟩ g, some 75, 16⟩ :: H = H' ∧
      F' = [(1, .pointer (some ⟨b1, 0, none⟩)), (3, out), (4, .int .i64 d)])
    N [(1, .pointer (some ⟨b1, 0, none⟩)), (3, .slice none 0 0), (4, .int .i64 B.dlo)] (⟨b1, 0, cPr B ⟨a1, c1, a2, c2⟩ g, some 75, 16⟩ :: H) (by (repeat (first | exact Sub.nil _ | refine Sub.cons rfl ?_)); done) (by rw [← lenPr (B := B) (p := ⟨a1, c1, a2, c2⟩) hg]; exact List.Sublist.refl _) ⟨0, _, _, [], by omega, by omega, by omega, .inl ⟨rfl, rfl, rfl⟩, rfl, rfl⟩ ?_
  rintro _ _ H2 ⟨k, d, out, Z, rfl, hk, hdk, hO, hH, rfl⟩
  subst hH
  repeat' (first | (refine XO.op rfl ?_; (first | ((first | refine Xo.ng rfl ?_); (first | (refine Xg.ev (EvF.loadV rfl rfl (LoadV.own (te rfl) rfl (List.mem_append_right _ (List.Mem.head _)) rfl)) rfl rfl ?_) | (refine Xg.ev (EvF.move rfl rfl) rfl rfl ?_) | (refine Xg.ev (EvF.assign rfl rfl) rfl rfl ?_) | (refine Xg.ev (EvF.cmp rfl rfl rfl rfl) rfl rfl ?_) | (refine Xg.ev (EvF.fieldAddr rfl rfl (te rfl) rfl (te rfl) (by decide)) rfl rfl ?_) | (refine Xg.ev (EvF.lenSlice rfl rfl (te rfl)) rfl rfl ?_))))) | (refine XO.done rfl ?_; refine hK _ _ ?_; clear hK K) | refine X.seq rfl ?_ | refine X.region rfl (fun K hK => ?_) | refine X.block rfl ?_ | (refine X.brk rfl ?_; first | refine blockX_hit rfl ?_ | skip) | refine X.skip rfl ?_ | refine X.ret rfl ?_ | (refine X.ite rfl rfl (fun hc => ?_); (first | (with_reducible refine Xb.case hc (fun h => ?_) (fun h => ?_))) <;> clear hc))
  · refine X.lp rfl (fun m F' H' => ∃ q : Nat, m = B.weighs.length - q ∧ q ≤ B.weighs.length ∧ (canW B d ↔ ∀ x ∈ B.weighs.drop q, ¬ (dampOf x d).lo > (dampOf x d).hi) ∧ Z ++ ⟨b1, 0, cPr B ⟨a1, c1, a2, c2⟩ g, some 75, 16⟩ :: H = H' ∧
        F' = [(1, .pointer (some ⟨b1, 0, none⟩)), (3, out), (4, .int .i64 d), (22, .slice a2 B.weighs.length c2), (23, .int .i64 B.weighs.length), (24, .int .i64 q)])
      B.weighs.length [(1, .pointer (some ⟨b1, 0, none⟩)), (3, out), (4, .int .i64 d), (22, .slice a2 B.weighs.length c2), (23, .int .i64 B.weighs.length), (24, .int .i64 (0 : Nat))] _ (by (repeat (first | exact Sub.nil _ | refine Sub.cons rfl ?_)); done) (List.Sublist.refl _) ⟨0, by omega, by omega, by unfold canW; simp, rfl, rfl⟩ ?_
    rintro _ _ H2 ⟨q, rfl, hq, hn, hH, rfl⟩
    subst hH
    repeat' (first | (refine XO.op rfl ?_; (first | ((first | refine Xo.ng rfl ?_); (first | (refine Xg.ev (EvF.move rfl rfl) rfl rfl ?_) | (refine Xg.ev (EvF.assign rfl rfl) rfl rfl ?_) | (refine Xg.ev (EvF.cmp rfl rfl rfl rfl) rfl rfl ?_) | (refine Xg.ev (EvF.fieldAddr rfl rfl (te rfl) rfl (te rfl) (by decide)) rfl rfl ?_) | (refine Xg.ev (EvF.loadV rfl rfl (LoadV.own (te rfl) rfl (List.Mem.head _) rfl)) rfl rfl ?_) | (refine Xg.st (StF.boxAgg rfl rfl) rfl rfl ?_; rintro _ _ ⟨bx, rfl, rfl⟩))))) | (refine XO.done rfl ?_; refine hK _ _ ?_; clear hK K) | refine X.seq rfl ?_ | refine X.region rfl (fun K hK => ?_) | refine X.block rfl ?_ | (refine X.brk rfl ?_; first | refine blockX_hit rfl ?_ | skip) | refine X.skip rfl ?_ | (refine X.ite rfl rfl (fun hc => ?_); (first | (with_reducible refine Xb.case hc (fun h => ?_) (fun h => ?_))) <;> clear hc))
    · obtain ⟨b, off, e, rfl, he⟩ := hB.weighs.elem (i := q) (by omega)
      have hwe := hw e (List.mem_of_getElem? he)
      rw [drop_cons he] at hn
      repeat' (first | (refine XO.op rfl ?_; (first | ((first | refine Xo.ng rfl ?_); (first | (refine Xg.ev (EvF.loadV rfl rfl (LoadV.elA0 (hBZ _ _).weighs he (te rfl) rfl (fun _ hm => hm) rfl)) rfl rfl ?_) | (refine Xg.call (EnF.st rfl (Args.cons rfl (Args.cons rfl Args.nil))) rfl rfl (damp_spec e d _ hwe (by omega)) ?_; rintro _ H9 ⟨rfl, hH9⟩; subst H9) | (refine Xg.ev (EvF.move rfl rfl) rfl rfl ?_) | (refine Xg.ev (EvF.assign rfl rfl) rfl rfl ?_) | (refine Xg.ev (EvF.cmp rfl rfl rfl rfl) rfl rfl ?_) | (refine Xg.ev (EvF.add64 rfl rfl rfl (by omega) (by omega)) rfl rfl ?_) | (refine Xg.ev (EvF.fieldAddr rfl rfl (te rfl) rfl (te rfl) (by decide)) rfl rfl ?_) | (refine Xg.ev (EvF.indexSlice rfl rfl rfl (te rfl) (te rfl) (by omega) (by omega)) rfl rfl ?_) | (refine Xg.ev (EvF.loadV rfl rfl (LoadV.own (te rfl) rfl (List.Mem.head _) rfl)) rfl rfl ?_) | (refine Xg.ev (EvF.loadV rfl rfl (LoadV.whole (te rfl) rfl (List.Mem.head _) rfl)) rfl rfl ?_) | (refine Xg.st (StF.alloc rfl Try.zeroValue23 rfl) rfl rfl ?_; rintro _ _ ⟨bx, rfl, rfl⟩) | (refine Xg.st (StF.alloc rfl Try.zeroValue29 rfl) rfl rfl ?_; rintro _ _ ⟨bx, rfl, rfl⟩) | (refine Xg.st0 (StF.storeAll (i := 0) rfl rfl rfl (te rfl) rfl rfl rfl rfl) rfl ?_; rintro _ _ ⟨rfl, rfl⟩; dsimp only [List.set]))))) | (refine XO.done rfl ?_; refine hK _ _ ?_; clear hK K) | refine X.seq rfl ?_ | refine X.region rfl (fun K hK => ?_) | (refine X.brk rfl ?_; first | refine blockX_hit rfl ?_ | skip) | refine X.skip rfl ?_ | (refine X.ite rfl rfl (fun hc => ?_); (first | (with_reducible refine Xb.case hc (fun h => ?_) (fun h => ?_))) <;> clear hc))
      · have hno : okW B d = false := decide_eq_false (fun c => hn.1 c e List.mem_cons_self h)
        refine ⟨_, _, _, (by (repeat (first | exact Sub.nil _ | refine Sub.cons rfl ?_)); done), (by (repeat (first | exact List.Sublist.refl _ | apply List.Sublist.cons)); done), ⟨k + 1, _, _, Z, rfl, by omega, ?_, ?_, rfl, rfl⟩, by omega⟩
        · omega
        · rw [hdk] at hno
          simp only [wl, hno, Bool.false_eq_true, if_false, List.append_nil]
          exact hO
      · refine ⟨_, _, _, (by (repeat (first | exact Sub.nil _ | refine Sub.cons rfl ?_)); done), (by (repeat (first | exact List.Sublist.refl _ | apply List.Sublist.cons)); done), ⟨q + 1, rfl, by omega, hn.trans ⟨fun w n hm => w n (List.mem_cons_of_mem _ hm), fun w n hm => ?_⟩, rfl, rfl⟩, by omega⟩
        rcases List.mem_cons.1 hm with rfl | hm
        · assumption
        · exact w n hm
    · have hyes : okW B d = true := decide_eq_true (hn.2 (by rw [List.drop_eq_nil_of_le (by omega)]; exact fun _ h => absurd h List.not_mem_nil))
      have hwl : wl (okW B) B.dlo (k + 1) = wl (okW B) B.dlo k ++ [d] := by
        rw [hdk] at hyes
        simp only [wl, hyes, if_true, hdk]
      have hk1 := wl_len (okW B) B.dlo k
      obtain ⟨l, hlE⟩ : ∃ l, wl (okW B) B.dlo k = l := ⟨_, rfl⟩
      rw [hlE] at hO hwl hk1
      clear hn
      rcases hO with ⟨rfl, rfl, rfl⟩ | ⟨b0, q0, rfl, rfl⟩
      · repeat' (first | (refine XO.op rfl ?_; (first | ((first | refine Xo.ng rfl ?_); (first | (refine Xg.st (StF.buildOne rfl el55 rfl rfl rfl (by decide) (by decide)) rfl rfl ?_; rintro _ _ ⟨bs, rfl, rfl⟩) | (refine Xg.st (StF.appendNew rfl el55 rfl rfl (by decide) rfl (Rd.own (List.Mem.head _)) (by decide)) rfl rfl ?_; rintro _ _ ⟨bn, kn, rfl, rfl⟩) | (refine Xg.ev (EvF.move rfl rfl) rfl rfl ?_) | (refine Xg.ev (EvF.assign rfl rfl) rfl rfl ?_) | (refine Xg.ev (EvF.add64 rfl rfl rfl (by omega) (by omega)) rfl rfl ?_))))) | (refine XO.done rfl ?_; refine hK _ _ ?_; clear hK K) | refine X.region rfl (fun K hK => ?_))
        refine ⟨_, _, _, (by (repeat (first | exact Sub.nil _ | refine Sub.cons rfl ?_)); done), ?_, ⟨k + 1, _, _, [⟨bn, 0, ([] ++ [d]).flatMap cI, some 3, kn * 1⟩], rfl, by omega, ?_, ?_, rfl, rfl⟩, by omega⟩
        · exact List.Sublist.cons_cons _ (List.Sublist.cons _ (List.Sublist.refl _))
        · omega
        · rw [hwl]; exact .inr ⟨_, _, rfl, rfl⟩
      · have hlen : (l.flatMap cI).length = l.length * 1 := lenI l
        repeat' (first | (refine XO.op rfl ?_; (first | ((first | refine Xo.ng rfl ?_); (first | (refine Xg.st (StF.buildOne rfl el55 rfl rfl rfl (by decide) (by decide)) rfl rfl ?_; rintro _ _ ⟨bs, rfl, rfl⟩) | (refine Xg.st (StF.appendOwn (i := 1) rfl el55 rfl rfl rfl hlen rfl (Rd.own (List.Mem.head _)) rfl (by omega)) rfl rfl ?_; rintro _ _ ⟨bn, kn, rfl, rfl⟩; dsimp only [List.eraseIdx]) | (refine Xg.ev (EvF.move rfl rfl) rfl rfl ?_) | (refine Xg.ev (EvF.assign rfl rfl) rfl rfl ?_) | (refine Xg.ev (EvF.add64 rfl rfl rfl (by omega) (by omega)) rfl rfl ?_))))) | (refine XO.done rfl ?_; refine hK _ _ ?_; clear hK K) | refine X.region rfl (fun K hK => ?_))
        refine ⟨_, _, _, (by (repeat (first | exact Sub.nil _ | refine Sub.cons rfl ?_)); done), ?_, ⟨k + 1, _, _, [⟨bn, 0, (l ++ [d]).flatMap cI, some 3, kn * 1⟩], rfl, by omega, ?_, ?_, rfl, rfl⟩, by omega⟩
        · rw [List.flatMap_append]
          exact List.Sublist.cons_cons _ (List.Sublist.cons _ (List.Sublist.refl _))
        · omega
        · rw [hwl]; exact .inr ⟨_, _, by rw [List.length_append]; rfl, rfl⟩
  · obtain rfl : k = N := by omega
    exact ret_one (by first | exact .inr rfl | exact .inl rfl) Try.results78 rfl (H' := Z ++ H) (List.Sublist.append (List.Sublist.refl _) (List.sublist_cons_self _ _)) ⟨Z, hO, rfl⟩
theorem hasWeight_spec (B : Bl) (p : Pb) (g : List Sp) (H : List Row) (hd : 1 ≤ B.dlo ∧ B.dlo ≤ B.dhi ∧ B.dhi ≤ 600) (hw : ∀ x ∈ B.weighs, 0 ≤ x.val ∧ x.val ≤ 10000) (hg : g.length = 5) (hB : BlOk H B p) :
    Fc Try.prog 47 [.agg (cPr B p g).toArray] H (fun v H' => v = .bool (decide ((wts B).length > 0)) ∧ H' = H) := by
  have hl := wl_len (okW B) B.dlo (B.dhi - B.dlo + 1).toNat
  refine Fc.mk (callable Try.call47) Try.func47 rfl Try.ntmps47 rfl ?_; dsimp only [fr]
  repeat' (first | (refine XO.op rfl ?_; (first | ((first | refine Xo.ng rfl ?_); (first | (refine Xg.ev (EvF.loadV rfl rfl (LoadV.whole (te rfl) rfl (List.Mem.head _) (lenPr hg))) rfl rfl ?_) | (refine Xg.call (EnF.st rfl (by (repeat (first | exact Args.nil | refine Args.cons rfl ?_)); done)) rfl rfl (weights_spec B p g _ hd hw hg (hB.sub (fun _ h => List.mem_cons_of_mem _ h))) ?_; rintro _ _ ⟨Z, hO, rfl⟩; obtain ⟨a, c, rfl, hs⟩ := hO.sl (H := [])) | (refine Xg.ev (EvF.assign rfl rfl) rfl rfl ?_) | (refine Xg.ev (EvF.cmp rfl rfl rfl rfl) rfl rfl ?_) | (refine Xg.ev (EvF.lenSlice rfl rfl (te rfl)) rfl rfl ?_) | (refine Xg.st (StF.boxAgg rfl rfl) rfl rfl ?_; rintro _ _ ⟨bx, rfl, rfl⟩))))) | (refine XO.done rfl ?_; refine hK _ _ ?_; clear hK K) | refine X.seq rfl ?_ | refine X.region rfl (fun K hK => ?_) | refine X.ret rfl ?_)
  refine ret_one (by first | exact .inr rfl | exact .inl rfl) Try.results47 rfl (H' := H) ((List.sublist_cons_self _ _).trans (List.sublist_append_right _ _)) ⟨?_, rfl⟩
  congr 1
  exact decide_eq_decide.2 ⟨fun q => by omega, fun q => by omega⟩
end Go.Proofs.Ytoflnjgfikchjaa
end
section
set_option linter.unusedVariables false
set_option linter.unusedSimpArgs false
namespace Go.Proofs.Ytoflnjgfikchjaa
open Go Go.Fw
set_option maxRecDepth 10000
set_option maxHeartbeats 8000000 in
theorem fewest_specDr (ok : List Dr → Bool) (l : List Dr) (a : Option Addr) (c most g : Nat) (cap : List Value) (H : List Row) (hl : SlE H a cDr 4 l) (hb : l.length ≤ 1000000) (hm : most ≤ 1000)
    (hr : ∀ acc a' c' H', (∀ r ∈ H, r ∈ H') → SlE H' a' cDr 4 acc → acc.length ≤ 1000000 → Fc Try.prog g ([.slice a' acc.length c'] ++ cap) H' (fun v H'' => v = .bool (ok acc) ∧ H'' = H')) :
    Fc Try.prog 38 [.slice a l.length c, .int .i64 (most : Nat), .func (.func g) #[] cap.toArray] H
      (fun v H' => ∃ out Z, TrvDr ((few ok l (min most l.length + 1) 0).getD []) out Z ∧ v = .tuple #[out, .bool (few ok l (min most l.length + 1) 0).isSome] ∧ H' = Z ++ H) := by
  refine Fc.mk (callable Try.call38) Try.func38 rfl Try.ntmps38 rfl ?_; dsimp only [fr]
  repeat' (first | (refine XO.op rfl ?_; (first | ((first | refine Xo.ng rfl ?_); (first | (refine Xg.ev (EvF.makeFunc (fl := []) rfl Args.nil (Args.cons rfl (Args.cons rfl (Args.cons rfl (Args.cons rfl Args.nil))))) rfl rfl ?_) | (refine Xg.ev (EvF.move rfl rfl) rfl rfl ?_) | (refine Xg.ev (EvF.assign rfl rfl) rfl rfl ?_) | (refine Xg.ev (EvF.add64 rfl rfl rfl (by omega) (by omega)) rfl rfl ?_) | (refine Xg.ev (EvF.lenSlice rfl rfl (te rfl)) rfl rfl ?_) | (refine Xg.ev (EvF.loadV rfl rfl (LoadV.own (te rfl) rfl (List.Mem.tail _ (List.Mem.tail _ (List.Mem.tail _ (List.Mem.head _)))) rfl)) rfl rfl ?_) | (refine Xg.ev (EvF.min64 rfl rfl rfl) rfl rfl ?_) | (refine Xg.st (StF.boxOne rfl rfl rfl) rfl rfl ?_; rintro _ _ ⟨bx, rfl, rfl⟩) | (refine Xg.st (StF.alloc rfl Try.zeroValue32 rfl) rfl rfl ?_; rintro _ _ ⟨bx, rfl, rfl⟩) | (refine Xg.st (StF.alloc rfl Try.zeroValue102 rfl) rfl rfl ?_; rintro _ _ ⟨bx, rfl, rfl⟩) | (refine Xg.st0 (StF.storeOne (i := 0) rfl rfl rfl rfl (te rfl) rfl rfl (Nat.le_of_ble_eq_true rfl)) rfl ?_; rintro _ _ ⟨rfl, rfl⟩; dsimp only [List.set]))))) | (refine XO.done rfl ?_; refine hK _ _ ?_; clear hK K) | refine X.seq rfl ?_ | refine X.region rfl (fun K hK => ?_) | refine X.block rfl ?_)
  rename_i bl br bt; rename Nat => bg
  refine X.permH (List.Perm.swap _ _ _) ?_
  have hlg := longer_specDr ok l a c g cap bt br bl bg (some 78) (some 24) (some 102) 1 1 1 (⟨bg, 0, [.func (.func 70) #[] #[.pointer (some ⟨br, 0, none⟩), .pointer (some ⟨bt, 0, none⟩), .pointer (some ⟨bl, 0, none⟩), .pointer (some ⟨bg, 0, none⟩)]], some 102, 1⟩ :: ⟨br, 0, [.func (.func g) #[] cap.toArray], some 78, 1⟩ :: ⟨bl, 0, [.slice a l.length c], some 24, 1⟩ :: H)
    (hl.sub (fun _ h => List.Mem.tail _ (List.Mem.tail _ (List.Mem.tail _ h)))) hb (List.Mem.tail _ (List.Mem.head _)) (List.Mem.tail _ (List.Mem.tail _ (List.Mem.head _))) (List.Mem.head _) (fun acc a' c' H' hs => hr acc a' c' H' (fun r h => hs r (List.Mem.tail _ (List.Mem.tail _ (List.Mem.tail _ h)))))
  refine X.lp rfl (fun q F' H' => ∃ (k : Nat) (out : Value) (Z : List Row), q = min most l.length + 1 - k ∧ k ≤ min most l.length + 1 ∧ TrvDr [] out Z ∧ few ok l (min most l.length + 1) 0 = few ok l (min most l.length + 1 - k) k ∧
      ⟨bt, 0, [out], some 24, 1⟩ :: (Z ++ (⟨bg, 0, [.func (.func 70) #[] #[.pointer (some ⟨br, 0, none⟩), .pointer (some ⟨bt, 0, none⟩), .pointer (some ⟨bl, 0, none⟩), .pointer (some ⟨bg, 0, none⟩)]], some 102, 1⟩ :: ⟨br, 0, [.func (.func g) #[] cap.toArray], some 78, 1⟩ :: ⟨bl, 0, [.slice a l.length c], some 24, 1⟩ :: H)) = H' ∧
      F' = [(8, .pointer (some ⟨bt, 0, none⟩)), (9, .pointer (some ⟨bg, 0, none⟩)), (16, .int .i64 (min (most : Int) (l.length : Int) + 1)), (17, .int .i64 k)])
    (min most l.length + 1) [(8, .pointer (some ⟨bt, 0, none⟩)), (9, .pointer (some ⟨bg, 0, none⟩)), (16, .int .i64 (min (most : Int) (l.length : Int) + 1)), (17, .int .i64 (0 : Nat))] _ (by (repeat (first | exact Sub.nil _ | refine Sub.cons rfl ?_)); done) (List.Sublist.refl _) ⟨0, _, [], rfl, by omega, .inl ⟨rfl, rfl, rfl⟩, rfl, rfl, rfl⟩ ?_
  rintro _ _ H2 ⟨k, out, Z, rfl, hk, hT, hf, hH, rfl⟩
  subst hH
  repeat' (first | (refine XO.op rfl ?_; (first | ((first | refine Xo.ng rfl ?_); (first | (refine Xg.ev (EvF.loadV rfl rfl (LoadV.own (te rfl) rfl (List.Mem.tail _ (List.mem_append_right _ (List.Mem.head _))) rfl)) rfl rfl ?_) | (refine Xg.call (EnF.dyn0 rfl rfl (by (repeat (first | exact Args.nil | refine Args.cons rfl ?_)); done)) rfl rfl (hlg k 0 _ _ [] out Z rfl rfl (by omega) (by simp only [List.length_nil]; omega) hT) ?_; rintro _ _ ⟨out', Z', (⟨r, hlr, rfl, hT'⟩ | ⟨hln, rfl, hT'⟩), rfl⟩) | (refine Xg.ev (EvF.move rfl rfl) rfl rfl ?_) | (refine Xg.ev (EvF.assign rfl rfl) rfl rfl ?_) | (refine Xg.ev (EvF.cmp rfl rfl rfl rfl) rfl rfl ?_) | (refine Xg.ev (EvF.add64 rfl rfl rfl (by omega) (by omega)) rfl rfl ?_) | (refine Xg.ev (EvF.loadV rfl rfl (LoadV.own (te rfl) rfl (List.Mem.head _) rfl)) rfl rfl ?_))))) | (refine XO.done rfl ?_; refine hK _ _ ?_; clear hK K) | refine X.seq rfl ?_ | refine X.region rfl (fun K hK => ?_) | refine X.block rfl ?_ | (refine X.brk rfl ?_; first | refine blockX_hit rfl ?_ | skip) | refine X.skip rfl ?_ | refine X.ret rfl ?_ | (refine X.ite rfl rfl (fun hc => ?_); (first | (with_reducible refine Xb.t hc ?_) | (with_reducible refine Xb.f hc ?_) | (with_reducible refine Xb.case hc (fun h => ?_) (fun h => ?_))) <;> clear hc))
  · obtain ⟨j, hj⟩ : ∃ j, min most l.length + 1 - k = j + 1 := ⟨min most l.length - k, by omega⟩
    rw [List.drop_zero] at hlr
    have hfr : few ok l (min most l.length + 1) 0 = some r := by rw [hf, hj]; simp only [few, hlr]
    rw [hfr]
    exact ret_two (by first | exact .inr rfl | exact .inl rfl) Try.results38 rfl rfl (H' := Z' ++ H) (List.Sublist.cons _ (List.Sublist.append (List.Sublist.refl _) (List.Sublist.cons _ (List.Sublist.cons _ (List.sublist_cons_self _ _))))) ⟨out', Z', hT', rfl, rfl⟩
  · obtain ⟨j, hj⟩ : ∃ j, min most l.length + 1 - k = j + 1 := ⟨min most l.length - k, by omega⟩
    rw [List.drop_zero] at hln
    refine ⟨_, _, _, (by (repeat (first | exact Sub.nil _ | refine Sub.cons rfl ?_)); done), List.Sublist.refl _, ⟨k + 1, out', Z', rfl, by omega, hT', ?_, rfl, rfl⟩, by omega⟩
    rw [hf, hj, show min most l.length + 1 - (k + 1) = j by omega]
    simp only [few, hln]
  · have hk' : min most l.length + 1 - k = 0 := by omega
    have hfn : few ok l (min most l.length + 1) 0 = none := by rw [hf, hk']; rfl
    rw [hfn]
    exact ret_two (by first | exact .inr rfl | exact .inl rfl) Try.results38 rfl rfl (H' := H) (List.Sublist.cons _ ((List.Sublist.cons _ (List.Sublist.cons _ (List.sublist_cons_self _ _))).trans (List.sublist_append_right _ _))) ⟨_, [], .inl ⟨rfl, rfl, rfl⟩, rfl, rfl⟩
set_option maxHeartbeats 8000000 in
theorem fewest_specWg (ok : List Dr → Bool) (l : List Dr) (a : Option Addr) (c most g : Nat) (cap : List Value) (H : List Row) (hl : SlE H a cDr 4 l) (hb : l.length ≤ 1000000) (hm : most ≤ 1000)
    (hr : ∀ acc a' c' H', (∀ r ∈ H, r ∈ H') → SlE H' a' cDr 4 acc → acc.length ≤ 1000000 → Fc Try.prog g ([.slice a' acc.length c'] ++ cap) H' (fun v H'' => v = .bool (ok acc) ∧ H'' = H')) :
    Fc Try.prog 44 [.slice a l.length c, .int .i64 (most : Nat), .func (.func g) #[] cap.toArray] H
      (fun v H' => ∃ out Z, TrvWg ((few ok l (min most l.length + 1) 0).getD []) out Z ∧ v = .tuple #[out, .bool (few ok l (min most l.length + 1) 0).isSome] ∧ H' = Z ++ H) := by
  refine Fc.mk (callable Try.call44) Try.func44 rfl Try.ntmps44 rfl ?_; dsimp only [fr]
  repeat' (first | (refine XO.op rfl ?_; (first | ((first | refine Xo.ng rfl ?_); (first | (refine Xg.ev (EvF.makeFunc (fl := []) rfl Args.nil (Args.cons rfl (Args.cons rfl (Args.cons rfl (Args.cons rfl Args.nil))))) rfl rfl ?_) | (refine Xg.ev (EvF.move rfl rfl) rfl rfl ?_) | (refine Xg.ev (EvF.assign rfl rfl) rfl rfl ?_) | (refine Xg.ev (EvF.add64 rfl rfl rfl (by omega) (by omega)) rfl rfl ?_) | (refine Xg.ev (EvF.lenSlice rfl rfl (te rfl)) rfl rfl ?_) | (refine Xg.ev (EvF.loadV rfl rfl (LoadV.own (te rfl) rfl (List.Mem.tail _ (List.Mem.tail _ (List.Mem.tail _ (List.Mem.head _)))) rfl)) rfl rfl ?_) | (refine Xg.ev (EvF.min64 rfl rfl rfl) rfl rfl ?_) | (refine Xg.st (StF.boxOne rfl rfl rfl) rfl rfl ?_; rintro _ _ ⟨bx, rfl, rfl⟩) | (refine Xg.st (StF.alloc rfl Try.zeroValue32 rfl) rfl rfl ?_; rintro _ _ ⟨bx, rfl, rfl⟩) | (refine Xg.st (StF.alloc rfl Try.zeroValue102 rfl) rfl rfl ?_; rintro _ _ ⟨bx, rfl, rfl⟩) | (refine Xg.st0 (StF.storeOne (i := 0) rfl rfl rfl rfl (te rfl) rfl rfl (Nat.le_of_ble_eq_true rfl)) rfl ?_; rintro _ _ ⟨rfl, rfl⟩; dsimp only [List.set]))))) | (refine XO.done rfl ?_; refine hK _ _ ?_; clear hK K) | refine X.seq rfl ?_ | refine X.region rfl (fun K hK => ?_) | refine X.block rfl ?_)
  rename_i bl br bt; rename Nat => bg
  refine X.permH (List.Perm.swap _ _ _) ?_
  have hlg := longer_specWg ok l a c g cap bt br bl bg (some 82) (some 25) (some 102) 1 1 1 (⟨bg, 0, [.func (.func 75) #[] #[.pointer (some ⟨br, 0, none⟩), .pointer (some ⟨bt, 0, none⟩), .pointer (some ⟨bl, 0, none⟩), .pointer (some ⟨bg, 0, none⟩)]], some 102, 1⟩ :: ⟨br, 0, [.func (.func g) #[] cap.toArray], some 82, 1⟩ :: ⟨bl, 0, [.slice a l.length c], some 25, 1⟩ :: H)
    (hl.sub (fun _ h => List.Mem.tail _ (List.Mem.tail _ (List.Mem.tail _ h)))) hb (List.Mem.tail _ (List.Mem.head _)) (List.Mem.tail _ (List.Mem.tail _ (List.Mem.head _))) (List.Mem.head _) (fun acc a' c' H' hs => hr acc a' c' H' (fun r h => hs r (List.Mem.tail _ (List.Mem.tail _ (List.Mem.tail _ h)))))
  refine X.lp rfl (fun q F' H' => ∃ (k : Nat) (out : Value) (Z : List Row), q = min most l.length + 1 - k ∧ k ≤ min most l.length + 1 ∧ TrvWg [] out Z ∧ few ok l (min most l.length + 1) 0 = few ok l (min most l.length + 1 - k) k ∧
      ⟨bt, 0, [out], some 25, 1⟩ :: (Z ++ (⟨bg, 0, [.func (.func 75) #[] #[.pointer (some ⟨br, 0, none⟩), .pointer (some ⟨bt, 0, none⟩), .pointer (some ⟨bl, 0, none⟩), .pointer (some ⟨bg, 0, none⟩)]], some 102, 1⟩ :: ⟨br, 0, [.func (.func g) #[] cap.toArray], some 82, 1⟩ :: ⟨bl, 0, [.slice a l.length c], some 25, 1⟩ :: H)) = H' ∧
      F' = [(8, .pointer (some ⟨bt, 0, none⟩)), (9, .pointer (some ⟨bg, 0, none⟩)), (16, .int .i64 (min (most : Int) (l.length : Int) + 1)), (17, .int .i64 k)])
    (min most l.length + 1) [(8, .pointer (some ⟨bt, 0, none⟩)), (9, .pointer (some ⟨bg, 0, none⟩)), (16, .int .i64 (min (most : Int) (l.length : Int) + 1)), (17, .int .i64 (0 : Nat))] _ (by (repeat (first | exact Sub.nil _ | refine Sub.cons rfl ?_)); done) (List.Sublist.refl _) ⟨0, _, [], rfl, by omega, .inl ⟨rfl, rfl, rfl⟩, rfl, rfl, rfl⟩ ?_
  rintro _ _ H2 ⟨k, out, Z, rfl, hk, hT, hf, hH, rfl⟩
  subst hH
  repeat' (first | (refine XO.op rfl ?_; (first | ((first | refine Xo.ng rfl ?_); (first | (refine Xg.ev (EvF.loadV rfl rfl (LoadV.own (te rfl) rfl (List.Mem.tail _ (List.mem_append_right _ (List.Mem.head _))) rfl)) rfl rfl ?_) | (refine Xg.call (EnF.dyn0 rfl rfl (by (repeat (first | exact Args.nil | refine Args.cons rfl ?_)); done)) rfl rfl (hlg k 0 _ _ [] out Z rfl rfl (by omega) (by simp only [List.length_nil]; omega) hT) ?_; rintro _ _ ⟨out', Z', (⟨r, hlr, rfl, hT'⟩ | ⟨hln, rfl, hT'⟩), rfl⟩) | (refine Xg.ev (EvF.move rfl rfl) rfl rfl ?_) | (refine Xg.ev (EvF.assign rfl rfl) rfl rfl ?_) | (refine Xg.ev (EvF.cmp rfl rfl rfl rfl) rfl rfl ?_) | (refine Xg.ev (EvF.add64 rfl rfl rfl (by omega) (by omega)) rfl rfl ?_) | (refine Xg.ev (EvF.loadV rfl rfl (LoadV.own (te rfl) rfl (List.Mem.head _) rfl)) rfl rfl ?_))))) | (refine XO.done rfl ?_; refine hK _ _ ?_; clear hK K) | refine X.seq rfl ?_ | refine X.region rfl (fun K hK => ?_) | refine X.block rfl ?_ | (refine X.brk rfl ?_; first | refine blockX_hit rfl ?_ | skip) | refine X.skip rfl ?_ | refine X.ret rfl ?_ | (refine X.ite rfl rfl (fun hc => ?_); (first | (with_reducible refine Xb.t hc ?_) | (with_reducible refine Xb.f hc ?_) | (with_reducible refine Xb.case hc (fun h => ?_) (fun h => ?_))) <;> clear hc))
  · obtain ⟨j, hj⟩ : ∃ j, min most l.length + 1 - k = j + 1 := ⟨min most l.length - k, by omega⟩
    rw [List.drop_zero] at hlr
    have hfr : few ok l (min most l.length + 1) 0 = some r := by rw [hf, hj]; simp only [few, hlr]
    rw [hfr]
    exact ret_two (by first | exact .inr rfl | exact .inl rfl) Try.results44 rfl rfl (H' := Z' ++ H) (List.Sublist.cons _ (List.Sublist.append (List.Sublist.refl _) (List.Sublist.cons _ (List.Sublist.cons _ (List.sublist_cons_self _ _))))) ⟨out', Z', hT', rfl, rfl⟩
  · obtain ⟨j, hj⟩ : ∃ j, min most l.length + 1 - k = j + 1 := ⟨min most l.length - k, by omega⟩
    rw [List.drop_zero] at hln
    refine ⟨_, _, _, (by (repeat (first | exact Sub.nil _ | refine Sub.cons rfl ?_)); done), List.Sublist.refl _, ⟨k + 1, out', Z', rfl, by omega, hT', ?_, rfl, rfl⟩, by omega⟩
    rw [hf, hj, show min most l.length + 1 - (k + 1) = j by omega]
    simp only [few, hln]
  · have hk' : min most l.length + 1 - k = 0 := by omega
    have hfn : few ok l (min most l.length + 1) 0 = none := by rw [hf, hk']; rfl
    rw [hfn]
    exact ret_two (by first | exact .inr rfl | exact .inl rfl) Try.results44 rfl rfl (H' := H) (List.Sublist.cons _ ((List.Sublist.cons _ (List.Sublist.cons _ (List.sublist_cons_self _ _))).trans (List.sublist_append_right _ _))) ⟨_, [], .inl ⟨rfl, rfl, rfl⟩, rfl, rfl⟩
/-- a bale that is good enough to be pressed, whatever is taken out -/
structure Pok (B : Bl) : Prop where
  h5 : 1 ≤ B.layers ∧ B.layers ≤ 5
  hd : ∀ x ∈ B.draws, 0 ≤ x.val ∧ x.val < 5
  hdry : 1 ≤ B.dlo ∧ B.dlo ≤ B.dhi ∧ B.dhi ≤ 600
  hw : ∀ x ∈ B.weighs, 0 ≤ x.val ∧ x.val ≤ 10000
noncomputable def outD (B : Bl) (out : List Dr) : Bl := { B with draws := excDr B.draws out }
noncomputable def outW (B : Bl) (out : List Dr) : Bl := { B with weighs := excWg B.weighs out }
theorem Pok.outD {B : Bl} (h : Pok B) (out : List Dr) : Pok (outD B out) := ⟨h.h5, fun x hx => h.hd x (List.mem_filter.1 hx).1, h.hdry, h.hw⟩
theorem Pok.outW {B : Bl} (h : Pok B) (out : List Dr) : Pok (outW B out) := ⟨h.h5, h.hd, h.hdry, fun x hx => h.hw x (List.mem_filter.1 hx).1⟩
theorem Pok.len {B : Bl} (h : Pok B) : (gradesOf B).length = 5 := by
  have := h.h5
  unfold gradesOf; rw [foldG_len, initG_len (by omega)]
noncomputable def okD (B : Bl) (out : List Dr) : Bool := decide (hasG B.layers.toNat (gradesOf (outD B out)))
noncomputable def okWt (B : Bl) (out : List Dr) : Bool := decide ((wts (outW B out)).length > 0)
theorem exc_lenD (l out : List Dr) : (excDr l out).length ≤ l.length := List.length_filter_le _ _
theorem exc_lenW (l out : List Dr) : (excWg l out).length ≤ l.length := List.length_filter_le _ _
set_option maxHeartbeats 4000000 in
theorem falseDraws1_spec (B : Bl) (d1 : Addr) (c1 : Nat) (a2 : Option Addr) (c2 : Nat) (acc : List Dr) (a' : Option Addr) (c' bb : Nat) (ow : Option Kd) (cap : Nat) (H : List Row) (hp : Pok B) (hB : BlOk H B ⟨some d1, c1, a2, c2⟩) (hm : ⟨bb, 0, cBl B ⟨some d1, c1, a2, c2⟩, ow, cap⟩ ∈ H) (ha : SlE H a' cDr 4 acc) (hb : acc.length ≤ 1000000) :
    Fc Try.prog 39 ([.slice a' acc.length c'] ++ [.pointer (some ⟨bb, 0, none⟩)]) H (fun v H' => v = .bool (okD B acc) ∧ H' = H) := by
  show Fc Try.prog 39 [.slice a' acc.length c', .pointer (some ⟨bb, 0, none⟩)] H _
  have l1 := hB.l1
  have l2 := hB.l2
  have hel := exc_lenD B.draws acc
  have hp' := hp.outD acc
  have hg := hp'.len
  have hB1 : ∀ r, BlOk (r :: H) B ⟨some d1, c1, a2, c2⟩ := fun r => hB.sub (fun _ h => List.Mem.tail _ h)
  refine Fc.mk (callable Try.call39) Try.func39 rfl Try.ntmps39 rfl ?_; dsimp only [fr]
  repeat' (first | (refine XO.op rfl ?_; (first | ((first | refine Xo.ng rfl ?_); (first | (refine Xg.ev (EvF.loadV rfl rfl (LoadV.whole (te rfl) rfl hm rfl)) rfl rfl ?_) | (refine Xg.ev (EvF.loadV rfl rfl (LoadV.own (te rfl) rfl (List.Mem.tail _ hm) rfl)) rfl rfl ?_) | (refine Xg.call (EnF.st rfl (by (repeat (first | exact Args.nil | refine Args.cons rfl ?_)); done)) rfl rfl (except_specDr B.draws d1 c1 acc a' c' _ (hB1 _).draws l1 (ha.sub (fun _ h => List.Mem.tail _ h)) hb) ?_; rintro _ _ ⟨bc, kc, rfl, rfl⟩) | (refine Xg.call (EnF.st rfl (Args.cons rfl Args.nil)) rfl rfl (pressed_spec (outD B acc) ⟨some ⟨bc, 0, none⟩, kc, a2, c2⟩ _ hp'.h5 hp'.hd ⟨SlE.ofRow (List.Mem.head _) (fun _ _ => rfl), hB.weighs.sub (fun _ h => List.Mem.tail _ (List.Mem.tail _ h)), by show (excDr B.draws acc).length ≤ _; omega, l2⟩) ?_; rintro _ H9 ⟨rfl, hH9⟩; subst H9) | (refine Xg.call (EnF.st rfl (Args.cons rfl Args.nil)) rfl rfl (hasGrades_spec (outD B acc) ⟨some ⟨bc, 0, none⟩, kc, a2, c2⟩ (gradesOf (outD B acc)) _ hp'.h5 hg) ?_; rintro _ H9 ⟨rfl, hH9⟩; subst H9) | (refine Xg.ev (EvF.move rfl rfl) rfl rfl ?_) | (refine Xg.ev (EvF.assign rfl rfl) rfl rfl ?_) | (refine Xg.ev (EvF.fieldAddr rfl rfl (te rfl) rfl (te rfl) (by decide)) rfl rfl ?_) | (refine Xg.ev (EvF.loadV rfl rfl (LoadV.whole (te rfl) rfl (List.Mem.tail _ (List.Mem.head _)) rfl)) rfl rfl ?_) | (refine Xg.st (StF.alloc rfl Try.zeroValue27 rfl) rfl rfl ?_; rintro _ _ ⟨bx, rfl, rfl⟩) | (refine Xg.st0 (StF.storeAll (i := 0) rfl rfl rfl (te rfl) rfl rfl rfl rfl) rfl ?_; rintro _ _ ⟨rfl, rfl⟩; dsimp only [List.set]) | (refine Xg.st0 (StF.storeOne (i := 1) rfl rfl rfl rfl (te rfl) rfl rfl (Nat.le_of_ble_eq_true rfl)) rfl ?_; rintro _ _ ⟨rfl, rfl⟩; dsimp only [List.set]))))) | (refine XO.done rfl ?_; refine hK _ _ ?_; clear hK K) | refine X.seq rfl ?_ | refine X.region rfl (fun K hK => ?_) | refine X.ret rfl ?_)
  exact ret_one (by first | exact .inr rfl | exact .inl rfl) Try.results39 rfl (H' := H) (by (repeat (first | exact List.Sublist.refl _ | apply List.Sublist.cons)); done) ⟨rfl, rfl⟩
set_option maxHeartbeats 4000000 in
theorem falseWeighs1_spec (B : Bl) (a1 : Option Addr) (c1 : Nat) (d2 : Addr) (c2 : Nat) (acc : List Dr) (a' : Option Addr) (c' bb : Nat) (ow : Option Kd) (cap : Nat) (H : List Row) (hp : Pok B) (hB : BlOk H B ⟨a1, c1, some d2, c2⟩) (hm : ⟨bb, 0, cBl B ⟨a1, c1, some d2, c2⟩, ow, cap⟩ ∈ H) (ha : SlE H a' cDr 4 acc) (hb : acc.length ≤ 1000000) :
    Fc Try.prog 45 ([.slice a' acc.length c'] ++ [.pointer (some ⟨bb, 0, none⟩)]) H (fun v H' => v = .bool (okWt B acc) ∧ H' = H) := by
  show Fc Try.prog 45 [.slice a' acc.length c', .pointer (some ⟨bb, 0, none⟩)] H _
  have l1 := hB.l1
  have l2 := hB.l2
  have hel := exc_lenW B.weighs acc
  have hp' := hp.outW acc
  have hg := hp'.len
  have hB1 : ∀ r, BlOk (r :: H) B ⟨a1, c1, some d2, c2⟩ := fun r => hB.sub (fun _ h => List.Mem.tail _ h)
  refine Fc.mk (callable Try.call45) Try.func45 rfl Try.ntmps45 rfl ?_; dsimp only [fr]
  repeat' (first | (refine XO.op rfl ?_; (first | ((first | refine Xo.ng rfl ?_); (first | (refine Xg.ev (EvF.loadV rfl rfl (LoadV.whole (te rfl) rfl hm rfl)) rfl rfl ?_) | (refine Xg.ev (EvF.loadV rfl rfl (LoadV.own (te rfl) rfl (List.Mem.tail _ hm) rfl)) rfl rfl ?_) | (refine Xg.call (EnF.st rfl (by (repeat (first | exact Args.nil | refine Args.cons rfl ?_)); done)) rfl rfl (except_specWg B.weighs d2 c2 acc a' c' _ (hB1 _).weighs l2 (ha.sub (fun _ h => List.Mem.tail _ h)) hb) ?_; rintro _ _ ⟨bc, kc, rfl, rfl⟩) | (refine Xg.call (EnF.st rfl (Args.cons rfl Args.nil)) rfl rfl (pressed_spec (outW B acc) ⟨a1, c1, some ⟨bc, 0, none⟩, kc⟩ _ hp'.h5 hp'.hd ⟨hB.draws.sub (fun _ h => List.Mem.tail _ (List.Mem.tail _ h)), SlE.ofRow (List.Mem.head _) (fun _ _ => rfl), l1, by show (excWg B.weighs acc).length ≤ _; omega⟩) ?_; rintro _ H9 ⟨rfl, hH9⟩; subst H9) | (refine Xg.call (EnF.st rfl (Args.cons rfl Args.nil)) rfl rfl (hasWeight_spec (outW B acc) ⟨a1, c1, some ⟨bc, 0, none⟩, kc⟩ (gradesOf (outW B acc)) _ hp'.hdry hp'.hw hg ⟨hB.draws.sub (fun _ h => List.Mem.tail _ (List.Mem.tail _ h)), SlE.ofRow (List.Mem.head _) (fun _ _ => rfl), l1, by show (excWg B.weighs acc).length ≤ _; omega⟩) ?_; rintro _ H9 ⟨rfl, hH9⟩; subst H9) | (refine Xg.ev (EvF.move rfl rfl) rfl rfl ?_) | (refine Xg.ev (EvF.assign rfl rfl) rfl rfl ?_) | (refine Xg.ev (EvF.fieldAddr rfl rfl (te rfl) rfl (te rfl) (by decide)) rfl rfl ?_) | (refine Xg.ev (EvF.loadV rfl rfl (LoadV.whole (te rfl) rfl (List.Mem.tail _ (List.Mem.head _)) rfl)) rfl rfl ?_) | (refine Xg.st (StF.alloc rfl Try.zeroValue27 rfl) rfl rfl ?_; rintro _ _ ⟨bx, rfl, rfl⟩) | (refine Xg.st0 (StF.storeAll (i := 0) rfl rfl rfl (te rfl) rfl rfl rfl rfl) rfl ?_; rintro _ _ ⟨rfl, rfl⟩; dsimp only [List.set]) | (refine Xg.st0 (StF.storeOne (i := 1) rfl rfl rfl rfl (te rfl) rfl rfl (Nat.le_of_ble_eq_true rfl)) rfl ?_; rintro _ _ ⟨rfl, rfl⟩; dsimp only [List.set]))))) | (refine XO.done rfl ?_; refine hK _ _ ?_; clear hK K) | refine X.seq rfl ?_ | refine X.region rfl (fun K hK => ?_) | refine X.ret rfl ?_)
  exact ret_one (by first | exact .inr rfl | exact .inl rfl) Try.results45 rfl (H' := H) (by (repeat (first | exact List.Sublist.refl _ | apply List.Sublist.cons)); done) ⟨rfl, rfl⟩
end Go.Proofs.Ytoflnjgfikchjaa
end
section
set_option linter.unusedVariables false
set_option linter.unusedSimpArgs false
namespace Go.Proofs.Ytoflnjgfikchjaa
open Go Go.Fw
set_option maxRecDepth 10000
theorem baleOk.h5 {B : Bl} (h : baleOk B) : 1 ≤ B.layers ∧ B.layers ≤ 5 := by simpa using h.2.1
theorem baleOk.hd {B : Bl} (h : baleOk B) : ∀ x ∈ B.draws, 0 ≤ x.val ∧ x.val < 5 := by
  intro x hx
  have h1 := (h.2.2.2.1.2.2 x hx).1 x.val (List.mem_singleton.2 rfl)
  have h2 := h.h5
  exact ⟨h1.1, by have := h1.2; simp only at this; omega⟩
theorem baleOk.hdry {B : Bl} (h : baleOk B) : 1 ≤ B.dlo ∧ B.dlo ≤ B.dhi ∧ B.dhi ≤ 600 := ⟨h.2.2.1.2.1, h.2.2.1.1, h.2.2.1.2.2⟩
theorem baleOk.hw {B : Bl} (h : baleOk B) : ∀ x ∈ B.weighs, 0 ≤ x.val ∧ x.val ≤ 10000 := by
  intro x hx
  have h1 := (h.2.2.2.2.2.2 x hx).1 x.val (List.mem_singleton.2 rfl)
  exact ⟨by have := h1.1; simp only at this; omega, by have := h1.2; simp only at this; omega⟩
/-- what a call is about -/
structure Ca where
  l : List Int
  k : List Int
  w : List Int
  d : List Int
structure Pc where
  a1 : Option Addr
  c1 : Nat
  a2 : Option Addr
  c2 : Nat
  a3 : Option Addr
  c3 : Nat
  a4 : Option Addr
  c4 : Nat
structure CaOk (H : List Row) (C : Ca) (q : Pc) : Prop where
  l : SlE H q.a1 cI 1 C.l
  k : SlE H q.a2 cI 1 C.k
  w : SlE H q.a3 cI 1 C.w
  d : SlE H q.a4 cI 1 C.d
  l1 : C.l.length ≤ 1000000
  l2 : C.k.length ≤ 1000000
  l3 : C.w.length ≤ 1000000
  l4 : C.d.length ≤ 1000000
theorem CaOk.sub {H H' : List Row} {C : Ca} {q : Pc} (h : CaOk H C q) (hs : ∀ r ∈ H, r ∈ H') : CaOk H' C q := ⟨h.l.sub hs, h.k.sub hs, h.w.sub hs, h.d.sub hs, h.l1, h.l2, h.l3, h.l4⟩
section
variable (B : Bl) (p : Pb) (C : Ca) (q : Pc) (H : List Row)
end
end Go.Proofs.Ytoflnjgfikchjaa
end
section
set_option linter.unusedVariables false
set_option linter.unusedSimpArgs false
namespace Go.Proofs.Ytoflnjgfikchjaa
open Go Go.Fw
set_option maxRecDepth 10000
theorem few_len (ok : List Dr → Bool) (l : List Dr) : ∀ (k n : Nat) (r : List Dr), few ok l k n = some r → r.length < n + k
  | 0, n, r, h => by simp [few] at h
  | k + 1, n, r, h => by
    simp only [few] at h
    split at h
    · rename_i r' hr'
      have := lon_len ok l n [] r' hr'
      simp only [Option.some.injEq] at h
      subst h
      simp at this; omega
    · have := few_len ok l k (n + 1) r h
      omega
theorem few_getD (ok : List Dr → Bool) (l : List Dr) (k : Nat) : ((few ok l k 0).getD []).length ≤ k := by
  cases h : few ok l k 0 with
  | none => simp
  | some r => have := few_len ok l k 0 r h; simp; omega
theorem baleOk.pok {B : Bl} (h : baleOk B) : Pok B := ⟨h.h5, h.hd, h.hdry, h.hw⟩
noncomputable def fewD (B : Bl) : Option (List Dr) := few (okD B) B.draws (min 3 B.draws.length + 1) 0
noncomputable def fewW (B : Bl) : Option (List Dr) := few (okWt B) B.weighs (min 3 B.weighs.length + 1) 0
def numsOf (o : Option (List Dr)) : List Int := (o.getD []).map (·.number)
set_option maxHeartbeats 4000000 in
theorem falseDraws_spec (B : Bl) (d1 : Addr) (c1 : Nat) (a2 : Option Addr) (c2 : Nat) (H : List Row) (hp : Pok B) (hB : BlOk H B ⟨some d1, c1, a2, c2⟩) :
    Fc Try.prog 18 [.agg (cBl B ⟨some d1, c1, a2, c2⟩).toArray] H (fun v H' => ∃ a c Z, v = .tuple #[.slice a (numsOf (fewD B)).length c, .bool (fewD B).isSome] ∧ SlE (Z ++ H) a cI 1 (numsOf (fewD B)) ∧ H' = Z ++ H) := by
  have l1 := hB.l1
  have hlen := few_getD (okD B) B.draws (min 3 B.draws.length + 1)
  have hB1 : ∀ r, BlOk (r :: H) B ⟨some d1, c1, a2, c2⟩ := fun r => hB.sub (fun _ h => List.Mem.tail _ h)
  refine Fc.mk (callable Try.call18) Try.func18 rfl Try.ntmps18 rfl ?_; dsimp only [fr]
  repeat' (first | (refine XO.op rfl ?_; (first | ((first | refine Xo.ng rfl ?_); (first | (refine Xg.ev (EvF.makeFunc (fl := []) rfl Args.nil (Args.cons rfl Args.nil)) rfl rfl ?_) | (refine Xg.call (EnF.st rfl (by (repeat (first | exact Args.nil | refine Args.cons rfl ?_)); done)) rfl rfl (fewest_specDr (okD B) B.draws (some d1) c1 3 39 [_] _ (hB1 _).draws l1 (by decide) (fun acc a' c' H' hs ha hb => falseDraws1_spec B d1 c1 a2 c2 acc a' c' _ _ _ H' hp (hB.sub (fun r h => hs r (List.Mem.tail _ h))) (hs _ (List.Mem.head _)) ha hb)) ?_; rintro _ _ ⟨out, Z, hT, rfl, rfl⟩; obtain ⟨a3, c3, rfl, hs3⟩ := hT.sl (H := ⟨bx, 0, cBl B ⟨some d1, c1, a2, c2⟩, some 27, 6⟩ :: H)) | (refine Xg.call (EnF.st rfl (by (repeat (first | exact Args.nil | refine Args.cons rfl ?_)); done)) rfl rfl (numbersF_specDr 24 (·.number) numberDr_spec _ a3 c3 _ hs3 (by omega)) ?_; rintro _ _ ⟨a4, c4, Z2, rfl, rfl, hz⟩) | (refine Xg.ev (EvF.move rfl rfl) rfl rfl ?_) | (refine Xg.ev (EvF.assign rfl rfl) rfl rfl ?_) | (refine Xg.ev (EvF.fieldAddr rfl rfl (te rfl) rfl (te rfl) (by decide)) rfl rfl ?_) | (refine Xg.ev (EvF.loadV rfl rfl (LoadV.own (te rfl) rfl (List.Mem.head _) rfl)) rfl rfl ?_) | (refine Xg.ev (EvF.extract rfl rfl rfl) rfl rfl ?_) | (refine Xg.st (StF.boxAgg rfl rfl) rfl rfl ?_; rintro _ _ ⟨bx, rfl, rfl⟩))))) | (refine XO.done rfl ?_; refine hK _ _ ?_; clear hK K) | refine X.seq rfl ?_ | refine X.region rfl (fun K hK => ?_) | refine X.ret rfl ?_)
  refine ret_two (by first | exact .inr rfl | exact .inl rfl) Try.results18 rfl rfl (H' := _) (List.Sublist.refl _) ⟨a4, c4, Z2 ++ (Z ++ [⟨bx, 0, cBl B ⟨some d1, c1, a2, c2⟩, some 27, 6⟩]), rfl, ?_, ?_⟩
  · have hz' : SlE (Z2 ++ (Z ++ ⟨bx, 0, cBl B ⟨some d1, c1, a2, c2⟩, some 27, 6⟩ :: H)) a4 cI 1 (numsOf (fewD B)) := hz
    simpa using hz'
  · simp; first | rfl | exact ⟨rfl, rfl⟩
set_option maxHeartbeats 4000000 in
theorem falseWeighs_spec (B : Bl) (a1 : Option Addr) (c1 : Nat) (d2 : Addr) (c2 : Nat) (H : List Row) (hp : Pok B) (hB : BlOk H B ⟨a1, c1, some d2, c2⟩) :
    Fc Try.prog 19 [.agg (cBl B ⟨a1, c1, some d2, c2⟩).toArray] H (fun v H' => ∃ a c Z, v = .tuple #[.slice a (numsOf (fewW B)).length c, .bool (fewW B).isSome] ∧ SlE (Z ++ H) a cI 1 (numsOf (fewW B)) ∧ H' = Z ++ H) := by
  have l2 := hB.l2
  have hlen := few_getD (okWt B) B.weighs (min 3 B.weighs.length + 1)
  have hB1 : ∀ r, BlOk (r :: H) B ⟨a1, c1, some d2, c2⟩ := fun r => hB.sub (fun _ h => List.Mem.tail _ h)
  refine Fc.mk (callable Try.call19) Try.func19 rfl Try.ntmps19 rfl ?_; dsimp only [fr]
  repeat' (first | (refine XO.op rfl ?_; (first | ((first | refine Xo.ng rfl ?_); (first | (refine Xg.ev (EvF.makeFunc (fl := []) rfl Args.nil (Args.cons rfl Args.nil)) rfl rfl ?_) | (refine Xg.call (EnF.st rfl (by (repeat (first | exact Args.nil | refine Args.cons rfl ?_)); done)) rfl rfl (fewest_specWg (okWt B) B.weighs (some d2) c2 3 45 [_] _ (hB1 _).weighs l2 (by decide) (fun acc a' c' H' hs ha hb => falseWeighs1_spec B a1 c1 d2 c2 acc a' c' _ _ _ H' hp (hB.sub (fun r h => hs r (List.Mem.tail _ h))) (hs _ (List.Mem.head _)) ha hb)) ?_; rintro _ _ ⟨out, Z, hT, rfl, rfl⟩; obtain ⟨a3, c3, rfl, hs3⟩ := hT.sl (H := ⟨bx, 0, cBl B ⟨a1, c1, some d2, c2⟩, some 27, 6⟩ :: H)) | (refine Xg.call (EnF.st rfl (by (repeat (first | exact Args.nil | refine Args.cons rfl ?_)); done)) rfl rfl (numbersF_specWg 28 (·.number) numberWg_spec _ a3 c3 _ hs3 (by omega)) ?_; rintro _ _ ⟨a4, c4, Z2, rfl, rfl, hz⟩) | (refine Xg.ev (EvF.move rfl rfl) rfl rfl ?_) | (refine Xg.ev (EvF.assign rfl rfl) rfl rfl ?_) | (refine Xg.ev (EvF.fieldAddr rfl rfl (te rfl) rfl (te rfl) (by decide)) rfl rfl ?_) | (refine Xg.ev (EvF.loadV rfl rfl (LoadV.own (te rfl) rfl (List.Mem.head _) rfl)) rfl rfl ?_) | (refine Xg.ev (EvF.extract rfl rfl rfl) rfl rfl ?_) | (refine Xg.st (StF.boxAgg rfl rfl) rfl rfl ?_; rintro _ _ ⟨bx, rfl, rfl⟩))))) | (refine XO.done rfl ?_; refine hK _ _ ?_; clear hK K) | refine X.seq rfl ?_ | refine X.region rfl (fun K hK => ?_) | refine X.ret rfl ?_)
  refine ret_two (by first | exact .inr rfl | exact .inl rfl) Try.results19 rfl rfl (H' := _) (List.Sublist.refl _) ⟨a4, c4, Z2 ++ (Z ++ [⟨bx, 0, cBl B ⟨a1, c1, some d2, c2⟩, some 27, 6⟩]), rfl, ?_, ?_⟩
  · have hz' : SlE (Z2 ++ (Z ++ ⟨bx, 0, cBl B ⟨a1, c1, some d2, c2⟩, some 27, 6⟩ :: H)) a4 cI 1 (numsOf (fewW B)) := hz
    simpa using hz'
  · simp; first | rfl | exact ⟨rfl, rfl⟩
open Classical in
noncomputable def wrongF (B : Bl) : List Int × List Int × Int := if baleOk B then (if (fewD B).isSome = true ∧ (fewW B).isSome = true then (numsOf (fewD B), numsOf (fewW B), 0) else ([], [], 4)) else ([], [], 30)
def WrongR (W : List Int × List Int × Int) (H : List Row) (v : Value) (H' : List Row) : Prop := ∃ a1 c1 a2 c2 Z, v = .tuple #[.slice a1 W.1.length c1, .slice a2 W.2.1.length c2, .int .i64 W.2.2] ∧ SlE (Z ++ H) a1 cI 1 W.1 ∧ SlE (Z ++ H) a2 cI 1 W.2.1 ∧ H' = Z ++ H
set_option maxHeartbeats 4000000 in
theorem kwrong_spec (B : Bl) (d1 : Addr) (c1 : Nat) (d2 : Addr) (c2 : Nat) (H : List Row) (hB : BlOk H B ⟨some d1, c1, some d2, c2⟩) :
    Fc Try.prog 6 [.agg (cBl B ⟨some d1, c1, some d2, c2⟩).toArray] H (WrongR (wrongF B) H) := by
  have hB1 : ∀ r, BlOk (r :: H) B ⟨some d1, c1, some d2, c2⟩ := fun r => hB.sub (fun _ h => List.Mem.tail _ h)
  have hB2 : ∀ Z r, BlOk (Z ++ r :: H) B ⟨some d1, c1, some d2, c2⟩ := fun Z r => hB.sub (fun _ h => List.mem_append_right _ (List.Mem.tail _ h))
  have hk := kcheck_spec B ⟨some d1, c1, some d2, c2⟩
  by_cases hb : baleOk B
  · simp only [if_pos hb] at hk
    refine Fc.mk (callable Try.call6) Try.func6 rfl Try.ntmps6 rfl ?_; dsimp only [fr]
    repeat' (first | (refine XO.op rfl ?_; (first | ((first | refine Xo.ng rfl ?_ | (refine Xo.g rfl rfl ?_; with_reducible refine Xw.ff ?_)); (first | (refine Xg.call (EnF.st rfl (Args.cons rfl Args.nil)) rfl rfl (hk _ (hB1 _)) ?_; rintro _ H9 ⟨rfl, hH9⟩; subst H9) | (refine Xg.call (EnF.st rfl (by (repeat (first | exact Args.nil | refine Args.cons rfl ?_)); done)) rfl rfl (falseDraws_spec B d1 c1 _ c2 _ hb.pok (hB1 _)) ?_; rintro _ _ ⟨a3, c3, Z, rfl, hs, rfl⟩) | (refine Xg.ev (EvF.loadV rfl rfl (LoadV.whole (te rfl) rfl (List.mem_append_right _ (List.Mem.head _)) rfl)) rfl rfl ?_) | (refine Xg.call (EnF.st rfl (by (repeat (first | exact Args.nil | refine Args.cons rfl ?_)); done)) rfl rfl (falseWeighs_spec B _ c1 d2 c2 _ hb.pok (hB2 _ _)) ?_; rintro _ _ ⟨a4, c4, Z2, rfl, hs2, rfl⟩) | (refine Xg.ev (EvF.move rfl rfl) rfl rfl ?_) | (refine Xg.ev (EvF.assign rfl rfl) rfl rfl ?_) | (refine Xg.ev (EvF.pickT rfl rfl rfl) rfl rfl ?_) | (refine Xg.ev (EvF.pickF rfl rfl rfl) rfl rfl ?_) | (refine Xg.ev (EvF.cmp rfl rfl rfl rfl) rfl rfl ?_) | (refine Xg.ev (EvF.not rfl rfl) rfl rfl ?_) | (refine Xg.ev (EvF.loadV rfl rfl (LoadV.whole (te rfl) rfl (List.Mem.head _) rfl)) rfl rfl ?_) | (refine Xg.ev (EvF.extract rfl rfl rfl) rfl rfl ?_) | (refine Xg.st (StF.boxAgg rfl rfl) rfl rfl ?_; rintro _ _ ⟨bx, rfl, rfl⟩))) | (refine Xo.g rfl rfl ?_; (first | (with_reducible refine Xw.tf rfl rfl ?_) | (with_reducible refine Xw.caseB (fun h => ?_) (fun h => ?_) <;> simp only [h, decide_true, decide_false, Bool.not_true, Bool.not_false, and_self, and_true, true_and, and_false, false_and]))))) | (refine XO.done rfl ?_; refine hK _ _ ?_; clear hK K) | refine X.seq rfl ?_ | refine X.region rfl (fun K hK => ?_) | refine X.skip rfl ?_ | refine X.ret rfl ?_ | (refine X.ite rfl rfl (fun hc => ?_); (first | (with_reducible refine Xb.t hc ?_) | (with_reducible refine Xb.caseN hc (fun h => ?_) (fun h => ?_)) | (with_reducible refine Xb.caseB hc (fun h => ?_) (fun h => ?_))) <;> clear hc))
    all_goals try (exfalso; omega)
    · have hx : (fewD B).isSome = false := by simpa using (by assumption : (!(fewD B).isSome) = true)
      have e : wrongF B = ([], [], 4) := by unfold wrongF; rw [if_pos hb, if_neg (by rw [hx]; simp)]
      unfold WrongR; rw [e]
      exact ret_three (by first | exact .inr rfl | exact .inl rfl) Try.results6 rfl rfl rfl (H' := H) (((List.sublist_cons_self _ _).trans (List.sublist_append_right _ _)).trans (List.sublist_append_right _ _)) ⟨none, 0, none, 0, [], rfl, sleNil, sleNil, rfl⟩
    · have hx : (fewW B).isSome = false := by simpa using (by assumption : (!(fewW B).isSome) = true)
      have e : wrongF B = ([], [], 4) := by unfold wrongF; rw [if_pos hb, if_neg (by rw [hx]; simp)]
      unfold WrongR; rw [e]
      exact ret_three (by first | exact .inr rfl | exact .inl rfl) Try.results6 rfl rfl rfl (H' := H) (((List.sublist_cons_self _ _).trans (List.sublist_append_right _ _)).trans (List.sublist_append_right _ _)) ⟨none, 0, none, 0, [], rfl, sleNil, sleNil, rfl⟩
    · have hx : (fewD B).isSome = true := by simpa using (by assumption : (!(fewD B).isSome) = false)
      have hx2 : (fewW B).isSome = true := by simpa using (by assumption : (!(fewW B).isSome) = false)
      have e : wrongF B = (numsOf (fewD B), numsOf (fewW B), 0) := by unfold wrongF; rw [if_pos hb, if_pos ⟨hx, hx2⟩]
      unfold WrongR; rw [e]
      have hs2' : SlE (Z2 ++ (Z ++ ⟨bx, 0, cBl B ⟨some d1, c1, some d2, c2⟩, some 27, 6⟩ :: H)) a4 cI 1 (numsOf (fewW B)) := hs2
      have hs' : SlE (Z2 ++ (Z ++ ⟨bx, 0, cBl B ⟨some d1, c1, some d2, c2⟩, some 27, 6⟩ :: H)) a3 cI 1 (numsOf (fewD B)) := hs.sub (fun _ h => List.mem_append_right _ h)
      exact ret_three (by first | exact .inr rfl | exact .inl rfl) Try.results6 rfl rfl rfl (H' := _) (List.Sublist.refl _) ⟨a3, c3, a4, c4, Z2 ++ (Z ++ [⟨bx, 0, cBl B ⟨some d1, c1, some d2, c2⟩, some 27, 6⟩]), rfl, by simpa using hs', by simpa using hs2', by simp; first | rfl | exact ⟨rfl, rfl⟩⟩
  · simp only [if_neg hb] at hk
    refine Fc.mk (callable Try.call6) Try.func6 rfl Try.ntmps6 rfl ?_; dsimp only [fr]
    repeat' (first | (refine XO.op rfl ?_; (first | ((first | refine Xo.ng rfl ?_); (first | (refine Xg.call (EnF.st rfl (Args.cons rfl Args.nil)) rfl rfl (hk _ (hB1 _)) ?_; rintro _ H9 ⟨rfl, hH9⟩; subst H9) | (refine Xg.ev (EvF.move rfl rfl) rfl rfl ?_) | (refine Xg.ev (EvF.assign rfl rfl) rfl rfl ?_) | (refine Xg.ev (EvF.cmp rfl rfl rfl rfl) rfl rfl ?_) | (refine Xg.ev (EvF.loadV rfl rfl (LoadV.whole (te rfl) rfl (List.Mem.head _) rfl)) rfl rfl ?_) | (refine Xg.st (StF.boxAgg rfl rfl) rfl rfl ?_; rintro _ _ ⟨bx, rfl, rfl⟩))))) | (refine XO.done rfl ?_; refine hK _ _ ?_; clear hK K) | refine X.seq rfl ?_ | refine X.region rfl (fun K hK => ?_) | refine X.skip rfl ?_ | refine X.ret rfl ?_ | (refine X.ite rfl rfl (fun hc => ?_); (first | (with_reducible refine Xb.caseN hc (fun h => ?_) (fun h => ?_))) <;> clear hc))
    all_goals try (exfalso; omega)
    have e : wrongF B = ([], [], 30) := by unfold wrongF; rw [if_neg hb]
    unfold WrongR; rw [e]
    exact ret_three (by first | exact .inr rfl | exact .inl rfl) Try.results6 rfl rfl rfl (H' := H) (by (repeat (first | exact List.Sublist.refl _ | apply List.Sublist.cons)); done) ⟨none, 0, none, 0, [], rfl, sleNil, sleNil, rfl⟩
end Go.Proofs.Ytoflnjgfikchjaa
end
section
set_option linter.unusedVariables false
set_option linter.unusedSimpArgs false
namespace Go.Proofs.Ytoflnjgfikchjaa
open Go Go.Fw
set_option maxRecDepth 10000
def ts135b : List TOp := [⟨some 46, [], [], []⟩, ⟨some 47, [], [], []⟩, ⟨some 48, [], [], []⟩, ⟨some 49, [1, 2], [1, 2], []⟩, ⟨some 50, [0, 1, 2, 3], [0, 3], []⟩, ⟨some 51, [], [], []⟩, ⟨some 52, [], [], []⟩, ⟨some 53, [5, 6], [5, 6], []⟩, ⟨some 54, [0, 1, 2, 3, 4, 5, 6, 7], [4, 7], [9]⟩, ⟨none, [], [], []⟩]
def ts135c : List TOp := [⟨some 69, [], [], []⟩, ⟨some 70, [], [], []⟩, ⟨some 71, [], [], []⟩, ⟨some 72, [1, 2], [1, 2], []⟩, ⟨some 73, [0, 1, 2, 3], [0, 3], []⟩, ⟨some 74, [], [], []⟩, ⟨some 75, [], [], []⟩, ⟨some 76, [5, 6], [5, 6], []⟩, ⟨some 77, [0, 1, 2, 3, 4, 5, 6, 7], [4, 7], [9]⟩, ⟨none, [], [], []⟩]
theorem locL (ts : List TOp) (vs : List Value) (m : Nat) (a b : Row) : ∀ k env i p, i ≠ k → (tAt ts k).sup.contains i = false → valL vs k (upd env i p) = valL vs k env ∧ rowsL m a b k (upd env i p) = rowsL m a b k env := fun _ _ _ _ _ _ => ⟨rfl, rfl⟩
set_option maxHeartbeats 4000000 in
theorem insert_specDr (l : List Dr) (x : Dr) (k b c bv : Nat) (H : List Row) (hk : k ≤ l.length) (hb : l.length ≤ 1000000) :
    Fc Try.prog 54 [.slice (some ⟨b, 0, none⟩) l.length c, .int .i64 (k : Nat), .slice (some ⟨bv, 0, none⟩) 1 1] (⟨bv, 0, cDr x, some 29, 1 * 4⟩ :: ⟨b, 0, l.flatMap cDr, some 29, c * 4⟩ :: H)
      (fun v H' => ∃ b' c', v = .slice (some ⟨b', 0, none⟩) (l.length + 1) c' ∧ H' = ⟨b', 0, (l.take k ++ [x] ++ l.drop k).flatMap cDr, some 29, c' * 4⟩ :: H) := by
  have hlen := lenDr l
  have hT : ((l.take k).flatMap cDr).length = k * 4 := by rw [lenDr, List.length_take]; omega
  have hD : ((l.drop k).flatMap cDr).length = (l.length - k) * 4 := by rw [lenDr, List.length_drop]
  have hTD : l.flatMap cDr = (l.take k).flatMap cDr ++ (l.drop k).flatMap cDr := by rw [← List.flatMap_append, List.take_append_drop]
  have hall : ((l.drop k).flatMap cDr).all (·.oneCell') = true := by
    rw [List.all_flatMap]
    exact List.all_eq_true.2 (fun e _ => one_dr e)
  refine Fc.mk (callable Try.call54) Try.func54 rfl Try.ntmps54 rfl ?_; dsimp only [fr]
  refine X.reveal (q := 1) rfl (fun rest hrest => ?_)
  refine X.forget (q := 1) (cs := l.flatMap cDr) (cs' := rest) rfl ?_
  dsimp only [List.set]
  have hlc : l.length ≤ c := by
    rw [List.length_append, hlen] at hrest
    omega
  clear hrest
  repeat' (first | (refine XO.op rfl ?_; (first | ((first | refine Xo.ng rfl ?_); (first | (refine Xg.ev (EvF.capSlice rfl rfl (te rfl)) rfl rfl ?_) | (refine Xg.ev (EvF.sliceTo (hh := k) rfl rfl (te rfl) (te rfl) rfl (by omega)) rfl rfl ?_) | (refine Xg.ev (EvF.sliceTo (hh := l.length + 1) rfl rfl (te rfl) (te rfl) rfl (by omega)) rfl rfl ?_) | (refine Xg.ev (EvF.sliceFromL (lo := k + 1) rfl rfl (te rfl) (te rfl) rfl (by omega) (by omega) (by omega)) rfl rfl ?_) | (refine Xg.ev (EvF.sliceFrom rfl rfl (te rfl) (te rfl) rfl hk hlc) rfl rfl ?_) | (refine Xg.st (StF.appendOwn (i := 1) rfl elDr rfl rfl rfl hlen rfl (Rd.own (List.Mem.head _)) rfl (by omega)) rfl rfl ?_; rintro _ _ ⟨bn, kn, rfl, rfl⟩; dsimp only [List.eraseIdx]) | (refine Xg.st (StF.apart (TR := 4) (p := 0) (q := 1) rfl Try.func80 (by kernel_rfl) (by kernel_rfl) (by kernel_rfl) (by kernel_rfl) elDr rfl rfl rfl rfl (by decide) (by omega)) rfl rfl ?_; rintro _ _ ⟨rfl, rfl⟩) | (refine Xg.ev (EvF.move rfl rfl) rfl rfl ?_) | (refine Xg.ev (EvF.assign rfl rfl) rfl rfl ?_) | (refine Xg.ev (EvF.cmp rfl rfl rfl rfl) rfl rfl ?_) | (refine Xg.ev (EvF.add64 rfl rfl rfl (by omega) (by omega)) rfl rfl ?_) | (refine Xg.ev (EvF.sub64 rfl rfl rfl (by omega) (by omega)) rfl rfl ?_) | (refine Xg.ev (EvF.not rfl rfl) rfl rfl ?_) | (refine Xg.ev (EvF.lenSlice rfl rfl (te rfl)) rfl rfl ?_))))) | (refine XO.done rfl ?_; refine hK _ _ ?_; clear hK K) | refine X.seq rfl ?_ | refine X.region rfl (fun K hK => ?_) | refine X.skip rfl ?_ | refine X.ret rfl ?_ | (refine X.ite rfl rfl (fun hc => ?_); (first | (with_reducible refine Xb.case hc (fun h => ?_) (fun h => ?_)) | (with_reducible refine Xb.caseB hc (fun h => ?_) (fun h => ?_))) <;> clear hc))
  · exfalso; omega
  · refine ret_one (by first | exact .inr rfl | exact .inl rfl) Try.results54 rfl (H' := ⟨bn, 0, l.flatMap cDr ++ cDr x, some 29, kn * 4⟩ :: H) (by (repeat (first | exact List.Sublist.refl _ | apply List.Sublist.cons_cons | apply List.Sublist.cons)); done) ⟨bn, kn, rfl, ?_⟩
    obtain rfl : k = l.length := by omega
    simp [List.flatMap_append]
  · refine XO.op rfl ?_
    refine Xo.ng rfl ?_
    refine Xg.st (StF.appendMake (xs := (l.take k).flatMap cDr) (k := k) (q := l.length + 1 - k) rfl elDr (te rfl) rfl (congrArg (fun z => some (Value.int .i64 z)) (by omega : ((l.length : Int) + ((1 : Nat) : Int) - (k : Int)) = ((l.length + 1 - k : Nat) : Int))) (Rd.piece (xs := []) (zs := (l.drop k).flatMap cDr) (by rw [List.nil_append, ← hTD]; exact List.Mem.tail _ (List.Mem.head _)) rfl) hT (by decide) (by omega) (by omega) (by omega)) rfl rfl ?_
    rintro _ _ ⟨bn, kn, zs, rfl, hz, hkn, rfl⟩
    rw [show k + (l.length + 1 - k) = l.length + 1 by omega] at hkn ⊢
    repeat' (first | (refine XO.op rfl ?_; (first | ((first | refine Xo.ng rfl ?_); (first | (refine Xg.ev (EvF.sliceFromL (lo := k) rfl rfl (te rfl) (te rfl) rfl (by omega) (by omega) (by omega)) rfl rfl ?_) | (refine Xg.st (StF.copyOwn (q := 0) (j := 0 + k * 4) (m := 1) rfl elDr rfl rfl rfl (Nat.min_eq_left (by omega)) rfl (Rd.own (List.Mem.tail _ (List.Mem.head _))) rfl (by rw [List.length_append, hT, hz]; show 0 + k * 4 + 4 ≤ _; omega)) rfl rfl ?_; rintro _ _ ⟨rfl, rfl⟩; dsimp only [List.set]) | (refine Xg.ev (EvF.move rfl rfl) rfl rfl ?_) | (refine Xg.ev (EvF.assign rfl rfl) rfl rfl ?_))))) | (refine XO.done rfl ?_; refine hK _ _ ?_; clear hK K) | refine X.seq rfl ?_ | refine X.region rfl (fun K hK => ?_))
    obtain ⟨z2, hz2, e1⟩ : ∃ z2 : List Value, z2.length = (l.length - k) * 4 ∧ splice ((l.take k).flatMap cDr ++ zs) (0 + k * 4) (cDr x) = (l.take k).flatMap cDr ++ cDr x ++ z2 := by
      refine ⟨zs.drop 4, by rw [List.length_drop, hz]; omega, ?_⟩
      have := splice_at (xs := (l.take k).flatMap cDr) (ys := zs.take 4) (zs := zs.drop 4) (vs := cDr x) (j := 0 + k * 4) (by omega) (by rw [List.length_take, hz]; show 4 = _; omega)
      rwa [List.append_assoc, List.take_append_drop] at this
    rw [e1]
    have e2 : splice ((l.take k).flatMap cDr ++ cDr x ++ z2) (0 + (k + 1) * 4) ((l.drop k).flatMap cDr) = (l.take k ++ [x] ++ l.drop k).flatMap cDr := by
      have := splice_at (xs := (l.take k).flatMap cDr ++ cDr x) (ys := z2) (zs := []) (vs := (l.drop k).flatMap cDr) (j := 0 + (k + 1) * 4) (by rw [List.length_append, hT]; show k * 4 + 4 = _; omega) (by rw [hD, hz2])
      rw [List.append_nil, List.append_nil] at this
      rw [this, List.flatMap_append, List.flatMap_append]
      simp
    refine X.regionOb ts135b [9, 1, 7, 0] [(9, .slice (some ⟨bn, 0, none⟩) (l.length + 1) kn), (1, .int .i64 k), (7, .int .i64 (1 : Nat)), (0, .slice (some ⟨b, 0, none⟩) l.length c)]
      (valL [.slice (some ⟨bn, 0, none⟩) (l.length + 1) kn, .int .i64 k, .int .i64 (1 : Nat), .int .i64 (k + 1 : Nat), .slice (some ⟨bn, 0 + (k + 1) * 4, none⟩) (l.length + 1 - (k + 1)) (kn - (k + 1)), .slice (some ⟨b, 0, none⟩) l.length c, .int .i64 k, .slice (some ⟨b, 0 + k * 4, none⟩) (l.length - k) (c - k), .int .i64 (l.length - k : Nat)])
      (rowsL 8 ⟨bn, 0, splice ((l.take k).flatMap cDr ++ cDr x ++ z2) (0 + (k + 1) * 4) ((l.drop k).flatMap cDr), some 29, kn * 4⟩ ⟨bn, 0, (l.take k).flatMap cDr ++ cDr x ++ z2, some 29, kn * 4⟩) (fun _ => (0, 0)) (⟨bv, 0, cDr x, some 29, 1 * 4⟩ :: ⟨b, 0, l.flatMap cDr, some 29, c * 4⟩ :: H) rfl mixed (by (repeat (first | exact Sub.nil _ | refine Sub.cons rfl ?_)); done) rfl (by kernel_rfl) (locL _ _ _ _ _) (List.Sublist.refl _) ?_ ?_
    · repeat' (first | exact AllF.done rfl | (refine AllF.step rfl ?_ ?_; · (first | fail | ((first | refine Ob.ng rfl ?_); (first | exact ObK.pure (fun env R hR => by exact ⟨_, EvF.move rfl rfl, rfl⟩) rfl (fun _ => rfl) | (exact ObK.pure (fun env S hS => ⟨_, EvF.add64 rfl rfl rfl (by omega) (by omega), rfl⟩) rfl (fun _ => rfl)) | (exact ObK.pure (fun env S hS => ⟨_, EvF.sliceFromL (lo := k + 1) rfl rfl (te rfl) (te rfl) rfl (by omega) (by omega) (by omega), rfl⟩) rfl (fun _ => rfl)) | (exact ObK.pure (fun env S hS => ⟨_, EvF.sliceFromL (lo := k) rfl rfl (te rfl) (te rfl) rfl (by omega) (by omega) (by omega), rfl⟩) rfl (fun _ => rfl)) | (exact fun env S hS => (StF.copyOwn (q := 0) (j := 0 + (k + 1) * 4) (m := l.length - k) (vs := (l.drop k).flatMap cDr) rfl elDr rfl rfl rfl ((Nat.min_eq_left (by omega)).trans (by omega)) hD (Rd.piece (xs := (l.take k).flatMap cDr) (zs := []) (by rw [List.append_nil, ← hTD]; exact List.Mem.tail _ (hS _ (List.Mem.tail _ (List.Mem.head _)))) hT) hall (by rw [List.length_append, List.length_append, hT, hz2, hD]; show _ ≤ k * 4 + 4 + _; omega)).op.mono (fun v H' ⟨hv, hH⟩ => ⟨(0, 0), fun _ => hv, by rw [hH]; exact List.Perm.refl _⟩)))))))
    · intro env t ha hv
      refine ⟨_, ha, ?_⟩
      show X _ _ _ _ (⟨bn, 0, splice ((l.take k).flatMap cDr ++ cDr x ++ z2) (0 + (k + 1) * 4) ((l.drop k).flatMap cDr), some 29, kn * 4⟩ :: ⟨bv, 0, cDr x, some 29, 1 * 4⟩ :: ⟨b, 0, l.flatMap cDr, some 29, c * 4⟩ :: H) _
      rw [e2]
      repeat' (first | (refine XO.op rfl ?_; (first | ((first | refine Xo.ng rfl ?_); (first | (refine Xg.ev (EvF.move rfl rfl) rfl rfl ?_) | (refine Xg.ev (EvF.assign rfl rfl) rfl rfl ?_))))) | (refine XO.done rfl ?_; refine hK _ _ ?_; clear hK K) | refine X.seq rfl ?_ | refine X.region rfl (fun K hK => ?_) | refine X.ret rfl ?_)
      exact ret_one (by first | exact .inr rfl | exact .inl rfl) Try.results54 rfl (H' := ⟨bn, 0, (l.take k ++ [x] ++ l.drop k).flatMap cDr, some 29, kn * 4⟩ :: H) (by (repeat (first | exact List.Sublist.refl _ | apply List.Sublist.cons_cons | apply List.Sublist.cons)); done) ⟨bn, kn, rfl, rfl⟩
  · refine X.reveal (q := 1) rfl (fun rst hrst => ?_)
    dsimp only [List.set]
    have hkl : k < l.length := by omega
    have hroom : l.length + 1 ≤ c := by omega
    have hrl : rst.length = (c - l.length) * 4 := by
      rw [List.length_append, hlen] at hrst
      omega
    rw [hTD]
    obtain ⟨d1, d2, r2, hd1, hd2, hdr⟩ : ∃ d1 d2 r2 : List Value, d1.length = 4 ∧ d2.length = (l.length - k) * 4 ∧ (l.drop k).flatMap cDr ++ rst = d1 ++ d2 ++ r2 := by
      refine ⟨((l.drop k).flatMap cDr ++ rst).take 4, (((l.drop k).flatMap cDr ++ rst).drop 4).take ((l.length - k) * 4), (((l.drop k).flatMap cDr ++ rst).drop 4).drop ((l.length - k) * 4), ?_, ?_, ?_⟩
      · rw [List.length_take, List.length_append, hD, hrl]; omega
      · rw [List.length_take, List.length_drop, List.length_append, hD, hrl]; omega
      · rw [List.append_assoc, List.take_append_drop, List.take_append_drop]
    have e1 : splice ((l.take k).flatMap cDr ++ (l.drop k).flatMap cDr ++ rst) (0 + (k + 1) * 4) ((l.drop k).flatMap cDr) = (l.take k).flatMap cDr ++ d1 ++ ((l.drop k).flatMap cDr ++ r2) := by
      have := splice_at (xs := (l.take k).flatMap cDr ++ d1) (ys := d2) (zs := r2) (vs := (l.drop k).flatMap cDr) (j := 0 + (k + 1) * 4) (by rw [List.length_append, hT, hd1]; omega) (by rw [hD, hd2])
      rw [List.append_assoc ((l.take k).flatMap cDr), hdr]
      rw [← List.append_assoc, ← List.append_assoc, this, List.append_assoc]
    have e2 : splice ((l.take k).flatMap cDr ++ d1 ++ ((l.drop k).flatMap cDr ++ r2)) (0 + k * 4) (cDr x) = (l.take k ++ [x] ++ l.drop k).flatMap cDr ++ r2 := by
      rw [splice_at (by rw [hT]; omega) (by rw [hd1]; rfl), List.flatMap_append, List.flatMap_append]
      simp
    refine X.permH (List.Perm.swap _ _ _) ?_
    refine X.regionOb ts135c [0, 1, 7, 2] [(0, .slice (some ⟨b, 0, none⟩) (l.length + 1) c), (1, .int .i64 k), (7, .int .i64 (1 : Nat)), (2, .slice (some ⟨bv, 0, none⟩) 1 1)]
      (valL [.slice (some ⟨b, 0, none⟩) (l.length + 1) c, .int .i64 k, .int .i64 (1 : Nat), .int .i64 (k + 1 : Nat), .slice (some ⟨b, 0 + (k + 1) * 4, none⟩) (l.length + 1 - (k + 1)) (c - (k + 1)), .slice (some ⟨b, 0, none⟩) (l.length + 1) c, .int .i64 k, .slice (some ⟨b, 0 + k * 4, none⟩) (l.length + 1 - k) (c - k), .int .i64 (l.length - k : Nat)])
      (rowsL 8 ⟨b, 0, splice ((l.take k).flatMap cDr ++ (l.drop k).flatMap cDr ++ rst) (0 + (k + 1) * 4) ((l.drop k).flatMap cDr), some 29, c * 4⟩ ⟨b, 0, (l.take k).flatMap cDr ++ (l.drop k).flatMap cDr ++ rst, some 29, c * 4⟩) (fun _ => (0, 0)) (⟨bv, 0, cDr x, some 29, 1 * 4⟩ :: H) rfl mixed (by (repeat (first | exact Sub.nil _ | refine Sub.cons rfl ?_)); done) rfl (by kernel_rfl) (locL _ _ _ _ _) (List.Sublist.refl _) ?_ ?_
    · repeat' (first | exact AllF.done rfl | (refine AllF.step rfl ?_ ?_; · (first | fail | ((first | refine Ob.ng rfl ?_); (first | exact ObK.pure (fun env R hR => by exact ⟨_, EvF.move rfl rfl, rfl⟩) rfl (fun _ => rfl) | (exact ObK.pure (fun env S hS => ⟨_, EvF.add64 rfl rfl rfl (by omega) (by omega), rfl⟩) rfl (fun _ => rfl)) | (exact ObK.pure (fun env S hS => ⟨_, EvF.sliceFromL (lo := k + 1) rfl rfl (te rfl) (te rfl) rfl (by omega) (by omega) (by omega), rfl⟩) rfl (fun _ => rfl)) | (exact ObK.pure (fun env S hS => ⟨_, EvF.sliceFromL (lo := k) rfl rfl (te rfl) (te rfl) rfl (by omega) (by omega) (by omega), rfl⟩) rfl (fun _ => rfl)) | (exact fun env S hS => (StF.copyOwn (q := 0) (j := 0 + (k + 1) * 4) (m := l.length - k) (vs := (l.drop k).flatMap cDr) rfl elDr rfl rfl rfl ((Nat.min_eq_right (by omega)).trans (by omega)) hD (Rd.piece (xs := (l.take k).flatMap cDr) (zs := rst) (List.Mem.head _) hT) hall (by rw [List.length_append, List.length_append, hT, hrl, hD]; omega)).op.mono (fun v H' ⟨hv, hH⟩ => ⟨(0, 0), fun _ => hv, by rw [hH]; exact List.Perm.refl _⟩)))))))
    · intro env t ha hv
      refine ⟨_, ha, ?_⟩
      show X _ _ _ _ (⟨b, 0, splice ((l.take k).flatMap cDr ++ (l.drop k).flatMap cDr ++ rst) (0 + (k + 1) * 4) ((l.drop k).flatMap cDr), some 29, c * 4⟩ :: ⟨bv, 0, cDr x, some 29, 1 * 4⟩ :: H) _
      rw [e1]
      refine X.seq rfl ?_; refine X.region rfl (fun K hK => ?_); repeat' (first | (refine XO.op rfl ?_; (first | ((first | refine Xo.ng rfl ?_); (first | (refine Xg.ev (EvF.sliceFromL (lo := k) rfl rfl (te rfl) (te rfl) rfl (by omega) (by omega) (by omega)) rfl rfl ?_) | (refine Xg.st (StF.copyOwn (q := 0) (j := 0 + k * 4) (m := 1) rfl elDr rfl rfl rfl (Nat.min_eq_left (by omega)) rfl (Rd.own (List.Mem.tail _ (List.Mem.head _))) rfl (by rw [List.length_append, List.length_append, hT, hd1]; show 0 + k * 4 + 4 ≤ _; omega)) rfl rfl ?_; rintro _ _ ⟨rfl, rfl⟩; dsimp only [List.set]) | (refine Xg.ev (EvF.move rfl rfl) rfl rfl ?_))))) | (refine XO.done rfl ?_; refine hK _ _ ?_; clear hK K))
      rw [e2]
      refine X.forget (q := 0) rfl ?_
      dsimp only [List.set]
      repeat' (first | (refine XO.op rfl ?_; (first | ((first | refine Xo.ng rfl ?_); (first | (refine Xg.ev (EvF.move rfl rfl) rfl rfl ?_) | (refine Xg.ev (EvF.assign rfl rfl) rfl rfl ?_))))) | (refine XO.done rfl ?_; refine hK _ _ ?_; clear hK K) | refine X.seq rfl ?_ | refine X.region rfl (fun K hK => ?_) | refine X.ret rfl ?_)
      exact ret_one (by first | exact .inr rfl | exact .inl rfl) Try.results54 rfl (H' := ⟨b, 0, (l.take k ++ [x] ++ l.drop k).flatMap cDr, some 29, c * 4⟩ :: H) (by (repeat (first | exact List.Sublist.refl _ | apply List.Sublist.cons_cons | apply List.Sublist.cons)); done) ⟨b, c, rfl, rfl⟩
  · rename_i h _
    cases h
set_option maxHeartbeats 4000000 in
theorem insert_specWg (l : List Wg) (x : Wg) (k b c bv : Nat) (H : List Row) (hk : k ≤ l.length) (hb : l.length ≤ 1000000) :
    Fc Try.prog 57 [.slice (some ⟨b, 0, none⟩) l.length c, .int .i64 (k : Nat), .slice (some ⟨bv, 0, none⟩) 1 1] (⟨bv, 0, cDr x, some 31, 1 * 4⟩ :: ⟨b, 0, l.flatMap cDr, some 31, c * 4⟩ :: H)
      (fun v H' => ∃ b' c', v = .slice (some ⟨b', 0, none⟩) (l.length + 1) c' ∧ H' = ⟨b', 0, (l.take k ++ [x] ++ l.drop k).flatMap cDr, some 31, c' * 4⟩ :: H) := by
  have hlen := lenDr l
  have hT : ((l.take k).flatMap cDr).length = k * 4 := by rw [lenDr, List.length_take]; omega
  have hD : ((l.drop k).flatMap cDr).length = (l.length - k) * 4 := by rw [lenDr, List.length_drop]
  have hTD : l.flatMap cDr = (l.take k).flatMap cDr ++ (l.drop k).flatMap cDr := by rw [← List.flatMap_append, List.take_append_drop]
  have hall : ((l.drop k).flatMap cDr).all (·.oneCell') = true := by
    rw [List.all_flatMap]
    exact List.all_eq_true.2 (fun e _ => one_dr e)
  refine Fc.mk (callable Try.call57) Try.func57 rfl Try.ntmps57 rfl ?_; dsimp only [fr]
  refine X.reveal (q := 1) rfl (fun rest hrest => ?_)
  refine X.forget (q := 1) (cs := l.flatMap cDr) (cs' := rest) rfl ?_
  dsimp only [List.set]
  have hlc : l.length ≤ c := by
    rw [List.length_append, hlen] at hrest
    omega
  clear hrest
  repeat' (first | (refine XO.op rfl ?_; (first | ((first | refine Xo.ng rfl ?_); (first | (refine Xg.ev (EvF.capSlice rfl rfl (te rfl)) rfl rfl ?_) | (refine Xg.ev (EvF.sliceTo (hh := k) rfl rfl (te rfl) (te rfl) rfl (by omega)) rfl rfl ?_) | (refine Xg.ev (EvF.sliceTo (hh := l.length + 1) rfl rfl (te rfl) (te rfl) rfl (by omega)) rfl rfl ?_) | (refine Xg.ev (EvF.sliceFromL (lo := k + 1) rfl rfl (te rfl) (te rfl) rfl (by omega) (by omega) (by omega)) rfl rfl ?_) | (refine Xg.ev (EvF.sliceFrom rfl rfl (te rfl) (te rfl) rfl hk hlc) rfl rfl ?_) | (refine Xg.st (StF.appendOwn (i := 1) rfl elWg rfl rfl rfl hlen rfl (Rd.own (List.Mem.head _)) rfl (by omega)) rfl rfl ?_; rintro _ _ ⟨bn, kn, rfl, rfl⟩; dsimp only [List.eraseIdx]) | (refine Xg.st (StF.apart (TR := 4) (p := 0) (q := 1) rfl Try.func82 (by kernel_rfl) (by kernel_rfl) (by kernel_rfl) (by kernel_rfl) elWg rfl rfl rfl rfl (by decide) (by omega)) rfl rfl ?_; rintro _ _ ⟨rfl, rfl⟩) | (refine Xg.ev (EvF.move rfl rfl) rfl rfl ?_) | (refine Xg.ev (EvF.assign rfl rfl) rfl rfl ?_) | (refine Xg.ev (EvF.cmp rfl rfl rfl rfl) rfl rfl ?_) | (refine Xg.ev (EvF.add64 rfl rfl rfl (by omega) (by omega)) rfl rfl ?_) | (refine Xg.ev (EvF.sub64 rfl rfl rfl (by omega) (by omega)) rfl rfl ?_) | (refine Xg.ev (EvF.not rfl rfl) rfl rfl ?_) | (refine Xg.ev (EvF.lenSlice rfl rfl (te rfl)) rfl rfl ?_))))) | (refine XO.done rfl ?_; refine hK _ _ ?_; clear hK K) | refine X.seq rfl ?_ | refine X.region rfl (fun K hK => ?_) | refine X.skip rfl ?_ | refine X.ret rfl ?_ | (refine X.ite rfl rfl (fun hc => ?_); (first | (with_reducible refine Xb.case hc (fun h => ?_) (fun h => ?_)) | (with_reducible refine Xb.caseB hc (fun h => ?_) (fun h => ?_))) <;> clear hc))
  · exfalso; omega
  · refine ret_one (by first | exact .inr rfl | exact .inl rfl) Try.results57 rfl (H' := ⟨bn, 0, l.flatMap cDr ++ cDr x, some 31, kn * 4⟩ :: H) (by (repeat (first | exact List.Sublist.refl _ | apply List.Sublist.cons_cons | apply List.Sublist.cons)); done) ⟨bn, kn, rfl, ?_⟩
    obtain rfl : k = l.length := by omega
    simp [List.flatMap_append]
  · refine XO.op rfl ?_
    refine Xo.ng rfl ?_
    refine Xg.st (StF.appendMake (xs := (l.take k).flatMap cDr) (k := k) (q := l.length + 1 - k) rfl elWg (te rfl) rfl (congrArg (fun z => some (Value.int .i64 z)) (by omega : ((l.length : Int) + ((1 : Nat) : Int) - (k : Int)) = ((l.length + 1 - k : Nat) : Int))) (Rd.piece (xs := []) (zs := (l.drop k).flatMap cDr) (by rw [List.nil_append, ← hTD]; exact List.Mem.tail _ (List.Mem.head _)) rfl) hT (by decide) (by omega) (by omega) (by omega)) rfl rfl ?_
    rintro _ _ ⟨bn, kn, zs, rfl, hz, hkn, rfl⟩
    rw [show k + (l.length + 1 - k) = l.length + 1 by omega] at hkn ⊢
    repeat' (first | (refine XO.op rfl ?_; (first | ((first | refine Xo.ng rfl ?_); (first | (refine Xg.ev (EvF.sliceFromL (lo := k) rfl rfl (te rfl) (te rfl) rfl (by omega) (by omega) (by omega)) rfl rfl ?_) | (refine Xg.st (StF.copyOwn (q := 0) (j := 0 + k * 4) (m := 1) rfl elWg rfl rfl rfl (Nat.min_eq_left (by omega)) rfl (Rd.own (List.Mem.tail _ (List.Mem.head _))) rfl (by rw [List.length_append, hT, hz]; show 0 + k * 4 + 4 ≤ _; omega)) rfl rfl ?_; rintro _ _ ⟨rfl, rfl⟩; dsimp only [List.set]) | (refine Xg.ev (EvF.move rfl rfl) rfl rfl ?_) | (refine Xg.ev (EvF.assign rfl rfl) rfl rfl ?_))))) | (refine XO.done rfl ?_; refine hK _ _ ?_; clear hK K) | refine X.seq rfl ?_ | refine X.region rfl (fun K hK => ?_))
    obtain ⟨z2, hz2, e1⟩ : ∃ z2 : List Value, z2.length = (l.length - k) * 4 ∧ splice ((l.take k).flatMap cDr ++ zs) (0 + k * 4) (cDr x) = (l.take k).flatMap cDr ++ cDr x ++ z2 := by
      refine ⟨zs.drop 4, by rw [List.length_drop, hz]; omega, ?_⟩
      have := splice_at (xs := (l.take k).flatMap cDr) (ys := zs.take 4) (zs := zs.drop 4) (vs := cDr x) (j := 0 + k * 4) (by omega) (by rw [List.length_take, hz]; show 4 = _; omega)
      rwa [List.append_assoc, List.take_append_drop] at this
    rw [e1]
    have e2 : splice ((l.take k).flatMap cDr ++ cDr x ++ z2) (0 + (k + 1) * 4) ((l.drop k).flatMap cDr) = (l.take k ++ [x] ++ l.drop k).flatMap cDr := by
      have := splice_at (xs := (l.take k).flatMap cDr ++ cDr x) (ys := z2) (zs := []) (vs := (l.drop k).flatMap cDr) (j := 0 + (k + 1) * 4) (by rw [List.length_append, hT]; show k * 4 + 4 = _; omega) (by rw [hD, hz2])
      rw [List.append_nil, List.append_nil] at this
      rw [this, List.flatMap_append, List.flatMap_append]
      simp
    refine X.regionOb ts135b [9, 1, 7, 0] [(9, .slice (some ⟨bn, 0, none⟩) (l.length + 1) kn), (1, .int .i64 k), (7, .int .i64 (1 : Nat)), (0, .slice (some ⟨b, 0, none⟩) l.length c)]
      (valL [.slice (some ⟨bn, 0, none⟩) (l.length + 1) kn, .int .i64 k, .int .i64 (1 : Nat), .int .i64 (k + 1 : Nat), .slice (some ⟨bn, 0 + (k + 1) * 4, none⟩) (l.length + 1 - (k + 1)) (kn - (k + 1)), .slice (some ⟨b, 0, none⟩) l.length c, .int .i64 k, .slice (some ⟨b, 0 + k * 4, none⟩) (l.length - k) (c - k), .int .i64 (l.length - k : Nat)])
      (rowsL 8 ⟨bn, 0, splice ((l.take k).flatMap cDr ++ cDr x ++ z2) (0 + (k + 1) * 4) ((l.drop k).flatMap cDr), some 31, kn * 4⟩ ⟨bn, 0, (l.take k).flatMap cDr ++ cDr x ++ z2, some 31, kn * 4⟩) (fun _ => (0, 0)) (⟨bv, 0, cDr x, some 31, 1 * 4⟩ :: ⟨b, 0, l.flatMap cDr, some 31, c * 4⟩ :: H) rfl mixed (by (repeat (first | exact Sub.nil _ | refine Sub.cons rfl ?_)); done) rfl (by kernel_rfl) (locL _ _ _ _ _) (List.Sublist.refl _) ?_ ?_
    · repeat' (first | exact AllF.done rfl | (refine AllF.step rfl ?_ ?_; · (first | fail | ((first | refine Ob.ng rfl ?_); (first | exact ObK.pure (fun env R hR => by exact ⟨_, EvF.move rfl rfl, rfl⟩) rfl (fun _ => rfl) | (exact ObK.pure (fun env S hS => ⟨_, EvF.add64 rfl rfl rfl (by omega) (by omega), rfl⟩) rfl (fun _ => rfl)) | (exact ObK.pure (fun env S hS => ⟨_, EvF.sliceFromL (lo := k + 1) rfl rfl (te rfl) (te rfl) rfl (by omega) (by omega) (by omega), rfl⟩) rfl (fun _ => rfl)) | (exact ObK.pure (fun env S hS => ⟨_, EvF.sliceFromL (lo := k) rfl rfl (te rfl) (te rfl) rfl (by omega) (by omega) (by omega), rfl⟩) rfl (fun _ => rfl)) | (exact fun env S hS => (StF.copyOwn (q := 0) (j := 0 + (k + 1) * 4) (m := l.length - k) (vs := (l.drop k).flatMap cDr) rfl elWg rfl rfl rfl ((Nat.min_eq_left (by omega)).trans (by omega)) hD (Rd.piece (xs := (l.take k).flatMap cDr) (zs := []) (by rw [List.append_nil, ← hTD]; exact List.Mem.tail _ (hS _ (List.Mem.tail _ (List.Mem.head _)))) hT) hall (by rw [List.length_append, List.length_append, hT, hz2, hD]; show _ ≤ k * 4 + 4 + _; omega)).op.mono (fun v H' ⟨hv, hH⟩ => ⟨(0, 0), fun _ => hv, by rw [hH]; exact List.Perm.refl _⟩)))))))
    · intro env t ha hv
      refine ⟨_, ha, ?_⟩
      show X _ _ _ _ (⟨bn, 0, splice ((l.take k).flatMap cDr ++ cDr x ++ z2) (0 + (k + 1) * 4) ((l.drop k).flatMap cDr), some 31, kn * 4⟩ :: ⟨bv, 0, cDr x, some 31, 1 * 4⟩ :: ⟨b, 0, l.flatMap cDr, some 31, c * 4⟩ :: H) _
      rw [e2]
      repeat' (first | (refine XO.op rfl ?_; (first | ((first | refine Xo.ng rfl ?_); (first | (refine Xg.ev (EvF.move rfl rfl) rfl rfl ?_) | (refine Xg.ev (EvF.assign rfl rfl) rfl rfl ?_))))) | (refine XO.done rfl ?_; refine hK _ _ ?_; clear hK K) | refine X.seq rfl ?_ | refine X.region rfl (fun K hK => ?_) | refine X.ret rfl ?_)
      exact ret_one (by first | exact .inr rfl | exact .inl rfl) Try.results57 rfl (H' := ⟨bn, 0, (l.take k ++ [x] ++ l.drop k).flatMap cDr, some 31, kn * 4⟩ :: H) (by (repeat (first | exact List.Sublist.refl _ | apply List.Sublist.cons_cons | apply List.Sublist.cons)); done) ⟨bn, kn, rfl, rfl⟩
  · refine X.reveal (q := 1) rfl (fun rst hrst => ?_)
    dsimp only [List.set]
    have hkl : k < l.length := by omega
    have hroom : l.length + 1 ≤ c := by omega
    have hrl : rst.length = (c - l.length) * 4 := by
      rw [List.length_append, hlen] at hrst
      omega
    rw [hTD]
    obtain ⟨d1, d2, r2, hd1, hd2, hdr⟩ : ∃ d1 d2 r2 : List Value, d1.length = 4 ∧ d2.length = (l.length - k) * 4 ∧ (l.drop k).flatMap cDr ++ rst = d1 ++ d2 ++ r2 := by
      refine ⟨((l.drop k).flatMap cDr ++ rst).take 4, (((l.drop k).flatMap cDr ++ rst).drop 4).take ((l.length - k) * 4), (((l.drop k).flatMap cDr ++ rst).drop 4).drop ((l.length - k) * 4), ?_, ?_, ?_⟩
      · rw [List.length_take, List.length_append, hD, hrl]; omega
      · rw [List.length_take, List.length_drop, List.length_append, hD, hrl]; omega
      · rw [List.append_assoc, List.take_append_drop, List.take_append_drop]
    have e1 : splice ((l.take k).flatMap cDr ++ (l.drop k).flatMap cDr ++ rst) (0 + (k + 1) * 4) ((l.drop k).flatMap cDr) = (l.take k).flatMap cDr ++ d1 ++ ((l.drop k).flatMap cDr ++ r2) := by
      have := splice_at (xs := (l.take k).flatMap cDr ++ d1) (ys := d2) (zs := r2) (vs := (l.drop k).flatMap cDr) (j := 0 + (k + 1) * 4) (by rw [List.length_append, hT, hd1]; omega) (by rw [hD, hd2])
      rw [List.append_assoc ((l.take k).flatMap cDr), hdr]
      rw [← List.append_assoc, ← List.append_assoc, this, List.append_assoc]
    have e2 : splice ((l.take k).flatMap cDr ++ d1 ++ ((l.drop k).flatMap cDr ++ r2)) (0 + k * 4) (cDr x) = (l.take k ++ [x] ++ l.drop k).flatMap cDr ++ r2 := by
      rw [splice_at (by rw [hT]; omega) (by rw [hd1]; rfl), List.flatMap_append, List.flatMap_append]
      simp
    refine X.permH (List.Perm.swap _ _ _) ?_
    refine X.regionOb ts135c [0, 1, 7, 2] [(0, .slice (some ⟨b, 0, none⟩) (l.length + 1) c), (1, .int .i64 k), (7, .int .i64 (1 : Nat)), (2, .slice (some ⟨bv, 0, none⟩) 1 1)]
      (valL [.slice (some ⟨b, 0, none⟩) (l.length + 1) c, .int .i64 k, .int .i64 (1 : Nat), .int .i64 (k + 1 : Nat), .slice (some ⟨b, 0 + (k + 1) * 4, none⟩) (l.length + 1 - (k + 1)) (c - (k + 1)), .slice (some ⟨b, 0, none⟩) (l.length + 1) c, .int .i64 k, .slice (some ⟨b, 0 + k * 4, none⟩) (l.length + 1 - k) (c - k), .int .i64 (l.length - k : Nat)])
      (rowsL 8 ⟨b, 0, splice ((l.take k).flatMap cDr ++ (l.drop k).flatMap cDr ++ rst) (0 + (k + 1) * 4) ((l.drop k).flatMap cDr), some 31, c * 4⟩ ⟨b, 0, (l.take k).flatMap cDr ++ (l.drop k).flatMap cDr ++ rst, some 31, c * 4⟩) (fun _ => (0, 0)) (⟨bv, 0, cDr x, some 31, 1 * 4⟩ :: H) rfl mixed (by (repeat (first | exact Sub.nil _ | refine Sub.cons rfl ?_)); done) rfl (by kernel_rfl) (locL _ _ _ _ _) (List.Sublist.refl _) ?_ ?_
    · repeat' (first | exact AllF.done rfl | (refine AllF.step rfl ?_ ?_; · (first | fail | ((first | refine Ob.ng rfl ?_); (first | exact ObK.pure (fun env R hR => by exact ⟨_, EvF.move rfl rfl, rfl⟩) rfl (fun _ => rfl) | (exact ObK.pure (fun env S hS => ⟨_, EvF.add64 rfl rfl rfl (by omega) (by omega), rfl⟩) rfl (fun _ => rfl)) | (exact ObK.pure (fun env S hS => ⟨_, EvF.sliceFromL (lo := k + 1) rfl rfl (te rfl) (te rfl) rfl (by omega) (by omega) (by omega), rfl⟩) rfl (fun _ => rfl)) | (exact ObK.pure (fun env S hS => ⟨_, EvF.sliceFromL (lo := k) rfl rfl (te rfl) (te rfl) rfl (by omega) (by omega) (by omega), rfl⟩) rfl (fun _ => rfl)) | (exact fun env S hS => (StF.copyOwn (q := 0) (j := 0 + (k + 1) * 4) (m := l.length - k) (vs := (l.drop k).flatMap cDr) rfl elWg rfl rfl rfl ((Nat.min_eq_right (by omega)).trans (by omega)) hD (Rd.piece (xs := (l.take k).flatMap cDr) (zs := rst) (List.Mem.head _) hT) hall (by rw [List.length_append, List.length_append, hT, hrl, hD]; omega)).op.mono (fun v H' ⟨hv, hH⟩ => ⟨(0, 0), fun _ => hv, by rw [hH]; exact List.Perm.refl _⟩)))))))
    · intro env t ha hv
      refine ⟨_, ha, ?_⟩
      show X _ _ _ _ (⟨b, 0, splice ((l.take k).flatMap cDr ++ (l.drop k).flatMap cDr ++ rst) (0 + (k + 1) * 4) ((l.drop k).flatMap cDr), some 31, c * 4⟩ :: ⟨bv, 0, cDr x, some 31, 1 * 4⟩ :: H) _
      rw [e1]
      refine X.seq rfl ?_; refine X.region rfl (fun K hK => ?_); repeat' (first | (refine XO.op rfl ?_; (first | ((first | refine Xo.ng rfl ?_); (first | (refine Xg.ev (EvF.sliceFromL (lo := k) rfl rfl (te rfl) (te rfl) rfl (by omega) (by omega) (by omega)) rfl rfl ?_) | (refine Xg.st (StF.copyOwn (q := 0) (j := 0 + k * 4) (m := 1) rfl elWg rfl rfl rfl (Nat.min_eq_left (by omega)) rfl (Rd.own (List.Mem.tail _ (List.Mem.head _))) rfl (by rw [List.length_append, List.length_append, hT, hd1]; show 0 + k * 4 + 4 ≤ _; omega)) rfl rfl ?_; rintro _ _ ⟨rfl, rfl⟩; dsimp only [List.set]) | (refine Xg.ev (EvF.move rfl rfl) rfl rfl ?_))))) | (refine XO.done rfl ?_; refine hK _ _ ?_; clear hK K))
      rw [e2]
      refine X.forget (q := 0) rfl ?_
      dsimp only [List.set]
      repeat' (first | (refine XO.op rfl ?_; (first | ((first | refine Xo.ng rfl ?_); (first | (refine Xg.ev (EvF.move rfl rfl) rfl rfl ?_) | (refine Xg.ev (EvF.assign rfl rfl) rfl rfl ?_))))) | (refine XO.done rfl ?_; refine hK _ _ ?_; clear hK K) | refine X.seq rfl ?_ | refine X.region rfl (fun K hK => ?_) | refine X.ret rfl ?_)
      exact ret_one (by first | exact .inr rfl | exact .inl rfl) Try.results57 rfl (H' := ⟨b, 0, (l.take k ++ [x] ++ l.drop k).flatMap cDr, some 31, c * 4⟩ :: H) (by (repeat (first | exact List.Sublist.refl _ | apply List.Sublist.cons_cons | apply List.Sublist.cons)); done) ⟨b, c, rfl, rfl⟩
  · rename_i h _
    cases h
end Go.Proofs.Ytoflnjgfikchjaa
end
section
set_option linter.unusedVariables false
set_option linter.unusedSimpArgs false
namespace Go.Proofs.Ytoflnjgfikchjaa
open Go Go.Fw
set_option maxRecDepth 10000
def ts102 : List TOp := [⟨some 15, [], [], []⟩, ⟨some 16, [0], [0], []⟩, ⟨some 17, [], [], []⟩, ⟨some 18, [], [], []⟩, ⟨some 19, [3], [3], []⟩, ⟨some 20, [0, 1, 2, 3, 4], [1, 2, 4], [4, 1]⟩, ⟨some 6, [0, 1, 2, 3, 4, 5], [5], []⟩]
def insDr (x : Dr) : List Dr → List Dr
  | [] => [x]
  | m :: t => if m.number < x.number then m :: insDr x t else x :: m :: t
theorem insDr_at (x : Dr) : ∀ (l : List Dr) (k : Nat), k ≤ l.length → (∀ i e, i < k → l[i]? = some e → e.number < x.number) → (∀ e, l[k]? = some e → ¬ e.number < x.number) → insDr x l = l.take k ++ [x] ++ l.drop k
  | [], k, hk, _, _ => by simp [insDr]
  | m :: t, 0, _, _, h => by
    have := h m rfl
    simp [insDr, this]
  | m :: t, k + 1, hk, h1, h2 => by
    have h3 := h1 0 m (by omega) rfl
    have := insDr_at x t k (by simpa using hk) (fun i e hi he => h1 (i + 1) e (by omega) (by simpa using he)) (fun e he => h2 e (by simpa using he))
    simp [insDr, h3, this]
theorem insDr_len (x : Dr) : ∀ l, (insDr x l).length = l.length + 1
  | [] => rfl
  | m :: t => by
    have := insDr_len x t
    simp only [insDr]
    split <;> simp [this]
def val102Dr (l : List Dr) (x : Dr) (k0 : Nat) (ad : Addr) (c : Nat) (k : Nat) (env : Env) : Value :=
  match k with
  | 0 => .slice (some ad) l.length c
  | 1 => .slice (some ⟨(env 1).1, 0, none⟩) l.length (env 1).2
  | 2 => .int .i64 k0
  | 3 => .agg (cDr x).toArray
  | 4 => .slice (some ⟨(env 4).1, 0, none⟩) 1 1
  | 5 => .slice (some ⟨(env 5).1, 0, none⟩) (l.length + 1) (env 5).2
  | 6 => .slice (some ⟨(env 5).1, 0, none⟩) (l.length + 1) (env 5).2
  | _ => undef
def rows102Dr (l : List Dr) (x : Dr) (k0 : Nat) (k : Nat) (env : Env) : List Row :=
  match k with
  | 1 => [⟨(env 1).1, 0, l.flatMap cDr, some 29, (env 1).2 * 4⟩]
  | 4 => [⟨(env 4).1, 0, cDr x, some 29, 1 * 4⟩]
  | 5 => [⟨(env 5).1, 0, (l.take k0 ++ [x] ++ l.drop k0).flatMap cDr, some 29, (env 5).2 * 4⟩]
  | _ => []
theorem loc102Dr (l : List Dr) (x : Dr) (k0 : Nat) (ad : Addr) (c : Nat) : ∀ k env i q9, i ≠ k → (tAt ts102 k).sup.contains i = false → val102Dr l x k0 ad c k (upd env i q9) = val102Dr l x k0 ad c k env ∧ rows102Dr l x k0 k (upd env i q9) = rows102Dr l x k0 k env := by
  intro k env i q hk hs
  have hu : ∀ j, j ≠ i → upd env i q j = env j := fun j hj => by unfold upd; rw [if_neg hj]
  match k, hk, hs with
  | 0, _, _ => exact ⟨rfl, rfl⟩
  | 1, hk, hs => exact ⟨by simp only [val102Dr, hu 1 (fun e => hk e.symm)], by simp only [rows102Dr, hu 1 (fun e => hk e.symm)]⟩
  | 2, _, _ => exact ⟨rfl, rfl⟩
  | 3, _, _ => exact ⟨rfl, rfl⟩
  | 4, hk, hs => exact ⟨by simp only [val102Dr, hu 4 (fun e => hk e.symm)], by simp only [rows102Dr, hu 4 (fun e => hk e.symm)]⟩
  | 5, hk, hs => exact ⟨by simp only [val102Dr, hu 5 (fun e => hk e.symm)], by simp only [rows102Dr, hu 5 (fun e => hk e.symm)]⟩
  | 6, hk, hs => exact ⟨by simp only [val102Dr, hu 5 (by rintro rfl; cases hs)], by simp only [rows102Dr, hu 5 (by rintro rfl; cases hs)]⟩
  | _ + 7, _, _ => exact ⟨rfl, rfl⟩
set_option maxHeartbeats 4000000 in
theorem put_specDr (l : List Dr) (x : Dr) (ad : Addr) (c : Nat) (H : List Row) (hl : SlE H (some ad) cDr 4 l) (hb : l.length ≤ 1000000) :
    Fc Try.prog 23 [.slice (some ad) l.length c, .agg (cDr x).toArray, .func (.func 24) #[] #[]] H (fun v H' => ∃ b k, v = .slice (some ⟨b, 0, none⟩) (insDr x l).length k ∧ H' = ⟨b, 0, (insDr x l).flatMap cDr, some 29, k * 4⟩ :: H) := by
  have hl2 : ∀ r1 r2, SlE (r1 :: r2 :: H) (some ad) cDr 4 l := fun r1 r2 => hl.sub (fun _ h => List.Mem.tail _ (List.Mem.tail _ h))
  refine Fc.mk (callable Try.call23) Try.func23 rfl Try.ntmps23 rfl ?_; dsimp only [fr]
  refine X.seq rfl ?_; refine X.region rfl (fun K hK => ?_); repeat' (first | (refine XO.op rfl ?_; (first | ((first | refine Xo.ng rfl ?_); (first | (refine Xg.ev (EvF.assign rfl rfl) rfl rfl ?_) | (refine Xg.st (StF.boxAgg rfl rfl) rfl rfl ?_; rintro _ _ ⟨bx, rfl, rfl⟩) | (refine Xg.st (StF.boxOne rfl rfl rfl) rfl rfl ?_; rintro _ _ ⟨bx, rfl, rfl⟩))))) | (refine XO.done rfl ?_; refine hK _ _ ?_; clear hK K))
  rename_i b4
  rename Nat => b5
  repeat' (first | (refine XO.op rfl ?_; (first | ((first | refine Xo.ng rfl ?_); (first | (refine Xg.ev (EvF.makeFunc (fl := []) rfl Args.nil (Args.cons rfl (Args.cons rfl Args.nil))) rfl rfl ?_) | (refine Xg.call (EnF.st rfl (by (repeat (first | exact Args.nil | refine Args.cons rfl ?_)); done)) rfl rfl (indexFunc_specDr l _ _ 53 (fun y => decide (y.number ≥ x.number)) _ _ (hl2 _ _) (by omega) (fun y _ => put1_specDr y x _ _ _ _ _ _ _ (List.Mem.head _) (List.Mem.tail _ (List.Mem.head _)))) ?_; rintro _ H9 ⟨⟨z, rfl, hz⟩, hH9⟩; subst H9; rcases hz with ⟨rfl, hz⟩ | ⟨k, e, rfl, he, hp, hz⟩) | (refine Xg.ev (EvF.move rfl rfl) rfl rfl ?_) | (refine Xg.ev (EvF.assign rfl rfl) rfl rfl ?_) | (refine Xg.ev (EvF.cmp rfl rfl rfl rfl) rfl rfl ?_) | (refine Xg.ev (EvF.lenSlice rfl rfl (te rfl)) rfl rfl ?_))))) | (refine XO.done rfl ?_; refine hK _ _ ?_; clear hK K) | refine X.seq rfl ?_ | refine X.region rfl (fun K hK => ?_) | refine X.skip rfl ?_ | (refine X.ite rfl rfl (fun hc => ?_); (first | (with_reducible refine Xb.case hc (fun h => ?_) (fun h => ?_))) <;> clear hc))
  any_goals (exfalso; omega)
  · have hk : l.length ≤ l.length := Nat.le_refl _
    have hins := insDr_at x l l.length hk (fun i e _ he => by have := of_decide_eq_false (hz e (List.mem_of_getElem? he)); omega) (fun e he => by rw [List.getElem?_eq_none (Nat.le_refl _)] at he; cases he)
    refine X.regionOb ts102 [0, 7, 4] [(0, .slice (some ad) l.length c), (7, .int .i64 (l.length : Nat)), (4, .pointer (some ⟨b4, 0, none⟩))] (val102Dr l x l.length ad c) (rows102Dr l x l.length) (fun _ => (0, 0)) (⟨b5, 0, [.func (.func 24) #[] #[]], some 57, 1⟩ :: ⟨b4, 0, cDr x, some 29, 4⟩ :: H) rfl mixed (by (repeat (first | exact Sub.nil _ | refine Sub.cons rfl ?_)); done) rfl (by kernel_rfl) (loc102Dr l x l.length ad c) (List.Sublist.refl _) ?_ ?_
    · repeat' (first | exact AllF.done rfl | (refine AllF.step rfl ?_ ?_; · (first | fail | ((first | refine Ob.ng rfl ?_); (first | exact ObK.pure (fun env R hR => by exact ⟨_, EvF.move rfl rfl, rfl⟩) rfl (fun _ => rfl) | exact ObK.pure (fun env R hR => by exact ⟨_, EvF.assign rfl rfl, rfl⟩) rfl (fun _ => rfl) | exact ObK.pure (fun env R hR => by exact ⟨_, EvF.loadV rfl rfl (LoadV.whole (te rfl) rfl (hR _ (List.Mem.tail _ (List.Mem.head _))) rfl), rfl⟩) rfl (fun _ => rfl) | (exact fun env S hS => (OpF.call (EnF.st rfl (by (repeat (first | exact Args.nil | refine Args.cons rfl ?_)); done)) (clone_specDr l ad c _ (hl.sub (fun r hr => hS _ (List.Mem.tail _ (List.Mem.tail _ hr)))) hb)).mono (fun v H' ⟨b, k, hv, hH⟩ => ⟨(b, k), fun _ => hv, by rw [hH]; exact List.Perm.refl _⟩)) | (exact fun env S hS => (StF.buildOne rfl elDr rfl rfl rfl (by decide) (by decide)).op.mono (fun v H' ⟨b, hv, hH⟩ => ⟨(b, 0), fun _ => hv, by rw [hH]; exact List.Perm.refl _⟩)) | (exact fun env S hS => (OpF.call (EnF.st rfl (by (repeat (first | exact Args.nil | refine Args.cons rfl ?_)); done)) (insert_specDr l x l.length _ _ _ S hk hb)).mono (fun v H' ⟨b, k, hv, hH⟩ => ⟨(b, k), fun _ => hv, by rw [hH]; exact List.Perm.refl _⟩)))))))
    · intro env t ha hv
      refine ⟨[(6, .slice (some ⟨(env 5).1, 0, none⟩) (l.length + 1) (env 5).2)], (ha.sub (Sub.nil _)).cons (hv 6 6 (Nat.le_of_ble_eq_true rfl) rfl), ?_⟩
      show X _ _ _ _ (⟨(env 5).1, 0, (l.take l.length ++ [x] ++ l.drop l.length).flatMap cDr, some 29, (env 5).2 * 4⟩ :: ⟨b5, 0, [.func (.func 24) #[] #[]], some 57, 1⟩ :: ⟨b4, 0, cDr x, some 29, 4⟩ :: H) _
      repeat' (first | refine X.ret rfl ?_)
      refine ret_one (by first | exact .inr rfl | exact .inl rfl) Try.results23 rfl (H' := ⟨(env 5).1, 0, (l.take l.length ++ [x] ++ l.drop l.length).flatMap cDr, some 29, (env 5).2 * 4⟩ :: H) (by (repeat (first | exact List.Sublist.refl _ | apply List.Sublist.cons_cons | apply List.Sublist.cons)); done) ⟨_, _, by rw [insDr_len], ?_⟩
      rw [hins]
  · have hk : k ≤ l.length := Nat.le_of_lt (List.getElem?_eq_some_iff.1 he).1
    have hins := insDr_at x l k hk (fun i e hi he => by have := of_decide_eq_false (hz i e hi he); omega) (fun e' he' => by rw [he] at he'; cases he'; have := of_decide_eq_true hp; omega)
    refine X.regionOb ts102 [0, 7, 4] [(0, .slice (some ad) l.length c), (7, .int .i64 (k : Nat)), (4, .pointer (some ⟨b4, 0, none⟩))] (val102Dr l x k ad c) (rows102Dr l x k) (fun _ => (0, 0)) (⟨b5, 0, [.func (.func 24) #[] #[]], some 57, 1⟩ :: ⟨b4, 0, cDr x, some 29, 4⟩ :: H) rfl mixed (by (repeat (first | exact Sub.nil _ | refine Sub.cons rfl ?_)); done) rfl (by kernel_rfl) (loc102Dr l x k ad c) (List.Sublist.refl _) ?_ ?_
    · repeat' (first | exact AllF.done rfl | (refine AllF.step rfl ?_ ?_; · (first | fail | ((first | refine Ob.ng rfl ?_); (first | exact ObK.pure (fun env R hR => by exact ⟨_, EvF.move rfl rfl, rfl⟩) rfl (fun _ => rfl) | exact ObK.pure (fun env R hR => by exact ⟨_, EvF.assign rfl rfl, rfl⟩) rfl (fun _ => rfl) | exact ObK.pure (fun env R hR => by exact ⟨_, EvF.loadV rfl rfl (LoadV.whole (te rfl) rfl (hR _ (List.Mem.tail _ (List.Mem.head _))) rfl), rfl⟩) rfl (fun _ => rfl) | (exact fun env S hS => (OpF.call (EnF.st rfl (by (repeat (first | exact Args.nil | refine Args.cons rfl ?_)); done)) (clone_specDr l ad c _ (hl.sub (fun r hr => hS _ (List.Mem.tail _ (List.Mem.tail _ hr)))) hb)).mono (fun v H' ⟨b, k, hv, hH⟩ => ⟨(b, k), fun _ => hv, by rw [hH]; exact List.Perm.refl _⟩)) | (exact fun env S hS => (StF.buildOne rfl elDr rfl rfl rfl (by decide) (by decide)).op.mono (fun v H' ⟨b, hv, hH⟩ => ⟨(b, 0), fun _ => hv, by rw [hH]; exact List.Perm.refl _⟩)) | (exact fun env S hS => (OpF.call (EnF.st rfl (by (repeat (first | exact Args.nil | refine Args.cons rfl ?_)); done)) (insert_specDr l x k _ _ _ S hk hb)).mono (fun v H' ⟨b, k, hv, hH⟩ => ⟨(b, k), fun _ => hv, by rw [hH]; exact List.Perm.refl _⟩)))))))
    · intro env t ha hv
      refine ⟨[(6, .slice (some ⟨(env 5).1, 0, none⟩) (l.length + 1) (env 5).2)], (ha.sub (Sub.nil _)).cons (hv 6 6 (Nat.le_of_ble_eq_true rfl) rfl), ?_⟩
      show X _ _ _ _ (⟨(env 5).1, 0, (l.take k ++ [x] ++ l.drop k).flatMap cDr, some 29, (env 5).2 * 4⟩ :: ⟨b5, 0, [.func (.func 24) #[] #[]], some 57, 1⟩ :: ⟨b4, 0, cDr x, some 29, 4⟩ :: H) _
      repeat' (first | refine X.ret rfl ?_)
      refine ret_one (by first | exact .inr rfl | exact .inl rfl) Try.results23 rfl (H' := ⟨(env 5).1, 0, (l.take k ++ [x] ++ l.drop k).flatMap cDr, some 29, (env 5).2 * 4⟩ :: H) (by (repeat (first | exact List.Sublist.refl _ | apply List.Sublist.cons_cons | apply List.Sublist.cons)); done) ⟨_, _, by rw [insDr_len], ?_⟩
      rw [hins]
def insWg (x : Wg) : List Wg → List Wg
  | [] => [x]
  | m :: t => if m.number < x.number then m :: insWg x t else x :: m :: t
theorem insWg_at (x : Wg) : ∀ (l : List Wg) (k : Nat), k ≤ l.length → (∀ i e, i < k → l[i]? = some e → e.number < x.number) → (∀ e, l[k]? = some e → ¬ e.number < x.number) → insWg x l = l.take k ++ [x] ++ l.drop k
  | [], k, hk, _, _ => by simp [insWg]
  | m :: t, 0, _, _, h => by
    have := h m rfl
    simp [insWg, this]
  | m :: t, k + 1, hk, h1, h2 => by
    have h3 := h1 0 m (by omega) rfl
    have := insWg_at x t k (by simpa using hk) (fun i e hi he => h1 (i + 1) e (by omega) (by simpa using he)) (fun e he => h2 e (by simpa using he))
    simp [insWg, h3, this]
theorem insWg_len (x : Wg) : ∀ l, (insWg x l).length = l.length + 1
  | [] => rfl
  | m :: t => by
    have := insWg_len x t
    simp only [insWg]
    split <;> simp [this]
def val102Wg (l : List Wg) (x : Wg) (k0 : Nat) (ad : Addr) (c : Nat) (k : Nat) (env : Env) : Value :=
  match k with
  | 0 => .slice (some ad) l.length c
  | 1 => .slice (some ⟨(env 1).1, 0, none⟩) l.length (env 1).2
  | 2 => .int .i64 k0
  | 3 => .agg (cDr x).toArray
  | 4 => .slice (some ⟨(env 4).1, 0, none⟩) 1 1
  | 5 => .slice (some ⟨(env 5).1, 0, none⟩) (l.length + 1) (env 5).2
  | 6 => .slice (some ⟨(env 5).1, 0, none⟩) (l.length + 1) (env 5).2
  | _ => undef
def rows102Wg (l : List Wg) (x : Wg) (k0 : Nat) (k : Nat) (env : Env) : List Row :=
  match k with
  | 1 => [⟨(env 1).1, 0, l.flatMap cDr, some 31, (env 1).2 * 4⟩]
  | 4 => [⟨(env 4).1, 0, cDr x, some 31, 1 * 4⟩]
  | 5 => [⟨(env 5).1, 0, (l.take k0 ++ [x] ++ l.drop k0).flatMap cDr, some 31, (env 5).2 * 4⟩]
  | _ => []
theorem loc102Wg (l : List Wg) (x : Wg) (k0 : Nat) (ad : Addr) (c : Nat) : ∀ k env i q9, i ≠ k → (tAt ts102 k).sup.contains i = false → val102Wg l x k0 ad c k (upd env i q9) = val102Wg l x k0 ad c k env ∧ rows102Wg l x k0 k (upd env i q9) = rows102Wg l x k0 k env := by
  intro k env i q hk hs
  have hu : ∀ j, j ≠ i → upd env i q j = env j := fun j hj => by unfold upd; rw [if_neg hj]
  match k, hk, hs with
  | 0, _, _ => exact ⟨rfl, rfl⟩
  | 1, hk, hs => exact ⟨by simp only [val102Wg, hu 1 (fun e => hk e.symm)], by simp only [rows102Wg, hu 1 (fun e => hk e.symm)]⟩
  | 2, _, _ => exact ⟨rfl, rfl⟩
  | 3, _, _ => exact ⟨rfl, rfl⟩
  | 4, hk, hs => exact ⟨by simp only [val102Wg, hu 4 (fun e => hk e.symm)], by simp only [rows102Wg, hu 4 (fun e => hk e.symm)]⟩
  | 5, hk, hs => exact ⟨by simp only [val102Wg, hu 5 (fun e => hk e.symm)], by simp only [rows102Wg, hu 5 (fun e => hk e.symm)]⟩
  | 6, hk, hs => exact ⟨by simp only [val102Wg, hu 5 (by rintro rfl; cases hs)], by simp only [rows102Wg, hu 5 (by rintro rfl; cases hs)]⟩
  | _ + 7, _, _ => exact ⟨rfl, rfl⟩
set_option maxHeartbeats 4000000 in
theorem put_specWg (l : List Wg) (x : Wg) (ad : Addr) (c : Nat) (H : List Row) (hl : SlE H (some ad) cDr 4 l) (hb : l.length ≤ 1000000) :
    Fc Try.prog 27 [.slice (some ad) l.length c, .agg (cDr x).toArray, .func (.func 28) #[] #[]] H (fun v H' => ∃ b k, v = .slice (some ⟨b, 0, none⟩) (insWg x l).length k ∧ H' = ⟨b, 0, (insWg x l).flatMap cDr, some 31, k * 4⟩ :: H) := by
  have hl2 : ∀ r1 r2, SlE (r1 :: r2 :: H) (some ad) cDr 4 l := fun r1 r2 => hl.sub (fun _ h => List.Mem.tail _ (List.Mem.tail _ h))
  refine Fc.mk (callable Try.call27) Try.func27 rfl Try.ntmps27 rfl ?_; dsimp only [fr]
  refine X.seq rfl ?_; refine X.region rfl (fun K hK => ?_); repeat' (first | (refine XO.op rfl ?_; (first | ((first | refine Xo.ng rfl ?_); (first | (refine Xg.ev (EvF.assign rfl rfl) rfl rfl ?_) | (refine Xg.st (StF.boxAgg rfl rfl) rfl rfl ?_; rintro _ _ ⟨bx, rfl, rfl⟩) | (refine Xg.st (StF.boxOne rfl rfl rfl) rfl rfl ?_; rintro _ _ ⟨bx, rfl, rfl⟩))))) | (refine XO.done rfl ?_; refine hK _ _ ?_; clear hK K))
  rename_i b4
  rename Nat => b5
  repeat' (first | (refine XO.op rfl ?_; (first | ((first | refine Xo.ng rfl ?_); (first | (refine Xg.ev (EvF.makeFunc (fl := []) rfl Args.nil (Args.cons rfl (Args.cons rfl Args.nil))) rfl rfl ?_) | (refine Xg.call (EnF.st rfl (by (repeat (first | exact Args.nil | refine Args.cons rfl ?_)); done)) rfl rfl (indexFunc_specWg l _ _ 56 (fun y => decide (y.number ≥ x.number)) _ _ (hl2 _ _) (by omega) (fun y _ => put1_specWg y x _ _ _ _ _ _ _ (List.Mem.head _) (List.Mem.tail _ (List.Mem.head _)))) ?_; rintro _ H9 ⟨⟨z, rfl, hz⟩, hH9⟩; subst H9; rcases hz with ⟨rfl, hz⟩ | ⟨k, e, rfl, he, hp, hz⟩) | (refine Xg.ev (EvF.move rfl rfl) rfl rfl ?_) | (refine Xg.ev (EvF.assign rfl rfl) rfl rfl ?_) | (refine Xg.ev (EvF.cmp rfl rfl rfl rfl) rfl rfl ?_) | (refine Xg.ev (EvF.lenSlice rfl rfl (te rfl)) rfl rfl ?_))))) | (refine XO.done rfl ?_; refine hK _ _ ?_; clear hK K) | refine X.seq rfl ?_ | refine X.region rfl (fun K hK => ?_) | refine X.skip rfl ?_ | (refine X.ite rfl rfl (fun hc => ?_); (first | (with_reducible refine Xb.case hc (fun h => ?_) (fun h => ?_))) <;> clear hc))
  any_goals (exfalso; omega)
  · have hk : l.length ≤ l.length := Nat.le_refl _
    have hins := insWg_at x l l.length hk (fun i e _ he => by have := of_decide_eq_false (hz e (List.mem_of_getElem? he)); omega) (fun e he => by rw [List.getElem?_eq_none (Nat.le_refl _)] at he; cases he)
    refine X.regionOb ts102 [0, 7, 4] [(0, .slice (some ad) l.length c), (7, .int .i64 (l.length : Nat)), (4, .pointer (some ⟨b4, 0, none⟩))] (val102Wg l x l.length ad c) (rows102Wg l x l.length) (fun _ => (0, 0)) (⟨b5, 0, [.func (.func 28) #[] #[]], some 61, 1⟩ :: ⟨b4, 0, cDr x, some 31, 4⟩ :: H) rfl mixed (by (repeat (first | exact Sub.nil _ | refine Sub.cons rfl ?_)); done) rfl (by kernel_rfl) (loc102Wg l x l.length ad c) (List.Sublist.refl _) ?_ ?_
    · repeat' (first | exact AllF.done rfl | (refine AllF.step rfl ?_ ?_; · (first | fail | ((first | refine Ob.ng rfl ?_); (first | exact ObK.pure (fun env R hR => by exact ⟨_, EvF.move rfl rfl, rfl⟩) rfl (fun _ => rfl) | exact ObK.pure (fun env R hR => by exact ⟨_, EvF.assign rfl rfl, rfl⟩) rfl (fun _ => rfl) | exact ObK.pure (fun env R hR => by exact ⟨_, EvF.loadV rfl rfl (LoadV.whole (te rfl) rfl (hR _ (List.Mem.tail _ (List.Mem.head _))) rfl), rfl⟩) rfl (fun _ => rfl) | (exact fun env S hS => (OpF.call (EnF.st rfl (by (repeat (first | exact Args.nil | refine Args.cons rfl ?_)); done)) (clone_specWg l ad c _ (hl.sub (fun r hr => hS _ (List.Mem.tail _ (List.Mem.tail _ hr)))) hb)).mono (fun v H' ⟨b, k, hv, hH⟩ => ⟨(b, k), fun _ => hv, by rw [hH]; exact List.Perm.refl _⟩)) | (exact fun env S hS => (StF.buildOne rfl elWg rfl rfl rfl (by decide) (by decide)).op.mono (fun v H' ⟨b, hv, hH⟩ => ⟨(b, 0), fun _ => hv, by rw [hH]; exact List.Perm.refl _⟩)) | (exact fun env S hS => (OpF.call (EnF.st rfl (by (repeat (first | exact Args.nil | refine Args.cons rfl ?_)); done)) (insert_specWg l x l.length _ _ _ S hk hb)).mono (fun v H' ⟨b, k, hv, hH⟩ => ⟨(b, k), fun _ => hv, by rw [hH]; exact List.Perm.refl _⟩)))))))
    · intro env t ha hv
      refine ⟨[(6, .slice (some ⟨(env 5).1, 0, none⟩) (l.length + 1) (env 5).2)], (ha.sub (Sub.nil _)).cons (hv 6 6 (Nat.le_of_ble_eq_true rfl) rfl), ?_⟩
      show X _ _ _ _ (⟨(env 5).1, 0, (l.take l.length ++ [x] ++ l.drop l.length).flatMap cDr, some 31, (env 5).2 * 4⟩ :: ⟨b5, 0, [.func (.func 28) #[] #[]], some 61, 1⟩ :: ⟨b4, 0, cDr x, some 31, 4⟩ :: H) _
      repeat' (first | refine X.ret rfl ?_)
      refine ret_one (by first | exact .inr rfl | exact .inl rfl) Try.results27 rfl (H' := ⟨(env 5).1, 0, (l.take l.length ++ [x] ++ l.drop l.length).flatMap cDr, some 31, (env 5).2 * 4⟩ :: H) (by (repeat (first | exact List.Sublist.refl _ | apply List.Sublist.cons_cons | apply List.Sublist.cons)); done) ⟨_, _, by rw [insWg_len], ?_⟩
      rw [hins]
  · have hk : k ≤ l.length := Nat.le_of_lt (List.getElem?_eq_some_iff.1 he).1
    have hins := insWg_at x l k hk (fun i e hi he => by have := of_decide_eq_false (hz i e hi he); omega) (fun e' he' => by rw [he] at he'; cases he'; have := of_decide_eq_true hp; omega)
    refine X.regionOb ts102 [0, 7, 4] [(0, .slice (some ad) l.length c), (7, .int .i64 (k : Nat)), (4, .pointer (some ⟨b4, 0, none⟩))] (val102Wg l x k ad c) (rows102Wg l x k) (fun _ => (0, 0)) (⟨b5, 0, [.func (.func 28) #[] #[]], some 61, 1⟩ :: ⟨b4, 0, cDr x, some 31, 4⟩ :: H) rfl mixed (by (repeat (first | exact Sub.nil _ | refine Sub.cons rfl ?_)); done) rfl (by kernel_rfl) (loc102Wg l x k ad c) (List.Sublist.refl _) ?_ ?_
    · repeat' (first | exact AllF.done rfl | (refine AllF.step rfl ?_ ?_; · (first | fail | ((first | refine Ob.ng rfl ?_); (first | exact ObK.pure (fun env R hR => by exact ⟨_, EvF.move rfl rfl, rfl⟩) rfl (fun _ => rfl) | exact ObK.pure (fun env R hR => by exact ⟨_, EvF.assign rfl rfl, rfl⟩) rfl (fun _ => rfl) | exact ObK.pure (fun env R hR => by exact ⟨_, EvF.loadV rfl rfl (LoadV.whole (te rfl) rfl (hR _ (List.Mem.tail _ (List.Mem.head _))) rfl), rfl⟩) rfl (fun _ => rfl) | (exact fun env S hS => (OpF.call (EnF.st rfl (by (repeat (first | exact Args.nil | refine Args.cons rfl ?_)); done)) (clone_specWg l ad c _ (hl.sub (fun r hr => hS _ (List.Mem.tail _ (List.Mem.tail _ hr)))) hb)).mono (fun v H' ⟨b, k, hv, hH⟩ => ⟨(b, k), fun _ => hv, by rw [hH]; exact List.Perm.refl _⟩)) | (exact fun env S hS => (StF.buildOne rfl elWg rfl rfl rfl (by decide) (by decide)).op.mono (fun v H' ⟨b, hv, hH⟩ => ⟨(b, 0), fun _ => hv, by rw [hH]; exact List.Perm.refl _⟩)) | (exact fun env S hS => (OpF.call (EnF.st rfl (by (repeat (first | exact Args.nil | refine Args.cons rfl ?_)); done)) (insert_specWg l x k _ _ _ S hk hb)).mono (fun v H' ⟨b, k, hv, hH⟩ => ⟨(b, k), fun _ => hv, by rw [hH]; exact List.Perm.refl _⟩)))))))
    · intro env t ha hv
      refine ⟨[(6, .slice (some ⟨(env 5).1, 0, none⟩) (l.length + 1) (env 5).2)], (ha.sub (Sub.nil _)).cons (hv 6 6 (Nat.le_of_ble_eq_true rfl) rfl), ?_⟩
      show X _ _ _ _ (⟨(env 5).1, 0, (l.take k ++ [x] ++ l.drop k).flatMap cDr, some 31, (env 5).2 * 4⟩ :: ⟨b5, 0, [.func (.func 28) #[] #[]], some 61, 1⟩ :: ⟨b4, 0, cDr x, some 31, 4⟩ :: H) _
      repeat' (first | refine X.ret rfl ?_)
      refine ret_one (by first | exact .inr rfl | exact .inl rfl) Try.results27 rfl (H' := ⟨(env 5).1, 0, (l.take k ++ [x] ++ l.drop k).flatMap cDr, some 31, (env 5).2 * 4⟩ :: H) (by (repeat (first | exact List.Sublist.refl _ | apply List.Sublist.cons_cons | apply List.Sublist.cons)); done) ⟨_, _, by rw [insWg_len], ?_⟩
      rw [hins]
end Go.Proofs.Ytoflnjgfikchjaa
end
section
set_option linter.unusedVariables false
set_option linter.unusedSimpArgs false
namespace Go.Proofs.Ytoflnjgfikchjaa
open Go Go.Fw
set_option maxRecDepth 10000
def leftDr (ms : List Dr) (l : List Int) : List Dr := ms.filter (fun m => !decide (m.number ∈ l))
def strOkD (ms : List Dr) (l : List Int) : Prop := risesOk l ∧ (leftDr ms l).length + l.length = ms.length
set_option maxHeartbeats 4000000 in
theorem strikeL_specD (ms : List Dr) (ad : Addr) (c : Nat) (l : List Int) (al : Option Addr) (cl : Nat) (H : List Row) (hm : SlE H (some ad) cDr 4 ms) (hb : ms.length ≤ 1000000) (hl : SlE H al cI 1 l) (hb' : l.length ≤ 1000000) :
    Fc Try.prog 29 [.slice (some ad) ms.length c, .slice al l.length cl, .func (.func 24) #[] #[]] H (fun v H' => (¬ strOkD ms l ∧ v = .tuple #[.slice none 0 0, .bool false] ∧ H' = H) ∨
      (strOkD ms l ∧ ∃ b k, v = .tuple #[.slice (some ⟨b, 0, none⟩) (leftDr ms l).length k, .bool true] ∧ H' = ⟨b, 0, (leftDr ms l).flatMap cDr, some 29, k * 4⟩ :: H)) := by
  have hl2 : ∀ r1 r2, SlE (r1 :: r2 :: H) al cI 1 l := fun r1 r2 => hl.sub (fun _ h => List.Mem.tail _ (List.Mem.tail _ h))
  have hm2 : ∀ r1 r2, SlE (r1 :: r2 :: H) (some ad) cDr 4 ms := fun r1 r2 => hm.sub (fun _ h => List.Mem.tail _ (List.Mem.tail _ h))
  have hlf : (ms.filter (fun m => !decide (m.number ∈ l))).length ≤ ms.length := List.length_filter_le _ _
  refine Fc.mk (callable Try.call29) Try.func29 rfl Try.ntmps29 rfl ?_; dsimp only [fr]
  refine X.seq rfl ?_; refine X.region rfl (fun K hK => ?_); repeat' (first | (refine XO.op rfl ?_; (first | ((first | refine Xo.ng rfl ?_); (first | (refine Xg.ev (EvF.assign rfl rfl) rfl rfl ?_) | (refine Xg.st (StF.boxOne rfl rfl rfl) rfl rfl ?_; rintro _ _ ⟨bx, rfl, rfl⟩))))) | (refine XO.done rfl ?_; refine hK _ _ ?_; clear hK K))
  rename_i b4
  rename Nat => b5
  repeat' (first | (refine XO.op rfl ?_; (first | ((first | refine Xo.ng rfl ?_); (first | (refine Xg.call (EnF.st rfl (by (repeat (first | exact Args.nil | refine Args.cons rfl ?_)); done)) rfl rfl (rising_spec l _ _ _ (hl2 _ _) (by omega)) ?_; rintro _ H9 ⟨rfl, hH9⟩; subst H9) | (refine Xg.call (EnF.st rfl (by (repeat (first | exact Args.nil | refine Args.cons rfl ?_)); done)) rfl rfl (clone_specDr ms _ _ _ (hm2 _ _) hb) ?_; rintro _ _ ⟨bc, kc, rfl, rfl⟩) | (refine Xg.ev (EvF.makeFunc (fl := []) rfl Args.nil (Args.cons rfl (Args.cons rfl Args.nil))) rfl rfl ?_) | (refine Xg.call (EnF.st rfl (by (repeat (first | exact Args.nil | refine Args.cons rfl ?_)); done)) rfl rfl (deleteFunc_specDr ms _ _ 60 (fun m => decide (m.number ∈ l)) _ _ hb (fun Z e _ => strike1_specDr e l al b4 b5 cl _ _ _ _ _ (List.mem_append_right _ (List.Mem.head _)) (List.mem_append_right _ (List.Mem.tail _ (List.Mem.head _))) (hl.sub (fun _ h => List.mem_append_right _ (List.Mem.tail _ (List.Mem.tail _ h)))) (by omega))) ?_; rintro _ H9 ⟨rfl, hH9⟩; subst H9) | (refine Xg.ev (EvF.move rfl rfl) rfl rfl ?_) | (refine Xg.ev (EvF.assign rfl rfl) rfl rfl ?_) | (refine Xg.ev (EvF.cmp rfl rfl rfl rfl) rfl rfl ?_) | (refine Xg.ev (EvF.add64 rfl rfl rfl (by omega) (by omega)) rfl rfl ?_) | (refine Xg.ev (EvF.not rfl rfl) rfl rfl ?_) | (refine Xg.ev (EvF.lenSlice rfl rfl (te rfl)) rfl rfl ?_) | (refine Xg.ev (EvF.loadV rfl rfl (LoadV.own (te rfl) rfl (List.Mem.tail _ (List.Mem.head _)) rfl)) rfl rfl ?_) | (refine Xg.ev (EvF.loadV rfl rfl (LoadV.own (te rfl) rfl (List.Mem.tail _ (List.Mem.tail _ (List.Mem.head _))) rfl)) rfl rfl ?_))))) | (refine XO.done rfl ?_; refine hK _ _ ?_; clear hK K) | refine X.seq rfl ?_ | refine X.region rfl (fun K hK => ?_) | refine X.skip rfl ?_ | refine X.ret rfl ?_ | (refine X.ite rfl rfl (fun hc => ?_); (first | (with_reducible refine Xb.caseN hc (fun h => ?_) (fun h => ?_))) <;> clear hc))
  · exact ret_two (by first | exact .inr rfl | exact .inl rfl) Try.results29 rfl rfl (H' := H) (by (repeat (first | exact List.Sublist.refl _ | apply List.Sublist.cons)); done) (.inl ⟨fun q => h q.1, rfl, rfl⟩)
  · refine ret_two (by first | exact .inr rfl | exact .inl rfl) Try.results29 rfl rfl (H' := H) (by (repeat (first | exact List.Sublist.refl _ | apply List.Sublist.cons)); done) (.inl ⟨fun q => h ?_, rfl, rfl⟩)
    have := q.2
    unfold leftDr at this
    omega
  · refine ret_two (by first | exact .inr rfl | exact .inl rfl) Try.results29 rfl rfl (H' := ⟨bc, 0, (leftDr ms l).flatMap cDr, some 29, kc * 4⟩ :: H) (by (repeat (first | exact List.Sublist.refl _ | apply List.Sublist.cons_cons | apply List.Sublist.cons)); done) (.inr ⟨⟨by assumption, ?_⟩, bc, kc, rfl, rfl⟩)
    unfold leftDr
    omega
def leftWg (ms : List Wg) (l : List Int) : List Wg := ms.filter (fun m => !decide (m.number ∈ l))
def strOkW (ms : List Wg) (l : List Int) : Prop := risesOk l ∧ (leftWg ms l).length + l.length = ms.length
set_option maxHeartbeats 4000000 in
theorem strikeL_specW (ms : List Wg) (ad : Addr) (c : Nat) (l : List Int) (al : Option Addr) (cl : Nat) (H : List Row) (hm : SlE H (some ad) cDr 4 ms) (hb : ms.length ≤ 1000000) (hl : SlE H al cI 1 l) (hb' : l.length ≤ 1000000) :
    Fc Try.prog 30 [.slice (some ad) ms.length c, .slice al l.length cl, .func (.func 28) #[] #[]] H (fun v H' => (¬ strOkW ms l ∧ v = .tuple #[.slice none 0 0, .bool false] ∧ H' = H) ∨
      (strOkW ms l ∧ ∃ b k, v = .tuple #[.slice (some ⟨b, 0, none⟩) (leftWg ms l).length k, .bool true] ∧ H' = ⟨b, 0, (leftWg ms l).flatMap cDr, some 31, k * 4⟩ :: H)) := by
  have hl2 : ∀ r1 r2, SlE (r1 :: r2 :: H) al cI 1 l := fun r1 r2 => hl.sub (fun _ h => List.Mem.tail _ (List.Mem.tail _ h))
  have hm2 : ∀ r1 r2, SlE (r1 :: r2 :: H) (some ad) cDr 4 ms := fun r1 r2 => hm.sub (fun _ h => List.Mem.tail _ (List.Mem.tail _ h))
  have hlf : (ms.filter (fun m => !decide (m.number ∈ l))).length ≤ ms.length := List.length_filter_le _ _
  refine Fc.mk (callable Try.call30) Try.func30 rfl Try.ntmps30 rfl ?_; dsimp only [fr]
  refine X.seq rfl ?_; refine X.region rfl (fun K hK => ?_); repeat' (first | (refine XO.op rfl ?_; (first | ((first | refine Xo.ng rfl ?_); (first | (refine Xg.ev (EvF.assign rfl rfl) rfl rfl ?_) | (refine Xg.st (StF.boxOne rfl rfl rfl) rfl rfl ?_; rintro _ _ ⟨bx, rfl, rfl⟩))))) | (refine XO.done rfl ?_; refine hK _ _ ?_; clear hK K))
  rename_i b4
  rename Nat => b5
  repeat' (first | (refine XO.op rfl ?_; (first | ((first | refine Xo.ng rfl ?_); (first | (refine Xg.call (EnF.st rfl (by (repeat (first | exact Args.nil | refine Args.cons rfl ?_)); done)) rfl rfl (rising_spec l _ _ _ (hl2 _ _) (by omega)) ?_; rintro _ H9 ⟨rfl, hH9⟩; subst H9) | (refine Xg.call (EnF.st rfl (by (repeat (first | exact Args.nil | refine Args.cons rfl ?_)); done)) rfl rfl (clone_specWg ms _ _ _ (hm2 _ _) hb) ?_; rintro _ _ ⟨bc, kc, rfl, rfl⟩) | (refine Xg.ev (EvF.makeFunc (fl := []) rfl Args.nil (Args.cons rfl (Args.cons rfl Args.nil))) rfl rfl ?_) | (refine Xg.call (EnF.st rfl (by (repeat (first | exact Args.nil | refine Args.cons rfl ?_)); done)) rfl rfl (deleteFunc_specWg ms _ _ 63 (fun m => decide (m.number ∈ l)) _ _ hb (fun Z e _ => strike1_specWg e l al b4 b5 cl _ _ _ _ _ (List.mem_append_right _ (List.Mem.head _)) (List.mem_append_right _ (List.Mem.tail _ (List.Mem.head _))) (hl.sub (fun _ h => List.mem_append_right _ (List.Mem.tail _ (List.Mem.tail _ h)))) (by omega))) ?_; rintro _ H9 ⟨rfl, hH9⟩; subst H9) | (refine Xg.ev (EvF.move rfl rfl) rfl rfl ?_) | (refine Xg.ev (EvF.assign rfl rfl) rfl rfl ?_) | (refine Xg.ev (EvF.cmp rfl rfl rfl rfl) rfl rfl ?_) | (refine Xg.ev (EvF.add64 rfl rfl rfl (by omega) (by omega)) rfl rfl ?_) | (refine Xg.ev (EvF.not rfl rfl) rfl rfl ?_) | (refine Xg.ev (EvF.lenSlice rfl rfl (te rfl)) rfl rfl ?_) | (refine Xg.ev (EvF.loadV rfl rfl (LoadV.own (te rfl) rfl (List.Mem.tail _ (List.Mem.head _)) rfl)) rfl rfl ?_) | (refine Xg.ev (EvF.loadV rfl rfl (LoadV.own (te rfl) rfl (List.Mem.tail _ (List.Mem.tail _ (List.Mem.head _))) rfl)) rfl rfl ?_))))) | (refine XO.done rfl ?_; refine hK _ _ ?_; clear hK K) | refine X.seq rfl ?_ | refine X.region rfl (fun K hK => ?_) | refine X.skip rfl ?_ | refine X.ret rfl ?_ | (refine X.ite rfl rfl (fun hc => ?_); (first | (with_reducible refine Xb.caseN hc (fun h => ?_) (fun h => ?_))) <;> clear hc))
  · exact ret_two (by first | exact .inr rfl | exact .inl rfl) Try.results30 rfl rfl (H' := H) (by (repeat (first | exact List.Sublist.refl _ | apply List.Sublist.cons)); done) (.inl ⟨fun q => h q.1, rfl, rfl⟩)
  · refine ret_two (by first | exact .inr rfl | exact .inl rfl) Try.results30 rfl rfl (H' := H) (by (repeat (first | exact List.Sublist.refl _ | apply List.Sublist.cons)); done) (.inl ⟨fun q => h ?_, rfl, rfl⟩)
    have := q.2
    unfold leftWg at this
    omega
  · refine ret_two (by first | exact .inr rfl | exact .inl rfl) Try.results30 rfl rfl (H' := ⟨bc, 0, (leftWg ms l).flatMap cDr, some 31, kc * 4⟩ :: H) (by (repeat (first | exact List.Sublist.refl _ | apply List.Sublist.cons_cons | apply List.Sublist.cons)); done) (.inr ⟨⟨by assumption, ?_⟩, bc, kc, rfl, rfl⟩)
    unfold leftWg
    omega
end Go.Proofs.Ytoflnjgfikchjaa
end
section
set_option linter.unusedVariables false
set_option linter.unusedSimpArgs false
namespace Go.Proofs.Ytoflnjgfikchjaa
open Go Go.Fw
set_option maxRecDepth 10000
theorem ownSlB {α : Type} {enc : α → List Value} {sz b cap : Nat} {l : List α} {ow : Option Kd} {H : List Row} (hl : ∀ e, (enc e).length = sz) (hm : ⟨b, 0, l.flatMap enc, ow, cap⟩ ∈ H) : SlE H (some ⟨b, 0, none⟩) enc sz l := SlE.ofRow hm (fun e _ => hl e)
def rDraws (B : Bl) (t k : Nat) : Row := ⟨t, 0, B.draws.flatMap cDr, some 29, k * 4⟩
def rWeighs (B : Bl) (t k : Nat) : Row := ⟨t, 0, B.weighs.flatMap cDr, some 31, k * 4⟩
def plB (t1 k1 t2 k2 : Nat) : Pb := ⟨some ⟨t1, 0, none⟩, k1, some ⟨t2, 0, none⟩, k2⟩
/-- a bale whose lists lie in memory of one's own, and nothing else there -/
def OwnBl (Z : List Row) (B : Bl) (p : Pb) : Prop :=
  (B = Bz ∧ p = pzb ∧ Z = []) ∨ ∃ t1 k1 t2 k2, p = plB t1 k1 t2 k2 ∧ Z.Perm [rDraws B t1 k1, rWeighs B t2 k2]
def tupB (B : Bl) (p : Pb) (e : Int) : Value := .tuple #[.agg (cBl B p).toArray, .int .i64 e]
def putBl (B : Bl) (x : Dr) : Bl := { B with draws := insDr x B.draws }
def wedBl (B : Bl) (x : Wg) : Bl := { B with weighs := insWg x B.weighs }
def strBl (B : Bl) (l m : List Int) : Bl := { B with draws := leftDr B.draws l, weighs := leftWg B.weighs m }
open Classical in
noncomputable def bputF (B : Bl) (x : Dr) : Bl × Int := if baleOk B then (if 10 ≤ B.draws.length then (Bz, 9) else if baleOk (putBl B x) then (putBl B x, 0) else (Bz, 33)) else (Bz, 30)
open Classical in
noncomputable def bwedF (B : Bl) (x : Wg) : Bl × Int := if baleOk B then (if 8 ≤ B.weighs.length then (Bz, 9) else if baleOk (wedBl B x) then (wedBl B x, 0) else (Bz, 34)) else (Bz, 30)
open Classical in
noncomputable def bstrF (B : Bl) (l m : List Int) : Bl × Int := if baleOk B then (if strOkD B.draws l then (if strOkW B.weighs m then (strBl B l m, 0) else (Bz, 34)) else (Bz, 33)) else (Bz, 30)
def ProgB (F : Bl × Int) (H : List Row) (v : Value) (H' : List Row) : Prop := ∃ p Z, v = tupB F.1 p F.2 ∧ H' = Z ++ H ∧ OwnBl Z F.1 p
theorem kcheck2_spec (B : Bl) (p : Pb) (H : List Row) (hB : BlOk H B p) : Fc Try.prog 17 [.agg (cBl B p).toArray] H (fun v H' => ((baleOk B ∧ v = .int .i64 0) ∨ (¬ baleOk B ∧ v = .int .i64 30)) ∧ H' = H) := by
  refine (kcheck_spec B p H hB).mono ?_
  rintro v H' ⟨rfl, rfl⟩
  by_cases h : baleOk B
  · exact ⟨.inl ⟨h, by rw [if_pos h]⟩, rfl⟩
  · exact ⟨.inr ⟨h, by rw [if_neg h]⟩, rfl⟩
set_option maxHeartbeats 4000000 in
theorem strB_spec (B : Bl) (l m : List Int) (al am : Option Addr) (cl cm : Nat) (d1 : Addr) (c1 : Nat) (d2 : Addr) (c2 : Nat) (H : List Row)
    (hB : BlOk H B ⟨some d1, c1, some d2, c2⟩) (hl : SlE H al cI 1 l) (hb : l.length ≤ 1000000) (hm : SlE H am cI 1 m) (hc : m.length ≤ 1000000) :
    Fc Try.prog 13 [.agg (cBl B ⟨some d1, c1, some d2, c2⟩).toArray, .slice al l.length cl, .slice am m.length cm] H (ProgB (bstrF B l m) H) := by
  have hB2 : ∀ r1 r2, BlOk (r1 :: r2 :: H) B ⟨some d1, c1, some d2, c2⟩ := fun r1 r2 => hB.sub (fun _ h => List.Mem.tail _ (List.Mem.tail _ h))
  have hB3 : ∀ r1 r2 r3, BlOk (r1 :: r2 :: r3 :: H) B ⟨some d1, c1, some d2, c2⟩ := fun r1 r2 r3 => hB.sub (fun _ h => List.Mem.tail _ (List.Mem.tail _ (List.Mem.tail _ h)))
  have hl2 : ∀ r1 r2, SlE (r1 :: r2 :: H) al cI 1 l := fun r1 r2 => hl.sub (fun _ h => List.Mem.tail _ (List.Mem.tail _ h))
  have hm3 : ∀ r1 r2 r3, SlE (r1 :: r2 :: r3 :: H) am cI 1 m := fun r1 r2 r3 => hm.sub (fun _ h => List.Mem.tail _ (List.Mem.tail _ (List.Mem.tail _ h)))
  have l1 := hB.l1
  have l2 := hB.l2
  refine Fc.mk (callable Try.call13) Try.func13 rfl Try.ntmps13 rfl ?_; dsimp only [fr]
  repeat' (first | (refine XO.op rfl ?_; (first | ((first | refine Xo.ng rfl ?_); (first | (refine Xg.ev (EvF.build (cs := cZb) rfl ArgsP.nil (te rfl) (Places.cons (te rfl) (Places.cons (te rfl) (Places.cons (te rfl) (Places.cons (te rfl) (Places.cons (te rfl) Places.nil))))) Try.zeroValue27 rfl) rfl rfl ?_) | (refine Xg.call (EnF.st rfl (by (repeat (first | exact Args.nil | refine Args.cons rfl ?_)); done)) rfl rfl (kcheck2_spec B _ _ (hB2 _ _)) ?_; rintro _ H9 ⟨⟨hr, rfl⟩ | ⟨hr, rfl⟩, hH9⟩ <;> subst H9) | (refine Xg.call (EnF.st rfl (by (repeat (first | exact Args.nil | refine Args.cons rfl ?_)); done)) rfl rfl (strikeL_specD B.draws d1 c1 l al cl _ (hB2 _ _).draws l1 (hl2 _ _) hb) ?_; rintro _ H9 (⟨hs, rfl, hH9⟩ | ⟨hs, bd, kd, rfl, hH9⟩) <;> subst H9) | (refine Xg.call (EnF.st rfl (by (repeat (first | exact Args.nil | refine Args.cons rfl ?_)); done)) rfl rfl (strikeL_specW B.weighs d2 c2 m am cm _ (hB3 _ _ _).weighs l2 (hm3 _ _ _) hc) ?_; rintro _ H9 (⟨hw, rfl, hH9⟩ | ⟨hw, bw, kw, rfl, hH9⟩) <;> subst H9) | (refine Xg.st0 (StF.storeAll (i := 1) rfl rfl rfl (te rfl) rfl rfl rfl rfl) rfl ?_; rintro _ _ ⟨rfl, rfl⟩; dsimp only [List.set]) | (refine Xg.ev (EvF.move rfl rfl) rfl rfl ?_) | (refine Xg.ev (EvF.assign rfl rfl) rfl rfl ?_) | (refine Xg.ev (EvF.cmp rfl rfl rfl rfl) rfl rfl ?_) | (refine Xg.ev (EvF.not rfl rfl) rfl rfl ?_) | (refine Xg.ev (EvF.fieldAddr rfl rfl (te rfl) rfl (te rfl) (by decide)) rfl rfl ?_) | (refine Xg.ev (EvF.loadV rfl rfl (LoadV.own (te rfl) rfl (List.Mem.tail _ (List.Mem.head _)) rfl)) rfl rfl ?_) | (refine Xg.ev (EvF.loadV rfl rfl (LoadV.own (te rfl) rfl (List.Mem.tail _ (List.Mem.tail _ (List.Mem.head _))) rfl)) rfl rfl ?_) | (refine Xg.ev (EvF.loadV rfl rfl (LoadV.whole (te rfl) rfl (List.Mem.tail _ (List.Mem.head _)) rfl)) rfl rfl ?_) | (refine Xg.ev (EvF.loadV rfl rfl (LoadV.whole (te rfl) rfl (List.Mem.tail _ (List.Mem.tail _ (List.Mem.head _))) rfl)) rfl rfl ?_) | (refine Xg.ev (EvF.loadV rfl rfl (LoadV.whole (te rfl) rfl (List.Mem.tail _ (List.Mem.tail _ (List.Mem.tail _ (List.Mem.head _)))) rfl)) rfl rfl ?_) | (refine Xg.ev (EvF.extract rfl rfl rfl) rfl rfl ?_) | (refine Xg.st (StF.boxAgg rfl rfl) rfl rfl ?_; rintro _ _ ⟨bx, rfl, rfl⟩) | (refine Xg.st (StF.alloc rfl Try.zeroValue27 rfl) rfl rfl ?_; rintro _ _ ⟨bx, rfl, rfl⟩) | (refine Xg.st0 (StF.storeAll (i := 0) rfl rfl rfl (te rfl) rfl rfl rfl rfl) rfl ?_; rintro _ _ ⟨rfl, rfl⟩; dsimp only [List.set]) | (refine Xg.st0 (StF.storeOne (i := 1) rfl rfl rfl rfl (te rfl) rfl rfl (Nat.le_of_ble_eq_true rfl)) rfl ?_; rintro _ _ ⟨rfl, rfl⟩; dsimp only [List.set]) | (refine Xg.st0 (StF.storeOne (i := 2) rfl rfl rfl rfl (te rfl) rfl rfl (Nat.le_of_ble_eq_true rfl)) rfl ?_; rintro _ _ ⟨rfl, rfl⟩; dsimp only [List.set]) | (refine Xg.st0 (StF.storeAll (i := 2) rfl rfl rfl (te rfl) rfl rfl rfl rfl) rfl ?_; rintro _ _ ⟨rfl, rfl⟩; dsimp only [List.set]) | (refine Xg.st0 (StF.storeOne (i := 3) rfl rfl rfl rfl (te rfl) rfl rfl (Nat.le_of_ble_eq_true rfl)) rfl ?_; rintro _ _ ⟨rfl, rfl⟩; dsimp only [List.set]))))) | (refine XO.done rfl ?_; refine hK _ _ ?_; clear hK K) | refine X.seq rfl ?_ | refine X.region rfl (fun K hK => ?_) | refine X.skip rfl ?_ | refine X.ret rfl ?_ | (refine X.ite rfl rfl (fun hc => ?_); (first | (with_reducible refine Xb.caseN hc (fun h => ?_) (fun h => ?_)) | (with_reducible refine Xb.caseB hc (fun h => ?_) (fun h => ?_))) <;> clear hc))
  all_goals try (exfalso; first | omega | contradiction)
  · refine ret_two (by first | exact .inr rfl | exact .inl rfl) Try.results13 ⟨_, rfl, LoadV.whole (te rfl) rfl (List.Mem.head _) rfl⟩ rfl (H' := H) (by (repeat (first | exact List.Sublist.refl _ | apply List.Sublist.cons)); done) ?_
    have e : bstrF B l m = (Bz, 33) := by unfold bstrF; rw [if_pos hr, if_neg hs]
    unfold ProgB; rw [e]
    exact ⟨pzb, [], rfl, rfl, .inl ⟨rfl, rfl, rfl⟩⟩
  · refine ret_two (by first | exact .inr rfl | exact .inl rfl) Try.results13 ⟨_, rfl, LoadV.whole (te rfl) rfl (List.Mem.tail _ (List.Mem.head _)) rfl⟩ rfl (H' := H) (by (repeat (first | exact List.Sublist.refl _ | apply List.Sublist.cons)); done) ?_
    have e : bstrF B l m = (Bz, 34) := by unfold bstrF; rw [if_pos hr, if_pos hs, if_neg hw]
    unfold ProgB; rw [e]
    exact ⟨pzb, [], rfl, rfl, .inl ⟨rfl, rfl, rfl⟩⟩
  · refine ret_two (by first | exact .inr rfl | exact .inl rfl) Try.results13 ⟨_, rfl, LoadV.whole (te rfl) rfl (List.Mem.tail _ (List.Mem.tail _ (List.Mem.head _))) rfl⟩ rfl (H' := [rWeighs (strBl B l m) bw kw, rDraws (strBl B l m) bd kd] ++ H) (by (repeat (first | exact List.Sublist.refl _ | apply List.Sublist.cons_cons | apply List.Sublist.cons)); done) ?_
    have e : bstrF B l m = (strBl B l m, 0) := by unfold bstrF; rw [if_pos hr, if_pos hs, if_pos hw]
    unfold ProgB; rw [e]
    exact ⟨_, _, rfl, rfl, .inr ⟨bd, kd, bw, kw, rfl, List.Perm.swap _ _ _⟩⟩
  · refine ret_two (by first | exact .inr rfl | exact .inl rfl) Try.results13 ⟨_, rfl, LoadV.whole (te rfl) rfl (List.Mem.head _) rfl⟩ rfl (H' := H) (by (repeat (first | exact List.Sublist.refl _ | apply List.Sublist.cons)); done) ?_
    have e : bstrF B l m = (Bz, 30) := by unfold bstrF; rw [if_neg hr]
    unfold ProgB; rw [e]
    exact ⟨pzb, [], rfl, rfl, .inl ⟨rfl, rfl, rfl⟩⟩
end Go.Proofs.Ytoflnjgfikchjaa
end
