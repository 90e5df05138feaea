/- The reference: within and Index do what they say. -/
import Derived.Test.YtmljpmcipcoaaaaTe
set_option linter.unusedSimpArgs false
namespace Go.Proofs.Ytmljpmcipcoaaaa
open Go Go.Fw
set_option maxRecDepth 10000
structure Sp where
  lo : Int
  hi : Int
structure Bx where
  id : Int
  made : Int
structure Mt where
  number : Int
  month : Int
  a : Int
  b : Int
  lo : Int
  hi : Int
structure Rm where
  months : Int
  step : Int
  ages : List Sp
  boxes : List Bx
  mats : List Mt
def cSp (s : Sp) : List Value := [.int .i64 s.lo, .int .i64 s.hi]
def cBx (s : Bx) : List Value := [.int .i64 s.id, .int .i64 s.made]
def cMt (s : Mt) : List Value := [.int .i64 s.number, .int .i64 s.month, .int .i64 s.a, .int .i64 s.b, .int .i64 s.lo, .int .i64 s.hi]
/-- where a room's lists lie -/
structure Pl where
  a1 : Option Addr
  c1 : Nat
  a2 : Option Addr
  c2 : Nat
  a3 : Option Addr
  c3 : Nat
def cRm (R : Rm) (p : Pl) : List Value := [.int .i64 R.months, .int .i64 R.step, .slice p.a1 R.ages.length p.c1, .slice p.a2 R.boxes.length p.c2, .slice p.a3 R.mats.length p.c3]
structure RmOk (H : List Row) (R : Rm) (p : Pl) : Prop where
  ages : SlE H p.a1 cSp 2 R.ages
  boxes : SlE H p.a2 cBx 2 R.boxes
  mats : SlE H p.a3 cMt 6 R.mats
  l1 : R.ages.length ≤ 9223372036854775807
  l2 : R.boxes.length ≤ 9223372036854775807
  l3 : R.mats.length ≤ 9223372036854775807
theorem RmOk.sub {H H' : List Row} {R : Rm} {p : Pl} (h : RmOk H R p) (hs : ∀ r ∈ H, r ∈ H') : RmOk H' R p := ⟨h.ages.sub hs, h.boxes.sub hs, h.mats.sub hs, h.l1, h.l2, h.l3⟩

theorem within_spec (n lo hi : Int) (H : List Row) : Fc Try.prog 111 [.int .i64 n, .int .i64 lo, .int .i64 hi] H (fun v H' => v = .bool (decide (lo ≤ n ∧ n ≤ hi)) ∧ H' = H) := by
  refine Fc.mk (callable Try.call111) Try.func111 rfl Try.ntmps111 rfl ?_; dsimp only [fr]
  repeat' (first | (refine XO.op rfl ?_; (first | ((first | refine Xo.ng rfl ?_ | (refine Xo.g rfl rfl ?_; with_reducible refine Xw.tt ?_)); (first | (refine Xg.ev (EvF.move rfl rfl) rfl rfl ?_) | (refine Xg.ev (EvF.assign rfl rfl) rfl rfl ?_) | (refine Xg.ev (EvF.pickT rfl rfl rfl) rfl rfl ?_) | (refine Xg.ev (EvF.pickF rfl rfl rfl) rfl rfl ?_) | (refine Xg.ev (EvF.cmp rfl rfl rfl rfl) rfl rfl ?_) | (refine Xg.ev (EvF.fieldAddr rfl rfl (te rfl) rfl (te rfl) (by decide)) rfl rfl ?_) | (refine Xg.ev (EvF.lenSlice rfl rfl (te rfl)) rfl rfl ?_) | (refine Xg.ev (EvF.loadV rfl rfl (LoadV.own (te rfl) rfl (List.Mem.head _) rfl)) rfl rfl ?_) | (refine Xg.st (StF.boxAgg rfl rfl) rfl rfl ?_; rintro _ _ ⟨bx, rfl, rfl⟩))) | (refine Xo.g rfl rfl ?_; (first | (with_reducible refine Xw.ft rfl rfl ?_) | (with_reducible refine Xw.case (fun h => ?_) (fun h => ?_) <;> simp only [h, decide_true, decide_false, Bool.not_true, Bool.not_false, and_self, and_true, true_and, and_false, false_and]))))) | (refine XO.done rfl ?_; refine hK _ _ ?_; clear hK K) | refine X.seq rfl ?_ | refine X.region rfl (fun K hK => ?_) | refine X.block rfl ?_ | (refine X.brk rfl ?_; first | refine blockX_hit rfl ?_ | skip) | refine X.skip rfl ?_ | refine X.ret rfl ?_ | (refine X.ite rfl rfl (fun hc => ?_); (first | (with_reducible refine Xb.case hc (fun h => ?_) (fun h => ?_))) <;> clear hc))
  all_goals (refine ret_one (by first | exact .inr rfl | exact .inl rfl) Try.results111 rfl (H' := H) (by (repeat (first | exact List.Sublist.refl _ | apply List.Sublist.cons)); done) ?_; simp only [and_true, true_and])
  all_goals simp [*]

def index : List Bx → Int → Int
  | [], _ => -1
  | b :: l, id => if b.id = id then 0 else (if index l id < 0 then -1 else index l id + 1)
theorem index_none : ∀ (l : List Bx) (id : Int), (∀ e ∈ l, e.id ≠ id) → index l id = -1
  | [], _, _ => rfl
  | b :: l, id, h => by
    have := index_none l id (fun e he => h e (List.mem_cons_of_mem _ he))
    simp [index, h b (List.mem_cons_self ..), this]
theorem index_some : ∀ (l : List Bx) (id : Int) (k : Nat) (e : Bx), l[k]? = some e → e.id = id → (∀ i e, i < k → l[i]? = some e → e.id ≠ id) → index l id = k
  | [], _, _, _, h, _, _ => by simp at h
  | b :: l, id, 0, e, h, he, _ => by simp at h; subst h; simp [index, he]
  | b :: l, id, k + 1, e, h, he, hk => by
    have h1 := index_some l id k e (by simpa using h) he (fun i e hi h => hk (i + 1) e (by omega) (by simpa using h))
    have h2 := hk 0 b (by omega) (by simp)
    simp [index, h2, h1]
    omega

theorem index_spec (R : Rm) (p : Pl) (id : Int) (H : List Row) (hR : RmOk H R p) : Fc Try.prog 63 [.agg (cRm R p).toArray, .int .i64 id] H (fun v H' => v = .int .i64 (index R.boxes id) ∧ H' = H) := by
  have h2 := hR.l2
  obtain ⟨a1, c1, a2, c2, a3, c3⟩ := p
  refine Fc.mk (callable Try.call63) Try.func63 rfl Try.ntmps63 rfl ?_; dsimp only [fr]
  repeat' (first | (refine XO.op rfl ?_; (first | ((first | refine Xo.ng rfl ?_ | (refine Xo.g rfl rfl ?_; with_reducible refine Xw.tt ?_)); (first | (refine Xg.ev (EvF.move rfl rfl) rfl rfl ?_) | (refine Xg.ev (EvF.assign rfl rfl) rfl rfl ?_) | (refine Xg.ev (EvF.pickT rfl rfl rfl) rfl rfl ?_) | (refine Xg.ev (EvF.pickF rfl rfl rfl) rfl rfl ?_) | (refine Xg.ev (EvF.cmp rfl rfl rfl rfl) rfl rfl ?_) | (refine Xg.ev (EvF.fieldAddr rfl rfl (te rfl) rfl (te rfl) (by decide)) rfl rfl ?_) | (refine Xg.ev (EvF.lenSlice rfl rfl (te rfl)) rfl rfl ?_) | (refine Xg.ev (EvF.loadV rfl rfl (LoadV.own (te rfl) rfl (List.Mem.head _) rfl)) rfl rfl ?_) | (refine Xg.st (StF.boxAgg rfl rfl) rfl rfl ?_; rintro _ _ ⟨bx, rfl, rfl⟩))) | (refine Xo.g rfl rfl ?_; (first | (with_reducible refine Xw.ft rfl rfl ?_) | (with_reducible refine Xw.case (fun h => ?_) (fun h => ?_) <;> simp only [h, decide_true, decide_false, Bool.not_true, Bool.not_false, and_self, and_true, true_and, and_false, false_and]))))) | (refine XO.done rfl ?_; refine hK _ _ ?_; clear hK K) | refine X.seq rfl ?_ | refine X.region rfl (fun K hK => ?_) | refine X.block rfl ?_ | (refine X.brk rfl ?_; first | refine blockX_hit rfl ?_ | skip) | refine X.skip rfl ?_ | refine X.ret rfl ?_ | (refine X.ite rfl rfl (fun hc => ?_); (first | (with_reducible refine Xb.case hc (fun h => ?_) (fun h => ?_))) <;> clear hc))
  refine X.lp rfl (fun m F' H' => ∃ k : Nat, m = R.boxes.length - k ∧ k ≤ R.boxes.length ∧ (∀ i e, i < k → R.boxes[i]? = some e → e.id ≠ id) ∧ H' = ⟨bx, 0, cRm R ⟨a1, c1, a2, c2, a3, c3⟩, some 26, 5⟩ :: H ∧ F' = [(1, .int .i64 id), (2, .pointer (some ⟨bx, 0, none⟩)), (5, .int .i64 k)])
    R.boxes.length [(1, .int .i64 id), (2, .pointer (some ⟨bx, 0, none⟩)), (5, .int .i64 (0 : Nat))] _ (by (repeat (first | exact Sub.nil _ | refine Sub.cons rfl ?_)); done) (List.Sublist.refl _) ⟨0, by omega, by omega, fun i e hi => by omega, rfl, rfl⟩ ?_
  rintro _ _ _ ⟨k, rfl, hk, hn, rfl, rfl⟩
  repeat' (first | (refine XO.op rfl ?_; (first | ((first | refine Xo.ng rfl ?_ | (refine Xo.g rfl rfl ?_; with_reducible refine Xw.tt ?_)); (first | (refine Xg.ev (EvF.move rfl rfl) rfl rfl ?_) | (refine Xg.ev (EvF.assign rfl rfl) rfl rfl ?_) | (refine Xg.ev (EvF.pickT rfl rfl rfl) rfl rfl ?_) | (refine Xg.ev (EvF.pickF rfl rfl rfl) rfl rfl ?_) | (refine Xg.ev (EvF.cmp rfl rfl rfl rfl) rfl rfl ?_) | (refine Xg.ev (EvF.fieldAddr rfl rfl (te rfl) rfl (te rfl) (by decide)) rfl rfl ?_) | (refine Xg.ev (EvF.lenSlice rfl rfl (te rfl)) rfl rfl ?_) | (refine Xg.ev (EvF.loadV rfl rfl (LoadV.own (te rfl) rfl (List.Mem.head _) rfl)) rfl rfl ?_) | (refine Xg.st (StF.boxAgg rfl rfl) rfl rfl ?_; rintro _ _ ⟨bx, rfl, rfl⟩))) | (refine Xo.g rfl rfl ?_; (first | (with_reducible refine Xw.ft rfl rfl ?_) | (with_reducible refine Xw.case (fun h => ?_) (fun h => ?_) <;> simp only [h, decide_true, decide_false, Bool.not_true, Bool.not_false, and_self, and_true, true_and, and_false, false_and]))))) | (refine XO.done rfl ?_; refine hK _ _ ?_; clear hK K) | refine X.seq rfl ?_ | refine X.region rfl (fun K hK => ?_) | refine X.block rfl ?_ | (refine X.brk rfl ?_; first | refine blockX_hit rfl ?_ | skip) | refine X.skip rfl ?_ | refine X.ret rfl ?_ | (refine X.ite rfl rfl (fun hc => ?_); (first | (with_reducible refine Xb.case hc (fun h => ?_) (fun h => ?_))) <;> clear hc))
  · obtain ⟨b, off, e, rfl, he⟩ := hR.boxes.elem (i := k) (by omega)
    have hb : ∀ r, SlE (r :: H) _ cBx 2 R.boxes := fun r => hR.boxes.sub (fun _ h => List.mem_cons_of_mem _ h)
    repeat' (first | (refine XO.op rfl ?_; (first | ((first | refine Xo.ng rfl ?_); (first | (refine Xg.ev (EvF.loadV rfl rfl (LoadV.el1 (hb _) he (te rfl) rfl (fun _ hm => hm) rfl)) rfl rfl ?_) | (refine Xg.ev (EvF.move rfl rfl) rfl rfl ?_) | (refine Xg.ev (EvF.assign rfl rfl) rfl rfl ?_) | (refine Xg.ev (EvF.cmp rfl rfl rfl rfl) rfl rfl ?_) | (refine Xg.ev (EvF.add64 rfl rfl rfl (by omega) (by omega)) rfl rfl ?_) | (refine Xg.ev (EvF.fieldAddr rfl rfl (te rfl) rfl (te rfl) (by decide)) rfl rfl ?_) | (refine Xg.ev (EvF.indexSlice rfl rfl rfl (te rfl) (te rfl) (by omega) (by omega)) rfl rfl ?_))))) | (refine XO.done rfl ?_; refine hK _ _ ?_; clear hK K) | refine X.seq rfl ?_ | refine X.region rfl (fun K hK => ?_) | refine X.skip rfl ?_ | refine X.ret rfl ?_ | (refine X.ite rfl rfl (fun hc => ?_); (first | (with_reducible refine Xb.case hc (fun h => ?_) (fun h => ?_))) <;> clear hc))
    · refine ret_one (by first | exact .inr rfl | exact .inl rfl) Try.results63 rfl (H' := H) (by (repeat (first | exact List.Sublist.refl _ | apply List.Sublist.cons)); done) ?_; simp only [and_true, true_and]
      rw [index_some R.boxes id k e he h hn]
    · refine ⟨_, [(1, .int .i64 id), (2, .pointer (some ⟨bx, 0, none⟩)), (5, .int .i64 (k + 1 : Nat))], _, (by (repeat (first | exact Sub.nil _ | refine Sub.cons rfl ?_)); done), List.Sublist.refl _, ⟨k + 1, rfl, by omega, fun i e' hi he' => ?_, rfl, rfl⟩, by omega⟩
      rcases Nat.lt_or_ge i k with h1 | h1
      · exact hn i e' h1 he'
      · obtain rfl : i = k := by omega
        rw [he] at he'; cases he'; assumption
  · refine ret_one (by first | exact .inr rfl | exact .inl rfl) Try.results63 rfl (H' := H) (by (repeat (first | exact List.Sublist.refl _ | apply List.Sublist.cons)); done) ?_; simp only [and_true, true_and]
    rw [index_none]
    intro e he
    obtain ⟨i, hi, rfl⟩ := List.mem_iff_getElem.1 he
    exact hn i _ (by omega) (List.getElem?_eq_getElem hi)
end Go.Proofs.Ytmljpmcipcoaaaa
