/- Own work: contracts of functions, from rows of what is known of the memory; contracts of functions, from rows of what is known of the memory; Own work: slices of slices, rows in another order. No condition.; contracts of functions, from rows of what is known of the memory; contracts of functions, from rows of what is known of the memory; contracts of functions, from rows of what is known of the memory; contracts of functions, from rows of what is known of the memory; contracts of functions, from rows of what is known of the memory; contracts of functions, from rows of what is known of the memory; contracts of functions, from rows of what is known of the memory; contracts of functions, from rows of what is known of the memory; contracts of functions, from rows of what is known of the memory; contract -/
import Derived.Test.YtbpcbdbclijomaaGreatW01
set_option linter.unusedVariables false
set_option linter.unusedSimpArgs false
namespace Go.Proofs.YtbpcbdbclijomaaGreat
open Go Go.Fw
set_option maxRecDepth 10000
theorem indexFunc_specI (l : List Int) (a : Option Addr) (c g : Nat) (p : Int → Bool) (cap : List Value) (H : List Row) (hl : SlE H a cI 1 l) (hb : l.length ≤ 9223372036854775807) (hf : ∀ e ∈ l,Fc Tryz.prog g ([.int .i64 e]++cap) H (fun v H' => v = .bool (p e)∧H' = H)) :
  Fc Tryz.prog 171 [.slice a l.length c,.func (.func g) #[] cap.toArray] H (fun v H' => (∃ z,v = .int .i64 z∧IdxR p l z)∧H' = H):=by
 refine Fc.mk (callable Tryz.call171) Tryz.func171 rfl Tryz.ntmps171 rfl ?_;dsimp only [fr]
 repeat' (first | (refine uP rfl ?_;(first | ((first | refine uN rfl ?_);(first | (refine uE (uM rfl rfl) rfl rfl ?_)|(refine uE (uA rfl rfl) rfl rfl ?_)|(refine uE (uQ rfl rfl rfl rfl) rfl rfl ?_)|(refine uE (uY rfl rfl (te rfl)) rfl rfl ?_)))))|(refine uD rfl ?_;refine hK _ _ ?_;clear hK K) | refine uS rfl ?_ | refine uR rfl (fun K hK=>?_) | refine X.block rfl ?_ | (refine X.brk rfl ?_;repeat (first | refine blockX_hit rfl ?_ | refine blockX_miss (by decide) ?_)) | refine X.skip rfl ?_ | refine X.ret rfl ?_ | (refine X.ite rfl rfl (fun hc=>?_);(first | (with_reducible refine Xb.case hc (fun h=>?_) (fun h=>?_))) <;> clear hc))
 refine X.lp rfl (fun q F' H' => ∃ k : Nat,q = l.length - k∧k ≤ l.length∧(∀ i e,i < k → l[i]? = some e → p e = false)∧H = H' ∧
   F' = [(0,.slice a l.length c),(1,.func (.func g) #[] cap.toArray),(7,.int .i64 l.length),(8,.int .i64 k)])
  l.length [(0,.slice a l.length c),(1,.func (.func g) #[] cap.toArray),(7,.int .i64 l.length),(8,.int .i64 (0 : Nat))] _ (by repeat (first | exact uU _ | refine uV rfl ?_)) (by repeat (first | exact qR _ | apply qK | apply qC)) ⟨0,by omega,by omega,(fun i e hi=>absurd hi (by omega)),rfl,rfl⟩ ?_
 rintro _ _ H2 ⟨k,rfl,hk,hn,hH,rfl⟩
 subst hH
 repeat' (first | (refine uP rfl ?_;(first | ((first | refine uN rfl ?_);(first | (refine uE (uM rfl rfl) rfl rfl ?_)|(refine uE (uA rfl rfl) rfl rfl ?_)|(refine uE (uQ rfl rfl rfl rfl) rfl rfl ?_)|(refine uE (uY rfl rfl (te rfl)) rfl rfl ?_)))))|(refine uD rfl ?_;refine hK _ _ ?_;clear hK K) | refine uS rfl ?_ | refine uR rfl (fun K hK=>?_) | refine X.block rfl ?_ | (refine X.brk rfl ?_;repeat (first | refine blockX_hit rfl ?_ | refine blockX_miss (by decide) ?_)) | refine X.skip rfl ?_ | refine X.ret rfl ?_ | (refine X.ite rfl rfl (fun hc=>?_);(first | (with_reducible refine Xb.case hc (fun h=>?_) (fun h=>?_))) <;> clear hc))
 ·obtain ⟨b,off,e,rfl,he⟩:=hl.elem (i:=k) (by omega)
  repeat' (first | (refine uP rfl ?_;(first | ((first | refine uN rfl ?_);(first | (refine uE (uL rfl rfl (LoadV.el0 hl he (te rfl) rfl (fun _ hm=>hm) rfl)) rfl rfl ?_)|(refine uC (EnF.dyn0 rfl rfl (by (repeat (first | exact Args.nil | refine Args.cons rfl ?_));done)) rfl rfl (hf e (List.mem_of_getElem? he)) ?_;rintro _ H9 ⟨rfl,hH9⟩;subst H9)|(refine uE (uM rfl rfl) rfl rfl ?_)|(refine uE (uA rfl rfl) rfl rfl ?_)|(refine uE (EvF.add64 rfl rfl rfl (by omega) (by omega)) rfl rfl ?_)|(refine uE (uJ rfl rfl rfl (te rfl) (te rfl) (by omega) (by omega)) rfl rfl ?_)))))|(refine uD rfl ?_;refine hK _ _ ?_;clear hK K) | refine uS rfl ?_ | refine uR rfl (fun K hK=>?_) | refine X.skip rfl ?_ | refine X.ret rfl ?_ | (refine X.ite rfl rfl (fun hc=>?_);(first | (with_reducible refine Xb.caseB hc (fun h=>?_) (fun h=>?_))) <;> clear hc))
  ·refine ret_one (by simp) Tryz.results171 rfl (H' := H) (by (repeat (first | exact qR _ | apply qC));done) ?_;simp only [and_true,true_and]
   exact ⟨_,rfl,.inr ⟨k,e,rfl,he,by assumption,hn⟩⟩
  ·refine ⟨_,_,_,(by repeat (first | exact uU _ | refine uV rfl ?_)),(by repeat (first | exact qR _ | apply qK | apply qC)),⟨k + 1,rfl,by omega,(fun i e' hi he' => ?_),rfl,rfl⟩,by omega⟩
   rcases Nat.lt_or_ge i k with h1 | h1
   ·exact hn i e' h1 he'
   ·obtain rfl : i = k:=by omega
    rw [he] at he';cases he';assumption
 ·refine ret_one (by simp) Tryz.results171 rfl (H' := H) (by (repeat (first | exact qR _ | apply qC));done) ?_;simp only [and_true,true_and]
  refine ⟨_,rfl,.inl ⟨rfl,fun e he=>?_⟩⟩
  obtain ⟨i,hi,rfl⟩:=List.mem_iff_getElem.1 he
  exact hn i _ (by omega) (List.getElem?_eq_getElem hi)
theorem containsFunc_specI (l : List Int) (a : Option Addr) (c g : Nat) (p : Int → Bool) (cap : List Value) (H : List Row) (hl : SlE H a cI 1 l) (hb : l.length ≤ 9223372036854775807) (hf : ∀ e ∈ l,Fc Tryz.prog g ([.int .i64 e]++cap) H (fun v H' => v = .bool (p e)∧H' = H)) :
  Fc Tryz.prog 167 [.slice a l.length c,.func (.func g) #[] cap.toArray] H (fun v H' => v = .bool (decide (∃ e ∈ l,p e = true))∧H' = H):=by
 refine Fc.mk (callable Tryz.call167) Tryz.func167 rfl Tryz.ntmps167 rfl ?_;dsimp only [fr]
 repeat' (first | (refine uP rfl ?_;(first | ((first | refine uN rfl ?_);(first | (refine uC (uT rfl (by (repeat (first | exact Args.nil | refine Args.cons rfl ?_));done)) rfl rfl (indexFunc_specI l a c g p cap H hl hb hf) ?_;rintro _ H9 ⟨⟨z,rfl,hz⟩,hH9⟩;subst H9)|(refine uE (uM rfl rfl) rfl rfl ?_)|(refine uE (uA rfl rfl) rfl rfl ?_)|(refine uE (uQ rfl rfl rfl rfl) rfl rfl ?_)))))|(refine uD rfl ?_;refine hK _ _ ?_;clear hK K) | refine uS rfl ?_ | refine uR rfl (fun K hK=>?_) | refine X.ret rfl ?_)
 refine ret_one (by simp) Tryz.results167 rfl (H' := H) (by (repeat (first | exact qR _ | apply qC));done) ?_;simp only [and_true,true_and]
 congr 1
 exact decide_eq_decide.2 hz.ge
theorem among1_spec (l : List Int) (a : Option Addr) (c : Nat) (n : Int) (b : Nat) (ow : Option Kd) (cap : Nat) (H : List Row) (hm : ⟨b,0,[.slice a l.length c],ow,cap⟩ ∈ H) (hl : SlE H a cI 1 l) (hb : l.length ≤ 9223372036854775807) :
  Fc Tryz.prog 168 ([.int .i64 n]++[.pointer (some ⟨b,0,none⟩)]) H (fun v H' => v = .bool (!decide (n ∈ l))∧H' = H):=by
 show Fc Tryz.prog 168 [.int .i64 n,.pointer (some ⟨b,0,none⟩)] H _
 refine Fc.mk (callable Tryz.call168) Tryz.func168 rfl Tryz.ntmps168 rfl ?_;dsimp only [fr]
 repeat' (first | (refine uP rfl ?_;(first | ((first | refine uN rfl ?_);(first | (refine uE (uL rfl rfl (uO (te rfl) rfl hm rfl)) rfl rfl ?_)|(refine uC (uT rfl (by (repeat (first | exact Args.nil | refine Args.cons rfl ?_));done)) rfl rfl (contains_spec l a c n _ hl hb) ?_;rintro _ H9 ⟨rfl,hH9⟩;subst H9)|(refine uE (uM rfl rfl) rfl rfl ?_)|(refine uE (uA rfl rfl) rfl rfl ?_)|(refine uE (EvF.not rfl rfl) rfl rfl ?_)))))|(refine uD rfl ?_;refine hK _ _ ?_;clear hK K) | refine uS rfl ?_ | refine uR rfl (fun K hK=>?_) | refine X.ret rfl ?_)
 refine ret_one (by simp) Tryz.results168 rfl (H' := H) (by (repeat (first | exact qR _ | apply qC));done) ?_;simp only [and_true,true_and]
theorem among_spec (L l : List Int) (a a' : Option Addr) (c c' : Nat) (H : List Row) (hL : SlE H a cI 1 L) (hl : SlE H a' cI 1 l) (hb : L.length ≤ 9223372036854775807) (hb' : l.length ≤ 9223372036854775807) :
  Fc Tryz.prog 161 [.slice a L.length c,.slice a' l.length c'] H (fun v H' => v = .bool (decide (∀ n ∈ l,n ∈ L))∧H' = H):=by
 refine Fc.mk (callable Tryz.call161) Tryz.func161 rfl Tryz.ntmps161 rfl ?_;dsimp only [fr]
 repeat' (first | (refine uP rfl ?_;(first | ((first | refine uN rfl ?_);(first | (refine uE (EvF.makeFunc (fl:=[]) rfl Args.nil (Args.cons rfl Args.nil)) rfl rfl ?_)|(refine uC (uT rfl (by (repeat (first | exact Args.nil | refine Args.cons rfl ?_));done)) rfl rfl (containsFunc_specI l a' c' 168 (fun n => !decide (n ∈ L)) [_] _ (hl.sub (fun _ h=>by repeat (first | exact h | apply qT))) hb' (fun e _=>among1_spec L a c e _ _ _ _ (qH _) (hL.sub (fun _ h=>by repeat (first | exact h | apply qT))) hb)) ?_;rintro _ H9 ⟨rfl,hH9⟩;subst H9)|(refine uE (uM rfl rfl) rfl rfl ?_)|(refine uE (uA rfl rfl) rfl rfl ?_)|(refine uE (EvF.not rfl rfl) rfl rfl ?_)|(refine Xg.st (StF.boxOne rfl rfl rfl) rfl rfl ?_;rintro _ _ ⟨bx,rfl,rfl⟩)))))|(refine uD rfl ?_;refine hK _ _ ?_;clear hK K) | refine uS rfl ?_ | refine uR rfl (fun K hK=>?_) | refine X.ret rfl ?_)
 refine ret_one (by simp) Tryz.results161 rfl (H' := H) (by (repeat (first | exact qR _ | apply qC));done) ?_;simp only [and_true,true_and]
 congr 1
 cases hq : decide (∃ e ∈ l,(!decide (e ∈ L)) = true)
 ·symm
  refine decide_eq_true (fun n hn=>?_)
  have:=of_decide_eq_false hq
  by_cases h : n ∈ L
  ·exact h
  ·exact absurd ⟨n,hn,by rw [decide_eq_false h];rfl⟩ this
 ·symm
  refine decide_eq_false (fun h=>?_)
  obtain ⟨e,he,h2⟩:=of_decide_eq_true hq
  rw [decide_eq_true (h e he)] at h2
  cases h2
/-- a draw, or a weighing: its Number, its layer or its pounds, its span -/
structure Dr where
 number : Int
 val : Int
 lo : Int
 hi : Int
abbrev Wg:=Dr
def cDr (s : Dr) : List Value:=[.int .i64 s.number,.int .i64 s.val,.int .i64 s.lo,.int .i64 s.hi]
theorem one_dr (e : Dr) : (cDr e).all (·.oneCell') = true:=rfl
theorem lenDr (l : List Dr) : (l.flatMap cDr).length = l.length * 4:=flat_len (fun _ _=>rfl)
theorem elDr : ElT Tryz.prog 28 38 4 32:=⟨Tryz.underlying28,Tryz.t38,.agg #[.int .i64 0,.int .i64 0,.int .i64 0,.int .i64 0],by kernel_rfl,by kernel_rfl,by kernel_rfl,by kernel_rfl,rfl⟩
theorem elWg : ElT Tryz.prog 29 41 4 32:=⟨Tryz.underlying29,Tryz.t41,.agg #[.int .i64 0,.int .i64 0,.int .i64 0,.int .i64 0],by kernel_rfl,by kernel_rfl,by kernel_rfl,by kernel_rfl,rfl⟩
structure Bl where
 id : Int
 layers : Int
 dlo : Int
 dhi : Int
 draws : List Dr
 weighs : List Wg
/-- where a bale's lists lie -/
structure Pb where
 a1 : Option Addr
 c1 : Nat
 a2 : Option Addr
 c2 : Nat
def cBl (B : Bl) (p : Pb) : List Value:=[.int .i64 B.id,.int .i64 B.layers,.int .i64 B.dlo,.int .i64 B.dhi,.slice p.a1 B.draws.length p.c1,.slice p.a2 B.weighs.length p.c2]
structure BlOk (H : List Row) (B : Bl) (p : Pb) : Prop where
 draws : SlE H p.a1 cDr 4 B.draws
 weighs : SlE H p.a2 cDr 4 B.weighs
 l1 : B.draws.length ≤ 1000000
 l2 : B.weighs.length ≤ 1000000
theorem BlOk.sub {H H' : List Row} {B : Bl} {p : Pb} (h : BlOk H B p) (hs : ∀ r ∈ H,r ∈ H') : BlOk H' B p:=⟨h.draws.sub hs,h.weighs.sub hs,h.l1,h.l2⟩
theorem numberDr_spec (m : Dr) (H : List Row) : Fc Tryz.prog 68 ([.agg (cDr m).toArray]++[]) H (fun v H' => v = .int .i64 m.number∧H' = H):=by
 show Fc Tryz.prog 68 [.agg (cDr m).toArray] H _
 refine Fc.mk (callable Tryz.call68) Tryz.func68 rfl Tryz.ntmps68 rfl ?_;dsimp only [fr]
 repeat' (first | (refine uP rfl ?_;(first | ((first | refine uN rfl ?_);(first | (refine uE (uM rfl rfl) rfl rfl ?_)|(refine uE (uA rfl rfl) rfl rfl ?_)|(refine uE (uQ rfl rfl rfl rfl) rfl rfl ?_)|(refine uE (uF rfl rfl (te rfl) rfl (te rfl) (by decide)) rfl rfl ?_)|(refine uE (uY rfl rfl (te rfl)) rfl rfl ?_)|(refine uE (uL rfl rfl (uO (te rfl) rfl (qH _) rfl)) rfl rfl ?_)|(refine Xg.st (StF.boxAgg rfl rfl) rfl rfl ?_;rintro _ _ ⟨bx,rfl,rfl⟩)))))|(refine uD rfl ?_;refine hK _ _ ?_;clear hK K) | refine uS rfl ?_ | refine uR rfl (fun K hK=>?_) | refine X.block rfl ?_ | (refine X.brk rfl ?_;repeat (first | refine blockX_hit rfl ?_ | refine blockX_miss (by decide) ?_)) | refine X.skip rfl ?_ | refine X.ret rfl ?_ | (refine X.ite rfl rfl (fun hc=>?_);(first | (with_reducible refine Xb.case hc (fun h=>?_) (fun h=>?_))) <;> clear hc))
 refine ret_one (by simp) Tryz.results68 rfl (H' := H) (by (repeat (first | exact qR _ | apply qC));done) ?_;simp only [and_true,true_and]
theorem numberWg_spec (m : Wg) (H : List Row) : Fc Tryz.prog 72 ([.agg (cDr m).toArray]++[]) H (fun v H' => v = .int .i64 m.number∧H' = H):=by
 show Fc Tryz.prog 72 [.agg (cDr m).toArray] H _
 refine Fc.mk (callable Tryz.call72) Tryz.func72 rfl Tryz.ntmps72 rfl ?_;dsimp only [fr]
 repeat' (first | (refine uP rfl ?_;(first | ((first | refine uN rfl ?_);(first | (refine uE (uM rfl rfl) rfl rfl ?_)|(refine uE (uA rfl rfl) rfl rfl ?_)|(refine uE (uQ rfl rfl rfl rfl) rfl rfl ?_)|(refine uE (uF rfl rfl (te rfl) rfl (te rfl) (by decide)) rfl rfl ?_)|(refine uE (uY rfl rfl (te rfl)) rfl rfl ?_)|(refine uE (uL rfl rfl (uO (te rfl) rfl (qH _) rfl)) rfl rfl ?_)|(refine Xg.st (StF.boxAgg rfl rfl) rfl rfl ?_;rintro _ _ ⟨bx,rfl,rfl⟩)))))|(refine uD rfl ?_;refine hK _ _ ?_;clear hK K) | refine uS rfl ?_ | refine uR rfl (fun K hK=>?_) | refine X.block rfl ?_ | (refine X.brk rfl ?_;repeat (first | refine blockX_hit rfl ?_ | refine blockX_miss (by decide) ?_)) | refine X.skip rfl ?_ | refine X.ret rfl ?_ | (refine X.ite rfl rfl (fun hc=>?_);(first | (with_reducible refine Xb.case hc (fun h=>?_) (fun h=>?_))) <;> clear hc))
 refine ret_one (by simp) Tryz.results72 rfl (H' := H) (by (repeat (first | exact qR _ | apply qC));done) ?_;simp only [and_true,true_and]
theorem indexFunc_specDr (l : List Dr) (a : Option Addr) (c g : Nat) (p : Dr → Bool) (cap : List Value) (H : List Row) (hl : SlE H a cDr 4 l) (hb : l.length ≤ 9223372036854775807) (hf : ∀ e ∈ l,Fc Tryz.prog g ([.agg (cDr e).toArray]++cap) H (fun v H' => v = .bool (p e)∧H' = H)) :
  Fc Tryz.prog 107 [.slice a l.length c,.func (.func g) #[] cap.toArray] H (fun v H' => (∃ z,v = .int .i64 z∧IdxR p l z)∧H' = H):=by
 refine Fc.mk (callable Tryz.call107) Tryz.func107 rfl Tryz.ntmps107 rfl ?_;dsimp only [fr]
 repeat' (first | (refine uP rfl ?_;(first | ((first | refine uN rfl ?_);(first | (refine uE (uM rfl rfl) rfl rfl ?_)|(refine uE (uA rfl rfl) rfl rfl ?_)|(refine uE (uQ rfl rfl rfl rfl) rfl rfl ?_)|(refine uE (uF rfl rfl (te rfl) rfl (te rfl) (by decide)) rfl rfl ?_)|(refine uE (uY rfl rfl (te rfl)) rfl rfl ?_)|(refine uE (uL rfl rfl (uO (te rfl) rfl (qH _) rfl)) rfl rfl ?_)|(refine Xg.st (StF.boxAgg rfl rfl) rfl rfl ?_;rintro _ _ ⟨bx,rfl,rfl⟩)))))|(refine uD rfl ?_;refine hK _ _ ?_;clear hK K) | refine uS rfl ?_ | refine uR rfl (fun K hK=>?_) | refine X.block rfl ?_ | (refine X.brk rfl ?_;repeat (first | refine blockX_hit rfl ?_ | refine blockX_miss (by decide) ?_)) | refine X.skip rfl ?_ | refine X.ret rfl ?_ | (refine X.ite rfl rfl (fun hc=>?_);(first | (with_reducible refine Xb.case hc (fun h=>?_) (fun h=>?_))) <;> clear hc))
 refine X.lp rfl (fun q F' H' => ∃ k : Nat,q = l.length - k∧k ≤ l.length∧(∀ i e,i < k → l[i]? = some e → p e = false)∧H = H' ∧
   F' = [(0,.slice a l.length c),(1,.func (.func g) #[] cap.toArray),(7,.int .i64 l.length),(8,.int .i64 k)])
  l.length [(0,.slice a l.length c),(1,.func (.func g) #[] cap.toArray),(7,.int .i64 l.length),(8,.int .i64 (0 : Nat))] _ (by repeat (first | exact uU _ | refine uV rfl ?_)) (by repeat (first | exact qR _ | apply qK | apply qC)) ⟨0,by omega,by omega,(fun i e hi=>absurd hi (by omega)),rfl,rfl⟩ ?_
 rintro _ _ H2 ⟨k,rfl,hk,hn,hH,rfl⟩
 subst hH
 repeat' (first | (refine uP rfl ?_;(first | ((first | refine uN rfl ?_);(first | (refine uE (uM rfl rfl) rfl rfl ?_)|(refine uE (uA rfl rfl) rfl rfl ?_)|(refine uE (uQ rfl rfl rfl rfl) rfl rfl ?_)|(refine uE (uF rfl rfl (te rfl) rfl (te rfl) (by decide)) rfl rfl ?_)|(refine uE (uY rfl rfl (te rfl)) rfl rfl ?_)|(refine uE (uL rfl rfl (uO (te rfl) rfl (qH _) rfl)) rfl rfl ?_)|(refine Xg.st (StF.boxAgg rfl rfl) rfl rfl ?_;rintro _ _ ⟨bx,rfl,rfl⟩)))))|(refine uD rfl ?_;refine hK _ _ ?_;clear hK K) | refine uS rfl ?_ | refine uR rfl (fun K hK=>?_) | refine X.block rfl ?_ | (refine X.brk rfl ?_;repeat (first | refine blockX_hit rfl ?_ | refine blockX_miss (by decide) ?_)) | refine X.skip rfl ?_ | refine X.ret rfl ?_ | (refine X.ite rfl rfl (fun hc=>?_);(first | (with_reducible refine Xb.case hc (fun h=>?_) (fun h=>?_))) <;> clear hc))
 ·obtain ⟨b,off,e,rfl,he⟩:=hl.elem (i:=k) (by omega)
  repeat' (first | (refine uP rfl ?_;(first | ((first | refine uN rfl ?_);(first | (refine uE (uL rfl rfl (LoadV.elA0 hl he (te rfl) rfl (fun _ hm=>hm) rfl)) rfl rfl ?_)|(refine uC (EnF.dyn0 rfl rfl (by (repeat (first | exact Args.nil | refine Args.cons rfl ?_));done)) rfl rfl (hf e (List.mem_of_getElem? he)) ?_;rintro _ H9 ⟨rfl,hH9⟩;subst H9)|(refine uE (uM rfl rfl) rfl rfl ?_)|(refine uE (uA rfl rfl) rfl rfl ?_)|(refine uE (EvF.add64 rfl rfl rfl (by omega) (by omega)) rfl rfl ?_)|(refine uE (uJ rfl rfl rfl (te rfl) (te rfl) (by omega) (by omega)) rfl rfl ?_)))))|(refine uD rfl ?_;refine hK _ _ ?_;clear hK K) | refine uS rfl ?_ | refine uR rfl (fun K hK=>?_) | refine X.skip rfl ?_ | refine X.ret rfl ?_ | (refine X.ite rfl rfl (fun hc=>?_);(first | (with_reducible refine Xb.caseB hc (fun h=>?_) (fun h=>?_))) <;> clear hc))
  ·refine ret_one (by simp) Tryz.results107 rfl (H' := H) (by (repeat (first | exact qR _ | apply qC));done) ?_;simp only [and_true,true_and]
   exact ⟨_,rfl,.inr ⟨k,e,rfl,he,by assumption,hn⟩⟩
  ·refine ⟨_,_,_,(by repeat (first | exact uU _ | refine uV rfl ?_)),(by repeat (first | exact qR _ | apply qK | apply qC)),⟨k + 1,rfl,by omega,(fun i e' hi he' => ?_),rfl,rfl⟩,by omega⟩
   rcases Nat.lt_or_ge i k with h1 | h1
   ·exact hn i e' h1 he'
   ·obtain rfl : i = k:=by omega
    rw [he] at he';cases he';assumption
 ·refine ret_one (by simp) Tryz.results107 rfl (H' := H) (by (repeat (first | exact qR _ | apply qC));done) ?_;simp only [and_true,true_and]
  refine ⟨_,rfl,.inl ⟨rfl,fun e he=>?_⟩⟩
  obtain ⟨i,hi,rfl⟩:=List.mem_iff_getElem.1 he
  exact hn i _ (by omega) (List.getElem?_eq_getElem hi)
theorem indexFunc_specWg (l : List Wg) (a : Option Addr) (c g : Nat) (p : Wg → Bool) (cap : List Value) (H : List Row) (hl : SlE H a cDr 4 l) (hb : l.length ≤ 9223372036854775807) (hf : ∀ e ∈ l,Fc Tryz.prog g ([.agg (cDr e).toArray]++cap) H (fun v H' => v = .bool (p e)∧H' = H)) :
  Fc Tryz.prog 110 [.slice a l.length c,.func (.func g) #[] cap.toArray] H (fun v H' => (∃ z,v = .int .i64 z∧IdxR p l z)∧H' = H):=by
 refine Fc.mk (callable Tryz.call110) Tryz.func110 rfl Tryz.ntmps110 rfl ?_;dsimp only [fr]
 repeat' (first | (refine uP rfl ?_;(first | ((first | refine uN rfl ?_);(first | (refine uE (uM rfl rfl) rfl rfl ?_)|(refine uE (uA rfl rfl) rfl rfl ?_)|(refine uE (uQ rfl rfl rfl rfl) rfl rfl ?_)|(refine uE (uF rfl rfl (te rfl) rfl (te rfl) (by decide)) rfl rfl ?_)|(refine uE (uY rfl rfl (te rfl)) rfl rfl ?_)|(refine uE (uL rfl rfl (uO (te rfl) rfl (qH _) rfl)) rfl rfl ?_)|(refine Xg.st (StF.boxAgg rfl rfl) rfl rfl ?_;rintro _ _ ⟨bx,rfl,rfl⟩)))))|(refine uD rfl ?_;refine hK _ _ ?_;clear hK K) | refine uS rfl ?_ | refine uR rfl (fun K hK=>?_) | refine X.block rfl ?_ | (refine X.brk rfl ?_;repeat (first | refine blockX_hit rfl ?_ | refine blockX_miss (by decide) ?_)) | refine X.skip rfl ?_ | refine X.ret rfl ?_ | (refine X.ite rfl rfl (fun hc=>?_);(first | (with_reducible refine Xb.case hc (fun h=>?_) (fun h=>?_))) <;> clear hc))
 refine X.lp rfl (fun q F' H' => ∃ k : Nat,q = l.length - k∧k ≤ l.length∧(∀ i e,i < k → l[i]? = some e → p e = false)∧H = H' ∧
   F' = [(0,.slice a l.length c),(1,.func (.func g) #[] cap.toArray),(7,.int .i64 l.length),(8,.int .i64 k)])
  l.length [(0,.slice a l.length c),(1,.func (.func g) #[] cap.toArray),(7,.int .i64 l.length),(8,.int .i64 (0 : Nat))] _ (by repeat (first | exact uU _ | refine uV rfl ?_)) (by repeat (first | exact qR _ | apply qK | apply qC)) ⟨0,by omega,by omega,(fun i e hi=>absurd hi (by omega)),rfl,rfl⟩ ?_
 rintro _ _ H2 ⟨k,rfl,hk,hn,hH,rfl⟩
 subst hH
 repeat' (first | (refine uP rfl ?_;(first | ((first | refine uN rfl ?_);(first | (refine uE (uM rfl rfl) rfl rfl ?_)|(refine uE (uA rfl rfl) rfl rfl ?_)|(refine uE (uQ rfl rfl rfl rfl) rfl rfl ?_)|(refine uE (uF rfl rfl (te rfl) rfl (te rfl) (by decide)) rfl rfl ?_)|(refine uE (uY rfl rfl (te rfl)) rfl rfl ?_)|(refine uE (uL rfl rfl (uO (te rfl) rfl (qH _) rfl)) rfl rfl ?_)|(refine Xg.st (StF.boxAgg rfl rfl) rfl rfl ?_;rintro _ _ ⟨bx,rfl,rfl⟩)))))|(refine uD rfl ?_;refine hK _ _ ?_;clear hK K) | refine uS rfl ?_ | refine uR rfl (fun K hK=>?_) | refine X.block rfl ?_ | (refine X.brk rfl ?_;repeat (first | refine blockX_hit rfl ?_ | refine blockX_miss (by decide) ?_)) | refine X.skip rfl ?_ | refine X.ret rfl ?_ | (refine X.ite rfl rfl (fun hc=>?_);(first | (with_reducible refine Xb.case hc (fun h=>?_) (fun h=>?_))) <;> clear hc))
 ·obtain ⟨b,off,e,rfl,he⟩:=hl.elem (i:=k) (by omega)
  repeat' (first | (refine uP rfl ?_;(first | ((first | refine uN rfl ?_);(first | (refine uE (uL rfl rfl (LoadV.elA0 hl he (te rfl) rfl (fun _ hm=>hm) rfl)) rfl rfl ?_)|(refine uC (EnF.dyn0 rfl rfl (by (repeat (first | exact Args.nil | refine Args.cons rfl ?_));done)) rfl rfl (hf e (List.mem_of_getElem? he)) ?_;rintro _ H9 ⟨rfl,hH9⟩;subst H9)|(refine uE (uM rfl rfl) rfl rfl ?_)|(refine uE (uA rfl rfl) rfl rfl ?_)|(refine uE (EvF.add64 rfl rfl rfl (by omega) (by omega)) rfl rfl ?_)|(refine uE (uJ rfl rfl rfl (te rfl) (te rfl) (by omega) (by omega)) rfl rfl ?_)))))|(refine uD rfl ?_;refine hK _ _ ?_;clear hK K) | refine uS rfl ?_ | refine uR rfl (fun K hK=>?_) | refine X.skip rfl ?_ | refine X.ret rfl ?_ | (refine X.ite rfl rfl (fun hc=>?_);(first | (with_reducible refine Xb.caseB hc (fun h=>?_) (fun h=>?_))) <;> clear hc))
  ·refine ret_one (by simp) Tryz.results110 rfl (H' := H) (by (repeat (first | exact qR _ | apply qC));done) ?_;simp only [and_true,true_and]
   exact ⟨_,rfl,.inr ⟨k,e,rfl,he,by assumption,hn⟩⟩
  ·refine ⟨_,_,_,(by repeat (first | exact uU _ | refine uV rfl ?_)),(by repeat (first | exact qR _ | apply qK | apply qC)),⟨k + 1,rfl,by omega,(fun i e' hi he' => ?_),rfl,rfl⟩,by omega⟩
   rcases Nat.lt_or_ge i k with h1 | h1
   ·exact hn i e' h1 he'
   ·obtain rfl : i = k:=by omega
    rw [he] at he';cases he';assumption
 ·refine ret_one (by simp) Tryz.results110 rfl (H' := H) (by (repeat (first | exact qR _ | apply qC));done) ?_;simp only [and_true,true_and]
  refine ⟨_,rfl,.inl ⟨rfl,fun e he=>?_⟩⟩
  obtain ⟨i,hi,rfl⟩:=List.mem_iff_getElem.1 he
  exact hn i _ (by omega) (List.getElem?_eq_getElem hi)
theorem indexFunc_specSp (l : List Sp) (a : Option Addr) (c g : Nat) (p : Sp → Bool) (cap : List Value) (H : List Row) (hl : SlE H a cSp 2 l) (hb : l.length ≤ 9223372036854775807) (hf : ∀ e ∈ l,Fc Tryz.prog g ([.agg (cSp e).toArray]++cap) H (fun v H' => v = .bool (p e)∧H' = H)) :
  Fc Tryz.prog 165 [.slice a l.length c,.func (.func g) #[] cap.toArray] H (fun v H' => (∃ z,v = .int .i64 z∧IdxR p l z)∧H' = H):=by
 refine Fc.mk (callable Tryz.call165) Tryz.func165 rfl Tryz.ntmps165 rfl ?_;dsimp only [fr]
 repeat' (first | (refine uP rfl ?_;(first | ((first | refine uN rfl ?_);(first | (refine uE (uM rfl rfl) rfl rfl ?_)|(refine uE (uA rfl rfl) rfl rfl ?_)|(refine uE (uQ rfl rfl rfl rfl) rfl rfl ?_)|(refine uE (uF rfl rfl (te rfl) rfl (te rfl) (by decide)) rfl rfl ?_)|(refine uE (uY rfl rfl (te rfl)) rfl rfl ?_)|(refine uE (uL rfl rfl (uO (te rfl) rfl (qH _) rfl)) rfl rfl ?_)|(refine Xg.st (StF.boxAgg rfl rfl) rfl rfl ?_;rintro _ _ ⟨bx,rfl,rfl⟩)))))|(refine uD rfl ?_;refine hK _ _ ?_;clear hK K) | refine uS rfl ?_ | refine uR rfl (fun K hK=>?_) | refine X.block rfl ?_ | (refine X.brk rfl ?_;repeat (first | refine blockX_hit rfl ?_ | refine blockX_miss (by decide) ?_)) | refine X.skip rfl ?_ | refine X.ret rfl ?_ | (refine X.ite rfl rfl (fun hc=>?_);(first | (with_reducible refine Xb.case hc (fun h=>?_) (fun h=>?_))) <;> clear hc))
 refine X.lp rfl (fun q F' H' => ∃ k : Nat,q = l.length - k∧k ≤ l.length∧(∀ i e,i < k → l[i]? = some e → p e = false)∧H = H' ∧
   F' = [(0,.slice a l.length c),(1,.func (.func g) #[] cap.toArray),(7,.int .i64 l.length),(8,.int .i64 k)])
  l.length [(0,.slice a l.length c),(1,.func (.func g) #[] cap.toArray),(7,.int .i64 l.length),(8,.int .i64 (0 : Nat))] _ (by repeat (first | exact uU _ | refine uV rfl ?_)) (by repeat (first | exact qR _ | apply qK | apply qC)) ⟨0,by omega,by omega,(fun i e hi=>absurd hi (by omega)),rfl,rfl⟩ ?_
 rintro _ _ H2 ⟨k,rfl,hk,hn,hH,rfl⟩
 subst hH
 repeat' (first | (refine uP rfl ?_;(first | ((first | refine uN rfl ?_);(first | (refine uE (uM rfl rfl) rfl rfl ?_)|(refine uE (uA rfl rfl) rfl rfl ?_)|(refine uE (uQ rfl rfl rfl rfl) rfl rfl ?_)|(refine uE (uF rfl rfl (te rfl) rfl (te rfl) (by decide)) rfl rfl ?_)|(refine uE (uY rfl rfl (te rfl)) rfl rfl ?_)|(refine uE (uL rfl rfl (uO (te rfl) rfl (qH _) rfl)) rfl rfl ?_)|(refine Xg.st (StF.boxAgg rfl rfl) rfl rfl ?_;rintro _ _ ⟨bx,rfl,rfl⟩)))))|(refine uD rfl ?_;refine hK _ _ ?_;clear hK K) | refine uS rfl ?_ | refine uR rfl (fun K hK=>?_) | refine X.block rfl ?_ | (refine X.brk rfl ?_;repeat (first | refine blockX_hit rfl ?_ | refine blockX_miss (by decide) ?_)) | refine X.skip rfl ?_ | refine X.ret rfl ?_ | (refine X.ite rfl rfl (fun hc=>?_);(first | (with_reducible refine Xb.case hc (fun h=>?_) (fun h=>?_))) <;> clear hc))
 ·obtain ⟨b,off,e,rfl,he⟩:=hl.elem (i:=k) (by omega)
  repeat' (first | (refine uP rfl ?_;(first | ((first | refine uN rfl ?_);(first | (refine uE (uL rfl rfl (LoadV.elA0 hl he (te rfl) rfl (fun _ hm=>hm) rfl)) rfl rfl ?_)|(refine uC (EnF.dyn0 rfl rfl (by (repeat (first | exact Args.nil | refine Args.cons rfl ?_));done)) rfl rfl (hf e (List.mem_of_getElem? he)) ?_;rintro _ H9 ⟨rfl,hH9⟩;subst H9)|(refine uE (uM rfl rfl) rfl rfl ?_)|(refine uE (uA rfl rfl) rfl rfl ?_)|(refine uE (EvF.add64 rfl rfl rfl (by omega) (by omega)) rfl rfl ?_)|(refine uE (uJ rfl rfl rfl (te rfl) (te rfl) (by omega) (by omega)) rfl rfl ?_)))))|(refine uD rfl ?_;refine hK _ _ ?_;clear hK K) | refine uS rfl ?_ | refine uR rfl (fun K hK=>?_) | refine X.skip rfl ?_ | refine X.ret rfl ?_ | (refine X.ite rfl rfl (fun hc=>?_);(first | (with_reducible refine Xb.caseB hc (fun h=>?_) (fun h=>?_))) <;> clear hc))
  ·refine ret_one (by simp) Tryz.results165 rfl (H' := H) (by (repeat (first | exact qR _ | apply qC));done) ?_;simp only [and_true,true_and]
   exact ⟨_,rfl,.inr ⟨k,e,rfl,he,by assumption,hn⟩⟩
  ·refine ⟨_,_,_,(by repeat (first | exact uU _ | refine uV rfl ?_)),(by repeat (first | exact qR _ | apply qK | apply qC)),⟨k + 1,rfl,by omega,(fun i e' hi he' => ?_),rfl,rfl⟩,by omega⟩
   rcases Nat.lt_or_ge i k with h1 | h1
   ·exact hn i e' h1 he'
   ·obtain rfl : i = k:=by omega
    rw [he] at he';cases he';assumption
 ·refine ret_one (by simp) Tryz.results165 rfl (H' := H) (by (repeat (first | exact qR _ | apply qC));done) ?_;simp only [and_true,true_and]
  refine ⟨_,rfl,.inl ⟨rfl,fun e he=>?_⟩⟩
  obtain ⟨i,hi,rfl⟩:=List.mem_iff_getElem.1 he
  exact hn i _ (by omega) (List.getElem?_eq_getElem hi)
theorem containsFunc_specDr (l : List Dr) (a : Option Addr) (c g : Nat) (p : Dr → Bool) (cap : List Value) (H : List Row) (hl : SlE H a cDr 4 l) (hb : l.length ≤ 9223372036854775807) (hf : ∀ e ∈ l,Fc Tryz.prog g ([.agg (cDr e).toArray]++cap) H (fun v H' => v = .bool (p e)∧H' = H)) :
  Fc Tryz.prog 129 [.slice a l.length c,.func (.func g) #[] cap.toArray] H (fun v H' => v = .bool (decide (∃ e ∈ l,p e = true))∧H' = H):=by
 refine Fc.mk (callable Tryz.call129) Tryz.func129 rfl Tryz.ntmps129 rfl ?_;dsimp only [fr]
 repeat' (first | (refine uP rfl ?_;(first | ((first | refine uN rfl ?_);(first | (refine uC (uT rfl (by (repeat (first | exact Args.nil | refine Args.cons rfl ?_));done)) rfl rfl (indexFunc_specDr l a c g p cap H hl hb hf) ?_;rintro _ H9 ⟨⟨z,rfl,hz⟩,hH9⟩;subst H9)|(refine uE (uM rfl rfl) rfl rfl ?_)|(refine uE (uA rfl rfl) rfl rfl ?_)|(refine uE (uQ rfl rfl rfl rfl) rfl rfl ?_)))))|(refine uD rfl ?_;refine hK _ _ ?_;clear hK K) | refine uS rfl ?_ | refine uR rfl (fun K hK=>?_) | refine X.ret rfl ?_)
 refine ret_one (by simp) Tryz.results129 rfl (H' := H) (by (repeat (first | exact qR _ | apply qC));done) ?_;simp only [and_true,true_and]
 congr 1
 exact decide_eq_decide.2 hz.ge
theorem containsFunc_specWg (l : List Wg) (a : Option Addr) (c g : Nat) (p : Wg → Bool) (cap : List Value) (H : List Row) (hl : SlE H a cDr 4 l) (hb : l.length ≤ 9223372036854775807) (hf : ∀ e ∈ l,Fc Tryz.prog g ([.agg (cDr e).toArray]++cap) H (fun v H' => v = .bool (p e)∧H' = H)) :
  Fc Tryz.prog 132 [.slice a l.length c,.func (.func g) #[] cap.toArray] H (fun v H' => v = .bool (decide (∃ e ∈ l,p e = true))∧H' = H):=by
 refine Fc.mk (callable Tryz.call132) Tryz.func132 rfl Tryz.ntmps132 rfl ?_;dsimp only [fr]
 repeat' (first | (refine uP rfl ?_;(first | ((first | refine uN rfl ?_);(first | (refine uC (uT rfl (by (repeat (first | exact Args.nil | refine Args.cons rfl ?_));done)) rfl rfl (indexFunc_specWg l a c g p cap H hl hb hf) ?_;rintro _ H9 ⟨⟨z,rfl,hz⟩,hH9⟩;subst H9)|(refine uE (uM rfl rfl) rfl rfl ?_)|(refine uE (uA rfl rfl) rfl rfl ?_)|(refine uE (uQ rfl rfl rfl rfl) rfl rfl ?_)))))|(refine uD rfl ?_;refine hK _ _ ?_;clear hK K) | refine uS rfl ?_ | refine uR rfl (fun K hK=>?_) | refine X.ret rfl ?_)
 refine ret_one (by simp) Tryz.results132 rfl (H' := H) (by (repeat (first | exact qR _ | apply qC));done) ?_;simp only [and_true,true_and]
 congr 1
 exact decide_eq_decide.2 hz.ge
theorem containsFunc_specSp (l : List Sp) (a : Option Addr) (c g : Nat) (p : Sp → Bool) (cap : List Value) (H : List Row) (hl : SlE H a cSp 2 l) (hb : l.length ≤ 9223372036854775807) (hf : ∀ e ∈ l,Fc Tryz.prog g ([.agg (cSp e).toArray]++cap) H (fun v H' => v = .bool (p e)∧H' = H)) :
  Fc Tryz.prog 155 [.slice a l.length c,.func (.func g) #[] cap.toArray] H (fun v H' => v = .bool (decide (∃ e ∈ l,p e = true))∧H' = H):=by
 refine Fc.mk (callable Tryz.call155) Tryz.func155 rfl Tryz.ntmps155 rfl ?_;dsimp only [fr]
 repeat' (first | (refine uP rfl ?_;(first | ((first | refine uN rfl ?_);(first | (refine uC (uT rfl (by (repeat (first | exact Args.nil | refine Args.cons rfl ?_));done)) rfl rfl (indexFunc_specSp l a c g p cap H hl hb hf) ?_;rintro _ H9 ⟨⟨z,rfl,hz⟩,hH9⟩;subst H9)|(refine uE (uM rfl rfl) rfl rfl ?_)|(refine uE (uA rfl rfl) rfl rfl ?_)|(refine uE (uQ rfl rfl rfl rfl) rfl rfl ?_)))))|(refine uD rfl ?_;refine hK _ _ ?_;clear hK K) | refine uS rfl ?_ | refine uR rfl (fun K hK=>?_) | refine X.ret rfl ?_)
 refine ret_one (by simp) Tryz.results155 rfl (H' := H) (by (repeat (first | exact qR _ | apply qC));done) ?_;simp only [and_true,true_and]
 congr 1
 exact decide_eq_decide.2 hz.ge
theorem numbersO_specDr (g : Nat) (f : Dr → Int) (hg : ∀ e H,Fc Tryz.prog g ([.agg (cDr e).toArray]++[]) H (fun v H' => v = .int .i64 (f e)∧H' = H)) (l : List Dr) (a : Option Addr) (c : Nat) (H : List Row) (hl : SlE H a cDr 4 l) (hb : l.length ≤ 1000000) :
  Fc Tryz.prog 123 [.slice a l.length c,.func (.func g) #[] #[]] H (fun v H' => (l = []∧v = .slice none 0 0∧H' = H) ∨ ∃ b q,l ≠ []∧v = .slice (some ⟨b,0,none⟩) (l.map f).length q∧H' = ⟨b,0,(l.map f).flatMap cI,some 3,q * 1⟩::H):=by
 refine Fc.mk (callable Tryz.call123) Tryz.func123 rfl Tryz.ntmps123 rfl ?_;dsimp only [fr]
 repeat' (first | (refine uP rfl ?_;(first | ((first | refine uN rfl ?_);(first | (refine uE (uM rfl rfl) rfl rfl ?_)|(refine uE (uA rfl rfl) rfl rfl ?_)|(refine uE (uQ rfl rfl rfl rfl) rfl rfl ?_)|(refine uE (uF rfl rfl (te rfl) rfl (te rfl) (by decide)) rfl rfl ?_)|(refine uE (uY rfl rfl (te rfl)) rfl rfl ?_)|(refine uE (uL rfl rfl (uO (te rfl) rfl (qH _) rfl)) rfl rfl ?_)|(refine Xg.st (StF.boxAgg rfl rfl) rfl rfl ?_;rintro _ _ ⟨bx,rfl,rfl⟩)))))|(refine uD rfl ?_;refine hK _ _ ?_;clear hK K) | refine uS rfl ?_ | refine uR rfl (fun K hK=>?_) | refine X.block rfl ?_ | (refine X.brk rfl ?_;repeat (first | refine blockX_hit rfl ?_ | refine blockX_miss (by decide) ?_)) | refine X.skip rfl ?_ | refine X.ret rfl ?_ | (refine X.ite rfl rfl (fun hc=>?_);(first | (with_reducible refine Xb.case hc (fun h=>?_) (fun h=>?_))) <;> clear hc))
 refine X.lp rfl (fun q F' H' => ∃ (k : Nat) (out : Value) (Z : List Row),q = l.length - k∧k ≤ l.length∧((k = 0∧out = .slice none 0 0∧Z = []) ∨ ∃ b q,0 < k∧out = .slice (some ⟨b,0,none⟩) k q∧Z = [⟨b,0,((l.take k).map f).flatMap cI,some 3,q * 1⟩])∧Z++H = H' ∧
   F' = [(1,.func (.func g) #[] #[]),(5,out),(8,.slice a l.length c),(9,.int .i64 l.length),(10,.int .i64 k)])
  l.length [(1,.func (.func g) #[] #[]),(5,.slice none 0 0),(8,.slice a l.length c),(9,.int .i64 l.length),(10,.int .i64 (0 : Nat))] _ (by repeat (first | exact uU _ | refine uV rfl ?_)) (by repeat (first | exact qR _ | apply qK | apply qC)) ⟨0,_,[],by omega,by omega,.inl ⟨rfl,rfl,rfl⟩,rfl,rfl⟩ ?_
 rintro _ _ H2 ⟨k,out,Z,rfl,hk,⟨rfl,rfl,rfl⟩ | ⟨b0,q0,hk0,rfl,rfl⟩,hH,rfl⟩
 ·rw [List.nil_append] at hH
  subst hH
  repeat' (first | (refine uP rfl ?_;(first | ((first | refine uN rfl ?_);(first | (refine uE (uM rfl rfl) rfl rfl ?_)|(refine uE (uA rfl rfl) rfl rfl ?_)|(refine uE (uQ rfl rfl rfl rfl) rfl rfl ?_)|(refine uE (uF rfl rfl (te rfl) rfl (te rfl) (by decide)) rfl rfl ?_)|(refine uE (uY rfl rfl (te rfl)) rfl rfl ?_)|(refine uE (uL rfl rfl (uO (te rfl) rfl (qH _) rfl)) rfl rfl ?_)|(refine Xg.st (StF.boxAgg rfl rfl) rfl rfl ?_;rintro _ _ ⟨bx,rfl,rfl⟩)))))|(refine uD rfl ?_;refine hK _ _ ?_;clear hK K) | refine uS rfl ?_ | refine uR rfl (fun K hK=>?_) | refine X.block rfl ?_ | (refine X.brk rfl ?_;repeat (first | refine blockX_hit rfl ?_ | refine blockX_miss (by decide) ?_)) | refine X.skip rfl ?_ | refine X.ret rfl ?_ | (refine X.ite rfl rfl (fun hc=>?_);(first | (with_reducible refine Xb.case hc (fun h=>?_) (fun h=>?_))) <;> clear hc))
  ·obtain ⟨b,off,e,rfl,he⟩:=hl.elem (i:=0) (by omega)
   repeat' (first | (refine uP rfl ?_;(first | ((first | refine uN rfl ?_);(first | (refine uE (uL rfl rfl (LoadV.elA0 hl he (te rfl) rfl (fun _ hm=>hm) rfl)) rfl rfl ?_)|(refine uC (EnF.dyn0 rfl rfl (by (repeat (first | exact Args.nil | refine Args.cons rfl ?_));done)) rfl rfl (hg _ _) ?_;rintro _ H9 ⟨rfl,hH9⟩;subst H9)|(refine Xg.st (StF.buildOne rfl el55 rfl rfl rfl (by decide) (by decide)) rfl rfl ?_;rintro _ _ ⟨bs,rfl,rfl⟩)|(refine Xg.st (StF.appendNew rfl el55 rfl rfl (by decide) rfl (Rd.own (qH _)) (by decide)) rfl rfl ?_;rintro _ _ ⟨bn,kn,rfl,rfl⟩)|(refine uE (uM rfl rfl) rfl rfl ?_)|(refine uE (uA rfl rfl) rfl rfl ?_)|(refine uE (EvF.add64 rfl rfl rfl (by omega) (by omega)) rfl rfl ?_)|(refine uE (uJ rfl rfl rfl (te rfl) (te rfl) (by omega) (by omega)) rfl rfl ?_)|(refine uE (uL rfl rfl (uW (te rfl) rfl (qH _) rfl)) rfl rfl ?_)|(refine Xg.st (StF.alloc rfl Tryz.zeroValue38 rfl) rfl rfl ?_;rintro _ _ ⟨bx,rfl,rfl⟩)|(refine Xg.st0 (uZ (i:=0) rfl rfl rfl (te rfl) rfl rfl rfl rfl) rfl ?_;rintro _ _ ⟨rfl,rfl⟩;dsimp only [List.set])))))|(refine uD rfl ?_;refine hK _ _ ?_;clear hK K) | refine uR rfl (fun K hK=>?_))
   refine ⟨_,_,_,(by repeat (first | exact uU _ | refine uV rfl ?_)),?_,⟨0 + 1,_,[⟨bn,0,((l.take (0 + 1)).map f).flatMap cI,some 3,kn * 1⟩],rfl,by omega,.inr ⟨_,_,by omega,rfl,rfl⟩,rfl,rfl⟩,by omega⟩
   rw [take_snoc he]
   exact (by repeat (first | exact qR _ | apply qK | apply qC))
  ·obtain rfl : l = []:=List.eq_nil_of_length_eq_zero (by omega)
   exact ret_one (by simp) Tryz.results123 rfl (H' := H) (by repeat (first | exact qR _ | apply qK | apply qC)) (.inl ⟨rfl,rfl,rfl⟩)
 ·have hlen : (((l.take k).map f).flatMap cI).length = k * 1:=by rw [lenI,List.length_map,List.length_take];omega
  simp only [List.cons_append,List.nil_append] at hH
  subst hH
  repeat' (first | (refine uP rfl ?_;(first | ((first | refine uN rfl ?_);(first | (refine uE (uM rfl rfl) rfl rfl ?_)|(refine uE (uA rfl rfl) rfl rfl ?_)|(refine uE (uQ rfl rfl rfl rfl) rfl rfl ?_)|(refine uE (uF rfl rfl (te rfl) rfl (te rfl) (by decide)) rfl rfl ?_)|(refine uE (uY rfl rfl (te rfl)) rfl rfl ?_)|(refine uE (uL rfl rfl (uO (te rfl) rfl (qH _) rfl)) rfl rfl ?_)|(refine Xg.st (StF.boxAgg rfl rfl) rfl rfl ?_;rintro _ _ ⟨bx,rfl,rfl⟩)))))|(refine uD rfl ?_;refine hK _ _ ?_;clear hK K) | refine uS rfl ?_ | refine uR rfl (fun K hK=>?_) | refine X.block rfl ?_ | (refine X.brk rfl ?_;repeat (first | refine blockX_hit rfl ?_ | refine blockX_miss (by decide) ?_)) | refine X.skip rfl ?_ | refine X.ret rfl ?_ | (refine X.ite rfl rfl (fun hc=>?_);(first | (with_reducible refine Xb.case hc (fun h=>?_) (fun h=>?_))) <;> clear hc))
  ·obtain ⟨b,off,e,rfl,he⟩:=hl.elem (i:=k) (by omega)
   have hl1 : ∀ r,SlE (r::H) (some ⟨b,off,none⟩) cDr 4 l:=fun r=>hl.sub (fun _ h=>List.mem_cons_of_mem _ h)
   repeat' (first | (refine uP rfl ?_;(first | ((first | refine uN rfl ?_);(first | (refine uE (uL rfl rfl (LoadV.elA0 (hl1 _) he (te rfl) rfl (fun _ hm=>hm) rfl)) rfl rfl ?_)|(refine uC (EnF.dyn0 rfl rfl (by (repeat (first | exact Args.nil | refine Args.cons rfl ?_));done)) rfl rfl (hg _ _) ?_;rintro _ H9 ⟨rfl,hH9⟩;subst H9)|(refine Xg.st (StF.buildOne rfl el55 rfl rfl rfl (by decide) (by decide)) rfl rfl ?_;rintro _ _ ⟨bs,rfl,rfl⟩)|(refine Xg.st (StF.appendOwn (i:=2) rfl el55 rfl rfl rfl hlen rfl (Rd.own (qH _)) rfl (by omega)) rfl rfl ?_;rintro _ _ ⟨bn,kn,rfl,rfl⟩;dsimp only [List.eraseIdx])|(refine uE (uM rfl rfl) rfl rfl ?_)|(refine uE (uA rfl rfl) rfl rfl ?_)|(refine uE (EvF.add64 rfl rfl rfl (by omega) (by omega)) rfl rfl ?_)|(refine uE (uJ rfl rfl rfl (te rfl) (te rfl) (by omega) (by omega)) rfl rfl ?_)|(refine uE (uL rfl rfl (uW (te rfl) rfl (qH _) rfl)) rfl rfl ?_)|(refine Xg.st (StF.alloc rfl Tryz.zeroValue38 rfl) rfl rfl ?_;rintro _ _ ⟨bx,rfl,rfl⟩)|(refine Xg.st0 (uZ (i:=0) rfl rfl rfl (te rfl) rfl rfl rfl rfl) rfl ?_;rintro _ _ ⟨rfl,rfl⟩;dsimp only [List.set])))))|(refine uD rfl ?_;refine hK _ _ ?_;clear hK K) | refine uR rfl (fun K hK=>?_))
   refine ⟨_,_,_,(by repeat (first | exact uU _ | refine uV rfl ?_)),?_,⟨k + 1,_,[⟨bn,0,((l.take (k + 1)).map f).flatMap cI,some 3,kn * 1⟩],rfl,by omega,.inr ⟨_,_,by omega,rfl,rfl⟩,rfl,rfl⟩,by omega⟩
   rw [take_snoc he,List.map_append,List.flatMap_append]
   exact (by repeat (first | exact qR _ | apply qK | apply qC))
  ·obtain rfl : k = l.length:=by omega
   rw [List.take_length]
   refine ret_one (by simp) Tryz.results123 rfl (H' := ⟨b0,0,(l.map f).flatMap cI,some 3,q0 * 1⟩::H) (by repeat (first | exact qR _ | apply qK | apply qC)) (.inr ⟨b0,q0,(fun e=>by rw [e] at hk0;exact absurd hk0 (Nat.lt_irrefl 0)),by rw [List.length_map],rfl⟩)
theorem numbersF_specDr (g : Nat) (f : Dr → Int) (hg : ∀ e H,Fc Tryz.prog g ([.agg (cDr e).toArray]++[]) H (fun v H' => v = .int .i64 (f e)∧H' = H)) (l : List Dr) (a : Option Addr) (c : Nat) (H : List Row) (hl : SlE H a cDr 4 l) (hb : l.length ≤ 1000000) :
  Fc Tryz.prog 123 [.slice a l.length c,.func (.func g) #[] #[]] H (fun v H' => ∃ a' c' Z,v = .slice a' (l.map f).length c'∧H' = Z++H∧SlE (Z++H) a' cI 1 (l.map f)):=by
 refine (numbersO_specDr g f hg l a c H hl hb).mono ?_
 rintro v H' (⟨rfl,rfl,rfl⟩ | ⟨b,q,_,rfl,rfl⟩)
 ·exact ⟨none,0,[],rfl,rfl,sleNil⟩
 ·exact ⟨some ⟨b,0,none⟩,q,[_],rfl,rfl,SlE.ofRow (qH _) (fun _ _=>rfl)⟩
theorem numbersO_specWg (g : Nat) (f : Wg → Int) (hg : ∀ e H,Fc Tryz.prog g ([.agg (cDr e).toArray]++[]) H (fun v H' => v = .int .i64 (f e)∧H' = H)) (l : List Wg) (a : Option Addr) (c : Nat) (H : List Row) (hl : SlE H a cDr 4 l) (hb : l.length ≤ 1000000) :
  Fc Tryz.prog 128 [.slice a l.length c,.func (.func g) #[] #[]] H (fun v H' => (l = []∧v = .slice none 0 0∧H' = H) ∨ ∃ b q,l ≠ []∧v = .slice (some ⟨b,0,none⟩) (l.map f).length q∧H' = ⟨b,0,(l.map f).flatMap cI,some 3,q * 1⟩::H):=by
 refine Fc.mk (callable Tryz.call128) Tryz.func128 rfl Tryz.ntmps128 rfl ?_;dsimp only [fr]
 repeat' (first | (refine uP rfl ?_;(first | ((first | refine uN rfl ?_);(first | (refine uE (uM rfl rfl) rfl rfl ?_)|(refine uE (uA rfl rfl) rfl rfl ?_)|(refine uE (uQ rfl rfl rfl rfl) rfl rfl ?_)|(refine uE (uF rfl rfl (te rfl) rfl (te rfl) (by decide)) rfl rfl ?_)|(refine uE (uY rfl rfl (te rfl)) rfl rfl ?_)|(refine uE (uL rfl rfl (uO (te rfl) rfl (qH _) rfl)) rfl rfl ?_)|(refine Xg.st (StF.boxAgg rfl rfl) rfl rfl ?_;rintro _ _ ⟨bx,rfl,rfl⟩)))))|(refine uD rfl ?_;refine hK _ _ ?_;clear hK K) | refine uS rfl ?_ | refine uR rfl (fun K hK=>?_) | refine X.block rfl ?_ | (refine X.brk rfl ?_;repeat (first | refine blockX_hit rfl ?_ | refine blockX_miss (by decide) ?_)) | refine X.skip rfl ?_ | refine X.ret rfl ?_ | (refine X.ite rfl rfl (fun hc=>?_);(first | (with_reducible refine Xb.case hc (fun h=>?_) (fun h=>?_))) <;> clear hc))
 refine X.lp rfl (fun q F' H' => ∃ (k : Nat) (out : Value) (Z : List Row),q = l.length - k∧k ≤ l.length∧((k = 0∧out = .slice none 0 0∧Z = []) ∨ ∃ b q,0 < k∧out = .slice (some ⟨b,0,none⟩) k q∧Z = [⟨b,0,((l.take k).map f).flatMap cI,some 3,q * 1⟩])∧Z++H = H' ∧
   F' = [(1,.func (.func g) #[] #[]),(5,out),(8,.slice a l.length c),(9,.int .i64 l.length),(10,.int .i64 k)])
  l.length [(1,.func (.func g) #[] #[]),(5,.slice none 0 0),(8,.slice a l.length c),(9,.int .i64 l.length),(10,.int .i64 (0 : Nat))] _ (by repeat (first | exact uU _ | refine uV rfl ?_)) (by repeat (first | exact qR _ | apply qK | apply qC)) ⟨0,_,[],by omega,by omega,.inl ⟨rfl,rfl,rfl⟩,rfl,rfl⟩ ?_
 rintro _ _ H2 ⟨k,out,Z,rfl,hk,⟨rfl,rfl,rfl⟩ | ⟨b0,q0,hk0,rfl,rfl⟩,hH,rfl⟩
 ·rw [List.nil_append] at hH
  subst hH
  repeat' (first | (refine uP rfl ?_;(first | ((first | refine uN rfl ?_);(first | (refine uE (uM rfl rfl) rfl rfl ?_)|(refine uE (uA rfl rfl) rfl rfl ?_)|(refine uE (uQ rfl rfl rfl rfl) rfl rfl ?_)|(refine uE (uF rfl rfl (te rfl) rfl (te rfl) (by decide)) rfl rfl ?_)|(refine uE (uY rfl rfl (te rfl)) rfl rfl ?_)|(refine uE (uL rfl rfl (uO (te rfl) rfl (qH _) rfl)) rfl rfl ?_)|(refine Xg.st (StF.boxAgg rfl rfl) rfl rfl ?_;rintro _ _ ⟨bx,rfl,rfl⟩)))))|(refine uD rfl ?_;refine hK _ _ ?_;clear hK K) | refine uS rfl ?_ | refine uR rfl (fun K hK=>?_) | refine X.block rfl ?_ | (refine X.brk rfl ?_;repeat (first | refine blockX_hit rfl ?_ | refine blockX_miss (by decide) ?_)) | refine X.skip rfl ?_ | refine X.ret rfl ?_ | (refine X.ite rfl rfl (fun hc=>?_);(first | (with_reducible refine Xb.case hc (fun h=>?_) (fun h=>?_))) <;> clear hc))
  ·obtain ⟨b,off,e,rfl,he⟩:=hl.elem (i:=0) (by omega)
   repeat' (first | (refine uP rfl ?_;(first | ((first | refine uN rfl ?_);(first | (refine uE (uL rfl rfl (LoadV.elA0 hl he (te rfl) rfl (fun _ hm=>hm) rfl)) rfl rfl ?_)|(refine uC (EnF.dyn0 rfl rfl (by (repeat (first | exact Args.nil | refine Args.cons rfl ?_));done)) rfl rfl (hg _ _) ?_;rintro _ H9 ⟨rfl,hH9⟩;subst H9)|(refine Xg.st (StF.buildOne rfl el55 rfl rfl rfl (by decide) (by decide)) rfl rfl ?_;rintro _ _ ⟨bs,rfl,rfl⟩)|(refine Xg.st (StF.appendNew rfl el55 rfl rfl (by decide) rfl (Rd.own (qH _)) (by decide)) rfl rfl ?_;rintro _ _ ⟨bn,kn,rfl,rfl⟩)|(refine uE (uM rfl rfl) rfl rfl ?_)|(refine uE (uA rfl rfl) rfl rfl ?_)|(refine uE (EvF.add64 rfl rfl rfl (by omega) (by omega)) rfl rfl ?_)|(refine uE (uJ rfl rfl rfl (te rfl) (te rfl) (by omega) (by omega)) rfl rfl ?_)|(refine uE (uL rfl rfl (uW (te rfl) rfl (qH _) rfl)) rfl rfl ?_)|(refine Xg.st (StF.alloc rfl Tryz.zeroValue38 rfl) rfl rfl ?_;rintro _ _ ⟨bx,rfl,rfl⟩)|(refine Xg.st0 (uZ (i:=0) rfl rfl rfl (te rfl) rfl rfl rfl rfl) rfl ?_;rintro _ _ ⟨rfl,rfl⟩;dsimp only [List.set])))))|(refine uD rfl ?_;refine hK _ _ ?_;clear hK K) | refine uR rfl (fun K hK=>?_))
   refine ⟨_,_,_,(by repeat (first | exact uU _ | refine uV rfl ?_)),?_,⟨0 + 1,_,[⟨bn,0,((l.take (0 + 1)).map f).flatMap cI,some 3,kn * 1⟩],rfl,by omega,.inr ⟨_,_,by omega,rfl,rfl⟩,rfl,rfl⟩,by omega⟩
   rw [take_snoc he]
   exact (by repeat (first | exact qR _ | apply qK | apply qC))
  ·obtain rfl : l = []:=List.eq_nil_of_length_eq_zero (by omega)
   exact ret_one (by simp) Tryz.results128 rfl (H' := H) (by repeat (first | exact qR _ | apply qK | apply qC)) (.inl ⟨rfl,rfl,rfl⟩)
 ·have hlen : (((l.take k).map f).flatMap cI).length = k * 1:=by rw [lenI,List.length_map,List.length_take];omega
  simp only [List.cons_append,List.nil_append] at hH
  subst hH
  repeat' (first | (refine uP rfl ?_;(first | ((first | refine uN rfl ?_);(first | (refine uE (uM rfl rfl) rfl rfl ?_)|(refine uE (uA rfl rfl) rfl rfl ?_)|(refine uE (uQ rfl rfl rfl rfl) rfl rfl ?_)|(refine uE (uF rfl rfl (te rfl) rfl (te rfl) (by decide)) rfl rfl ?_)|(refine uE (uY rfl rfl (te rfl)) rfl rfl ?_)|(refine uE (uL rfl rfl (uO (te rfl) rfl (qH _) rfl)) rfl rfl ?_)|(refine Xg.st (StF.boxAgg rfl rfl) rfl rfl ?_;rintro _ _ ⟨bx,rfl,rfl⟩)))))|(refine uD rfl ?_;refine hK _ _ ?_;clear hK K) | refine uS rfl ?_ | refine uR rfl (fun K hK=>?_) | refine X.block rfl ?_ | (refine X.brk rfl ?_;repeat (first | refine blockX_hit rfl ?_ | refine blockX_miss (by decide) ?_)) | refine X.skip rfl ?_ | refine X.ret rfl ?_ | (refine X.ite rfl rfl (fun hc=>?_);(first | (with_reducible refine Xb.case hc (fun h=>?_) (fun h=>?_))) <;> clear hc))
  ·obtain ⟨b,off,e,rfl,he⟩:=hl.elem (i:=k) (by omega)
   have hl1 : ∀ r,SlE (r::H) (some ⟨b,off,none⟩) cDr 4 l:=fun r=>hl.sub (fun _ h=>List.mem_cons_of_mem _ h)
   repeat' (first | (refine uP rfl ?_;(first | ((first | refine uN rfl ?_);(first | (refine uE (uL rfl rfl (LoadV.elA0 (hl1 _) he (te rfl) rfl (fun _ hm=>hm) rfl)) rfl rfl ?_)|(refine uC (EnF.dyn0 rfl rfl (by (repeat (first | exact Args.nil | refine Args.cons rfl ?_));done)) rfl rfl (hg _ _) ?_;rintro _ H9 ⟨rfl,hH9⟩;subst H9)|(refine Xg.st (StF.buildOne rfl el55 rfl rfl rfl (by decide) (by decide)) rfl rfl ?_;rintro _ _ ⟨bs,rfl,rfl⟩)|(refine Xg.st (StF.appendOwn (i:=2) rfl el55 rfl rfl rfl hlen rfl (Rd.own (qH _)) rfl (by omega)) rfl rfl ?_;rintro _ _ ⟨bn,kn,rfl,rfl⟩;dsimp only [List.eraseIdx])|(refine uE (uM rfl rfl) rfl rfl ?_)|(refine uE (uA rfl rfl) rfl rfl ?_)|(refine uE (EvF.add64 rfl rfl rfl (by omega) (by omega)) rfl rfl ?_)|(refine uE (uJ rfl rfl rfl (te rfl) (te rfl) (by omega) (by omega)) rfl rfl ?_)|(refine uE (uL rfl rfl (uW (te rfl) rfl (qH _) rfl)) rfl rfl ?_)|(refine Xg.st (StF.alloc rfl Tryz.zeroValue38 rfl) rfl rfl ?_;rintro _ _ ⟨bx,rfl,rfl⟩)|(refine Xg.st0 (uZ (i:=0) rfl rfl rfl (te rfl) rfl rfl rfl rfl) rfl ?_;rintro _ _ ⟨rfl,rfl⟩;dsimp only [List.set])))))|(refine uD rfl ?_;refine hK _ _ ?_;clear hK K) | refine uR rfl (fun K hK=>?_))
   refine ⟨_,_,_,(by repeat (first | exact uU _ | refine uV rfl ?_)),?_,⟨k + 1,_,[⟨bn,0,((l.take (k + 1)).map f).flatMap cI,some 3,kn * 1⟩],rfl,by omega,.inr ⟨_,_,by omega,rfl,rfl⟩,rfl,rfl⟩,by omega⟩
   rw [take_snoc he,List.map_append,List.flatMap_append]
   exact (by repeat (first | exact qR _ | apply qK | apply qC))
  ·obtain rfl : k = l.length:=by omega
   rw [List.take_length]
   refine ret_one (by simp) Tryz.results128 rfl (H' := ⟨b0,0,(l.map f).flatMap cI,some 3,q0 * 1⟩::H) (by repeat (first | exact qR _ | apply qK | apply qC)) (.inr ⟨b0,q0,(fun e=>by rw [e] at hk0;exact absurd hk0 (Nat.lt_irrefl 0)),by rw [List.length_map],rfl⟩)
theorem numbersF_specWg (g : Nat) (f : Wg → Int) (hg : ∀ e H,Fc Tryz.prog g ([.agg (cDr e).toArray]++[]) H (fun v H' => v = .int .i64 (f e)∧H' = H)) (l : List Wg) (a : Option Addr) (c : Nat) (H : List Row) (hl : SlE H a cDr 4 l) (hb : l.length ≤ 1000000) :
  Fc Tryz.prog 128 [.slice a l.length c,.func (.func g) #[] #[]] H (fun v H' => ∃ a' c' Z,v = .slice a' (l.map f).length c'∧H' = Z++H∧SlE (Z++H) a' cI 1 (l.map f)):=by
 refine (numbersO_specWg g f hg l a c H hl hb).mono ?_
 rintro v H' (⟨rfl,rfl,rfl⟩ | ⟨b,q,_,rfl,rfl⟩)
 ·exact ⟨none,0,[],rfl,rfl,sleNil⟩
 ·exact ⟨some ⟨b,0,none⟩,q,[_],rfl,rfl,SlE.ofRow (qH _) (fun _ _=>rfl)⟩
end Go.Proofs.YtbpcbdbclijomaaGreat
namespace Go.Fw
open Go Go.RowKit
section
variable {P : Program} {n : Nat} {ops : Array Oper} {i : Nat} {o : Oper} {F : FS} {H : List Row}
theorem add_zero' (a : Addr) : a.add 0 = a:=by unfold Addr.add;simp
/-- where the rest of a slice from some element on lies -/
def sfrom (a : Option Addr) (cap lo sz : Nat) : Option Addr:=if cap = lo then a else a.map (·.add (lo * sz))
theorem EvF.sliceTo {T e : TypeId} {x q : Operand} {a : Option Addr} {len cap hh s y : Nat} {kk : IntKind} {ti : TI} (h : o.op = .slice T x none (some q) none) (hx : evF F x = some (.slice a len cap)) (hT : tiOf P T = some ⟨.sl e,s,y⟩) (he : tiOf P e = some ti) (hq : evF F q = some (.int kk (hh : Int))) (h1 : hh ≤ cap) :
  EvF P n H F o (.slice a hh cap):=by
 unfold EvF EvOp
 intro t ha B w0 w hS
 have hu:=ti_slice hT
 have hsz:=ti_size he w
 have hxv:=ha.ev hx
 have hqv:=ha.ev hq
 have hbd : (Instr.sliceBounds true len cap none (some (.int kk (hh : Int))) none).run P w = .ok (0,hh,cap) w:=by
  simp [Instr.sliceBounds,Instr.sliceBound,asIntOf,h1]
 have e1 : (if cap = 0 then a else Option.map (fun x=>x.add (0 * ti.size)) a)=a:=by
  split
  ·rfl
  ·cases a <;> simp [add_zero']
 simp only [Nat.zero_mul] at e1
 simp [execOp,h,hxv,hqv,Instr.sliceAt,Instr.slice,underlying,hu,hbd,hsz,e1]
theorem EvF.sliceFrom {T e : TypeId} {x q : Operand} {a : Option Addr} {len cap lo s y : Nat} {kk : IntKind} {ti : TI} (h : o.op = .slice T x (some q) none none) (hx : evF F x = some (.slice a len cap)) (hT : tiOf P T = some ⟨.sl e,s,y⟩) (he : tiOf P e = some ti) (hq : evF F q = some (.int kk (lo : Int))) (h1 : lo ≤ len) (_h2 : len ≤ cap) :
  EvF P n H F o (.slice (sfrom a cap lo ti.size) (len - lo) (cap - lo)):=by
 unfold EvF EvOp
 intro t ha B w0 w hS
 have hu:=ti_slice hT
 have hsz:=ti_size he w
 have hxv:=ha.ev hx
 have hqv:=ha.ev hq
 have hbd : (Instr.sliceBounds true len cap (some (.int kk (lo : Int))) none none).run P w = .ok (lo,len,cap) w:=by
  simp [Instr.sliceBounds,Instr.sliceBound,asIntOf,h1]
 simp [execOp,h,hxv,hqv,Instr.sliceAt,Instr.slice,underlying,hu,hbd,hsz,sfrom]
theorem sfrom_lt {b off cap lo sz : Nat} (h : lo < cap) : sfrom (some ⟨b,off,none⟩) cap lo sz = some ⟨b,off + lo * sz,none⟩:=by
 unfold sfrom
 rw [if_neg (by omega)]
 simp [add_none]
theorem EvF.sliceFromL {T e : TypeId} {x q : Operand} {b off len cap lo s y : Nat} {kk : IntKind} {ti : TI} (h : o.op = .slice T x (some q) none none) (hx : evF F x = some (.slice (some ⟨b,off,none⟩) len cap)) (hT : tiOf P T = some ⟨.sl e,s,y⟩) (he : tiOf P e = some ti) (hq : evF F q = some (.int kk (lo : Int))) (h1 : lo ≤ len) (h2 : len ≤ cap) (h3 : lo < cap) :
  EvF P n H F o (.slice (some ⟨b,off + lo * ti.size,none⟩) (len - lo) (cap - lo)):=by
 have:=EvF.sliceFrom (P:=P) (n:=n) (H:=H) h hx hT he hq h1 h2
 rwa [sfrom_lt h3] at this
theorem sleFrom {α : Type} {a : Option Addr} {enc : α → List Value} {sz cap : Nat} {l : List α} (h : SlE H a enc sz l) (hc : l.length ≤ cap) (k : Nat) : SlE H (sfrom a cap k sz) enc sz (l.drop k):=by
 unfold SlE at h ⊢
 refine ⟨fun e he=>h.1 e (List.mem_of_mem_drop he),fun hk=>?_⟩
 rw [List.length_drop] at hk
 obtain ⟨b,off,rfl,r,j0,hr,hb,ho,hcl⟩:=h.2 (by omega)
 refine ⟨b,off + k * sz,sfrom_lt (by omega),r,j0 + k * sz,hr,hb,by omega,fun i e j v hi hj=>?_⟩
 rw [List.getElem?_drop] at hi
 have:=hcl (k + i) e j v hi hj
 rw [← this]
 congr 1
 rw [Nat.add_mul];omega
theorem sleTake {α : Type} {a : Option Addr} {enc : α → List Value} {sz : Nat} {l : List α} (h : SlE H a enc sz l) (k : Nat) : SlE H a enc sz (l.take k):=by
 unfold SlE at h ⊢
 refine ⟨fun e he=>h.1 e (List.mem_of_mem_take he),fun hk=>?_⟩
 rw [List.length_take] at hk
 obtain ⟨b,off,ha,r,j0,hr,hb,ho,hc⟩:=h.2 (by omega)
 refine ⟨b,off,ha,r,j0,hr,hb,ho,fun i e j v hi hj=>hc i e j v ?_ hj⟩
 rw [List.getElem?_take] at hi
 split at hi
 ·exact hi
 ·cases hi
theorem XO.forget {N : FS → List Row → Prop} {q b cap : Nat} {el : TypeId} {cs cs' : List Value} (hi : H[q]? = some ⟨b,0,cs++cs',some el,cap⟩) (k : XO P n ops i F (H.set q ⟨b,0,cs,some el,cap⟩) N) : XO P n ops i F H N:=by
 unfold XO WO at *
 intro t ha ρ ds B w0 w hS
 exact k t ha ρ ds B w0 w (hS.forget hi)
/-- rows in another order -/
theorem X.permH {c : Code} {Q : QX} {H' : List Row} (hp : H'.Perm H) (k : X P n c F H' Q) : X P n c F H Q:=by
 unfold X W at *
 intro t ha ρ ds B w0 w hS
 exact k t ha ρ ds B w0 w (hS.perm hp)
/-- a piece of a row can be read -/
theorem Rd.piece {b j cap : Nat} {xs ys zs : List Value} {ow : Option Kd} (hr : ⟨b,0,xs++ys++zs,ow,cap⟩ ∈ H) (hj : xs.length = j) : Rd H ⟨b,0 + j,none⟩ ys:=by
 intro k v hk
 refine ⟨_,hr,j + k,rfl,rfl,by show 0 + (j + k)=0 + j + k;omega,?_⟩
 subst hj
 have hk' := (List.getElem?_eq_some_iff.1 hk).1
 rw [List.append_assoc,List.getElem?_append_right (by omega),Nat.add_sub_cancel_left,List.getElem?_append_left hk']
 exact hk
theorem splice_at {xs ys zs vs : List Value} {j : Nat} (hj : xs.length = j) (hv : vs.length = ys.length) : splice (xs++ys++zs) j vs = xs++vs++zs:=by
 subst hj
 unfold splice
 rw [hv]
 rw [show List.take xs.length (xs++ys++zs)=xs by rw [List.append_assoc];exact List.take_left]
 rw [show List.drop (xs.length + ys.length) (xs++ys++zs)=zs by rw [← List.length_append];exact List.drop_left]
/-- a table of a region whose last operation alone does something: nothing is drawn -/
def valL (vs : List Value) (k : Nat) (_ : Env) : Value:=vs.getD k undef
def rowsL (m : Nat) (new old : Row) (k : Nat) (_ : Env) : List Row:=match Nat.beq k m with
 | true=>[new]
 | false=>match Nat.beq k (m + 1) with
  | true=>[old]
  | false=>[]
end
section
variable {P : Program} {n : Nat} {ops : Array Oper} {i : Nat} {o : Oper} {F : FS} {H : List Row}
theorem EvF.mul64 {T T' : TypeId} {x y : Operand} {p q : Int} (h : o.op = .binOp .mul T x y T') (hx : evF F x = some (.int .i64 p)) (hy : evF F y = some (.int .i64 q))
  (h1 : -9223372036854775808 ≤ p * q) (h2 : p * q ≤ 9223372036854775807) : EvF P n H F o (.int .i64 (p * q)):=by
 have:=EvF.arith (P:=P) (n:=n) (H:=H) (r:=IntKind.i64.wrap (p * q)) h hx hy rfl
 rwa [wrap_i64 h1 h2] at this
/-- division of what is not below zero, rounded down -/
theorem EvF.quo64 {T T' : TypeId} {x y : Operand} {p q : Int} (h : o.op = .binOp .quo T x y T') (hx : evF F x = some (.int .i64 p)) (hy : evF F y = some (.int .i64 q))
  (h0 : 0 ≤ p) (h2 : p ≤ 9223372036854775807) (hq : 0 < q) : EvF P n H F o (.int .i64 (p / q)):=by
 unfold EvF EvOp
 intro t ha B w0 w hS
 have e : p.tdiv q = p / q:=Int.tdiv_eq_ediv_of_nonneg h0
 have h3 : 0 ≤ p / q:=Int.ediv_nonneg h0 (by omega)
 have h4 : p / q ≤ p:=Int.ediv_le_self _ h0
 have hw:=wrap_i64 (n:=p / q) (by omega) (by omega)
 have hz : ¬ q = 0:=by omega
 simp [execOp,h,ha.ev hx,ha.ev hy,eqGuard,binOp,Op.intDiv,hz,e,hw]
theorem EvF.nilCheck {x : Operand} {a : Addr} (h : o.op = .nilCheck x) (hx : evF F x = some (.pointer (some a))) : EvF P n H F o (.pointer (some a)):=by
 unfold EvF EvOp
 intro t ha B w0 w hS
 simp [execOp,h,ha.ev hx]
theorem EvF.cmpB {op : BinOp} {T T' : TypeId} {x y : Operand} {p q b : Bool} (h : o.op = .binOp op T x y T') (hx : evF F x = some (.bool p)) (hy : evF F y = some (.bool q)) (hu : P.underlying T = some .bool)
  (hb : (match op with | .eql=>some (p == q) | .neq=>some (!(p == q)) | _=>none)=some b) : EvF P n H F o (.bool b):=by
 unfold EvF EvOp
 intro t ha B w0 w hS
 have e1:=ha.ev hx
 have e2:=ha.ev hy
 have e3:=run_equalIn_bool (P:=P) w 9999 T p q hu
 cases op <;> simp only [Option.some.injEq,reduceCtorEq] at hb <;> subst hb <;> simp [execOp,h,e1,e2,eqGuard,binOp,Op.equal,Op.maxDepth,e3]
theorem EvF.buildArr {T e : TypeId} {l : List (Nat × Operand)} {vs : List (Nat × Value)} {len s y : Nat} {ti : TI} {zs cs : List Value} (h : o.op = .build T l.toArray) (hv : ArgsP F l vs) (hT : tiOf P T = some ⟨.ar len e,s,y⟩) (he : tiOf P e = some ti)
  (hz : ∀ w,(zeroValue T).run P w = .ok (.agg zs.toArray) w) (hf : fillL (fun i=>some (i * ti.size,ti.size)) zs vs = some cs) : EvF P n H F o (.agg cs.toArray):=by
 unfold EvF EvOp
 intro t ha B w0 w hS
 have hu:=ti_array hT
 have h2:=fill_eq (fun i=>some (i * ti.size,ti.size)) vs zs.toArray cs (by simpa using hf)
 have h3:=hv.ev ha
 have h5:=ti_size he w
 have h6 : l.map (fun x=>(x.1,Fw.ev t x.2)) = vs:=h3
 simp [execOp,h,Instr.build,hz,underlying,hu,h5,Value.cells,h6,h2]
/-- an array of one's own, sliced up to some element -/
theorem EvF.sliceArr {T e : TypeId} {x q : Operand} {b off len hh s y : Nat} {kk : IntKind} {ti : TI} (h : o.op = .slice T x none (some q) none) (hx : evF F x = some (.pointer (some ⟨b,off,none⟩))) (hT : tiOf P T = some ⟨.ar len e,s,y⟩) (he : tiOf P e = some ti) (hq : evF F q = some (.int kk (hh : Int))) (h1 : hh ≤ len) :
  EvF P n H F o (.slice (some ⟨b,off,none⟩) hh len):=by
 unfold EvF EvOp
 intro t ha B w0 w hS
 have hu:=ti_array hT
 have hsz:=ti_size he w
 have hxv:=ha.ev hx
 have hqv:=ha.ev hq
 have hbd : (Instr.sliceBounds false len len none (some (.int kk (hh : Int))) none).run P w = .ok (0,hh,len) w:=by
  simp [Instr.sliceBounds,Instr.sliceBound,asIntOf,h1]
 simp [execOp,h,hxv,hqv,Instr.sliceAt,Instr.sureAddr,underlying,hu,hbd,hsz,add_none]
end
section
variable {P : Program} {n : Nat} {c : Code} {F : FS} {H : List Row} {Q : QX}
abbrev ngX (Q : QX) : QX
 | .goto _,_,_=>False
 | e,F,H=>Q e F H
theorem X.label {l : Nat} (h : c = .label l) (hq : Q .normal F H) : X P n c F H Q:=by
 unfold X W
 intro t ha ρ ds B w0 w hS
 subst h
 exact wpIn_label ⟨rfl,H,⟨F,by simpa using ha,hq⟩,hS⟩
theorem wpIn_scope_straight {F : Fence} {n : Nat} {P : Program} {Q : Exit → Act → World → Prop} {a : Act} {w : World} {c : Code} (h : c.wpIn F n P (Exit.noGoto Q) a w) : (Code.scope c).wpIn F n P Q a w:=by
 intro b k cs hro hb hr
 obtain ⟨e,a₁,w₁,hq,harr⟩:=h b (.inScope c::k) cs hro hb hr
 have h0 : (lone (b.atR a (.code (.scope c)::k)) cs w).fenced P F:=fenced_calm hb hr rfl
 have hs : step P (lone (b.atR a (.code (.scope c)::k)) cs w) = .next (lone (b.atR a (.code c :: .inScope c::k)) cs w) :=
  step_lone_go (by simp [stepG,stepG.exec,Frame.atR])
 cases e with
 | normal=>exact ⟨.normal,a₁,w₁,hq,.head h0 hs (StepsIn.trans harr (.one (fenced_calm hb hr rfl) (step_lone_go (by simp [stepG,stepG.exec,Frame.atR]))))⟩
 | exit id =>
  exact ⟨.exit id,a₁,w₁,hq,(fun k' hk => .head h0 hs (harr.1 k' (by simpa [exitTo] using hk))),
   (fun hr' hk=>let ⟨k₁,h1,h2⟩:=harr.2 hr' (by simpa [exitTo] using hk); ⟨k₁,h1,.head h0 hs h2⟩)⟩
 | goto l=>exact hq.elim
 | ret=>exact ⟨_,a₁,w₁,hq,.of_steps (.one h0 hs) harr⟩
 | panic ch=>exact ⟨_,a₁,w₁,hq,.of_steps (.one h0 hs) harr⟩
 | outgrown=>exact ⟨_,a₁,w₁,hq,.of_steps (.one h0 hs) harr⟩
theorem X.scope (h : c = .scope (cfst c)) (hx : X P n (cfst c) F H (ngX Q)) : X P n c F H Q:=by
 unfold X W at hx ⊢
 intro t ha ρ ds B w0 w hS
 rw [h]
 refine wpIn_scope_straight (wpIn_mono (hx t ha ρ ds B w0 w hS) ?_)
 rintro e a w' ⟨hd,H',⟨F',ha',hq⟩,hS'⟩
 cases e with
 | goto l=>exact hq.elim
 | _=>exact ⟨hd,H',⟨F',ha',hq⟩,hS'⟩
end
end Go.Fw
namespace Go.Proofs.YtbpcbdbclijomaaGreat
open Go Go.Fw
set_option maxRecDepth 10000
theorem clone_specDr (l : List Dr) (ad : Addr) (c : Nat) (H : List Row) (hl : SlE H (some ad) cDr 4 l) (hb : l.length ≤ 1000000) :
  Fc Tryz.prog 70 [.slice (some ad) l.length c] H (fun v H' => ∃ b k,v = .slice (some ⟨b,0,none⟩) l.length k∧H' = ⟨b,0,l.flatMap cDr,some 38,k * 4⟩::H):=by
 refine Fc.mk (callable Tryz.call70) Tryz.func70 rfl Tryz.ntmps70 rfl ?_;dsimp only [fr]
 repeat' (first | (refine uP rfl ?_;(first | ((first | refine uN rfl ?_);(first | (refine uE (EvF.eqNil rfl rfl (te rfl)) rfl rfl ?_)|(refine Xg.st (StF.buildNil rfl elDr) rfl rfl ?_;rintro _ _ ⟨bn,rfl,rfl⟩)|(refine Xg.st (StF.appendSl (i:=0) rfl elDr rfl rfl rfl (hl.sub (fun _ h=>List.mem_cons_of_mem _ h)) (fun e _=>one_dr e) rfl (by decide) (by omega)) rfl rfl ?_;rintro _ _ ⟨b,k,rfl,rfl⟩;dsimp only [List.eraseIdx])|(refine uE (uM rfl rfl) rfl rfl ?_)|(refine uE (uA rfl rfl) rfl rfl ?_)))))|(refine uD rfl ?_;refine hK _ _ ?_;clear hK K) | refine uS rfl ?_ | refine uR rfl (fun K hK=>?_) | refine X.skip rfl ?_ | refine X.ret rfl ?_ | (refine X.ite rfl rfl (fun hc=>?_);(first | (with_reducible refine Xb.f hc ?_)) <;> clear hc))
 exact ret_one (by simp) Tryz.results70 rfl (H' := _) (qR _) ⟨_,_,by rw [Nat.zero_add],rfl⟩
theorem clone_specWg (l : List Wg) (ad : Addr) (c : Nat) (H : List Row) (hl : SlE H (some ad) cDr 4 l) (hb : l.length ≤ 1000000) :
  Fc Tryz.prog 69 [.slice (some ad) l.length c] H (fun v H' => ∃ b k,v = .slice (some ⟨b,0,none⟩) l.length k∧H' = ⟨b,0,l.flatMap cDr,some 41,k * 4⟩::H):=by
 refine Fc.mk (callable Tryz.call69) Tryz.func69 rfl Tryz.ntmps69 rfl ?_;dsimp only [fr]
 repeat' (first | (refine uP rfl ?_;(first | ((first | refine uN rfl ?_);(first | (refine uE (EvF.eqNil rfl rfl (te rfl)) rfl rfl ?_)|(refine Xg.st (StF.buildNil rfl elWg) rfl rfl ?_;rintro _ _ ⟨bn,rfl,rfl⟩)|(refine Xg.st (StF.appendSl (i:=0) rfl elWg rfl rfl rfl (hl.sub (fun _ h=>List.mem_cons_of_mem _ h)) (fun e _=>one_dr e) rfl (by decide) (by omega)) rfl rfl ?_;rintro _ _ ⟨b,k,rfl,rfl⟩;dsimp only [List.eraseIdx])|(refine uE (uM rfl rfl) rfl rfl ?_)|(refine uE (uA rfl rfl) rfl rfl ?_)))))|(refine uD rfl ?_;refine hK _ _ ?_;clear hK K) | refine uS rfl ?_ | refine uR rfl (fun K hK=>?_) | refine X.skip rfl ?_ | refine X.ret rfl ?_ | (refine X.ite rfl rfl (fun hc=>?_);(first | (with_reducible refine Xb.f hc ?_)) <;> clear hc))
 exact ret_one (by simp) Tryz.results69 rfl (H' := _) (qR _) ⟨_,_,by rw [Nat.zero_add],rfl⟩
theorem filter_snoc_tDr {p : Dr → Bool} {l : List Dr} {j : Nat} {e : Dr} (he : l[j]? = some e) (hp : p e = true) : (l.take (j + 1)).filter (fun e => !p e)=(l.take j).filter (fun e => !p e):=by
 rw [take_snoc he,List.filter_append];simp [hp]
theorem filter_snoc_fDr {p : Dr → Bool} {l : List Dr} {j : Nat} {e : Dr} (he : l[j]? = some e) (hp : p e = false) : (l.take (j + 1)).filter (fun e => !p e)=(l.take j).filter (fun e => !p e)++[e]:=by
 rw [take_snoc he,List.filter_append];simp [hp]
theorem honeDr (z : Value) (w : World) (h : (zeroValue 38).run Tryz.prog w = .ok z w) : z.cells.all (·.oneCell') = true:=by
 rw [Tryz.zeroValue38] at h
 cases h
 first | decide | simp [Value.cells,Value.oneCell'] | kernel_rfl
set_option maxHeartbeats 4000000 in
theorem deleteFunc_specDr (l : List Dr) (b c g : Nat) (p : Dr → Bool) (cap : List Value) (H : List Row) (hb : l.length ≤ 1000000) (hf : ∀ Z,∀ e ∈ l,Fc Tryz.prog g ([.agg (cDr e).toArray]++cap) (Z++H) (fun v H' => v = .bool (p e)∧H' = Z++H)) :
  Fc Tryz.prog 114 [.slice (some ⟨b,0,none⟩) l.length c,.func (.func g) #[] cap.toArray] (⟨b,0,l.flatMap cDr,some 38,c * 4⟩::H)
   (fun v H' => v = .slice (some ⟨b,0,none⟩) (l.filter (fun e => !p e)).length c∧H' = ⟨b,0,(l.filter (fun e => !p e)).flatMap cDr,some 38,c * 4⟩::H):=by
 have hlen:=lenDr l
 refine Fc.mk (callable Tryz.call114) Tryz.func114 rfl Tryz.ntmps114 rfl ?_;dsimp only [fr]
 refine X.reveal (q:=0) rfl (fun rest hrest=>?_)
 refine X.forget (q:=0) (cs:=l.flatMap cDr) (cs' := rest) rfl ?_
 dsimp only [List.set]
 have hlc : l.length ≤ c:=by
  rw [List.length_append,hlen] at hrest
  omega
 clear hrest
 repeat' (first | (refine uP rfl ?_;(first | ((first | refine uN rfl ?_);(first | (refine uC (uT rfl (by (repeat (first | exact Args.nil | refine Args.cons rfl ?_));done)) rfl rfl (indexFunc_specDr l _ _ g p cap _ (SlE.ofRow (qH _) (fun _ _=>rfl)) (by omega) (fun e he=>hf [_] e he)) ?_;rintro _ H9 ⟨⟨z,rfl,hz⟩,hH9⟩;subst H9;rcases hz with ⟨rfl,hz⟩ | ⟨k,e0,rfl,he0,hp0,hz⟩;rotate_left;have hk0:=(List.getElem?_eq_some_iff.1 he0).1;rotate_right)|(refine uE (uM rfl rfl) rfl rfl ?_)|(refine uE (uA rfl rfl) rfl rfl ?_)|(refine uE (uQ rfl rfl rfl rfl) rfl rfl ?_)|(refine uE (EvF.add64 rfl rfl rfl (by omega) (by omega)) rfl rfl ?_)))))|(refine uD rfl ?_;refine hK _ _ ?_;clear hK K) | refine uS rfl ?_ | refine uR rfl (fun K hK=>?_) | refine X.block rfl ?_ | refine X.skip rfl ?_ | refine X.ret rfl ?_ | (refine X.ite rfl rfl (fun hc=>?_);(first | (with_reducible refine Xb.case hc (fun h=>?_) (fun h=>?_))) <;> clear hc))
 any_goals (exfalso;omega)
 ·have e1 : l.filter (fun e => !p e)=l:=List.filter_eq_self.2 (fun e he=>by simp [hz e he])
  refine ret_one (by simp) Tryz.results114 rfl (H' := ⟨b,0,l.flatMap cDr,some 38,c * 4⟩::H) (qR _) ?_
  rw [e1]
  exact ⟨rfl,rfl⟩
 have e1 : (l.take k).filter (fun e => !p e)=l.take k:=List.filter_eq_self.2 (fun e he=>by
  obtain ⟨i,hi⟩:=List.getElem?_of_mem he
  rw [List.getElem?_take] at hi
  split at hi
  ·simp [hz i e (by assumption) hi]
  ·cases hi)
 refine X.lp rfl (fun q F' H' => ∃ (i j : Nat) (M : List Value),q = l.length - j∧j ≤ l.length∧i < j∧i = ((l.take j).filter (fun e => !p e)).length∧M.length = (j - i) * 4 ∧
   ⟨b,0,((l.take j).filter (fun e => !p e)).flatMap cDr++M++(l.drop j).flatMap cDr,some 38,c * 4⟩::H = H' ∧
   F' = [(0,.slice (some ⟨b,0,none⟩) l.length c),(1,.func (.func g) #[] cap.toArray),(5,.int .i64 i),(6,.int .i64 j)])
  (l.length - (k + 1)) [(0,.slice (some ⟨b,0,none⟩) l.length c),(1,.func (.func g) #[] cap.toArray),(5,.int .i64 k),(6,.int .i64 (k + 1 : Nat))] _ (by repeat (first | exact uU _ | refine uV rfl ?_)) (qR _) ⟨k,k + 1,cDr e0,rfl,by omega,by omega,?_,?_,?_,rfl⟩ ?_
 ·rw [filter_snoc_tDr he0 hp0,e1,List.length_take];omega
 ·show 4 = _;omega
 ·rw [filter_snoc_tDr he0 hp0,e1]
  congr 2
  rw [show l.flatMap cDr = (l.take k++l.drop k).flatMap cDr by rw [List.take_append_drop],drop_cons he0,List.flatMap_append,List.flatMap_cons,List.append_assoc]
 rintro _ _ H2 ⟨i,j,M,rfl,hj,hij,hi,hM,hH,rfl⟩
 subst hH
 have hF : (((l.take j).filter (fun e => !p e)).flatMap cDr).length = i * 4:=by rw [lenDr, ← hi]
 repeat' (first | (refine uP rfl ?_;(first | ((first | refine uN rfl ?_);(first | (refine uE (uM rfl rfl) rfl rfl ?_)|(refine uE (uQ rfl rfl rfl rfl) rfl rfl ?_)|(refine uE (uY rfl rfl (te rfl)) rfl rfl ?_)|(refine uE (uJ rfl rfl rfl (te rfl) (te rfl) (by omega) (by omega)) rfl rfl ?_)))))|(refine uD rfl ?_;refine hK _ _ ?_;clear hK K) | refine uS rfl ?_ | refine uR rfl (fun K hK=>?_) | refine X.block rfl ?_ | (refine X.brk rfl ?_;repeat (first | refine blockX_hit rfl ?_ | refine blockX_miss (by decide) ?_)) | refine X.skip rfl ?_ | (refine X.ite rfl rfl (fun hc=>?_);(first | (with_reducible refine Xb.case hc (fun h=>?_) (fun h=>?_))) <;> clear hc))
 ·have hjl : j < l.length:=by omega
  obtain ⟨e,he⟩ : ∃ e,l[j]? = some e:=⟨_,List.getElem?_eq_getElem hjl⟩
  rw [drop_cons he,List.flatMap_cons]
  have hload : ((((l.take j).filter (fun e => !p e)).flatMap cDr++M++(cDr e++(l.drop (j + 1)).flatMap cDr)).drop (0 + (j : Int).toNat * 4)).take 4 = cDr e:=by
   rw [List.drop_left' (by rw [List.length_append,hF,hM];show _ = 0 + j * 4;omega)]
   exact List.take_left' rfl
  repeat' (first | (refine uP rfl ?_;(first | ((first | refine uN rfl ?_);(first | (refine uE (uL rfl rfl (LoadV.ownAgg (te rfl) rfl (qH _) hload rfl)) rfl rfl ?_)|(refine uC (EnF.dyn0 rfl rfl (by (repeat (first | exact Args.nil | refine Args.cons rfl ?_));done)) rfl rfl (hf [_,_] e (List.mem_of_getElem? he)) ?_;rintro _ H9 ⟨rfl,hH9⟩;subst H9)|(refine Xg.st0 (StF.storeAt (q:=1) rfl rfl rfl (te rfl) rfl rfl (one_dr e) (by rw [List.length_append,List.length_append,hF,hM];show 0 + i * 4 + 4 ≤ _;omega)) rfl ?_;rintro _ _ ⟨rfl,rfl⟩;dsimp only [List.set])|(refine uE (uM rfl rfl) rfl rfl ?_)|(refine uE (uA rfl rfl) rfl rfl ?_)|(refine uE (EvF.add64 rfl rfl rfl (by omega) (by omega)) rfl rfl ?_)|(refine uE (EvF.not rfl rfl) rfl rfl ?_)|(refine uE (uJ rfl rfl rfl (te rfl) (te rfl) (by omega) (by omega)) rfl rfl ?_)|(refine uE (uL rfl rfl (uW (te rfl) rfl (qH _) rfl)) rfl rfl ?_)|(refine Xg.st (StF.alloc rfl Tryz.zeroValue38 rfl) rfl rfl ?_;rintro _ _ ⟨bx,rfl,rfl⟩)|(refine Xg.st0 (uZ (i:=0) rfl rfl rfl (te rfl) rfl rfl rfl rfl) rfl ?_;rintro _ _ ⟨rfl,rfl⟩;dsimp only [List.set])))))|(refine uD rfl ?_;refine hK _ _ ?_;clear hK K) | refine uS rfl ?_ | refine uR rfl (fun K hK=>?_) | refine X.skip rfl ?_ | (refine X.ite rfl rfl (fun hc=>?_);(first | (with_reducible refine Xb.caseB hc (fun h=>?_) (fun h=>?_))) <;> clear hc))
  ·have hp : p e = false:=by simpa using h
   refine ⟨_,[(0,.slice (some ⟨b,0,none⟩) l.length c),(1,.func (.func g) #[] cap.toArray),(5,.int .i64 (i + 1 : Nat)),(6,.int .i64 (j + 1 : Nat))],_,(by repeat (first | exact uU _ | refine uV rfl ?_)),?_,⟨i + 1,j + 1,M.drop 4++cDr e,rfl,by omega,by omega,?_,?_,rfl,rfl⟩,by omega⟩
   ·rw [filter_snoc_fDr he hp,List.flatMap_append]
    have:=splice_at (xs:=((l.take j).filter (fun e => !p e)).flatMap cDr) (ys:=M.take 4) (zs:=M.drop 4++(cDr e++(l.drop (j + 1)).flatMap cDr)) (vs:=cDr e) (j:=0 + (i : Int).toNat * 4) (by rw [hF];show _ = 0 + i * 4;omega) (by rw [List.length_take,hM];show 4 = _;omega)
    rw [show ((l.take j).filter (fun e => !p e)).flatMap cDr++M.take 4++(M.drop 4++(cDr e++(l.drop (j + 1)).flatMap cDr)) = ((l.take j).filter (fun e => !p e)).flatMap cDr++M++(cDr e++(l.drop (j + 1)).flatMap cDr) by
     rw [List.append_assoc, ← List.append_assoc (M.take 4),List.take_append_drop,List.append_assoc]] at this
    rw [this]
    rw [show ((l.take j).filter (fun e => !p e)).flatMap cDr++cDr e++(M.drop 4++(cDr e++(l.drop (j + 1)).flatMap cDr)) = ((l.take j).filter (fun e => !p e)).flatMap cDr++[e].flatMap cDr++(M.drop 4++cDr e)++(l.drop (j + 1)).flatMap cDr by
     rw [List.flatMap_singleton];simp only [List.append_assoc]]
    exact (by repeat (first | exact qR _ | apply qK | apply qC))
   ·rw [filter_snoc_fDr he hp,List.length_append, ← hi];rfl
   ·rw [List.length_append,List.length_drop,hM];show _ + 4 = _;omega
  ·have hp : p e = true:=by simpa using h
   refine ⟨_,[(0,.slice (some ⟨b,0,none⟩) l.length c),(1,.func (.func g) #[] cap.toArray),(5,.int .i64 i),(6,.int .i64 (j + 1 : Nat))],_,(by repeat (first | exact uU _ | refine uV rfl ?_)),?_,⟨i,j + 1,M++cDr e,rfl,by omega,by omega,?_,?_,rfl,rfl⟩,by omega⟩
   ·rw [filter_snoc_tDr he hp,List.append_assoc,List.append_assoc,List.append_assoc]
    exact (by repeat (first | exact qR _ | apply qK | apply qC))
   ·rw [filter_snoc_tDr he hp];exact hi
   ·rw [List.length_append,hM];show _ + 4 = _;omega
 ·obtain rfl : j = l.length:=by omega
  rw [List.take_length] at hi hF ⊢
  rw [List.drop_length,List.flatMap_nil,List.append_nil]
  repeat' (first | (refine uP rfl ?_;(first | ((first | refine uN rfl ?_);(first | (refine uE (EvF.sliceFromL (lo:=i) rfl rfl (te rfl) (te rfl) rfl (by omega) (by omega) (by omega)) rfl rfl ?_)|(refine Xg.st0 (StF.clear (q:=0) rfl elDr rfl rfl (by rw [List.length_append,hF,hM];show 0 + i * 4 + _ ≤ _;omega) honeDr) rfl ?_;rintro _ _ ⟨zs,hzs,rfl⟩;dsimp only [List.set])|(refine uE (uM rfl rfl) rfl rfl ?_)))))|(refine uD rfl ?_;refine hK _ _ ?_;clear hK K) | refine uS rfl ?_ | refine uR rfl (fun K hK=>?_))
  have e2 : splice ((l.filter (fun e => !p e)).flatMap cDr++M) (0 + i * 4) zs = (l.filter (fun e => !p e)).flatMap cDr++zs:=by
   have:=splice_at (xs:=(l.filter (fun e => !p e)).flatMap cDr) (ys:=M) (zs:=[]) (vs:=zs) (j:=0 + i * 4) (by rw [hF];omega) (by rw [hzs,hM])
   rwa [List.append_nil,List.append_nil] at this
  rw [e2]
  refine XO.forget (q:=0) rfl ?_
  dsimp only [List.set]
  repeat' (first | (refine uP rfl ?_;(first | ((first | refine uN rfl ?_);(first | (refine uE (EvF.sliceTo (hh:=i) rfl rfl (te rfl) (te rfl) rfl (by omega)) rfl rfl ?_)|(refine uE (uA rfl rfl) rfl rfl ?_)))))|(refine uD rfl ?_;refine hK _ _ ?_;clear hK K) | refine X.ret rfl ?_)
  refine ret_one (by simp) Tryz.results114 rfl (H' := ⟨b,0,(l.filter (fun e => !p e)).flatMap cDr,some 38,c * 4⟩::H) (qR _) ⟨?_,rfl⟩
  rw [hi]
theorem filter_snoc_tWg {p : Wg → Bool} {l : List Wg} {j : Nat} {e : Wg} (he : l[j]? = some e) (hp : p e = true) : (l.take (j + 1)).filter (fun e => !p e)=(l.take j).filter (fun e => !p e):=by
 rw [take_snoc he,List.filter_append];simp [hp]
theorem filter_snoc_fWg {p : Wg → Bool} {l : List Wg} {j : Nat} {e : Wg} (he : l[j]? = some e) (hp : p e = false) : (l.take (j + 1)).filter (fun e => !p e)=(l.take j).filter (fun e => !p e)++[e]:=by
 rw [take_snoc he,List.filter_append];simp [hp]
theorem honeWg (z : Value) (w : World) (h : (zeroValue 41).run Tryz.prog w = .ok z w) : z.cells.all (·.oneCell') = true:=by
 rw [Tryz.zeroValue41] at h
 cases h
 first | decide | simp [Value.cells,Value.oneCell'] | kernel_rfl
set_option maxHeartbeats 4000000 in
theorem deleteFunc_specWg (l : List Wg) (b c g : Nat) (p : Wg → Bool) (cap : List Value) (H : List Row) (hb : l.length ≤ 1000000) (hf : ∀ Z,∀ e ∈ l,Fc Tryz.prog g ([.agg (cDr e).toArray]++cap) (Z++H) (fun v H' => v = .bool (p e)∧H' = Z++H)) :
  Fc Tryz.prog 117 [.slice (some ⟨b,0,none⟩) l.length c,.func (.func g) #[] cap.toArray] (⟨b,0,l.flatMap cDr,some 41,c * 4⟩::H)
   (fun v H' => v = .slice (some ⟨b,0,none⟩) (l.filter (fun e => !p e)).length c∧H' = ⟨b,0,(l.filter (fun e => !p e)).flatMap cDr,some 41,c * 4⟩::H):=by
 have hlen:=lenDr l
 refine Fc.mk (callable Tryz.call117) Tryz.func117 rfl Tryz.ntmps117 rfl ?_;dsimp only [fr]
 refine X.reveal (q:=0) rfl (fun rest hrest=>?_)
 refine X.forget (q:=0) (cs:=l.flatMap cDr) (cs' := rest) rfl ?_
 dsimp only [List.set]
 have hlc : l.length ≤ c:=by
  rw [List.length_append,hlen] at hrest
  omega
 clear hrest
 repeat' (first | (refine uP rfl ?_;(first | ((first | refine uN rfl ?_);(first | (refine uC (uT rfl (by (repeat (first | exact Args.nil | refine Args.cons rfl ?_));done)) rfl rfl (indexFunc_specWg l _ _ g p cap _ (SlE.ofRow (qH _) (fun _ _=>rfl)) (by omega) (fun e he=>hf [_] e he)) ?_;rintro _ H9 ⟨⟨z,rfl,hz⟩,hH9⟩;subst H9;rcases hz with ⟨rfl,hz⟩ | ⟨k,e0,rfl,he0,hp0,hz⟩;rotate_left;have hk0:=(List.getElem?_eq_some_iff.1 he0).1;rotate_right)|(refine uE (uM rfl rfl) rfl rfl ?_)|(refine uE (uA rfl rfl) rfl rfl ?_)|(refine uE (uQ rfl rfl rfl rfl) rfl rfl ?_)|(refine uE (EvF.add64 rfl rfl rfl (by omega) (by omega)) rfl rfl ?_)))))|(refine uD rfl ?_;refine hK _ _ ?_;clear hK K) | refine uS rfl ?_ | refine uR rfl (fun K hK=>?_) | refine X.block rfl ?_ | refine X.skip rfl ?_ | refine X.ret rfl ?_ | (refine X.ite rfl rfl (fun hc=>?_);(first | (with_reducible refine Xb.case hc (fun h=>?_) (fun h=>?_))) <;> clear hc))
 any_goals (exfalso;omega)
 ·have e1 : l.filter (fun e => !p e)=l:=List.filter_eq_self.2 (fun e he=>by simp [hz e he])
  refine ret_one (by simp) Tryz.results117 rfl (H' := ⟨b,0,l.flatMap cDr,some 41,c * 4⟩::H) (qR _) ?_
  rw [e1]
  exact ⟨rfl,rfl⟩
 have e1 : (l.take k).filter (fun e => !p e)=l.take k:=List.filter_eq_self.2 (fun e he=>by
  obtain ⟨i,hi⟩:=List.getElem?_of_mem he
  rw [List.getElem?_take] at hi
  split at hi
  ·simp [hz i e (by assumption) hi]
  ·cases hi)
 refine X.lp rfl (fun q F' H' => ∃ (i j : Nat) (M : List Value),q = l.length - j∧j ≤ l.length∧i < j∧i = ((l.take j).filter (fun e => !p e)).length∧M.length = (j - i) * 4 ∧
   ⟨b,0,((l.take j).filter (fun e => !p e)).flatMap cDr++M++(l.drop j).flatMap cDr,some 41,c * 4⟩::H = H' ∧
   F' = [(0,.slice (some ⟨b,0,none⟩) l.length c),(1,.func (.func g) #[] cap.toArray),(5,.int .i64 i),(6,.int .i64 j)])
  (l.length - (k + 1)) [(0,.slice (some ⟨b,0,none⟩) l.length c),(1,.func (.func g) #[] cap.toArray),(5,.int .i64 k),(6,.int .i64 (k + 1 : Nat))] _ (by repeat (first | exact uU _ | refine uV rfl ?_)) (qR _) ⟨k,k + 1,cDr e0,rfl,by omega,by omega,?_,?_,?_,rfl⟩ ?_
 ·rw [filter_snoc_tWg he0 hp0,e1,List.length_take];omega
 ·show 4 = _;omega
 ·rw [filter_snoc_tWg he0 hp0,e1]
  congr 2
  rw [show l.flatMap cDr = (l.take k++l.drop k).flatMap cDr by rw [List.take_append_drop],drop_cons he0,List.flatMap_append,List.flatMap_cons,List.append_assoc]
 rintro _ _ H2 ⟨i,j,M,rfl,hj,hij,hi,hM,hH,rfl⟩
 subst hH
 have hF : (((l.take j).filter (fun e => !p e)).flatMap cDr).length = i * 4:=by rw [lenDr, ← hi]
 repeat' (first | (refine uP rfl ?_;(first | ((first | refine uN rfl ?_);(first | (refine uE (uM rfl rfl) rfl rfl ?_)|(refine uE (uQ rfl rfl rfl rfl) rfl rfl ?_)|(refine uE (uY rfl rfl (te rfl)) rfl rfl ?_)|(refine uE (uJ rfl rfl rfl (te rfl) (te rfl) (by omega) (by omega)) rfl rfl ?_)))))|(refine uD rfl ?_;refine hK _ _ ?_;clear hK K) | refine uS rfl ?_ | refine uR rfl (fun K hK=>?_) | refine X.block rfl ?_ | (refine X.brk rfl ?_;repeat (first | refine blockX_hit rfl ?_ | refine blockX_miss (by decide) ?_)) | refine X.skip rfl ?_ | (refine X.ite rfl rfl (fun hc=>?_);(first | (with_reducible refine Xb.case hc (fun h=>?_) (fun h=>?_))) <;> clear hc))
 ·have hjl : j < l.length:=by omega
  obtain ⟨e,he⟩ : ∃ e,l[j]? = some e:=⟨_,List.getElem?_eq_getElem hjl⟩
  rw [drop_cons he,List.flatMap_cons]
  have hload : ((((l.take j).filter (fun e => !p e)).flatMap cDr++M++(cDr e++(l.drop (j + 1)).flatMap cDr)).drop (0 + (j : Int).toNat * 4)).take 4 = cDr e:=by
   rw [List.drop_left' (by rw [List.length_append,hF,hM];show _ = 0 + j * 4;omega)]
   exact List.take_left' rfl
  repeat' (first | (refine uP rfl ?_;(first | ((first | refine uN rfl ?_);(first | (refine uE (uL rfl rfl (LoadV.ownAgg (te rfl) rfl (qH _) hload rfl)) rfl rfl ?_)|(refine uC (EnF.dyn0 rfl rfl (by (repeat (first | exact Args.nil | refine Args.cons rfl ?_));done)) rfl rfl (hf [_,_] e (List.mem_of_getElem? he)) ?_;rintro _ H9 ⟨rfl,hH9⟩;subst H9)|(refine Xg.st0 (StF.storeAt (q:=1) rfl rfl rfl (te rfl) rfl rfl (one_dr e) (by rw [List.length_append,List.length_append,hF,hM];show 0 + i * 4 + 4 ≤ _;omega)) rfl ?_;rintro _ _ ⟨rfl,rfl⟩;dsimp only [List.set])|(refine uE (uM rfl rfl) rfl rfl ?_)|(refine uE (uA rfl rfl) rfl rfl ?_)|(refine uE (EvF.add64 rfl rfl rfl (by omega) (by omega)) rfl rfl ?_)|(refine uE (EvF.not rfl rfl) rfl rfl ?_)|(refine uE (uJ rfl rfl rfl (te rfl) (te rfl) (by omega) (by omega)) rfl rfl ?_)|(refine uE (uL rfl rfl (uW (te rfl) rfl (qH _) rfl)) rfl rfl ?_)|(refine Xg.st (StF.alloc rfl Tryz.zeroValue38 rfl) rfl rfl ?_;rintro _ _ ⟨bx,rfl,rfl⟩)|(refine Xg.st0 (uZ (i:=0) rfl rfl rfl (te rfl) rfl rfl rfl rfl) rfl ?_;rintro _ _ ⟨rfl,rfl⟩;dsimp only [List.set])))))|(refine uD rfl ?_;refine hK _ _ ?_;clear hK K) | refine uS rfl ?_ | refine uR rfl (fun K hK=>?_) | refine X.skip rfl ?_ | (refine X.ite rfl rfl (fun hc=>?_);(first | (with_reducible refine Xb.caseB hc (fun h=>?_) (fun h=>?_))) <;> clear hc))
  ·have hp : p e = false:=by simpa using h
   refine ⟨_,[(0,.slice (some ⟨b,0,none⟩) l.length c),(1,.func (.func g) #[] cap.toArray),(5,.int .i64 (i + 1 : Nat)),(6,.int .i64 (j + 1 : Nat))],_,(by repeat (first | exact uU _ | refine uV rfl ?_)),?_,⟨i + 1,j + 1,M.drop 4++cDr e,rfl,by omega,by omega,?_,?_,rfl,rfl⟩,by omega⟩
   ·rw [filter_snoc_fWg he hp,List.flatMap_append]
    have:=splice_at (xs:=((l.take j).filter (fun e => !p e)).flatMap cDr) (ys:=M.take 4) (zs:=M.drop 4++(cDr e++(l.drop (j + 1)).flatMap cDr)) (vs:=cDr e) (j:=0 + (i : Int).toNat * 4) (by rw [hF];show _ = 0 + i * 4;omega) (by rw [List.length_take,hM];show 4 = _;omega)
    rw [show ((l.take j).filter (fun e => !p e)).flatMap cDr++M.take 4++(M.drop 4++(cDr e++(l.drop (j + 1)).flatMap cDr)) = ((l.take j).filter (fun e => !p e)).flatMap cDr++M++(cDr e++(l.drop (j + 1)).flatMap cDr) by
     rw [List.append_assoc, ← List.append_assoc (M.take 4),List.take_append_drop,List.append_assoc]] at this
    rw [this]
    rw [show ((l.take j).filter (fun e => !p e)).flatMap cDr++cDr e++(M.drop 4++(cDr e++(l.drop (j + 1)).flatMap cDr)) = ((l.take j).filter (fun e => !p e)).flatMap cDr++[e].flatMap cDr++(M.drop 4++cDr e)++(l.drop (j + 1)).flatMap cDr by
     rw [List.flatMap_singleton];simp only [List.append_assoc]]
    exact (by repeat (first | exact qR _ | apply qK | apply qC))
   ·rw [filter_snoc_fWg he hp,List.length_append, ← hi];rfl
   ·rw [List.length_append,List.length_drop,hM];show _ + 4 = _;omega
  ·have hp : p e = true:=by simpa using h
   refine ⟨_,[(0,.slice (some ⟨b,0,none⟩) l.length c),(1,.func (.func g) #[] cap.toArray),(5,.int .i64 i),(6,.int .i64 (j + 1 : Nat))],_,(by repeat (first | exact uU _ | refine uV rfl ?_)),?_,⟨i,j + 1,M++cDr e,rfl,by omega,by omega,?_,?_,rfl,rfl⟩,by omega⟩
   ·rw [filter_snoc_tWg he hp,List.append_assoc,List.append_assoc,List.append_assoc]
    exact (by repeat (first | exact qR _ | apply qK | apply qC))
   ·rw [filter_snoc_tWg he hp];exact hi
   ·rw [List.length_append,hM];show _ + 4 = _;omega
 ·obtain rfl : j = l.length:=by omega
  rw [List.take_length] at hi hF ⊢
  rw [List.drop_length,List.flatMap_nil,List.append_nil]
  repeat' (first | (refine uP rfl ?_;(first | ((first | refine uN rfl ?_);(first | (refine uE (EvF.sliceFromL (lo:=i) rfl rfl (te rfl) (te rfl) rfl (by omega) (by omega) (by omega)) rfl rfl ?_)|(refine Xg.st0 (StF.clear (q:=0) rfl elWg rfl rfl (by rw [List.length_append,hF,hM];show 0 + i * 4 + _ ≤ _;omega) honeWg) rfl ?_;rintro _ _ ⟨zs,hzs,rfl⟩;dsimp only [List.set])|(refine uE (uM rfl rfl) rfl rfl ?_)))))|(refine uD rfl ?_;refine hK _ _ ?_;clear hK K) | refine uS rfl ?_ | refine uR rfl (fun K hK=>?_))
  have e2 : splice ((l.filter (fun e => !p e)).flatMap cDr++M) (0 + i * 4) zs = (l.filter (fun e => !p e)).flatMap cDr++zs:=by
   have:=splice_at (xs:=(l.filter (fun e => !p e)).flatMap cDr) (ys:=M) (zs:=[]) (vs:=zs) (j:=0 + i * 4) (by rw [hF];omega) (by rw [hzs,hM])
   rwa [List.append_nil,List.append_nil] at this
  rw [e2]
  refine XO.forget (q:=0) rfl ?_
  dsimp only [List.set]
  repeat' (first | (refine uP rfl ?_;(first | ((first | refine uN rfl ?_);(first | (refine uE (EvF.sliceTo (hh:=i) rfl rfl (te rfl) (te rfl) rfl (by omega)) rfl rfl ?_)|(refine uE (uA rfl rfl) rfl rfl ?_)))))|(refine uD rfl ?_;refine hK _ _ ?_;clear hK K) | refine X.ret rfl ?_)
  refine ret_one (by simp) Tryz.results117 rfl (H' := ⟨b,0,(l.filter (fun e => !p e)).flatMap cDr,some 41,c * 4⟩::H) (qR _) ⟨?_,rfl⟩
  rw [hi]
def partOk (s : Sp) (a b : Int) : Prop:=s.lo ≤ s.hi∧a ≤ s.lo∧s.hi ≤ b
instance (s : Sp) (a b : Int) : Decidable (partOk s a b):=by unfold partOk;infer_instance
theorem isPart_spec (s : Sp) (a b : Int) (H : List Row) : Fc Tryz.prog 79 [.agg (cSp s).toArray,.int .i64 a,.int .i64 b] H (fun v H' => v = .bool (decide (partOk s a b))∧H' = H):=by
 refine Fc.mk (callable Tryz.call79) Tryz.func79 rfl Tryz.ntmps79 rfl ?_;dsimp only [fr]
 repeat' (first | (refine uP rfl ?_;(first | ((first | refine uN rfl ?_ | (refine Xo.g rfl rfl ?_;with_reducible refine Xw.tt ?_));(first | (refine uE (EvF.build (cs:=cSp ⟨a,b⟩) rfl (ArgsP.cons rfl (ArgsP.cons rfl ArgsP.nil)) (te rfl) (Places.cons (te rfl) (Places.cons (te rfl) Places.nil)) Tryz.zeroValue24 rfl) rfl rfl ?_)|(refine Xg.st (StF.buildTwo rfl el55 rfl rfl rfl rfl rfl rfl (by decide) (by decide)) rfl rfl ?_;rintro _ _ ⟨bo,rfl,rfl⟩)|(refine uC (uT rfl (Args.cons rfl (Args.cons rfl Args.nil))) rfl rfl (withinL_spec ⟨a,b⟩ [s.lo,s.hi] _ _ _ (SlE.ofRow (l:=[s.lo,s.hi]) (qH _) (fun _ _=>rfl)) (by simp)) ?_;rintro _ H9 ⟨rfl,hH9⟩;subst H9)|(refine uE (uM rfl rfl) rfl rfl ?_)|(refine uE (uA rfl rfl) rfl rfl ?_)|(refine uE (EvF.pickT rfl rfl rfl) rfl rfl ?_)|(refine uE (EvF.pickF rfl rfl rfl) rfl rfl ?_)|(refine uE (uQ rfl rfl rfl rfl) rfl rfl ?_)|(refine uE (uF rfl rfl (te rfl) rfl (te rfl) (by decide)) rfl rfl ?_)|(refine uE (uL rfl rfl (uO (te rfl) rfl (qH _) rfl)) rfl rfl ?_)|(refine Xg.st (StF.boxAgg rfl rfl) rfl rfl ?_;rintro _ _ ⟨bx,rfl,rfl⟩)))|(refine Xo.g rfl rfl ?_;(first | (with_reducible refine Xw.ft rfl rfl ?_)|(with_reducible refine Xw.case (fun h=>?_) (fun h=>?_) <;> simp only [h,decide_true,decide_false,Bool.not_true,Bool.not_false,and_self,and_true,true_and,and_false,false_and])))))|(refine uD rfl ?_;refine hK _ _ ?_;clear hK K) | refine uS rfl ?_ | refine uR rfl (fun K hK=>?_) | refine X.ret rfl ?_)
 all_goals (refine ret_one (by simp) Tryz.results79 rfl (H' := H) (by (repeat (first | exact qR _ | apply qC));done) ?_;simp only [and_true,true_and])
 ·congr 1;symm
  refine decide_eq_decide.2 ?_
  unfold partOk
  simp
  omega
 ·congr 1;symm
  exact decide_eq_false (fun q=>absurd q.1 (by assumption))
theorem areLayers_spec (B : Bl) (p : Pb) (l : List Int) (a : Option Addr) (c : Nat) (H : List Row) (h5 : ∀ n ∈ [B.layers],(Sp.mk 1 5).lo ≤ n∧n ≤ (Sp.mk 1 5).hi) (hl : SlE H a cI 1 l) (hb : l.length ≤ 9223372036854775807) :
  Fc Tryz.prog 131 [.agg (cBl B p).toArray,.slice a l.length c] H (fun v H' => v = .bool (decide (∀ n ∈ l,(Sp.mk 0 (B.layers - 1)).lo ≤ n∧n ≤ (Sp.mk 0 (B.layers - 1)).hi))∧H' = H):=by
 have h6 : 1 ≤ B.layers∧B.layers ≤ 5:=by simpa using h5
 have hl1 : ∀ r,SlE (r::H) a cI 1 l:=fun r=>hl.sub (fun _ h=>List.mem_cons_of_mem _ h)
 obtain ⟨a1,c1,a2,c2⟩:=p
 refine Fc.mk (callable Tryz.call131) Tryz.func131 rfl Tryz.ntmps131 rfl ?_;dsimp only [fr]
 repeat' (first | (refine uP rfl ?_;(first | ((first | refine uN rfl ?_);(first | (refine uE (EvF.build (cs:=cSp ⟨0,B.layers - 1⟩) rfl (ArgsP.cons rfl (ArgsP.cons rfl ArgsP.nil)) (te rfl) (Places.cons (te rfl) (Places.cons (te rfl) Places.nil)) Tryz.zeroValue24 rfl) rfl rfl ?_)|(refine uC (uT rfl (Args.cons rfl (Args.cons rfl Args.nil))) rfl rfl (withinL_spec ⟨0,B.layers - 1⟩ l a c _ (hl1 _) hb) ?_;rintro _ H9 ⟨rfl,hH9⟩;subst H9)|(refine uE (uM rfl rfl) rfl rfl ?_)|(refine uE (uA rfl rfl) rfl rfl ?_)|(refine uE (EvF.sub64 rfl rfl rfl (by omega) (by omega)) rfl rfl ?_)|(refine uE (uF rfl rfl (te rfl) rfl (te rfl) (by decide)) rfl rfl ?_)|(refine uE (uL rfl rfl (uO (te rfl) rfl (qH _) rfl)) rfl rfl ?_)|(refine Xg.st (StF.boxAgg rfl rfl) rfl rfl ?_;rintro _ _ ⟨bx,rfl,rfl⟩)))))|(refine uD rfl ?_;refine hK _ _ ?_;clear hK K) | refine uS rfl ?_ | refine uR rfl (fun K hK=>?_) | refine X.ret rfl ?_)
 refine ret_one (by simp) Tryz.results131 rfl (H' := H) (by (repeat (first | exact qR _ | apply qC));done) ?_;simp only [and_true,true_and]
def drawOk (B : Bl) (x : Dr) : Prop:=(∀ n ∈ [x.val],(Sp.mk 0 (B.layers - 1)).lo ≤ n∧n ≤ (Sp.mk 0 (B.layers - 1)).hi)∧partOk ⟨x.lo,x.hi⟩ 1 9
instance (B : Bl) (x : Dr) : Decidable (drawOk B x):=by unfold drawOk;infer_instance
def weighOk (x : Wg) : Prop:=(∀ n ∈ [x.val],(Sp.mk 1 1200).lo ≤ n∧n ≤ (Sp.mk 1 1200).hi)∧partOk ⟨x.lo,x.hi⟩ 0 200
instance (x : Wg) : Decidable (weighOk x):=by unfold weighOk;infer_instance
theorem hasValidDraws1_spec (B : Bl) (p : Pb) (x : Dr) (bb : Nat) (ow : Option Kd) (cap : Nat) (H : List Row) (h5 : ∀ n ∈ [B.layers],(Sp.mk 1 5).lo ≤ n∧n ≤ (Sp.mk 1 5).hi) (hm : ⟨bb,0,cBl B p,ow,cap⟩ ∈ H) :
  Fc Tryz.prog 130 ([.agg (cDr x).toArray]++[.pointer (some ⟨bb,0,none⟩)]) H (fun v H' => v = .bool (!decide (drawOk B x))∧H' = H):=by
 show Fc Tryz.prog 130 [.agg (cDr x).toArray,.pointer (some ⟨bb,0,none⟩)] H _
 refine Fc.mk (callable Tryz.call130) Tryz.func130 rfl Tryz.ntmps130 rfl ?_;dsimp only [fr]
 repeat' (first | (refine uP rfl ?_;(first | ((first | refine uN rfl ?_ | (refine Xo.g rfl rfl ?_;with_reducible refine Xw.ff ?_));(first | (refine uE (uL rfl rfl (uW (te rfl) rfl (List.mem_cons_of_mem _ hm) rfl)) rfl rfl ?_)|(refine Xg.st (StF.buildOne rfl el55 rfl rfl rfl (by decide) (by decide)) rfl rfl ?_;rintro _ _ ⟨bo,rfl,rfl⟩)|(refine uC (uT rfl (Args.cons rfl (Args.cons rfl Args.nil))) rfl rfl (areLayers_spec B p [x.val] _ _ _ h5 (SlE.ofRow (l:=[x.val]) (qH _) (fun _ _=>rfl)) (by simp)) ?_;rintro _ H9 ⟨rfl,hH9⟩;subst H9)|(refine uC (uT rfl (Args.cons rfl (Args.cons rfl (Args.cons rfl Args.nil)))) rfl rfl (isPart_spec ⟨x.lo,x.hi⟩ 1 9 _) ?_;rintro _ H9 ⟨rfl,hH9⟩;subst H9)|(refine uE (uM rfl rfl) rfl rfl ?_)|(refine uE (uA rfl rfl) rfl rfl ?_)|(refine uE (EvF.pickT rfl rfl rfl) rfl rfl ?_)|(refine uE (EvF.pickF rfl rfl rfl) rfl rfl ?_)|(refine uE (EvF.not rfl rfl) rfl rfl ?_)|(refine uE (uF rfl rfl (te rfl) rfl (te rfl) (by decide)) rfl rfl ?_)|(refine uE (uL rfl rfl (uO (te rfl) rfl (qH _) rfl)) rfl rfl ?_)|(refine uE (uL rfl rfl (LoadV.ownAgg (te rfl) rfl (qT _ (qH _)) rfl rfl)) rfl rfl ?_)|(refine Xg.st (StF.boxAgg rfl rfl) rfl rfl ?_;rintro _ _ ⟨bx,rfl,rfl⟩)))|(refine Xo.g rfl rfl ?_;(first | (with_reducible refine Xw.tf rfl rfl ?_)|(with_reducible refine Xw.caseN (fun h=>?_) (fun h=>?_) <;> simp only [h,decide_true,decide_false,Bool.not_true,Bool.not_false,and_self,and_true,true_and,and_false,false_and])|(with_reducible refine Xw.caseB (fun h=>?_) (fun h=>?_) <;> simp only [h,decide_true,decide_false,Bool.not_true,Bool.not_false,and_self,and_true,true_and,and_false,false_and])))))|(refine uD rfl ?_;refine hK _ _ ?_;clear hK K) | refine uS rfl ?_ | refine uR rfl (fun K hK=>?_) | refine X.ret rfl ?_)
 all_goals (refine ret_one (by simp) Tryz.results130 rfl (H' := H) (by (repeat (first | exact qR _ | apply qC));done) ?_;simp only [and_true,true_and])
 all_goals (unfold drawOk;simp_all)
 all_goals (exact .inl (by omega))
theorem hasValidWeighs1_spec (x : Wg) (H : List Row) :
  Fc Tryz.prog 133 ([.agg (cDr x).toArray]++[]) H (fun v H' => v = .bool (!decide (weighOk x))∧H' = H):=by
 show Fc Tryz.prog 133 [.agg (cDr x).toArray] H _
 refine Fc.mk (callable Tryz.call133) Tryz.func133 rfl Tryz.ntmps133 rfl ?_;dsimp only [fr]
 repeat' (first | (refine uP rfl ?_;(first | ((first | refine uN rfl ?_ | (refine Xo.g rfl rfl ?_;with_reducible refine Xw.ff ?_));(first | (refine uE (EvF.build (cs:=cSp ⟨1,1200⟩) rfl (ArgsP.cons rfl (ArgsP.cons rfl ArgsP.nil)) (te rfl) (Places.cons (te rfl) (Places.cons (te rfl) Places.nil)) Tryz.zeroValue24 rfl) rfl rfl ?_)|(refine Xg.st (StF.buildOne rfl el55 rfl rfl rfl (by decide) (by decide)) rfl rfl ?_;rintro _ _ ⟨bo,rfl,rfl⟩)|(refine uC (uT rfl (Args.cons rfl (Args.cons rfl Args.nil))) rfl rfl (withinL_spec ⟨1,1200⟩ [x.val] _ _ _ (SlE.ofRow (l:=[x.val]) (qH _) (fun _ _=>rfl)) (by simp)) ?_;rintro _ H9 ⟨rfl,hH9⟩;subst H9)|(refine uC (uT rfl (Args.cons rfl (Args.cons rfl (Args.cons rfl Args.nil)))) rfl rfl (isPart_spec ⟨x.lo,x.hi⟩ 0 200 _) ?_;rintro _ H9 ⟨rfl,hH9⟩;subst H9)|(refine uE (uM rfl rfl) rfl rfl ?_)|(refine uE (uA rfl rfl) rfl rfl ?_)|(refine uE (EvF.pickT rfl rfl rfl) rfl rfl ?_)|(refine uE (EvF.pickF rfl rfl rfl) rfl rfl ?_)|(refine uE (EvF.not rfl rfl) rfl rfl ?_)|(refine uE (uF rfl rfl (te rfl) rfl (te rfl) (by decide)) rfl rfl ?_)|(refine uE (uL rfl rfl (uO (te rfl) rfl (qH _) rfl)) rfl rfl ?_)|(refine uE (uL rfl rfl (LoadV.ownAgg (te rfl) rfl (qT _ (qH _)) rfl rfl)) rfl rfl ?_)|(refine Xg.st (StF.boxAgg rfl rfl) rfl rfl ?_;rintro _ _ ⟨bx,rfl,rfl⟩)))|(refine Xo.g rfl rfl ?_;(first | (with_reducible refine Xw.tf rfl rfl ?_)|(with_reducible refine Xw.caseN (fun h=>?_) (fun h=>?_) <;> simp only [h,decide_true,decide_false,Bool.not_true,Bool.not_false,and_self,and_true,true_and,and_false,false_and])|(with_reducible refine Xw.caseB (fun h=>?_) (fun h=>?_) <;> simp only [h,decide_true,decide_false,Bool.not_true,Bool.not_false,and_self,and_true,true_and,and_false,false_and])))))|(refine uD rfl ?_;refine hK _ _ ?_;clear hK K) | refine uS rfl ?_ | refine uR rfl (fun K hK=>?_) | refine X.ret rfl ?_)
 all_goals (refine ret_one (by simp) Tryz.results133 rfl (H' := H) (by (repeat (first | exact qR _ | apply qC));done) ?_;simp only [and_true,true_and])
 all_goals (unfold weighOk;simp_all)
 all_goals (exact .inl (by omega))
def drawsOk (B : Bl) : Prop:=B.draws.length ≤ 10∧risesOk (B.draws.map (·.number)) ∧ ∀ x ∈ B.draws,drawOk B x
noncomputable instance (B : Bl) : Decidable (drawsOk B):=Classical.propDecidable _
def weighsOk (B : Bl) : Prop:=B.weighs.length ≤ 8∧risesOk (B.weighs.map (·.number)) ∧ ∀ x ∈ B.weighs,weighOk x
noncomputable instance (B : Bl) : Decidable (weighsOk B):=Classical.propDecidable _
theorem not_ex {α : Type} {p : α → Prop} [DecidablePred p] {l : List α} : (!decide (∃ e ∈ l,(!decide (p e)) = true)) = decide (∀ e ∈ l,p e):=by
 rw [Bool.not_eq_eq_eq_not, ← decide_not]
 refine decide_eq_decide.2 ?_
 simp
set_option maxHeartbeats 2000000 in
theorem hasValidDraws_spec (B : Bl) (p : Pb) (H : List Row) (h5 : ∀ n ∈ [B.layers],(Sp.mk 1 5).lo ≤ n∧n ≤ (Sp.mk 1 5).hi) (hB : BlOk H B p) : Fc Tryz.prog 80 [.agg (cBl B p).toArray] H (fun v H' => v = .bool (decide (drawsOk B))∧H' = H):=by
 have hB1 : ∀ r,BlOk (r::H) B p:=fun r=>hB.sub (fun _ h=>List.mem_cons_of_mem _ h)
 have l1:=hB.l1
 obtain ⟨a1,c1,a2,c2⟩:=p
 refine Fc.mk (callable Tryz.call80) Tryz.func80 rfl Tryz.ntmps80 rfl ?_;dsimp only [fr]
 repeat' (first | (refine uP rfl ?_;(first | ((first | refine uN rfl ?_ | (refine Xo.g rfl rfl ?_;with_reducible refine Xw.ff ?_));(first | (refine uC (uT rfl (Args.cons rfl (Args.cons rfl Args.nil))) rfl rfl (numbersF_specDr 68 (·.number) numberDr_spec B.draws _ _ _ (hB1 _).draws (by omega)) ?_;rintro _ _ ⟨a',c',Z,rfl,rfl,hz⟩)|(refine uC (uT rfl (Args.cons rfl Args.nil)) rfl rfl (rising_spec (B.draws.map (·.number)) a' c' _ hz (by rw [List.length_map];omega)) ?_;rintro _ H9 ⟨rfl,hH9⟩;subst H9)|(refine uE (uL rfl rfl (uO (te rfl) rfl (List.mem_append_right _ (qH _)) rfl)) rfl rfl ?_)|(refine uE (EvF.makeFunc (fl:=[]) rfl Args.nil (Args.cons rfl Args.nil)) rfl rfl ?_)|(refine uC (uT rfl (Args.cons rfl (Args.cons rfl Args.nil))) rfl rfl (containsFunc_specDr B.draws _ _ 130 (fun x => !decide (drawOk B x)) [_] _ ((hB1 _).draws.sub (fun r h=>List.mem_append_right _ h)) (by omega) (fun e _=>hasValidDraws1_spec B ⟨a1,c1,a2,c2⟩ e _ _ _ _ h5 (List.mem_append_right _ (qH _)))) ?_;rintro _ H9 ⟨rfl,hH9⟩;subst H9)|(refine uE (uM rfl rfl) rfl rfl ?_)|(refine uE (uA rfl rfl) rfl rfl ?_)|(refine uE (EvF.pickT rfl rfl rfl) rfl rfl ?_)|(refine uE (EvF.pickF rfl rfl rfl) rfl rfl ?_)|(refine uE (uQ rfl rfl rfl rfl) rfl rfl ?_)|(refine uE (EvF.not rfl rfl) rfl rfl ?_)|(refine uE (uF rfl rfl (te rfl) rfl (te rfl) (by decide)) rfl rfl ?_)|(refine uE (uY rfl rfl (te rfl)) rfl rfl ?_)|(refine uE (uL rfl rfl (uO (te rfl) rfl (qH _) rfl)) rfl rfl ?_)|(refine Xg.st (StF.boxAgg rfl rfl) rfl rfl ?_;rintro _ _ ⟨bx,rfl,rfl⟩)))|(refine Xo.g rfl rfl ?_;(first | (with_reducible refine Xw.tf rfl rfl ?_)|(with_reducible refine Xw.case (fun h=>?_) (fun h=>?_) <;> simp only [h,decide_true,decide_false,Bool.not_true,Bool.not_false,and_self,and_true,true_and,and_false,false_and])))))|(refine uD rfl ?_;refine hK _ _ ?_;clear hK K) | refine uS rfl ?_ | refine uR rfl (fun K hK=>?_) | refine X.skip rfl ?_ | refine X.ret rfl ?_ | (refine X.ite rfl rfl (fun hc=>?_);(first | (with_reducible refine Xb.t hc ?_)|(with_reducible refine Xb.caseN hc (fun h=>?_) (fun h=>?_))) <;> clear hc))
 all_goals (refine ret_one (by simp) Tryz.results80 rfl (H' := H) (by first | exact List.sublist_cons_self _ _ | exact (List.sublist_cons_self _ _).trans (List.sublist_append_right _ _)) ⟨?_,rfl⟩)
 all_goals (congr 1)
 all_goals first
  | (rw [not_ex];exact decide_eq_decide.2 ⟨fun q=>⟨by omega,by assumption,q⟩,fun q=>q.2.2⟩)
  | (symm;exact decide_eq_false (fun q=>by have:=q.1;omega))
  | (symm;exact decide_eq_false (fun q=>absurd q.2.1 (by assumption)))
set_option maxHeartbeats 2000000 in
theorem hasValidWeighs_spec (B : Bl) (p : Pb) (H : List Row) (hB : BlOk H B p) : Fc Tryz.prog 81 [.agg (cBl B p).toArray] H (fun v H' => v = .bool (decide (weighsOk B))∧H' = H):=by
 have hB1 : ∀ r,BlOk (r::H) B p:=fun r=>hB.sub (fun _ h=>List.mem_cons_of_mem _ h)
 have l2:=hB.l2
 obtain ⟨a1,c1,a2,c2⟩:=p
 refine Fc.mk (callable Tryz.call81) Tryz.func81 rfl Tryz.ntmps81 rfl ?_;dsimp only [fr]
 repeat' (first | (refine uP rfl ?_;(first | ((first | refine uN rfl ?_ | (refine Xo.g rfl rfl ?_;with_reducible refine Xw.ff ?_));(first | (refine uC (uT rfl (Args.cons rfl (Args.cons rfl Args.nil))) rfl rfl (numbersF_specWg 72 (·.number) numberWg_spec B.weighs _ _ _ (hB1 _).weighs (by omega)) ?_;rintro _ _ ⟨a',c',Z,rfl,rfl,hz⟩)|(refine uC (uT rfl (Args.cons rfl Args.nil)) rfl rfl (rising_spec (B.weighs.map (·.number)) a' c' _ hz (by rw [List.length_map];omega)) ?_;rintro _ H9 ⟨rfl,hH9⟩;subst H9)|(refine uE (uL rfl rfl (uO (te rfl) rfl (List.mem_append_right _ (qH _)) rfl)) rfl rfl ?_)|(refine uC (uT rfl (Args.cons rfl (Args.cons rfl Args.nil))) rfl rfl (containsFunc_specWg B.weighs _ _ 133 (fun x => !decide (weighOk x)) [] _ ((hB1 _).weighs.sub (fun r h=>List.mem_append_right _ h)) (by omega) (fun e _=>hasValidWeighs1_spec e _)) ?_;rintro _ H9 ⟨rfl,hH9⟩;subst H9)|(refine uE (uM rfl rfl) rfl rfl ?_)|(refine uE (uA rfl rfl) rfl rfl ?_)|(refine uE (EvF.pickT rfl rfl rfl) rfl rfl ?_)|(refine uE (EvF.pickF rfl rfl rfl) rfl rfl ?_)|(refine uE (uQ rfl rfl rfl rfl) rfl rfl ?_)|(refine uE (EvF.not rfl rfl) rfl rfl ?_)|(refine uE (uF rfl rfl (te rfl) rfl (te rfl) (by decide)) rfl rfl ?_)|(refine uE (uY rfl rfl (te rfl)) rfl rfl ?_)|(refine uE (uL rfl rfl (uO (te rfl) rfl (qH _) rfl)) rfl rfl ?_)|(refine Xg.st (StF.boxAgg rfl rfl) rfl rfl ?_;rintro _ _ ⟨bx,rfl,rfl⟩)))|(refine Xo.g rfl rfl ?_;(first | (with_reducible refine Xw.tf rfl rfl ?_)|(with_reducible refine Xw.case (fun h=>?_) (fun h=>?_) <;> simp only [h,decide_true,decide_false,Bool.not_true,Bool.not_false,and_self,and_true,true_and,and_false,false_and])))))|(refine uD rfl ?_;refine hK _ _ ?_;clear hK K) | refine uS rfl ?_ | refine uR rfl (fun K hK=>?_) | refine X.skip rfl ?_ | refine X.ret rfl ?_ | (refine X.ite rfl rfl (fun hc=>?_);(first | (with_reducible refine Xb.t hc ?_)|(with_reducible refine Xb.caseN hc (fun h=>?_) (fun h=>?_))) <;> clear hc))
 all_goals (refine ret_one (by simp) Tryz.results81 rfl (H' := H) (by first | exact List.sublist_cons_self _ _ | exact (List.sublist_cons_self _ _).trans (List.sublist_append_right _ _)) ⟨?_,rfl⟩)
 all_goals (congr 1)
 all_goals first
  | (rw [not_ex];exact decide_eq_decide.2 ⟨fun q=>⟨by omega,by assumption,q⟩,fun q=>q.2.2⟩)
  | (symm;exact decide_eq_false (fun q=>by have:=q.1;omega))
  | (symm;exact decide_eq_false (fun q=>absurd q.2.1 (by assumption)))
/-- a valid bale, as the program asks it -/
def baleOk (B : Bl) : Prop:=(∀ n ∈ [B.id],(Sp.mk 1 9999).lo ≤ n∧n ≤ (Sp.mk 1 9999).hi)∧(∀ n ∈ [B.layers],(Sp.mk 1 5).lo ≤ n∧n ≤ (Sp.mk 1 5).hi)∧partOk ⟨B.dlo,B.dhi⟩ 1 600∧drawsOk B∧weighsOk B
noncomputable instance (B : Bl) : Decidable (baleOk B):=Classical.propDecidable _
set_option maxHeartbeats 4000000 in
theorem kcheck_spec (B : Bl) (p : Pb) (H : List Row) (hB : BlOk H B p) : Fc Tryz.prog 29 [.agg (cBl B p).toArray] H (fun v H' => v = .int .i64 (if baleOk B then 0 else 30)∧H' = H):=by
 have hB1 : ∀ r,BlOk (r::H) B p:=fun r=>hB.sub (fun _ h=>List.mem_cons_of_mem _ h)
 have hB2 : ∀ r1 r2,BlOk (r1::r2::H) B p:=fun r1 r2=>hB.sub (fun _ h=>qT _ (qT _ h))
 have hB3 : ∀ r1 r2 r3,BlOk (r1::r2::r3::H) B p:=fun r1 r2 r3=>hB.sub (fun _ h=>qT _ (qT _ (qT _ h)))
 obtain ⟨a1,c1,a2,c2⟩:=p
 refine Fc.mk (callable Tryz.call29) Tryz.func29 rfl Tryz.ntmps29 rfl ?_;dsimp only [fr]
 repeat' (first | (refine uP rfl ?_;(first | ((first | refine uN rfl ?_ | (refine Xo.g rfl rfl ?_;with_reducible refine Xw.ff ?_));(first | (refine uE (EvF.build (cs:=cSp ⟨1,9999⟩) rfl (ArgsP.cons rfl (ArgsP.cons rfl ArgsP.nil)) (te rfl) (Places.cons (te rfl) (Places.cons (te rfl) Places.nil)) Tryz.zeroValue24 rfl) rfl rfl ?_)|(refine uE (EvF.build (cs:=cSp ⟨1,5⟩) rfl (ArgsP.cons rfl (ArgsP.cons rfl ArgsP.nil)) (te rfl) (Places.cons (te rfl) (Places.cons (te rfl) Places.nil)) Tryz.zeroValue24 rfl) rfl rfl ?_)|(refine Xg.st (StF.buildOne rfl el55 rfl rfl rfl (by decide) (by decide)) rfl rfl ?_;rintro _ _ ⟨bo,rfl,rfl⟩)|(refine uC (uT rfl (Args.cons rfl (Args.cons rfl Args.nil))) rfl rfl (withinL_spec ⟨1,9999⟩ [B.id] _ _ _ (SlE.ofRow (l:=[B.id]) (qH _) (fun _ _=>rfl)) (by simp)) ?_;rintro _ H9 ⟨rfl,hH9⟩;subst H9)|(refine uC (uT rfl (Args.cons rfl (Args.cons rfl Args.nil))) rfl rfl (withinL_spec ⟨1,5⟩ [B.layers] _ _ _ (SlE.ofRow (l:=[B.layers]) (qH _) (fun _ _=>rfl)) (by simp)) ?_;rintro _ H9 ⟨rfl,hH9⟩;subst H9)|(refine uC (uT rfl (Args.cons rfl (Args.cons rfl (Args.cons rfl Args.nil)))) rfl rfl (isPart_spec ⟨B.dlo,B.dhi⟩ 1 600 _) ?_;rintro _ H9 ⟨rfl,hH9⟩;subst H9)|(refine uC (uT rfl (Args.cons rfl Args.nil)) rfl rfl (hasValidDraws_spec B ⟨a1,c1,a2,c2⟩ _ (by assumption) (hB3 _ _ _)) ?_;rintro _ H9 ⟨rfl,hH9⟩;subst H9)|(refine uC (uT rfl (Args.cons rfl Args.nil)) rfl rfl (hasValidWeighs_spec B ⟨a1,c1,a2,c2⟩ _ (hB3 _ _ _)) ?_;rintro _ H9 ⟨rfl,hH9⟩;subst H9)|(refine uE (uM rfl rfl) rfl rfl ?_)|(refine uE (uA rfl rfl) rfl rfl ?_)|(refine uE (EvF.pickT rfl rfl rfl) rfl rfl ?_)|(refine uE (EvF.pickF rfl rfl rfl) rfl rfl ?_)|(refine uE (EvF.not rfl rfl) rfl rfl ?_)|(refine uE (uF rfl rfl (te rfl) rfl (te rfl) (by decide)) rfl rfl ?_)|(refine uE (uL rfl rfl (uO (te rfl) rfl (qH _) rfl)) rfl rfl ?_)|(refine uE (uL rfl rfl (uO (te rfl) rfl (qT _ (qH _)) rfl)) rfl rfl ?_)|(refine uE (uL rfl rfl (uW (te rfl) rfl (qT _ (qT _ (qH _))) rfl)) rfl rfl ?_)|(refine uE (uL rfl rfl (LoadV.ownAgg (te rfl) rfl (qT _ (qT _ (qH _))) rfl rfl)) rfl rfl ?_)|(refine Xg.st (StF.boxAgg rfl rfl) rfl rfl ?_;rintro _ _ ⟨bx,rfl,rfl⟩)))|(refine Xo.g rfl rfl ?_;(first | (with_reducible refine Xw.tf rfl rfl ?_)|(with_reducible refine Xw.caseN (fun h=>?_) (fun h=>?_) <;> simp only [h,decide_true,decide_false,Bool.not_true,Bool.not_false,and_self,and_true,true_and,and_false,false_and])|(with_reducible refine Xw.caseB (fun h=>?_) (fun h=>?_) <;> simp only [h,decide_true,decide_false,Bool.not_true,Bool.not_false,and_self,and_true,true_and,and_false,false_and])))))|(refine uD rfl ?_;refine hK _ _ ?_;clear hK K) | refine uS rfl ?_ | refine uR rfl (fun K hK=>?_) | refine X.skip rfl ?_ | refine X.ret rfl ?_ | (refine X.ite rfl rfl (fun hc=>?_);(first | (with_reducible refine Xb.t hc ?_)|(with_reducible refine Xb.caseN hc (fun h=>?_) (fun h=>?_))) <;> clear hc))
 all_goals (refine ret_one (by simp) Tryz.results29 rfl (H' := H) (by (repeat (first | exact qR _ | apply qC));done) ⟨?_,rfl⟩)
 all_goals first
  | (rw [if_pos (show baleOk B from ⟨by assumption,by assumption,by assumption,by assumption,by assumption⟩)])
  | (rw [if_neg (show ¬ baleOk B from fun q=>by first | exact absurd q.1 (by assumption) | exact absurd q.2.1 (by assumption) | exact absurd q.2.2.1 (by assumption) | exact absurd q.2.2.2.1 (by assumption) | exact absurd q.2.2.2.2 (by assumption))])
  | (exfalso;simp_all;done)
theorem within3_spec (n lo hi : Int) (H : List Row) : Fc Tryz.prog 93 [.int .i64 n,.int .i64 lo,.int .i64 hi] H (fun v H' => v = .bool (decide (lo ≤ n∧n ≤ hi))∧H' = H):=by
 refine Fc.mk (callable Tryz.call93) Tryz.func93 rfl Tryz.ntmps93 rfl ?_;dsimp only [fr]
 repeat' (first | (refine uP rfl ?_;(first | ((first | refine uN rfl ?_ | (refine Xo.g rfl rfl ?_;with_reducible refine Xw.tt ?_));(first | (refine uE (uM rfl rfl) rfl rfl ?_)|(refine uE (uA rfl rfl) rfl rfl ?_)|(refine uE (EvF.pickT rfl rfl rfl) rfl rfl ?_)|(refine uE (EvF.pickF rfl rfl rfl) rfl rfl ?_)|(refine uE (uQ rfl rfl rfl rfl) rfl rfl ?_)|(refine uE (uF rfl rfl (te rfl) rfl (te rfl) (by decide)) rfl rfl ?_)|(refine uE (uY rfl rfl (te rfl)) rfl rfl ?_)|(refine uE (uL rfl rfl (uO (te rfl) rfl (qH _) rfl)) rfl rfl ?_)))|(refine Xo.g rfl rfl ?_;(first | (with_reducible refine Xw.ft rfl rfl ?_)|(with_reducible refine Xw.case (fun h=>?_) (fun h=>?_) <;> simp only [h,decide_true,decide_false,Bool.not_true,Bool.not_false,and_self,and_true,true_and,and_false,false_and])))))|(refine uD rfl ?_;refine hK _ _ ?_;clear hK K) | refine uS rfl ?_ | refine uR rfl (fun K hK=>?_) | refine X.block rfl ?_ | (refine X.brk rfl ?_;repeat (first | refine blockX_hit rfl ?_ | refine blockX_miss (by decide) ?_)) | refine X.skip rfl ?_ | refine X.ret rfl ?_ | (refine X.ite rfl rfl (fun hc=>?_);(first | (with_reducible refine Xb.case hc (fun h=>?_) (fun h=>?_))) <;> clear hc))
 all_goals (refine ret_one (by simp) Tryz.results93 rfl (H' := H) (by (repeat (first | exact qR _ | apply qC));done) ?_;simp only [and_true,true_and])
 all_goals simp [*]
def rz (ok : Dr → Prop) : Int → List Dr → Prop
 | _,[]=>True
 | last,x::t=>last + 1 ≤ x.number∧x.number ≤ 9999∧ok x∧rz ok x.number t
theorem rises_le' : ∀ (l : List Int) (last : Int),rises last l → last ≤ lastOf last l
 | [],_,_=>by simp [lastOf]
 | n::t,last,h=>by
  have:=rises_le' t n h.2
  have h1 : last < n:=h.1
  show last ≤ lastOf n t
  omega
theorem rz_iff (ok : Dr → Prop) : ∀ (l : List Dr) (last : Int),last ≤ 9999 → (rz ok last l ↔ (rises last (l.map (·.number))∧lastOf last (l.map (·.number)) ≤ 9999) ∧ ∀ x ∈ l,ok x)
 | [],last,h=>by simp [rz,rises,lastOf,h]
 | x::t,last,h=>by
  constructor
  ·rintro ⟨h1,h2,h3,h4⟩
   obtain ⟨⟨q1,q2⟩,q3⟩:=(rz_iff ok t x.number h2).1 h4
   refine ⟨⟨⟨show last < x.number by omega,q1⟩,q2⟩,fun y hy=>?_⟩
   rcases List.mem_cons.1 hy with rfl | hy
   ·exact h3
   ·exact q3 y hy
  ·rintro ⟨⟨⟨h1,h2⟩,h3⟩,h4⟩
   have h5 : x.number ≤ lastOf x.number (t.map (·.number)):=rises_le' _ _ h2
   have h1' : last < x.number:=h1
   have h3' : lastOf x.number (t.map (·.number)) ≤ 9999:=h3
   exact ⟨by omega,by omega,h4 x List.mem_cons_self,(rz_iff ok t x.number (by omega)).2 ⟨⟨h2,h3'⟩,fun y hy=>h4 y (List.mem_cons_of_mem _ hy)⟩⟩
def rdOk (B : Bl) (x : Dr) : Prop:=(0 ≤ x.val∧x.val ≤ B.layers - 1)∧(1 ≤ x.lo∧x.lo ≤ x.hi)∧x.hi ≤ 9
def rwOk (x : Dr) : Prop:=(1 ≤ x.val∧x.val ≤ 1200)∧(0 ≤ x.lo∧x.lo ≤ x.hi)∧x.hi ≤ 200
theorem rdOk_iff (B : Bl) (x : Dr) : rdOk B x ↔ drawOk B x:=by
 unfold rdOk drawOk partOk;simp;omega
theorem rwOk_iff (x : Dr) : rwOk x ↔ weighOk x:=by
 unfold rwOk weighOk partOk;simp;omega
def refBale (B : Bl) : Prop:=(1 ≤ B.id∧B.id ≤ 9999)∧(1 ≤ B.layers∧B.layers ≤ 5)∧(1 ≤ B.dlo∧B.dlo ≤ B.dhi)∧B.dhi ≤ 600∧B.draws.length ≤ 10∧B.weighs.length ≤ 8∧rz (rdOk B) 0 B.draws∧rz rwOk 0 B.weighs
noncomputable instance (B : Bl) : Decidable (refBale B):=Classical.propDecidable _
theorem refBale_iff (B : Bl) : refBale B ↔ baleOk B:=by
 unfold refBale baleOk drawsOk weighsOk risesOk partOk
 rw [rz_iff _ _ _ (by omega),rz_iff _ _ _ (by omega)]
 simp only [List.mem_singleton,forall_eq,rdOk_iff,rwOk_iff]
 constructor
 ·rintro ⟨h1,h2,h3,h4,h5,h6,⟨h7,h8⟩,h9,h10⟩
  exact ⟨h1,h2,⟨h3.2,h3.1,h4⟩,⟨h5,h7,h8⟩,h6,h9,h10⟩
 ·rintro ⟨h1,h2,h3,⟨h5,h7,h8⟩,h6,h9,h10⟩
  exact ⟨h1,h2,⟨h3.2.1,h3.1⟩,h3.2.2,h5,h6,⟨h7,h8⟩,h9,h10⟩
set_option maxHeartbeats 4000000 in
theorem bale_spec (B : Bl) (p : Pb) (H : List Row) (hB : BlOk H B p) : Fc Tryz.prog 48 [.agg (cBl B p).toArray] H (fun v H' => v = .bool (decide (baleOk B))∧H' = H):=by
 rw [show decide (baleOk B)=decide (refBale B) from decide_eq_decide.2 (refBale_iff B).symm]
 have hB1 : ∀ r,BlOk (r::H) B p:=fun r=>hB.sub (fun _ h=>List.mem_cons_of_mem _ h)
 have l1:=hB.l1
 have l2:=hB.l2
 obtain ⟨a1,c1,a2,c2⟩:=p
 refine Fc.mk (callable Tryz.call48) Tryz.func48 rfl Tryz.ntmps48 rfl ?_;dsimp only [fr]
 repeat' (first | (refine uP rfl ?_;(first | ((first | refine uN rfl ?_ | (refine Xo.g rfl rfl ?_;with_reducible refine Xw.ff ?_));(first | (refine uC (uT rfl (Args.cons rfl (Args.cons rfl (Args.cons rfl Args.nil)))) rfl rfl (within3_spec _ _ _ _) ?_;rintro _ H9 ⟨rfl,hH9⟩;subst H9)|(refine uE (uM rfl rfl) rfl rfl ?_)|(refine uE (uA rfl rfl) rfl rfl ?_)|(refine uE (EvF.pickT rfl rfl rfl) rfl rfl ?_)|(refine uE (EvF.pickF rfl rfl rfl) rfl rfl ?_)|(refine uE (uQ rfl rfl rfl rfl) rfl rfl ?_)|(refine uE (EvF.not rfl rfl) rfl rfl ?_)|(refine uE (uF rfl rfl (te rfl) rfl (te rfl) (by decide)) rfl rfl ?_)|(refine uE (uY rfl rfl (te rfl)) rfl rfl ?_)|(refine uE (uL rfl rfl (uO (te rfl) rfl (qH _) rfl)) rfl rfl ?_)|(refine Xg.st (StF.boxAgg rfl rfl) rfl rfl ?_;rintro _ _ ⟨bx,rfl,rfl⟩)))|(refine Xo.g rfl rfl ?_;(first | (with_reducible refine Xw.tf rfl rfl ?_)|(with_reducible refine Xw.case (fun h=>?_) (fun h=>?_) <;> simp only [h,decide_true,decide_false,Bool.not_true,Bool.not_false,and_self,and_true,true_and,and_false,false_and])|(with_reducible refine Xw.caseN (fun h=>?_) (fun h=>?_) <;> simp only [h,decide_true,decide_false,Bool.not_true,Bool.not_false,and_self,and_true,true_and,and_false,false_and])))))|(refine uD rfl ?_;refine hK _ _ ?_;clear hK K) | refine uS rfl ?_ | refine uR rfl (fun K hK=>?_) | refine X.block rfl ?_ | refine X.skip rfl ?_ | refine X.ret rfl ?_ | (refine X.ite rfl rfl (fun hc=>?_);(first | (with_reducible refine Xb.t hc ?_)|(with_reducible refine Xb.case hc (fun h=>?_) (fun h=>?_))) <;> clear hc))
 any_goals (refine ret_one (by simp) Tryz.results48 rfl (H' := H) (by (repeat (first | exact qR _ | apply qC));done) ?_;simp only [and_true,true_and];congr 1;symm;exact decide_eq_false (fun q=>by obtain ⟨q1,q2,q3,q4,q5,q6,_⟩:=q;omega))
 refine X.lp rfl (fun m F' H' => ∃ (k : Nat) (last : Int),m = B.draws.length - k∧k ≤ B.draws.length∧(rz (rdOk B) 0 B.draws ↔ rz (rdOk B) last (B.draws.drop k))∧0 ≤ last∧last ≤ 9999∧H' = ⟨bx,0,cBl B ⟨a1,c1,a2,c2⟩,some 31,6⟩::H ∧
   F' = [(1,.pointer (some ⟨bx,0,none⟩)),(3,.int .i64 last),(47,.slice a1 B.draws.length c1),(48,.int .i64 B.draws.length),(49,.int .i64 k)])
  B.draws.length [(1,.pointer (some ⟨bx,0,none⟩)),(3,.int .i64 0),(47,.slice a1 B.draws.length c1),(48,.int .i64 B.draws.length),(49,.int .i64 (0 : Nat))] _ (by repeat (first | exact uU _ | refine uV rfl ?_)) (qR _) ⟨0,0,by omega,by omega,by simp,by omega,by omega,rfl,rfl⟩ ?_
 rintro _ _ _ ⟨k,last,rfl,hk,hn,hl0,hl9,rfl,rfl⟩
 repeat' (first | (refine uP rfl ?_;(first | ((first | refine uN rfl ?_ | (refine Xo.g rfl rfl ?_;with_reducible refine Xw.tt ?_));(first | (refine uE (uM rfl rfl) rfl rfl ?_)|(refine uE (uA rfl rfl) rfl rfl ?_)|(refine uE (EvF.pickT rfl rfl rfl) rfl rfl ?_)|(refine uE (EvF.pickF rfl rfl rfl) rfl rfl ?_)|(refine uE (uQ rfl rfl rfl rfl) rfl rfl ?_)|(refine uE (uF rfl rfl (te rfl) rfl (te rfl) (by decide)) rfl rfl ?_)|(refine uE (uY rfl rfl (te rfl)) rfl rfl ?_)|(refine uE (uL rfl rfl (uO (te rfl) rfl (qH _) rfl)) rfl rfl ?_)))|(refine Xo.g rfl rfl ?_;(first | (with_reducible refine Xw.ft rfl rfl ?_)|(with_reducible refine Xw.case (fun h=>?_) (fun h=>?_) <;> simp only [h,decide_true,decide_false,Bool.not_true,Bool.not_false,and_self,and_true,true_and,and_false,false_and])))))|(refine uD rfl ?_;refine hK _ _ ?_;clear hK K) | refine uS rfl ?_ | refine uR rfl (fun K hK=>?_) | refine X.block rfl ?_ | (refine X.brk rfl ?_;repeat (first | refine blockX_hit rfl ?_ | refine blockX_miss (by decide) ?_)) | refine X.skip rfl ?_ | refine X.ret rfl ?_ | (refine X.ite rfl rfl (fun hc=>?_);(first | (with_reducible refine Xb.case hc (fun h=>?_) (fun h=>?_))) <;> clear hc))
 ·obtain ⟨b,off,e,rfl,he⟩:=hB.draws.elem (i:=k) (by omega)
  rw [drop_cons he] at hn
  repeat' (first | (refine uP rfl ?_;(first | ((first | refine uN rfl ?_ | (refine Xo.g rfl rfl ?_;with_reducible refine Xw.ff ?_));(first | (refine uE (uL rfl rfl (LoadV.elA0 (hB1 _).draws he (te rfl) rfl (fun _ hm=>hm) rfl)) rfl rfl ?_)|(refine uC (uT rfl (Args.cons rfl (Args.cons rfl (Args.cons rfl Args.nil)))) rfl rfl (within3_spec _ _ _ _) ?_;rintro _ H9 ⟨rfl,hH9⟩;subst H9)|(refine uE (uM rfl rfl) rfl rfl ?_)|(refine uE (uA rfl rfl) rfl rfl ?_)|(refine uE (EvF.pickT rfl rfl rfl) rfl rfl ?_)|(refine uE (EvF.pickF rfl rfl rfl) rfl rfl ?_)|(refine uE (uQ rfl rfl rfl rfl) rfl rfl ?_)|(refine uE (EvF.add64 rfl rfl rfl (by omega) (by omega)) rfl rfl ?_)|(refine uE (EvF.sub64 rfl rfl rfl (by omega) (by omega)) rfl rfl ?_)|(refine uE (EvF.not rfl rfl) rfl rfl ?_)|(refine uE (uF rfl rfl (te rfl) rfl (te rfl) (by decide)) rfl rfl ?_)|(refine uE (uJ rfl rfl rfl (te rfl) (te rfl) (by omega) (by omega)) rfl rfl ?_)|(refine uE (uL rfl rfl (uO (te rfl) rfl (qH _) rfl)) rfl rfl ?_)|(refine uE (uL rfl rfl (uO (te rfl) rfl (qT _ (qH _)) rfl)) rfl rfl ?_)|(refine Xg.st (StF.alloc rfl Tryz.zeroValue38 rfl) rfl rfl ?_;rintro _ _ ⟨bx,rfl,rfl⟩)|(refine Xg.st0 (uZ (i:=0) rfl rfl rfl (te rfl) rfl rfl rfl rfl) rfl ?_;rintro _ _ ⟨rfl,rfl⟩;dsimp only [List.set])))|(refine Xo.g rfl rfl ?_;(first | (with_reducible refine Xw.tf rfl rfl ?_)|(with_reducible refine Xw.caseN (fun h=>?_) (fun h=>?_) <;> simp only [h,decide_true,decide_false,Bool.not_true,Bool.not_false,and_self,and_true,true_and,and_false,false_and])))))|(refine uD rfl ?_;refine hK _ _ ?_;clear hK K) | refine uS rfl ?_ | refine uR rfl (fun K hK=>?_) | refine X.skip rfl ?_ | refine X.ret rfl ?_ | (refine X.ite rfl rfl (fun hc=>?_);(first | (with_reducible refine Xb.t hc ?_)|(with_reducible refine Xb.case hc (fun h=>?_) (fun h=>?_))) <;> clear hc))
  any_goals (refine ret_one (by simp) Tryz.results48 rfl (H' := H) (by (repeat (first | exact qR _ | apply qC));done) ?_;simp only [and_true,true_and];congr 1;symm;exact decide_eq_false (fun q=>by have:=hn.1 q.2.2.2.2.2.2.1;unfold rz rdOk at this;omega))
  refine ⟨_,_,_,(by repeat (first | exact uU _ | refine uV rfl ?_)),(by (repeat (first | exact qR _ | apply qC));done),⟨k + 1,e.number,rfl,by omega,hn.trans ⟨fun q=>q.2.2.2,fun q=>⟨by omega,by omega,⟨by omega,by omega,by omega⟩,q⟩⟩,by omega,by omega,rfl,rfl⟩,by omega⟩
 have hD : rz (rdOk B) 0 B.draws:=hn.2 (by rw [List.drop_eq_nil_of_le (by omega)];trivial)
 clear hn
 refine X.lp rfl (fun m F' H' => ∃ (k : Nat) (last : Int),m = B.weighs.length - k∧k ≤ B.weighs.length∧(rz rwOk 0 B.weighs ↔ rz rwOk last (B.weighs.drop k))∧0 ≤ last∧last ≤ 9999∧H' = ⟨bx,0,cBl B ⟨a1,c1,a2,c2⟩,some 31,6⟩::H ∧
   F' = [(1,.pointer (some ⟨bx,0,none⟩)),(3,.int .i64 last),(88,.slice a2 B.weighs.length c2),(89,.int .i64 B.weighs.length),(90,.int .i64 k)])
  B.weighs.length [(1,.pointer (some ⟨bx,0,none⟩)),(3,.int .i64 0),(88,.slice a2 B.weighs.length c2),(89,.int .i64 B.weighs.length),(90,.int .i64 (0 : Nat))] _ (by repeat (first | exact uU _ | refine uV rfl ?_)) (qR _) ⟨0,0,by omega,by omega,by simp,by omega,by omega,rfl,rfl⟩ ?_
 rintro _ _ _ ⟨k,last,rfl,hk,hn,hl0,hl9,rfl,rfl⟩
 repeat' (first | (refine uP rfl ?_;(first | ((first | refine uN rfl ?_ | (refine Xo.g rfl rfl ?_;with_reducible refine Xw.tt ?_));(first | (refine uE (uM rfl rfl) rfl rfl ?_)|(refine uE (uA rfl rfl) rfl rfl ?_)|(refine uE (EvF.pickT rfl rfl rfl) rfl rfl ?_)|(refine uE (EvF.pickF rfl rfl rfl) rfl rfl ?_)|(refine uE (uQ rfl rfl rfl rfl) rfl rfl ?_)|(refine uE (uF rfl rfl (te rfl) rfl (te rfl) (by decide)) rfl rfl ?_)|(refine uE (uY rfl rfl (te rfl)) rfl rfl ?_)|(refine uE (uL rfl rfl (uO (te rfl) rfl (qH _) rfl)) rfl rfl ?_)))|(refine Xo.g rfl rfl ?_;(first | (with_reducible refine Xw.ft rfl rfl ?_)|(with_reducible refine Xw.case (fun h=>?_) (fun h=>?_) <;> simp only [h,decide_true,decide_false,Bool.not_true,Bool.not_false,and_self,and_true,true_and,and_false,false_and])))))|(refine uD rfl ?_;refine hK _ _ ?_;clear hK K) | refine uS rfl ?_ | refine uR rfl (fun K hK=>?_) | refine X.block rfl ?_ | (refine X.brk rfl ?_;repeat (first | refine blockX_hit rfl ?_ | refine blockX_miss (by decide) ?_)) | refine X.skip rfl ?_ | refine X.ret rfl ?_ | (refine X.ite rfl rfl (fun hc=>?_);(first | (with_reducible refine Xb.case hc (fun h=>?_) (fun h=>?_))) <;> clear hc))
 ·obtain ⟨b,off,e,rfl,he⟩:=hB.weighs.elem (i:=k) (by omega)
  rw [drop_cons he] at hn
  repeat' (first | (refine uP rfl ?_;(first | ((first | refine uN rfl ?_ | (refine Xo.g rfl rfl ?_;with_reducible refine Xw.ff ?_));(first | (refine uE (uL rfl rfl (LoadV.elA0 (hB1 _).weighs he (te rfl) rfl (fun _ hm=>hm) rfl)) rfl rfl ?_)|(refine uC (uT rfl (Args.cons rfl (Args.cons rfl (Args.cons rfl Args.nil)))) rfl rfl (within3_spec _ _ _ _) ?_;rintro _ H9 ⟨rfl,hH9⟩;subst H9)|(refine uE (uM rfl rfl) rfl rfl ?_)|(refine uE (uA rfl rfl) rfl rfl ?_)|(refine uE (EvF.pickT rfl rfl rfl) rfl rfl ?_)|(refine uE (EvF.pickF rfl rfl rfl) rfl rfl ?_)|(refine uE (uQ rfl rfl rfl rfl) rfl rfl ?_)|(refine uE (EvF.add64 rfl rfl rfl (by omega) (by omega)) rfl rfl ?_)|(refine uE (EvF.not rfl rfl) rfl rfl ?_)|(refine uE (uF rfl rfl (te rfl) rfl (te rfl) (by decide)) rfl rfl ?_)|(refine uE (uJ rfl rfl rfl (te rfl) (te rfl) (by omega) (by omega)) rfl rfl ?_)|(refine uE (uL rfl rfl (uO (te rfl) rfl (qH _) rfl)) rfl rfl ?_)|(refine Xg.st (StF.alloc rfl Tryz.zeroValue38 rfl) rfl rfl ?_;rintro _ _ ⟨bx,rfl,rfl⟩)|(refine Xg.st0 (uZ (i:=0) rfl rfl rfl (te rfl) rfl rfl rfl rfl) rfl ?_;rintro _ _ ⟨rfl,rfl⟩;dsimp only [List.set])))|(refine Xo.g rfl rfl ?_;(first | (with_reducible refine Xw.tf rfl rfl ?_)|(with_reducible refine Xw.caseN (fun h=>?_) (fun h=>?_) <;> simp only [h,decide_true,decide_false,Bool.not_true,Bool.not_false,and_self,and_true,true_and,and_false,false_and])))))|(refine uD rfl ?_;refine hK _ _ ?_;clear hK K) | refine uS rfl ?_ | refine uR rfl (fun K hK=>?_) | refine X.skip rfl ?_ | refine X.ret rfl ?_ | (refine X.ite rfl rfl (fun hc=>?_);(first | (with_reducible refine Xb.t hc ?_)|(with_reducible refine Xb.case hc (fun h=>?_) (fun h=>?_))) <;> clear hc))
  any_goals (refine ret_one (by simp) Tryz.results48 rfl (H' := H) (by (repeat (first | exact qR _ | apply qC));done) ?_;simp only [and_true,true_and];congr 1;symm;exact decide_eq_false (fun q=>by have:=hn.1 q.2.2.2.2.2.2.2;unfold rz rwOk at this;omega))
  refine ⟨_,_,_,(by repeat (first | exact uU _ | refine uV rfl ?_)),(by (repeat (first | exact qR _ | apply qC));done),⟨k + 1,e.number,rfl,by omega,hn.trans ⟨fun q=>q.2.2.2,fun q=>⟨by omega,by omega,⟨by omega,by omega,by omega⟩,q⟩⟩,by omega,by omega,rfl,rfl⟩,by omega⟩
 have hW : rz rwOk 0 B.weighs:=hn.2 (by rw [List.drop_eq_nil_of_le (by omega)];trivial)
 refine ret_one (by simp) Tryz.results48 rfl (H' := H) (by (repeat (first | exact qR _ | apply qC));done) ?_;simp only [and_true,true_and]
 congr 1;symm
 exact decide_eq_true ⟨by omega,by omega,by omega,by omega,by omega,by omega,hD,hW⟩
theorem greatB_spec (B : Bl) (p : Pb) (H : List Row) : Fc Tryz.prog 47 [.agg (cBl B p).toArray] H (fun v H' => v = .bool (decide (B.draws.length > 20∨B.weighs.length > 16))∧H' = H):=by
 obtain ⟨a1,c1,a2,c2⟩:=p
 refine Fc.mk (callable Tryz.call47) Tryz.func47 rfl Tryz.ntmps47 rfl ?_;dsimp only [fr]
 repeat' (first | (refine uP rfl ?_;(first | ((first | refine uN rfl ?_ | (refine Xo.g rfl rfl ?_;with_reducible refine Xw.ff ?_));(first | (refine uE (uM rfl rfl) rfl rfl ?_)|(refine uE (uA rfl rfl) rfl rfl ?_)|(refine uE (EvF.pickT rfl rfl rfl) rfl rfl ?_)|(refine uE (EvF.pickF rfl rfl rfl) rfl rfl ?_)|(refine uE (uQ rfl rfl rfl rfl) rfl rfl ?_)|(refine uE (uF rfl rfl (te rfl) rfl (te rfl) (by decide)) rfl rfl ?_)|(refine uE (uY rfl rfl (te rfl)) rfl rfl ?_)|(refine uE (uL rfl rfl (uO (te rfl) rfl (qH _) rfl)) rfl rfl ?_)|(refine Xg.st (StF.boxAgg rfl rfl) rfl rfl ?_;rintro _ _ ⟨bx,rfl,rfl⟩)))|(refine Xo.g rfl rfl ?_;(first | (with_reducible refine Xw.tf rfl rfl ?_)|(with_reducible refine Xw.case (fun h=>?_) (fun h=>?_) <;> simp only [h,decide_true,decide_false,Bool.not_true,Bool.not_false,and_self,and_true,true_and,and_false,false_and])))))|(refine uD rfl ?_;refine hK _ _ ?_;clear hK K) | refine uS rfl ?_ | refine uR rfl (fun K hK=>?_) | refine X.ret rfl ?_)
 all_goals (refine ret_one (by simp) Tryz.results47 rfl (H' := H) (by (repeat (first | exact qR _ | apply qC));done) ?_;simp only [and_true,true_and])
 all_goals (congr 1;symm)
 all_goals first
  | exact decide_eq_true (.inl (by omega))
  | exact decide_eq_decide.2 ⟨fun q=>by omega,fun q=>by omega⟩
theorem oneBl (B : Bl) (p : Pb) : (cBl B p).all (·.oneCell') = true:=rfl
noncomputable instance : DecidableEq Dr:=fun _ _=>Classical.propDecidable _
noncomputable instance : DecidableEq Bl:=fun _ _=>Classical.propDecidable _
theorem eqDr (d : Nat) (e f : Dr) (w : World) : (Op.equalIn (d + 3) 38 (.agg (cDr e).toArray) (.agg (cDr f).toArray)).run Tryz.prog w = .ok (decide (e = f)) w:=by
 have hS : Tryz.prog.underlying 38 = some (.struct (Tryz.prog.fieldsOf 38)):=by kernel_rfl
 rw [run_equalIn_agg w (d + 2) 38 _ _ hS (by kernel_rfl)]
 simp only [Program.fieldsOf,Tryz.underlying38]
 go_simp
 have h34:=fun a b a' b' => eqSp d ⟨a,b⟩ ⟨a',b'⟩ w
 simp only [cSp] at h34
 obtain ⟨e1,e2,e3,e4⟩:=e
 obtain ⟨f1,f2,f3,f4⟩:=f
 by_cases h1 : e1 = f1
 ·by_cases h2 : e2 = f2
  ·by_cases h3 : e3 = f3 <;> by_cases h4 : e4 = f4 <;> simp [cDr,eqI,h34,Result.andThen,h1,h2,h3,h4]
  ·simp [cDr,eqI,Result.andThen,h1,h2]
 ·simp [cDr,eqI,Result.andThen,h1]
theorem eqWg (d : Nat) (e f : Wg) (w : World) : (Op.equalIn (d + 3) 41 (.agg (cDr e).toArray) (.agg (cDr f).toArray)).run Tryz.prog w = .ok (decide (e = f)) w:=by
 have hS : Tryz.prog.underlying 41 = some (.struct (Tryz.prog.fieldsOf 41)):=by kernel_rfl
 rw [run_equalIn_agg w (d + 2) 41 _ _ hS (by kernel_rfl)]
 simp only [Program.fieldsOf,Tryz.underlying41]
 go_simp
 have h34:=fun a b a' b' => eqSp d ⟨a,b⟩ ⟨a',b'⟩ w
 simp only [cSp] at h34
 obtain ⟨e1,e2,e3,e4⟩:=e
 obtain ⟨f1,f2,f3,f4⟩:=f
 by_cases h1 : e1 = f1
 ·by_cases h2 : e2 = f2
  ·by_cases h3 : e3 = f3 <;> by_cases h4 : e4 = f4 <;> simp [cDr,eqI,h34,Result.andThen,h1,h2,h3,h4]
  ·simp [cDr,eqI,Result.andThen,h1,h2]
 ·simp [cDr,eqI,Result.andThen,h1]
theorem Bl.ext' {B C : Bl} (h1 : B.id = C.id) (h2 : B.layers = C.layers) (h3 : (⟨B.dlo,B.dhi⟩ : Sp) = ⟨C.dlo,C.dhi⟩) (h4 : B.draws = C.draws) (h5 : B.weighs = C.weighs) : B = C:=by
 cases B;cases C;simp only [Sp.mk.injEq] at h3;simp_all
theorem index_specDr (l : List Dr) (a : Option Addr) (c : Nat) (x : Dr) (H : List Row) (hl : SlE H a cDr 4 l) (hb : l.length ≤ 9223372036854775807) :
  Fc Tryz.prog 164 [.slice a l.length c,.agg (cDr x).toArray] H (fun v H' => (∃ z,v = .int .i64 z∧IdxR (fun n=>decide (x = n)) l z)∧H' = H):=by
 refine Fc.mk (callable Tryz.call164) Tryz.func164 rfl Tryz.ntmps164 rfl ?_;dsimp only [fr]
 repeat' (first | (refine uP rfl ?_;(first | ((first | refine uN rfl ?_);(first | (refine uE (uM rfl rfl) rfl rfl ?_)|(refine uE (uA rfl rfl) rfl rfl ?_)|(refine uE (uQ rfl rfl rfl rfl) rfl rfl ?_)|(refine uE (uY rfl rfl (te rfl)) rfl rfl ?_)|(refine Xg.st (StF.boxAgg rfl rfl) rfl rfl ?_;rintro _ _ ⟨bx,rfl,rfl⟩)))))|(refine uD rfl ?_;refine hK _ _ ?_;clear hK K)|(refine XQ.op rfl ?_;(first | ((first | refine Yo.ng rfl ?_);(first | (refine Yg.ev (uM rfl rfl) rfl rfl ?_)|(refine Yg.ev (uL rfl rfl (uW (te rfl) rfl (qH _) rfl)) rfl rfl ?_))))) | refine uS rfl ?_ | refine uR rfl (fun K hK=>?_) | refine X.regionD rfl mixed (by kernel_rfl) (fun K hK=>?_) | refine X.block rfl ?_ | (refine X.brk rfl ?_;repeat (first | refine blockX_hit rfl ?_ | refine blockX_miss (by decide) ?_)) | refine X.skip rfl ?_ | refine X.ret rfl ?_ | (refine X.ite rfl rfl (fun hc=>?_);(first | (with_reducible refine Xb.case hc (fun h=>?_) (fun h=>?_))) <;> clear hc))
 rename Nat=>bx
 refine X.lp rfl (fun q F' H' => ∃ k : Nat,q = l.length - k∧k ≤ l.length∧(∀ i e,i < k → l[i]? = some e → x ≠ e)∧⟨bx,0,cDr x,some 38,4⟩::H = H' ∧
   F' = [(0,.slice a l.length c),(3,.pointer (some ⟨bx,0,none⟩)),(7,.int .i64 l.length),(8,.int .i64 k)])
  l.length [(0,.slice a l.length c),(3,.pointer (some ⟨bx,0,none⟩)),(7,.int .i64 l.length),(8,.int .i64 (0 : Nat))] _ (by repeat (first | exact uU _ | refine uV rfl ?_)) (by repeat (first | exact qR _ | apply qK | apply qC)) ⟨0,by omega,by omega,(fun i e hi=>absurd hi (by omega)),rfl,rfl⟩ ?_
 rintro _ _ H2 ⟨k,rfl,hk,hn,hH,rfl⟩
 subst hH
 repeat' (first | (refine uP rfl ?_;(first | ((first | refine uN rfl ?_);(first | (refine uE (uM rfl rfl) rfl rfl ?_)|(refine uE (uA rfl rfl) rfl rfl ?_)|(refine uE (uQ rfl rfl rfl rfl) rfl rfl ?_)|(refine uE (uY rfl rfl (te rfl)) rfl rfl ?_)|(refine Xg.st (StF.boxAgg rfl rfl) rfl rfl ?_;rintro _ _ ⟨bx,rfl,rfl⟩)))))|(refine uD rfl ?_;refine hK _ _ ?_;clear hK K)|(refine XQ.op rfl ?_;(first | ((first | refine Yo.ng rfl ?_);(first | (refine Yg.ev (uM rfl rfl) rfl rfl ?_)|(refine Yg.ev (uL rfl rfl (uW (te rfl) rfl (qH _) rfl)) rfl rfl ?_))))) | refine uS rfl ?_ | refine uR rfl (fun K hK=>?_) | refine X.regionD rfl mixed (by kernel_rfl) (fun K hK=>?_) | refine X.block rfl ?_ | (refine X.brk rfl ?_;repeat (first | refine blockX_hit rfl ?_ | refine blockX_miss (by decide) ?_)) | refine X.skip rfl ?_ | refine X.ret rfl ?_ | (refine X.ite rfl rfl (fun hc=>?_);(first | (with_reducible refine Xb.case hc (fun h=>?_) (fun h=>?_))) <;> clear hc))
 ·obtain ⟨b,off,e,rfl,he⟩:=hl.elem (i:=k) (by omega)
  have hl1 : ∀ r,SlE (r::H) (some ⟨b,off,none⟩) cDr 4 l:=fun r=>hl.sub (fun _ h=>List.mem_cons_of_mem _ h)
  repeat' (first | (refine uP rfl ?_;(first | ((first | refine uN rfl ?_);(first | (refine uE (uM rfl rfl) rfl rfl ?_)|(refine uE (uA rfl rfl) rfl rfl ?_)|(refine uE (EvF.add64 rfl rfl rfl (by omega) (by omega)) rfl rfl ?_)))))|(refine uD rfl ?_;refine hK _ _ ?_;clear hK K)|(refine XQ.op rfl ?_;(first | ((first | refine Yo.ng rfl ?_);(first | (refine Yg.ev (uL rfl rfl (LoadV.elA0 (hl1 _) he (te rfl) rfl (fun _ hm=>hm) rfl)) rfl rfl ?_)|(refine Yg.ev (EvF.eqSt rfl rfl rfl (by kernel_rfl) (fun w=>eqDr 9997 x e w) rfl) rfl rfl ?_)|(refine Yg.ev (uJ rfl rfl rfl (te rfl) (te rfl) (by omega) (by omega)) rfl rfl ?_)))))|(refine XQ.done rfl ?_;refine hK _ ?_;clear hK K) | refine uS rfl ?_ | refine uR rfl (fun K hK=>?_) | refine X.skip rfl ?_ | refine X.ret rfl ?_ | (refine X.ite rfl rfl (fun hc=>?_);(first | (with_reducible refine Xb.case hc (fun h=>?_) (fun h=>?_))) <;> clear hc))
  ·refine ret_one (by simp) Tryz.results164 rfl (H' := H) (by (repeat (first | exact qR _ | apply qC));done) ?_;simp only [and_true,true_and]
   refine ⟨_,rfl,.inr ⟨k,e,rfl,he,decide_eq_true (by assumption),fun i e hi he=>decide_eq_false (hn i e hi he)⟩⟩
  ·refine ⟨_,_,_,(by repeat (first | exact uU _ | refine uV rfl ?_)),(by repeat (first | exact qR _ | apply qK | apply qC)),⟨k + 1,rfl,by omega,(fun i e' hi he' => ?_),rfl,rfl⟩,by omega⟩
   rcases Nat.lt_or_ge i k with h1 | h1
   ·exact hn i e' h1 he'
   ·obtain rfl : i = k:=by omega
    rw [he] at he';cases he';assumption
 ·refine ret_one (by simp) Tryz.results164 rfl (H' := H) (by (repeat (first | exact qR _ | apply qC));done) ?_;simp only [and_true,true_and]
  refine ⟨_,rfl,.inl ⟨rfl,fun e he=>?_⟩⟩
  obtain ⟨i,hi,rfl⟩:=List.mem_iff_getElem.1 he
  exact decide_eq_false (hn i _ (by omega) (List.getElem?_eq_getElem hi))
theorem contains_specDr (l : List Dr) (a : Option Addr) (c : Nat) (x : Dr) (H : List Row) (hl : SlE H a cDr 4 l) (hb : l.length ≤ 9223372036854775807) :
  Fc Tryz.prog 154 [.slice a l.length c,.agg (cDr x).toArray] H (fun v H' => v = .bool (decide (x ∈ l))∧H' = H):=by
 have hl1 : ∀ r,SlE (r::H) a cDr 4 l:=fun r=>hl.sub (fun _ h=>List.mem_cons_of_mem _ h)
 refine Fc.mk (callable Tryz.call154) Tryz.func154 rfl Tryz.ntmps154 rfl ?_;dsimp only [fr]
 repeat' (first | (refine uP rfl ?_;(first | ((first | refine uN rfl ?_);(first | (refine uC (uT rfl (by (repeat (first | exact Args.nil | refine Args.cons rfl ?_));done)) rfl rfl (index_specDr l a c x _ (hl1 _) hb) ?_;rintro _ H9 ⟨⟨z,rfl,hz⟩,hH9⟩;subst H9)|(refine uE (uM rfl rfl) rfl rfl ?_)|(refine uE (uA rfl rfl) rfl rfl ?_)|(refine uE (uQ rfl rfl rfl rfl) rfl rfl ?_)|(refine uE (uL rfl rfl (uW (te rfl) rfl (qH _) rfl)) rfl rfl ?_)|(refine Xg.st (StF.boxAgg rfl rfl) rfl rfl ?_;rintro _ _ ⟨bx,rfl,rfl⟩)))))|(refine uD rfl ?_;refine hK _ _ ?_;clear hK K) | refine uS rfl ?_ | refine uR rfl (fun K hK=>?_) | refine X.ret rfl ?_)
 refine ret_one (by simp) Tryz.results154 rfl (H' := H) (by (repeat (first | exact qR _ | apply qC));done) ?_;simp only [and_true,true_and]
 congr 1
 refine decide_eq_decide.2 (hz.ge.trans ⟨fun ⟨e,he,hp⟩=>?_,fun h=>⟨x,h,by simp⟩⟩)
 have:=of_decide_eq_true hp
 subst this;exact he
theorem except1_specDr (x : Dr) (l : List Dr) (a : Option Addr) (c b : Nat) (ow : Option Kd) (cap : Nat) (H : List Row) (hm : ⟨b,0,[.slice a l.length c],ow,cap⟩ ∈ H) (hl : SlE H a cDr 4 l) (hb : l.length ≤ 9223372036854775807) :
  Fc Tryz.prog 153 ([.agg (cDr x).toArray]++[.pointer (some ⟨b,0,none⟩)]) H (fun v H' => v = .bool (decide (x ∈ l))∧H' = H):=by
 show Fc Tryz.prog 153 [.agg (cDr x).toArray,.pointer (some ⟨b,0,none⟩)] H _
 have hl1 : ∀ r,SlE (r::H) a cDr 4 l:=fun r=>hl.sub (fun _ h=>List.mem_cons_of_mem _ h)
 refine Fc.mk (callable Tryz.call153) Tryz.func153 rfl Tryz.ntmps153 rfl ?_;dsimp only [fr]
 repeat' (first | (refine uP rfl ?_;(first | ((first | refine uN rfl ?_);(first | (refine uE (uL rfl rfl (uO (te rfl) rfl (List.mem_cons_of_mem _ hm) rfl)) rfl rfl ?_)|(refine uC (uT rfl (Args.cons rfl (Args.cons rfl Args.nil))) rfl rfl (contains_specDr l a c x _ (hl1 _) hb) ?_;rintro _ H9 ⟨rfl,hH9⟩;subst H9)|(refine uE (uA rfl rfl) rfl rfl ?_)|(refine uE (uL rfl rfl (uW (te rfl) rfl (qH _) rfl)) rfl rfl ?_)|(refine Xg.st (StF.boxAgg rfl rfl) rfl rfl ?_;rintro _ _ ⟨bx,rfl,rfl⟩)))))|(refine uD rfl ?_;refine hK _ _ ?_;clear hK K) | refine uS rfl ?_ | refine uR rfl (fun K hK=>?_) | refine X.ret rfl ?_)
 refine ret_one (by simp) Tryz.results153 rfl (H' := H) (by (repeat (first | exact qR _ | apply qC));done) ?_;simp only [and_true,true_and]
noncomputable def excDr (l out : List Dr) : List Dr:=l.filter (fun e => !decide (e ∈ out))
theorem except_specDr (l : List Dr) (ad : Addr) (c : Nat) (out : List Dr) (a : Option Addr) (c' : Nat) (H : List Row) (hl : SlE H (some ad) cDr 4 l) (hb : l.length ≤ 1000000) (ho : SlE H a cDr 4 out) (hb' : out.length ≤ 1000000) :
  Fc Tryz.prog 121 [.slice (some ad) l.length c,.slice a out.length c'] H (fun v H' => ∃ b k,v = .slice (some ⟨b,0,none⟩) (excDr l out).length k∧H' = ⟨b,0,(excDr l out).flatMap cDr,some 38,k * 4⟩::H):=by
 have hl1 : ∀ r,SlE (r::H) (some ad) cDr 4 l:=fun r=>hl.sub (fun _ h=>List.mem_cons_of_mem _ h)
 refine Fc.mk (callable Tryz.call121) Tryz.func121 rfl Tryz.ntmps121 rfl ?_;dsimp only [fr]
 repeat' (first | (refine uP rfl ?_;(first | ((first | refine uN rfl ?_);(first | (refine uC (uT rfl (by (repeat (first | exact Args.nil | refine Args.cons rfl ?_));done)) rfl rfl (clone_specDr l ad c _ (hl1 _) hb) ?_;rintro _ _ ⟨bc,kc,rfl,rfl⟩)|(refine uE (EvF.makeFunc (fl:=[]) rfl Args.nil (Args.cons rfl Args.nil)) rfl rfl ?_)|(refine uC (uT rfl (Args.cons rfl (Args.cons rfl Args.nil))) rfl rfl (deleteFunc_specDr l bc kc 153 (fun e=>decide (e ∈ out)) [_] _ hb (fun Z e _=>except1_specDr e out a c' _ _ _ _ (List.mem_append_right _ (qH _)) (ho.sub (fun _ h=>List.mem_append_right _ (qT _ h))) (by omega))) ?_;rintro _ H9 ⟨rfl,hH9⟩;subst H9)|(refine uE (uM rfl rfl) rfl rfl ?_)|(refine uE (uA rfl rfl) rfl rfl ?_)|(refine Xg.st (StF.boxOne rfl rfl rfl) rfl rfl ?_;rintro _ _ ⟨bx,rfl,rfl⟩)))))|(refine uD rfl ?_;refine hK _ _ ?_;clear hK K) | refine uS rfl ?_ | refine uR rfl (fun K hK=>?_) | refine X.ret rfl ?_)
 exact ret_one (by simp) Tryz.results121 rfl (H' := ⟨bc,0,(excDr l out).flatMap cDr,some 38,kc * 4⟩::H) (by repeat (first | exact qR _ | apply qK | apply qC)) ⟨bc,kc,rfl,rfl⟩
theorem index_specWg (l : List Wg) (a : Option Addr) (c : Nat) (x : Wg) (H : List Row) (hl : SlE H a cDr 4 l) (hb : l.length ≤ 9223372036854775807) :
  Fc Tryz.prog 166 [.slice a l.length c,.agg (cDr x).toArray] H (fun v H' => (∃ z,v = .int .i64 z∧IdxR (fun n=>decide (x = n)) l z)∧H' = H):=by
 refine Fc.mk (callable Tryz.call166) Tryz.func166 rfl Tryz.ntmps166 rfl ?_;dsimp only [fr]
 repeat' (first | (refine uP rfl ?_;(first | ((first | refine uN rfl ?_);(first | (refine uE (uM rfl rfl) rfl rfl ?_)|(refine uE (uA rfl rfl) rfl rfl ?_)|(refine uE (uQ rfl rfl rfl rfl) rfl rfl ?_)|(refine uE (uY rfl rfl (te rfl)) rfl rfl ?_)|(refine Xg.st (StF.boxAgg rfl rfl) rfl rfl ?_;rintro _ _ ⟨bx,rfl,rfl⟩)))))|(refine uD rfl ?_;refine hK _ _ ?_;clear hK K)|(refine XQ.op rfl ?_;(first | ((first | refine Yo.ng rfl ?_);(first | (refine Yg.ev (uM rfl rfl) rfl rfl ?_)|(refine Yg.ev (uL rfl rfl (uW (te rfl) rfl (qH _) rfl)) rfl rfl ?_))))) | refine uS rfl ?_ | refine uR rfl (fun K hK=>?_) | refine X.regionD rfl mixed (by kernel_rfl) (fun K hK=>?_) | refine X.block rfl ?_ | (refine X.brk rfl ?_;repeat (first | refine blockX_hit rfl ?_ | refine blockX_miss (by decide) ?_)) | refine X.skip rfl ?_ | refine X.ret rfl ?_ | (refine X.ite rfl rfl (fun hc=>?_);(first | (with_reducible refine Xb.case hc (fun h=>?_) (fun h=>?_))) <;> clear hc))
 rename Nat=>bx
 refine X.lp rfl (fun q F' H' => ∃ k : Nat,q = l.length - k∧k ≤ l.length∧(∀ i e,i < k → l[i]? = some e → x ≠ e)∧⟨bx,0,cDr x,some 41,4⟩::H = H' ∧
   F' = [(0,.slice a l.length c),(3,.pointer (some ⟨bx,0,none⟩)),(7,.int .i64 l.length),(8,.int .i64 k)])
  l.length [(0,.slice a l.length c),(3,.pointer (some ⟨bx,0,none⟩)),(7,.int .i64 l.length),(8,.int .i64 (0 : Nat))] _ (by repeat (first | exact uU _ | refine uV rfl ?_)) (by repeat (first | exact qR _ | apply qK | apply qC)) ⟨0,by omega,by omega,(fun i e hi=>absurd hi (by omega)),rfl,rfl⟩ ?_
 rintro _ _ H2 ⟨k,rfl,hk,hn,hH,rfl⟩
 subst hH
 repeat' (first | (refine uP rfl ?_;(first | ((first | refine uN rfl ?_);(first | (refine uE (uM rfl rfl) rfl rfl ?_)|(refine uE (uA rfl rfl) rfl rfl ?_)|(refine uE (uQ rfl rfl rfl rfl) rfl rfl ?_)|(refine uE (uY rfl rfl (te rfl)) rfl rfl ?_)|(refine Xg.st (StF.boxAgg rfl rfl) rfl rfl ?_;rintro _ _ ⟨bx,rfl,rfl⟩)))))|(refine uD rfl ?_;refine hK _ _ ?_;clear hK K)|(refine XQ.op rfl ?_;(first | ((first | refine Yo.ng rfl ?_);(first | (refine Yg.ev (uM rfl rfl) rfl rfl ?_)|(refine Yg.ev (uL rfl rfl (uW (te rfl) rfl (qH _) rfl)) rfl rfl ?_))))) | refine uS rfl ?_ | refine uR rfl (fun K hK=>?_) | refine X.regionD rfl mixed (by kernel_rfl) (fun K hK=>?_) | refine X.block rfl ?_ | (refine X.brk rfl ?_;repeat (first | refine blockX_hit rfl ?_ | refine blockX_miss (by decide) ?_)) | refine X.skip rfl ?_ | refine X.ret rfl ?_ | (refine X.ite rfl rfl (fun hc=>?_);(first | (with_reducible refine Xb.case hc (fun h=>?_) (fun h=>?_))) <;> clear hc))
 ·obtain ⟨b,off,e,rfl,he⟩:=hl.elem (i:=k) (by omega)
  have hl1 : ∀ r,SlE (r::H) (some ⟨b,off,none⟩) cDr 4 l:=fun r=>hl.sub (fun _ h=>List.mem_cons_of_mem _ h)
  repeat' (first | (refine uP rfl ?_;(first | ((first | refine uN rfl ?_);(first | (refine uE (uM rfl rfl) rfl rfl ?_)|(refine uE (uA rfl rfl) rfl rfl ?_)|(refine uE (EvF.add64 rfl rfl rfl (by omega) (by omega)) rfl rfl ?_)))))|(refine uD rfl ?_;refine hK _ _ ?_;clear hK K)|(refine XQ.op rfl ?_;(first | ((first | refine Yo.ng rfl ?_);(first | (refine Yg.ev (uL rfl rfl (LoadV.elA0 (hl1 _) he (te rfl) rfl (fun _ hm=>hm) rfl)) rfl rfl ?_)|(refine Yg.ev (EvF.eqSt rfl rfl rfl (by kernel_rfl) (fun w=>eqWg 9997 x e w) rfl) rfl rfl ?_)|(refine Yg.ev (uJ rfl rfl rfl (te rfl) (te rfl) (by omega) (by omega)) rfl rfl ?_)))))|(refine XQ.done rfl ?_;refine hK _ ?_;clear hK K) | refine uS rfl ?_ | refine uR rfl (fun K hK=>?_) | refine X.skip rfl ?_ | refine X.ret rfl ?_ | (refine X.ite rfl rfl (fun hc=>?_);(first | (with_reducible refine Xb.case hc (fun h=>?_) (fun h=>?_))) <;> clear hc))
  ·refine ret_one (by simp) Tryz.results166 rfl (H' := H) (by (repeat (first | exact qR _ | apply qC));done) ?_;simp only [and_true,true_and]
   refine ⟨_,rfl,.inr ⟨k,e,rfl,he,decide_eq_true (by assumption),fun i e hi he=>decide_eq_false (hn i e hi he)⟩⟩
  ·refine ⟨_,_,_,(by repeat (first | exact uU _ | refine uV rfl ?_)),(by repeat (first | exact qR _ | apply qK | apply qC)),⟨k + 1,rfl,by omega,(fun i e' hi he' => ?_),rfl,rfl⟩,by omega⟩
   rcases Nat.lt_or_ge i k with h1 | h1
   ·exact hn i e' h1 he'
   ·obtain rfl : i = k:=by omega
    rw [he] at he';cases he';assumption
 ·refine ret_one (by simp) Tryz.results166 rfl (H' := H) (by (repeat (first | exact qR _ | apply qC));done) ?_;simp only [and_true,true_and]
  refine ⟨_,rfl,.inl ⟨rfl,fun e he=>?_⟩⟩
  obtain ⟨i,hi,rfl⟩:=List.mem_iff_getElem.1 he
  exact decide_eq_false (hn i _ (by omega) (List.getElem?_eq_getElem hi))
theorem contains_specWg (l : List Wg) (a : Option Addr) (c : Nat) (x : Wg) (H : List Row) (hl : SlE H a cDr 4 l) (hb : l.length ≤ 9223372036854775807) :
  Fc Tryz.prog 159 [.slice a l.length c,.agg (cDr x).toArray] H (fun v H' => v = .bool (decide (x ∈ l))∧H' = H):=by
 have hl1 : ∀ r,SlE (r::H) a cDr 4 l:=fun r=>hl.sub (fun _ h=>List.mem_cons_of_mem _ h)
 refine Fc.mk (callable Tryz.call159) Tryz.func159 rfl Tryz.ntmps159 rfl ?_;dsimp only [fr]
 repeat' (first | (refine uP rfl ?_;(first | ((first | refine uN rfl ?_);(first | (refine uC (uT rfl (by (repeat (first | exact Args.nil | refine Args.cons rfl ?_));done)) rfl rfl (index_specWg l a c x _ (hl1 _) hb) ?_;rintro _ H9 ⟨⟨z,rfl,hz⟩,hH9⟩;subst H9)|(refine uE (uM rfl rfl) rfl rfl ?_)|(refine uE (uA rfl rfl) rfl rfl ?_)|(refine uE (uQ rfl rfl rfl rfl) rfl rfl ?_)|(refine uE (uL rfl rfl (uW (te rfl) rfl (qH _) rfl)) rfl rfl ?_)|(refine Xg.st (StF.boxAgg rfl rfl) rfl rfl ?_;rintro _ _ ⟨bx,rfl,rfl⟩)))))|(refine uD rfl ?_;refine hK _ _ ?_;clear hK K) | refine uS rfl ?_ | refine uR rfl (fun K hK=>?_) | refine X.ret rfl ?_)
 refine ret_one (by simp) Tryz.results159 rfl (H' := H) (by (repeat (first | exact qR _ | apply qC));done) ?_;simp only [and_true,true_and]
 congr 1
 refine decide_eq_decide.2 (hz.ge.trans ⟨fun ⟨e,he,hp⟩=>?_,fun h=>⟨x,h,by simp⟩⟩)
 have:=of_decide_eq_true hp
 subst this;exact he
theorem except1_specWg (x : Wg) (l : List Wg) (a : Option Addr) (c b : Nat) (ow : Option Kd) (cap : Nat) (H : List Row) (hm : ⟨b,0,[.slice a l.length c],ow,cap⟩ ∈ H) (hl : SlE H a cDr 4 l) (hb : l.length ≤ 9223372036854775807) :
  Fc Tryz.prog 158 ([.agg (cDr x).toArray]++[.pointer (some ⟨b,0,none⟩)]) H (fun v H' => v = .bool (decide (x ∈ l))∧H' = H):=by
 show Fc Tryz.prog 158 [.agg (cDr x).toArray,.pointer (some ⟨b,0,none⟩)] H _
 have hl1 : ∀ r,SlE (r::H) a cDr 4 l:=fun r=>hl.sub (fun _ h=>List.mem_cons_of_mem _ h)
 refine Fc.mk (callable Tryz.call158) Tryz.func158 rfl Tryz.ntmps158 rfl ?_;dsimp only [fr]
 repeat' (first | (refine uP rfl ?_;(first | ((first | refine uN rfl ?_);(first | (refine uE (uL rfl rfl (uO (te rfl) rfl (List.mem_cons_of_mem _ hm) rfl)) rfl rfl ?_)|(refine uC (uT rfl (Args.cons rfl (Args.cons rfl Args.nil))) rfl rfl (contains_specWg l a c x _ (hl1 _) hb) ?_;rintro _ H9 ⟨rfl,hH9⟩;subst H9)|(refine uE (uA rfl rfl) rfl rfl ?_)|(refine uE (uL rfl rfl (uW (te rfl) rfl (qH _) rfl)) rfl rfl ?_)|(refine Xg.st (StF.boxAgg rfl rfl) rfl rfl ?_;rintro _ _ ⟨bx,rfl,rfl⟩)))))|(refine uD rfl ?_;refine hK _ _ ?_;clear hK K) | refine uS rfl ?_ | refine uR rfl (fun K hK=>?_) | refine X.ret rfl ?_)
 refine ret_one (by simp) Tryz.results158 rfl (H' := H) (by (repeat (first | exact qR _ | apply qC));done) ?_;simp only [and_true,true_and]
noncomputable def excWg (l out : List Wg) : List Wg:=l.filter (fun e => !decide (e ∈ out))
theorem except_specWg (l : List Wg) (ad : Addr) (c : Nat) (out : List Wg) (a : Option Addr) (c' : Nat) (H : List Row) (hl : SlE H (some ad) cDr 4 l) (hb : l.length ≤ 1000000) (ho : SlE H a cDr 4 out) (hb' : out.length ≤ 1000000) :
  Fc Tryz.prog 126 [.slice (some ad) l.length c,.slice a out.length c'] H (fun v H' => ∃ b k,v = .slice (some ⟨b,0,none⟩) (excWg l out).length k∧H' = ⟨b,0,(excWg l out).flatMap cDr,some 41,k * 4⟩::H):=by
 have hl1 : ∀ r,SlE (r::H) (some ad) cDr 4 l:=fun r=>hl.sub (fun _ h=>List.mem_cons_of_mem _ h)
 refine Fc.mk (callable Tryz.call126) Tryz.func126 rfl Tryz.ntmps126 rfl ?_;dsimp only [fr]
 repeat' (first | (refine uP rfl ?_;(first | ((first | refine uN rfl ?_);(first | (refine uC (uT rfl (by (repeat (first | exact Args.nil | refine Args.cons rfl ?_));done)) rfl rfl (clone_specWg l ad c _ (hl1 _) hb) ?_;rintro _ _ ⟨bc,kc,rfl,rfl⟩)|(refine uE (EvF.makeFunc (fl:=[]) rfl Args.nil (Args.cons rfl Args.nil)) rfl rfl ?_)|(refine uC (uT rfl (Args.cons rfl (Args.cons rfl Args.nil))) rfl rfl (deleteFunc_specWg l bc kc 158 (fun e=>decide (e ∈ out)) [_] _ hb (fun Z e _=>except1_specWg e out a c' _ _ _ _ (List.mem_append_right _ (qH _)) (ho.sub (fun _ h=>List.mem_append_right _ (qT _ h))) (by omega))) ?_;rintro _ H9 ⟨rfl,hH9⟩;subst H9)|(refine uE (uM rfl rfl) rfl rfl ?_)|(refine uE (uA rfl rfl) rfl rfl ?_)|(refine Xg.st (StF.boxOne rfl rfl rfl) rfl rfl ?_;rintro _ _ ⟨bx,rfl,rfl⟩)))))|(refine uD rfl ?_;refine hK _ _ ?_;clear hK K) | refine uS rfl ?_ | refine uR rfl (fun K hK=>?_) | refine X.ret rfl ?_)
 exact ret_one (by simp) Tryz.results126 rfl (H' := ⟨bc,0,(excWg l out).flatMap cDr,some 41,kc * 4⟩::H) (by repeat (first | exact qR _ | apply qK | apply qC)) ⟨bc,kc,rfl,rfl⟩
end Go.Proofs.YtbpcbdbclijomaaGreat
namespace Go.Fw
open Go Go.RowKit
theorem Fc.weak {P : Program} {f : FuncId} {args : List Value} {H H' : List Row} {R : Value → List Row → Prop} (h : Fc P f args H R) (hp : H.Sublist H') : Fc P f args H' R:=by
 unfold Fc at *
 exact ⟨h.1,fun B w0 w hS=>h.2 B w0 w (hS.sub hp)⟩
theorem XO.reveal {P : Program} {n : Nat} {ops : Array Oper} {i : Nat} {F : FS} {H : List Row} {N : FS → List Row → Prop} {q b cap : Nat} {el : TypeId} {cs : List Value} (hi : H[q]? = some ⟨b,0,cs,some el,cap⟩) (k : ∀ rest,(cs++rest).length = cap → XO P n ops i F (H.set q ⟨b,0,cs++rest,some el,cap⟩) N) : XO P n ops i F H N:=by
 unfold XO WO at *
 intro t ha ρ ds B w0 w hS
 obtain ⟨rest,hl,hS'⟩:=hS.reveal hi
 exact k rest hl t ha ρ ds B w0 w hS'
theorem X.weakR {P : Program} {n : Nat} {c : Code} {F : FS} {H H' : List Row} {Q : QX} (hh : H'.Sublist H) (h : X P n c F H' Q) : X P n c F H Q:=X.weak (fun _ _ h=>h) hh h
end Go.Fw
namespace Go.Proofs.YtbpcbdbclijomaaGreat
open Go Go.Fw
set_option maxRecDepth 10000
/-- the first list of m things more that is right -/
def lon (ok : List Dr → Bool) : List Dr → Nat → List Dr → Option (List Dr)
 | [],0,acc=>if ok acc = true then some acc else none
 | [],_ + 1,_=>none
 | _::_,0,acc=>if ok acc = true then some acc else none
 | x::t,m + 1,acc=>match lon ok t m (acc++[x]) with
  | some r=>some r
  | none=>lon ok t (m + 1) acc
theorem lon_zero (ok : List Dr → Bool) (t acc : List Dr) : lon ok t 0 acc = if ok acc = true then some acc else none:=by cases t <;> rfl
theorem lon_short (ok : List Dr → Bool) : ∀ (t : List Dr) (m : Nat) (acc : List Dr),t.length < m → lon ok t m acc = none
 | [],0,_,h=>by simp at h
 | [],_ + 1,_,_=>rfl
 | _::_,0,_,h=>by simp at h
 | x::t,m + 1,acc,h=>by
  simp only [List.length_cons] at h
  simp only [lon]
  rw [lon_short ok t m _ (by omega),lon_short ok t (m + 1) _ (by omega)]
theorem lon_len (ok : List Dr → Bool) : ∀ (t : List Dr) (m : Nat) (acc r : List Dr),lon ok t m acc = some r → r.length = acc.length + m
 | [],0,acc,r,h=>by simp only [lon] at h;split at h <;> simp_all
 | [],_ + 1,_,_,h=>by simp [lon] at h
 | _::_,0,acc,r,h=>by simp only [lon] at h;split at h <;> simp_all
 | x::t,m + 1,acc,r,h=>by
  simp only [lon] at h
  split at h
  ·rename_i r' h'
   have:=lon_len ok t m _ r' h'
   rw [List.length_append] at this
   simp only [Option.some.injEq] at h
   subst h
   simp at this;omega
  ·exact lon_len ok t (m + 1) acc r h
def few (ok : List Dr → Bool) (l : List Dr) : Nat → Nat → Option (List Dr)
 | 0,_=>none
 | k + 1,n=>match lon ok l n [] with
  | some r=>some r
  | none=>few ok l k (n + 1)
def ts70 : List TOp:=[⟨some 24,[],[],[]⟩,⟨some 25,[],[],[]⟩,⟨some 26,[],[],[]⟩,⟨some 27,[1,2],[1,2],[]⟩,⟨some 28,[1,2,3],[3],[]⟩,⟨some 29,[1,2,3,4],[4],[]⟩,⟨some 30,[0,1,2,3,4,5],[0,5],[9]⟩,⟨none,[0,1,2,3,4,5,6],[6],[8]⟩,⟨none,[],[],[]⟩,⟨none,[],[],[]⟩]
def rd70 (k : Nat) : List Nat:=match k with
 | 0=>[8]
 | 6=>[5]
 | _=>[]
def TrvDr (l : List Dr) (out : Value) (Z : List Row) : Prop:=(l = []∧out = .slice none 0 0∧Z = []) ∨ ∃ b q,out = .slice (some ⟨b,0,none⟩) l.length q∧Z = [⟨b,0,l.flatMap cDr,some 38,q * 4⟩]
theorem TrvDr.sl {l : List Dr} {out : Value} {Z H : List Row} (h : TrvDr l out Z) : ∃ a c,out = .slice a l.length c∧SlE (Z++H) a cDr 4 l:=by
 rcases h with ⟨rfl,rfl,rfl⟩ | ⟨b,q,rfl,rfl⟩
 ·exact ⟨none,0,rfl,sleNil⟩
 ·exact ⟨_,_,rfl,SlE.ofRow (qH _) (fun _ _=>rfl)⟩
def val70Dr (out : Value) (lb lo n c : Nat) (ll : Nat) (i : Nat) (e : Dr) (k : Nat) (env : Env) : Value :=
 match k with
 | 0=>out
 | 1 => .slice (some ⟨lb,lo,none⟩) ll c
 | 2 => .int .i64 i
 | 3 => .pointer (some ⟨lb,lo + i * 4,none⟩)
 | 4 => .agg (cDr e).toArray
 | 5 => .slice (some ⟨(env 5).1,0,none⟩) 1 1
 | 6 => .slice (some ⟨(env 6).1,0,none⟩) (n + 1) (env 6).2
 | _=>undef
def rows70Dr (bt : Nat) (out : Value) (Z : List Row) (acc : List Dr) (e : Dr) (k : Nat) (env : Env) : List Row :=
 match k with
 | 5=>[⟨(env 5).1,0,cDr e,some 38,1 * 4⟩]
 | 6=>[⟨(env 6).1,0,acc.flatMap cDr++cDr e,some 38,(env 6).2 * 4⟩]
 | 7=>[⟨bt,0,[.slice (some ⟨(env 6).1,0,none⟩) (acc.length + 1) (env 6).2],some 28,1⟩]
 | 8=>[⟨bt,0,[out],some 28,1⟩]
 | 9=>Z
 | _=>[]
theorem loc70Dr (bt : Nat) (out : Value) (Z : List Row) (acc : List Dr) (lb lo c ll j : Nat) (e : Dr) : ∀ k env i q9,i ≠ k → (tAt ts70 k).sup.contains i = false → val70Dr out lb lo acc.length c ll j e k (upd env i q9)=val70Dr out lb lo acc.length c ll j e k env∧rows70Dr bt out Z acc e k (upd env i q9)=rows70Dr bt out Z acc e k env:=by
 intro k env i q hk hs
 have hu : ∀ j,j ≠ i → upd env i q j = env j:=fun j hj=>by unfold upd;rw [if_neg hj]
 match k,hk,hs with
 | 0,_,_=>exact ⟨rfl,rfl⟩
 | 1,_,_=>exact ⟨rfl,rfl⟩
 | 2,_,_=>exact ⟨rfl,rfl⟩
 | 3,_,_=>exact ⟨rfl,rfl⟩
 | 4,_,_=>exact ⟨rfl,rfl⟩
 | 5,hk,hs=>exact ⟨by simp only [val70Dr,hu 5 (fun e=>hk e.symm)],by simp only [rows70Dr,hu 5 (fun e=>hk e.symm)]⟩
 | 6,hk,hs=>exact ⟨by simp only [val70Dr,hu 6 (fun e=>hk e.symm)],by simp only [rows70Dr,hu 6 (fun e=>hk e.symm)]⟩
 | 7,hk,hs=>exact ⟨by simp only [val70Dr,hu 6 (by rintro rfl;cases hs)],by simp only [rows70Dr,hu 6 (by rintro rfl;cases hs)]⟩
 | 8,_,_=>exact ⟨rfl,rfl⟩
 | 9,_,_=>exact ⟨rfl,rfl⟩
 | _ + 10,_,_=>exact ⟨rfl,rfl⟩
set_option maxHeartbeats 8000000 in
theorem longer_specDr (ok : List Dr → Bool) (l : List Dr) (a : Option Addr) (c g : Nat) (cap : List Value) (bt br bl bg : Nat) (w1 w2 w3 : Option Kd) (k1 k2 k3 : Nat) (H0 : List Row) (hl : SlE H0 a cDr 4 l) (hb : l.length ≤ 1000000)
  (mr : ⟨br,0,[.func (.func g) #[] cap.toArray],w1,k1⟩ ∈ H0) (ml : ⟨bl,0,[.slice a l.length c],w2,k2⟩ ∈ H0) (mg : ⟨bg,0,[.func (.func 152) #[] #[.pointer (some ⟨br,0,none⟩),.pointer (some ⟨bt,0,none⟩),.pointer (some ⟨bl,0,none⟩),.pointer (some ⟨bg,0,none⟩)]],w3,k3⟩ ∈ H0)
  (hr : ∀ acc a' c' H',(∀ r ∈ H0,r ∈ H') → SlE H' a' cDr 4 acc → acc.length ≤ 1000000 → Fc Tryz.prog g ([.slice a' acc.length c']++cap) H' (fun v H'' => v = .bool (ok acc)∧H'' = H')) :
  ∀ (m f0 : Nat) (mi fi : Int) (acc : List Dr) (out : Value) (Z : List Row),mi = m → fi = f0 → f0 ≤ l.length → acc.length + m ≤ 1000000 → TrvDr acc out Z →
  Fc Tryz.prog 152 ([.int .i64 fi,.int .i64 mi]++[.pointer (some ⟨br,0,none⟩),.pointer (some ⟨bt,0,none⟩),.pointer (some ⟨bl,0,none⟩),.pointer (some ⟨bg,0,none⟩)]) (⟨bt,0,[out],some 28,1⟩::(Z++H0))
   (fun v H' => ∃ out' Z',((∃ r,lon ok (l.drop f0) m acc = some r∧v = .bool true∧TrvDr r out' Z')∨(lon ok (l.drop f0) m acc = none∧v = .bool false∧TrvDr acc out' Z'))∧H' = ⟨bt,0,[out'],some 28,1⟩::(Z'++H0)):=by
 intro m
 induction m with
 | zero =>
  intro f0 mi fi acc out Z hmi hfi hfr hacc hT
  subst hmi
  obtain ⟨a',c',rfl,hs⟩:=hT.sl (H:=H0)
  show Fc Tryz.prog 152 [.int .i64 fi,.int .i64 ((0 : Nat) : Int),.pointer (some ⟨br,0,none⟩),.pointer (some ⟨bt,0,none⟩),.pointer (some ⟨bl,0,none⟩),.pointer (some ⟨bg,0,none⟩)] _ _
  refine Fc.mk (callable Tryz.call152) Tryz.func152 rfl Tryz.ntmps152 rfl ?_;dsimp only [fr]
  repeat' (first | (refine uP rfl ?_;(first | ((first | refine uN rfl ?_);(first | (refine uE (uL rfl rfl (uO (te rfl) rfl (qT _ (List.mem_append_right _ mr)) rfl)) rfl rfl ?_)|(refine uC (EnF.dyn0 rfl rfl (by (repeat (first | exact Args.nil | refine Args.cons rfl ?_));done)) rfl rfl (hr acc a' c' _ (fun _ h=>qT _ (List.mem_append_right _ h)) (hs.sub (fun _ h=>qT _ h)) (by omega)) ?_;rintro _ H9 ⟨rfl,hH9⟩;subst H9)|(refine uE (uM rfl rfl) rfl rfl ?_)|(refine uE (uA rfl rfl) rfl rfl ?_)|(refine uE (uQ rfl rfl rfl rfl) rfl rfl ?_)|(refine uE (uL rfl rfl (uO (te rfl) rfl (qH _) rfl)) rfl rfl ?_)))))|(refine uD rfl ?_;refine hK _ _ ?_;clear hK K) | refine uS rfl ?_ | refine uR rfl (fun K hK=>?_) | refine X.block rfl ?_ | refine X.skip rfl ?_ | refine X.ret rfl ?_ | (refine X.ite rfl rfl (fun hc=>?_);(first | (with_reducible refine Xb.case hc (fun h=>?_) (fun h=>?_))) <;> clear hc))
  ·refine ret_one (by simp) Tryz.results152 rfl (H' := _) (qR _) ⟨_,Z,?_,rfl⟩
   rw [lon_zero]
   by_cases hk : ok acc = true
   ·exact .inl ⟨acc,by rw [if_pos hk],by rw [hk],hT⟩
   ·exact .inr ⟨by rw [if_neg hk],by rw [Bool.eq_false_iff.2 hk],hT⟩
  ·exfalso;omega
 | succ m ih =>
  intro f0 mi fi acc out Z hmi hfi hfr hacc hT
  subst hfi
  show Fc Tryz.prog 152 [.int .i64 (f0 : Int),.int .i64 mi,.pointer (some ⟨br,0,none⟩),.pointer (some ⟨bt,0,none⟩),.pointer (some ⟨bl,0,none⟩),.pointer (some ⟨bg,0,none⟩)] _ _
  refine Fc.mk (callable Tryz.call152) Tryz.func152 rfl Tryz.ntmps152 rfl ?_;dsimp only [fr]
  repeat' (first | (refine uP rfl ?_;(first | ((first | refine uN rfl ?_);(first | (refine uE (uM rfl rfl) rfl rfl ?_)|(refine uE (uA rfl rfl) rfl rfl ?_)|(refine uE (uQ rfl rfl rfl rfl) rfl rfl ?_)))))|(refine uD rfl ?_;refine hK _ _ ?_;clear hK K) | refine uS rfl ?_ | refine uR rfl (fun K hK=>?_) | refine X.block rfl ?_ | refine X.skip rfl ?_ | (refine X.ite rfl rfl (fun hc=>?_);(first | (with_reducible refine Xb.case hc (fun h=>?_) (fun h=>?_))) <;> clear hc))
  ·exfalso;omega
  refine X.lp rfl (fun q F' H' => ∃ (i : Nat) (out : Value) (Z : List Row),q = l.length + 1 - i∧i ≤ l.length∧TrvDr acc out Z∧lon ok (l.drop f0) (m + 1) acc = lon ok (l.drop i) (m + 1) acc∧⟨bt,0,[out],some 28,1⟩::(Z++H0)=H' ∧
    F' = [(1,.int .i64 mi),(2,.pointer (some ⟨br,0,none⟩)),(3,.pointer (some ⟨bt,0,none⟩)),(4,.pointer (some ⟨bl,0,none⟩)),(5,.pointer (some ⟨bg,0,none⟩)),(9,.int .i64 i)])
   (l.length + 1 - f0) [(1,.int .i64 mi),(2,.pointer (some ⟨br,0,none⟩)),(3,.pointer (some ⟨bt,0,none⟩)),(4,.pointer (some ⟨bl,0,none⟩)),(5,.pointer (some ⟨bg,0,none⟩)),(9,.int .i64 f0)] _ (by repeat (first | exact uU _ | refine uV rfl ?_)) (qR _) ⟨f0,out,Z,rfl,hfr,hT,rfl,rfl,rfl⟩ ?_
  clear hT
  rintro _ _ H2 ⟨i,out,Z,rfl,hi,hT,hlon,hH,rfl⟩
  subst hH
  repeat' (first | (refine uP rfl ?_;(first | ((first | refine uN rfl ?_);(first | (refine uE (uL rfl rfl (uO (te rfl) rfl (qT _ (List.mem_append_right _ ml)) rfl)) rfl rfl ?_)|(refine uE (uM rfl rfl) rfl rfl ?_)|(refine uE (uA rfl rfl) rfl rfl ?_)|(refine uE (uQ rfl rfl rfl rfl) rfl rfl ?_)|(refine uE (EvF.add64 rfl rfl rfl (by omega) (by omega)) rfl rfl ?_)|(refine uE (uY rfl rfl (te rfl)) rfl rfl ?_)))))|(refine uD rfl ?_;refine hK _ _ ?_;clear hK K) | refine uS rfl ?_ | refine uR rfl (fun K hK=>?_) | refine X.block rfl ?_ | (refine X.brk rfl ?_;repeat (first | refine blockX_hit rfl ?_ | refine blockX_miss (by decide) ?_)) | refine X.skip rfl ?_ | refine X.ret rfl ?_ | (refine X.ite rfl rfl (fun hc=>?_);(first | (with_reducible refine Xb.case hc (fun h=>?_) (fun h=>?_))) <;> clear hc))
  ·obtain ⟨lb,lo,e,rfl,he⟩:=hl.elem (i:=i) (by omega)
   have hil:=(List.getElem?_eq_some_iff.1 he).1
   have hle : (acc++[e]).length = acc.length + 1:=by rw [List.length_append];rfl
   have hfm : acc.flatMap cDr++cDr e = (acc++[e]).flatMap cDr:=by rw [List.flatMap_append,List.flatMap_singleton]
   have hal : (acc.flatMap cDr).length = acc.length * 4:=lenDr acc
   refine X.regionRd ts70 rd70 [3,4,9,1,2,5] [(3,.pointer (some ⟨bt,0,none⟩)),(4,.pointer (some ⟨bl,0,none⟩)),(9,.int .i64 i),(1,.int .i64 mi),(2,.pointer (some ⟨br,0,none⟩)),(5,.pointer (some ⟨bg,0,none⟩))]
    (val70Dr out lb lo acc.length c l.length i e) (rows70Dr bt out Z acc e) (fun _=>(0,0)) H0 rfl mixed (by repeat (first | exact uU _ | refine uV rfl ?_)) rfl (by kernel_rfl) (by kernel_rfl) (loc70Dr bt out Z acc lb lo c l.length i e) (by show List.Sublist ((⟨bt,0,[out],some 28,1⟩::(Z++[]))++H0) _;rw [List.append_nil];exact qR _) ?_ ?_
   ·repeat' (first | exact AllF.done rfl | (refine AllF.step rfl ?_ ?_;·(first | exact (Ob.ng rfl (uK (fun env R hR=>by exact ⟨_,uM rfl rfl,rfl⟩) rfl (fun _=>rfl))).toR | (refine ObR.ng rfl ?_;(first | (exact fun env S hS hrd=>(StF.ofEv (uL rfl rfl (uO (te rfl) rfl (hrd 8 (qH _) _ (qH _)) rfl))).op.mono (fun v H' ⟨hv,hH⟩=>⟨(0,0),fun _=>hv,by rw [hH];exact List.Perm.refl _⟩))|(exact fun env S hS hrd=>(StF.ofEv (uL rfl rfl (uO (te rfl) rfl (hS _ ml) rfl))).op.mono (fun v H' ⟨hv,hH⟩=>⟨(0,0),fun _=>hv,by rw [hH];exact List.Perm.refl _⟩))|((refine fun env S hS hrd=>(StF.ofEv (v := .pointer (some ⟨lb,lo + i * 4,none⟩)) ?_).op.mono (fun v H' ⟨hv,hH⟩=>⟨(0,0),fun _=>hv,by rw [hH];exact List.Perm.refl _⟩);refine uJ (T:=28) (e:=38) (i:=(i : Int)) (off:=lo) (b:=lb) (len:=l.length) (ti:=⟨.st [(0,3),(1,3),(2,24)],4,32⟩) rfl rfl rfl (te rfl) (te rfl) ?_ ?_ <;> omega))|(exact fun env S hS hrd=>(StF.ofEv (v := .agg (cDr e).toArray) (uL rfl rfl (LoadV.elA0 (n:=i) hl he (te rfl) rfl (fun _ h=>hS _ h) rfl))).op.mono (fun v H' ⟨hv,hH⟩=>⟨(0,0),fun _=>hv,by rw [hH];exact List.Perm.refl _⟩))|(exact fun env S hS hrd=>(StF.buildOne rfl elDr rfl rfl rfl (by decide) (by decide)).op.mono (fun v H' ⟨b,hv,hH⟩=>⟨(b,0),fun _=>hv,by rw [hH];exact List.Perm.refl _⟩))|(exact fun env S hS hrd=>(StF.storeOne (i:=0) rfl rfl rfl rfl (te rfl) rfl rfl (Nat.le_of_ble_eq_true rfl)).op.mono (fun v H' ⟨hv,hH⟩=>⟨(0,0),fun h=>absurd rfl h,by rw [hH];exact List.Perm.refl _⟩))|((rcases hT with ⟨rfl,rfl,rfl⟩ | ⟨b,q,rfl,rfl⟩ <;> first | exact fun env S hS hrd=>(StF.appendNew rfl elDr rfl rfl (by decide) rfl (Rd.own (hrd 5 (qH _) _ (qH _))) (by decide)).op.mono (fun v H' ⟨b,c,hv,hH⟩=>⟨(b,c),fun _=>hv,by rw [hH];exact List.Perm.refl _⟩) | exact fun env S hS hrd=>(StF.appendOwn (i:=0) rfl elDr rfl rfl rfl hal rfl (Rd.own (qT _ (hrd 5 (qH _) _ (qH _)))) rfl (by omega)).op.mono (fun v H' ⟨b,c,hv,hH⟩=>⟨(b,c),fun _=>hv,by rw [hH];exact List.Perm.refl _⟩))))))))
   ·intro env t ha hv
    refine ⟨_,ha,?_⟩
    show X _ _ _ _ (⟨(env 5).1,0,cDr e,some 38,1 * 4⟩::⟨(env 6).1,0,acc.flatMap cDr++cDr e,some 38,(env 6).2 * 4⟩::⟨bt,0,[.slice (some ⟨(env 6).1,0,none⟩) (acc.length + 1) (env 6).2],some 28,1⟩::H0) _
    rw [hfm]
    refine X.weakR (List.sublist_cons_self _ _) ?_
    refine X.permH (H' := ⟨bt,0,[.slice (some ⟨(env 6).1,0,none⟩) (acc.length + 1) (env 6).2],some 28,1⟩::⟨(env 6).1,0,(acc++[e]).flatMap cDr,some 38,(env 6).2 * 4⟩::H0) (List.Perm.swap _ _ _) ?_
    clear hT
    repeat' (first | (refine uP rfl ?_;(first | ((first | refine uN rfl ?_);(first | (refine uE (uL rfl rfl (uO (te rfl) rfl (qT _ (qT _ mg)) rfl)) rfl rfl ?_)|(refine uC (EnF.dyn0 rfl rfl (by (repeat (first | exact Args.nil | refine Args.cons rfl ?_));done)) rfl rfl (ih (i + 1) _ _ (acc++[e]) _ [⟨(env 6).1,0,(acc++[e]).flatMap cDr,some 38,(env 6).2 * 4⟩] (by omega) (by omega) (by omega) (by omega) (.inr ⟨_,_,by rw [hle],rfl⟩)) ?_;rintro _ _ ⟨out',Z',(⟨r,hlr,rfl,hT'⟩ | ⟨hln,rfl,⟨h0,_,_⟩ | ⟨b',q',rfl,rfl⟩⟩),rfl⟩;rotate_left;·exact absurd h0 (by simp))|(refine uE (uM rfl rfl) rfl rfl ?_)|(refine uE (uA rfl rfl) rfl rfl ?_)|(refine uE (EvF.add64 rfl rfl rfl (by omega) (by omega)) rfl rfl ?_)|(refine uE (EvF.sub64 rfl rfl rfl (by omega) (by omega)) rfl rfl ?_)|(refine uE (uY rfl rfl (te rfl)) rfl rfl ?_)|(refine uE (uL rfl rfl (uO (te rfl) rfl (qH _) rfl)) rfl rfl ?_)))))|(refine uD rfl ?_;refine hK _ _ ?_;clear hK K) | refine uS rfl ?_ | refine uR rfl (fun K hK=>?_) | refine X.skip rfl ?_ | refine X.ret rfl ?_ | (refine X.ite rfl rfl (fun hc=>?_);(first | (with_reducible refine Xb.t hc ?_)|(with_reducible refine Xb.f hc ?_)) <;> clear hc))
    ·refine XO.reveal (q:=1) rfl (fun rest hrest=>?_)
     have hcap : (acc++[e]).length ≤ q' := by
      rw [List.length_append,lenDr] at hrest
      omega
     refine XO.forget (q:=1) (cs:=acc.flatMap cDr) (cs' := cDr e++rest) (by show some (⟨b',0,(acc++[e]).flatMap cDr++rest,some 38,q' * 4⟩ : Row)=_;rw [← hfm,List.append_assoc];rfl) ?_
     dsimp only [List.set,List.cons_append,List.nil_append]
     repeat' (first | (refine uP rfl ?_;(first | ((first | refine uN rfl ?_);(first | (refine uE (EvF.sliceTo (hh:=acc.length) rfl rfl (te rfl) (te rfl) (congrArg (fun z=>some (Value.int .i64 z)) (by omega : (((acc++[e]).length : Nat) : Int) - 1 = (acc.length : Int))) (by omega)) rfl rfl ?_)|(refine uE (uM rfl rfl) rfl rfl ?_)|(refine uE (uA rfl rfl) rfl rfl ?_)|(refine uE (EvF.add64 rfl rfl rfl (by omega) (by omega)) rfl rfl ?_)|(refine Xg.st0 (StF.storeOne (i:=0) rfl rfl rfl rfl (te rfl) rfl rfl (Nat.le_of_ble_eq_true rfl)) rfl ?_;rintro _ _ ⟨rfl,rfl⟩;dsimp only [List.set])))))|(refine uD rfl ?_;refine hK _ _ ?_;clear hK K) | refine uR rfl (fun K hK=>?_))
     refine ⟨_,_,_,(by repeat (first | exact uU _ | refine uV rfl ?_)),qR _,⟨i + 1,_,[⟨b',0,acc.flatMap cDr,some 38,q' * 4⟩],rfl,by omega,.inr ⟨b',q',rfl,rfl⟩,?_,rfl,rfl⟩,by omega⟩
     rw [hlon,drop_cons he]
     simp only [lon,hln]
    ·refine ret_one (by simp) Tryz.results152 rfl (H' := _) (qR _) ⟨out',Z',.inl ⟨r,?_,rfl,hT'⟩,rfl⟩
     rw [hlon,drop_cons he]
     simp only [lon,hlr]
  ·refine ret_one (by simp) Tryz.results152 rfl (H' := _) (qR _) ⟨out,Z,.inr ⟨?_,rfl,hT⟩,rfl⟩
   rw [hlon]
   exact lon_short ok _ _ _ (by rw [List.length_drop];omega)
def TrvWg (l : List Dr) (out : Value) (Z : List Row) : Prop:=(l = []∧out = .slice none 0 0∧Z = []) ∨ ∃ b q,out = .slice (some ⟨b,0,none⟩) l.length q∧Z = [⟨b,0,l.flatMap cDr,some 41,q * 4⟩]
theorem TrvWg.sl {l : List Dr} {out : Value} {Z H : List Row} (h : TrvWg l out Z) : ∃ a c,out = .slice a l.length c∧SlE (Z++H) a cDr 4 l:=by
 rcases h with ⟨rfl,rfl,rfl⟩ | ⟨b,q,rfl,rfl⟩
 ·exact ⟨none,0,rfl,sleNil⟩
 ·exact ⟨_,_,rfl,SlE.ofRow (qH _) (fun _ _=>rfl)⟩
def val70Wg (out : Value) (lb lo n c : Nat) (ll : Nat) (i : Nat) (e : Dr) (k : Nat) (env : Env) : Value :=
 match k with
 | 0=>out
 | 1 => .slice (some ⟨lb,lo,none⟩) ll c
 | 2 => .int .i64 i
 | 3 => .pointer (some ⟨lb,lo + i * 4,none⟩)
 | 4 => .agg (cDr e).toArray
 | 5 => .slice (some ⟨(env 5).1,0,none⟩) 1 1
 | 6 => .slice (some ⟨(env 6).1,0,none⟩) (n + 1) (env 6).2
 | _=>undef
def rows70Wg (bt : Nat) (out : Value) (Z : List Row) (acc : List Dr) (e : Dr) (k : Nat) (env : Env) : List Row :=
 match k with
 | 5=>[⟨(env 5).1,0,cDr e,some 41,1 * 4⟩]
 | 6=>[⟨(env 6).1,0,acc.flatMap cDr++cDr e,some 41,(env 6).2 * 4⟩]
 | 7=>[⟨bt,0,[.slice (some ⟨(env 6).1,0,none⟩) (acc.length + 1) (env 6).2],some 29,1⟩]
 | 8=>[⟨bt,0,[out],some 29,1⟩]
 | 9=>Z
 | _=>[]
theorem loc70Wg (bt : Nat) (out : Value) (Z : List Row) (acc : List Dr) (lb lo c ll j : Nat) (e : Dr) : ∀ k env i q9,i ≠ k → (tAt ts70 k).sup.contains i = false → val70Wg out lb lo acc.length c ll j e k (upd env i q9)=val70Wg out lb lo acc.length c ll j e k env∧rows70Wg bt out Z acc e k (upd env i q9)=rows70Wg bt out Z acc e k env:=by
 intro k env i q hk hs
 have hu : ∀ j,j ≠ i → upd env i q j = env j:=fun j hj=>by unfold upd;rw [if_neg hj]
 match k,hk,hs with
 | 0,_,_=>exact ⟨rfl,rfl⟩
 | 1,_,_=>exact ⟨rfl,rfl⟩
 | 2,_,_=>exact ⟨rfl,rfl⟩
 | 3,_,_=>exact ⟨rfl,rfl⟩
 | 4,_,_=>exact ⟨rfl,rfl⟩
 | 5,hk,hs=>exact ⟨by simp only [val70Wg,hu 5 (fun e=>hk e.symm)],by simp only [rows70Wg,hu 5 (fun e=>hk e.symm)]⟩
 | 6,hk,hs=>exact ⟨by simp only [val70Wg,hu 6 (fun e=>hk e.symm)],by simp only [rows70Wg,hu 6 (fun e=>hk e.symm)]⟩
 | 7,hk,hs=>exact ⟨by simp only [val70Wg,hu 6 (by rintro rfl;cases hs)],by simp only [rows70Wg,hu 6 (by rintro rfl;cases hs)]⟩
 | 8,_,_=>exact ⟨rfl,rfl⟩
 | 9,_,_=>exact ⟨rfl,rfl⟩
 | _ + 10,_,_=>exact ⟨rfl,rfl⟩
set_option maxHeartbeats 8000000 in
theorem longer_specWg (ok : List Dr → Bool) (l : List Dr) (a : Option Addr) (c g : Nat) (cap : List Value) (bt br bl bg : Nat) (w1 w2 w3 : Option Kd) (k1 k2 k3 : Nat) (H0 : List Row) (hl : SlE H0 a cDr 4 l) (hb : l.length ≤ 1000000)
  (mr : ⟨br,0,[.func (.func g) #[] cap.toArray],w1,k1⟩ ∈ H0) (ml : ⟨bl,0,[.slice a l.length c],w2,k2⟩ ∈ H0) (mg : ⟨bg,0,[.func (.func 157) #[] #[.pointer (some ⟨br,0,none⟩),.pointer (some ⟨bt,0,none⟩),.pointer (some ⟨bl,0,none⟩),.pointer (some ⟨bg,0,none⟩)]],w3,k3⟩ ∈ H0)
  (hr : ∀ acc a' c' H',(∀ r ∈ H0,r ∈ H') → SlE H' a' cDr 4 acc → acc.length ≤ 1000000 → Fc Tryz.prog g ([.slice a' acc.length c']++cap) H' (fun v H'' => v = .bool (ok acc)∧H'' = H')) :
  ∀ (m f0 : Nat) (mi fi : Int) (acc : List Dr) (out : Value) (Z : List Row),mi = m → fi = f0 → f0 ≤ l.length → acc.length + m ≤ 1000000 → TrvWg acc out Z →
  Fc Tryz.prog 157 ([.int .i64 fi,.int .i64 mi]++[.pointer (some ⟨br,0,none⟩),.pointer (some ⟨bt,0,none⟩),.pointer (some ⟨bl,0,none⟩),.pointer (some ⟨bg,0,none⟩)]) (⟨bt,0,[out],some 29,1⟩::(Z++H0))
   (fun v H' => ∃ out' Z',((∃ r,lon ok (l.drop f0) m acc = some r∧v = .bool true∧TrvWg r out' Z')∨(lon ok (l.drop f0) m acc = none∧v = .bool false∧TrvWg acc out' Z'))∧H' = ⟨bt,0,[out'],some 29,1⟩::(Z'++H0)):=by
 intro m
 induction m with
 | zero =>
  intro f0 mi fi acc out Z hmi hfi hfr hacc hT
  subst hmi
  obtain ⟨a',c',rfl,hs⟩:=hT.sl (H:=H0)
  show Fc Tryz.prog 157 [.int .i64 fi,.int .i64 ((0 : Nat) : Int),.pointer (some ⟨br,0,none⟩),.pointer (some ⟨bt,0,none⟩),.pointer (some ⟨bl,0,none⟩),.pointer (some ⟨bg,0,none⟩)] _ _
  refine Fc.mk (callable Tryz.call157) Tryz.func157 rfl Tryz.ntmps157 rfl ?_;dsimp only [fr]
  repeat' (first | (refine uP rfl ?_;(first | ((first | refine uN rfl ?_);(first | (refine uE (uL rfl rfl (uO (te rfl) rfl (qT _ (List.mem_append_right _ mr)) rfl)) rfl rfl ?_)|(refine uC (EnF.dyn0 rfl rfl (by (repeat (first | exact Args.nil | refine Args.cons rfl ?_));done)) rfl rfl (hr acc a' c' _ (fun _ h=>qT _ (List.mem_append_right _ h)) (hs.sub (fun _ h=>qT _ h)) (by omega)) ?_;rintro _ H9 ⟨rfl,hH9⟩;subst H9)|(refine uE (uM rfl rfl) rfl rfl ?_)|(refine uE (uA rfl rfl) rfl rfl ?_)|(refine uE (uQ rfl rfl rfl rfl) rfl rfl ?_)|(refine uE (uL rfl rfl (uO (te rfl) rfl (qH _) rfl)) rfl rfl ?_)))))|(refine uD rfl ?_;refine hK _ _ ?_;clear hK K) | refine uS rfl ?_ | refine uR rfl (fun K hK=>?_) | refine X.block rfl ?_ | refine X.skip rfl ?_ | refine X.ret rfl ?_ | (refine X.ite rfl rfl (fun hc=>?_);(first | (with_reducible refine Xb.case hc (fun h=>?_) (fun h=>?_))) <;> clear hc))
  ·refine ret_one (by simp) Tryz.results157 rfl (H' := _) (qR _) ⟨_,Z,?_,rfl⟩
   rw [lon_zero]
   by_cases hk : ok acc = true
   ·exact .inl ⟨acc,by rw [if_pos hk],by rw [hk],hT⟩
   ·exact .inr ⟨by rw [if_neg hk],by rw [Bool.eq_false_iff.2 hk],hT⟩
  ·exfalso;omega
 | succ m ih =>
  intro f0 mi fi acc out Z hmi hfi hfr hacc hT
  subst hfi
  show Fc Tryz.prog 157 [.int .i64 (f0 : Int),.int .i64 mi,.pointer (some ⟨br,0,none⟩),.pointer (some ⟨bt,0,none⟩),.pointer (some ⟨bl,0,none⟩),.pointer (some ⟨bg,0,none⟩)] _ _
  refine Fc.mk (callable Tryz.call157) Tryz.func157 rfl Tryz.ntmps157 rfl ?_;dsimp only [fr]
  repeat' (first | (refine uP rfl ?_;(first | ((first | refine uN rfl ?_);(first | (refine uE (uM rfl rfl) rfl rfl ?_)|(refine uE (uA rfl rfl) rfl rfl ?_)|(refine uE (uQ rfl rfl rfl rfl) rfl rfl ?_)))))|(refine uD rfl ?_;refine hK _ _ ?_;clear hK K) | refine uS rfl ?_ | refine uR rfl (fun K hK=>?_) | refine X.block rfl ?_ | refine X.skip rfl ?_ | (refine X.ite rfl rfl (fun hc=>?_);(first | (with_reducible refine Xb.case hc (fun h=>?_) (fun h=>?_))) <;> clear hc))
  ·exfalso;omega
  refine X.lp rfl (fun q F' H' => ∃ (i : Nat) (out : Value) (Z : List Row),q = l.length + 1 - i∧i ≤ l.length∧TrvWg acc out Z∧lon ok (l.drop f0) (m + 1) acc = lon ok (l.drop i) (m + 1) acc∧⟨bt,0,[out],some 29,1⟩::(Z++H0)=H' ∧
    F' = [(1,.int .i64 mi),(2,.pointer (some ⟨br,0,none⟩)),(3,.pointer (some ⟨bt,0,none⟩)),(4,.pointer (some ⟨bl,0,none⟩)),(5,.pointer (some ⟨bg,0,none⟩)),(9,.int .i64 i)])
   (l.length + 1 - f0) [(1,.int .i64 mi),(2,.pointer (some ⟨br,0,none⟩)),(3,.pointer (some ⟨bt,0,none⟩)),(4,.pointer (some ⟨bl,0,none⟩)),(5,.pointer (some ⟨bg,0,none⟩)),(9,.int .i64 f0)] _ (by repeat (first | exact uU _ | refine uV rfl ?_)) (qR _) ⟨f0,out,Z,rfl,hfr,hT,rfl,rfl,rfl⟩ ?_
  clear hT
  rintro _ _ H2 ⟨i,out,Z,rfl,hi,hT,hlon,hH,rfl⟩
  subst hH
  repeat' (first | (refine uP rfl ?_;(first | ((first | refine uN rfl ?_);(first | (refine uE (uL rfl rfl (uO (te rfl) rfl (qT _ (List.mem_append_right _ ml)) rfl)) rfl rfl ?_)|(refine uE (uM rfl rfl) rfl rfl ?_)|(refine uE (uA rfl rfl) rfl rfl ?_)|(refine uE (uQ rfl rfl rfl rfl) rfl rfl ?_)|(refine uE (EvF.add64 rfl rfl rfl (by omega) (by omega)) rfl rfl ?_)|(refine uE (uY rfl rfl (te rfl)) rfl rfl ?_)))))|(refine uD rfl ?_;refine hK _ _ ?_;clear hK K) | refine uS rfl ?_ | refine uR rfl (fun K hK=>?_) | refine X.block rfl ?_ | (refine X.brk rfl ?_;repeat (first | refine blockX_hit rfl ?_ | refine blockX_miss (by decide) ?_)) | refine X.skip rfl ?_ | refine X.ret rfl ?_ | (refine X.ite rfl rfl (fun hc=>?_);(first | (with_reducible refine Xb.case hc (fun h=>?_) (fun h=>?_))) <;> clear hc))
  ·obtain ⟨lb,lo,e,rfl,he⟩:=hl.elem (i:=i) (by omega)
   have hil:=(List.getElem?_eq_some_iff.1 he).1
   have hle : (acc++[e]).length = acc.length + 1:=by rw [List.length_append];rfl
   have hfm : acc.flatMap cDr++cDr e = (acc++[e]).flatMap cDr:=by rw [List.flatMap_append,List.flatMap_singleton]
   have hal : (acc.flatMap cDr).length = acc.length * 4:=lenDr acc
   refine X.regionRd ts70 rd70 [3,4,9,1,2,5] [(3,.pointer (some ⟨bt,0,none⟩)),(4,.pointer (some ⟨bl,0,none⟩)),(9,.int .i64 i),(1,.int .i64 mi),(2,.pointer (some ⟨br,0,none⟩)),(5,.pointer (some ⟨bg,0,none⟩))]
    (val70Wg out lb lo acc.length c l.length i e) (rows70Wg bt out Z acc e) (fun _=>(0,0)) H0 rfl mixed (by repeat (first | exact uU _ | refine uV rfl ?_)) rfl (by kernel_rfl) (by kernel_rfl) (loc70Wg bt out Z acc lb lo c l.length i e) (by show List.Sublist ((⟨bt,0,[out],some 29,1⟩::(Z++[]))++H0) _;rw [List.append_nil];exact qR _) ?_ ?_
   ·repeat' (first | exact AllF.done rfl | (refine AllF.step rfl ?_ ?_;·(first | exact (Ob.ng rfl (uK (fun env R hR=>by exact ⟨_,uM rfl rfl,rfl⟩) rfl (fun _=>rfl))).toR | (refine ObR.ng rfl ?_;(first | (exact fun env S hS hrd=>(StF.ofEv (uL rfl rfl (uO (te rfl) rfl (hrd 8 (qH _) _ (qH _)) rfl))).op.mono (fun v H' ⟨hv,hH⟩=>⟨(0,0),fun _=>hv,by rw [hH];exact List.Perm.refl _⟩))|(exact fun env S hS hrd=>(StF.ofEv (uL rfl rfl (uO (te rfl) rfl (hS _ ml) rfl))).op.mono (fun v H' ⟨hv,hH⟩=>⟨(0,0),fun _=>hv,by rw [hH];exact List.Perm.refl _⟩))|((refine fun env S hS hrd=>(StF.ofEv (v := .pointer (some ⟨lb,lo + i * 4,none⟩)) ?_).op.mono (fun v H' ⟨hv,hH⟩=>⟨(0,0),fun _=>hv,by rw [hH];exact List.Perm.refl _⟩);refine uJ (T:=29) (e:=41) (i:=(i : Int)) (off:=lo) (b:=lb) (len:=l.length) (ti:=⟨.st [(0,3),(1,3),(2,24)],4,32⟩) rfl rfl rfl (te rfl) (te rfl) ?_ ?_ <;> omega))|(exact fun env S hS hrd=>(StF.ofEv (v := .agg (cDr e).toArray) (uL rfl rfl (LoadV.elA0 (n:=i) hl he (te rfl) rfl (fun _ h=>hS _ h) rfl))).op.mono (fun v H' ⟨hv,hH⟩=>⟨(0,0),fun _=>hv,by rw [hH];exact List.Perm.refl _⟩))|(exact fun env S hS hrd=>(StF.buildOne rfl elWg rfl rfl rfl (by decide) (by decide)).op.mono (fun v H' ⟨b,hv,hH⟩=>⟨(b,0),fun _=>hv,by rw [hH];exact List.Perm.refl _⟩))|(exact fun env S hS hrd=>(StF.storeOne (i:=0) rfl rfl rfl rfl (te rfl) rfl rfl (Nat.le_of_ble_eq_true rfl)).op.mono (fun v H' ⟨hv,hH⟩=>⟨(0,0),fun h=>absurd rfl h,by rw [hH];exact List.Perm.refl _⟩))|((rcases hT with ⟨rfl,rfl,rfl⟩ | ⟨b,q,rfl,rfl⟩ <;> first | exact fun env S hS hrd=>(StF.appendNew rfl elWg rfl rfl (by decide) rfl (Rd.own (hrd 5 (qH _) _ (qH _))) (by decide)).op.mono (fun v H' ⟨b,c,hv,hH⟩=>⟨(b,c),fun _=>hv,by rw [hH];exact List.Perm.refl _⟩) | exact fun env S hS hrd=>(StF.appendOwn (i:=0) rfl elWg rfl rfl rfl hal rfl (Rd.own (qT _ (hrd 5 (qH _) _ (qH _)))) rfl (by omega)).op.mono (fun v H' ⟨b,c,hv,hH⟩=>⟨(b,c),fun _=>hv,by rw [hH];exact List.Perm.refl _⟩))))))))
   ·intro env t ha hv
    refine ⟨_,ha,?_⟩
    show X _ _ _ _ (⟨(env 5).1,0,cDr e,some 41,1 * 4⟩::⟨(env 6).1,0,acc.flatMap cDr++cDr e,some 41,(env 6).2 * 4⟩::⟨bt,0,[.slice (some ⟨(env 6).1,0,none⟩) (acc.length + 1) (env 6).2],some 29,1⟩::H0) _
    rw [hfm]
    refine X.weakR (List.sublist_cons_self _ _) ?_
    refine X.permH (H' := ⟨bt,0,[.slice (some ⟨(env 6).1,0,none⟩) (acc.length + 1) (env 6).2],some 29,1⟩::⟨(env 6).1,0,(acc++[e]).flatMap cDr,some 41,(env 6).2 * 4⟩::H0) (List.Perm.swap _ _ _) ?_
    clear hT
    repeat' (first | (refine uP rfl ?_;(first | ((first | refine uN rfl ?_);(first | (refine uE (uL rfl rfl (uO (te rfl) rfl (qT _ (qT _ mg)) rfl)) rfl rfl ?_)|(refine uC (EnF.dyn0 rfl rfl (by (repeat (first | exact Args.nil | refine Args.cons rfl ?_));done)) rfl rfl (ih (i + 1) _ _ (acc++[e]) _ [⟨(env 6).1,0,(acc++[e]).flatMap cDr,some 41,(env 6).2 * 4⟩] (by omega) (by omega) (by omega) (by omega) (.inr ⟨_,_,by rw [hle],rfl⟩)) ?_;rintro _ _ ⟨out',Z',(⟨r,hlr,rfl,hT'⟩ | ⟨hln,rfl,⟨h0,_,_⟩ | ⟨b',q',rfl,rfl⟩⟩),rfl⟩;rotate_left;·exact absurd h0 (by simp))|(refine uE (uM rfl rfl) rfl rfl ?_)|(refine uE (uA rfl rfl) rfl rfl ?_)|(refine uE (EvF.add64 rfl rfl rfl (by omega) (by omega)) rfl rfl ?_)|(refine uE (EvF.sub64 rfl rfl rfl (by omega) (by omega)) rfl rfl ?_)|(refine uE (uY rfl rfl (te rfl)) rfl rfl ?_)|(refine uE (uL rfl rfl (uO (te rfl) rfl (qH _) rfl)) rfl rfl ?_)))))|(refine uD rfl ?_;refine hK _ _ ?_;clear hK K) | refine uS rfl ?_ | refine uR rfl (fun K hK=>?_) | refine X.skip rfl ?_ | refine X.ret rfl ?_ | (refine X.ite rfl rfl (fun hc=>?_);(first | (with_reducible refine Xb.t hc ?_)|(with_reducible refine Xb.f hc ?_)) <;> clear hc))
    ·refine XO.reveal (q:=1) rfl (fun rest hrest=>?_)
     have hcap : (acc++[e]).length ≤ q' := by
      rw [List.length_append,lenDr] at hrest
      omega
     refine XO.forget (q:=1) (cs:=acc.flatMap cDr) (cs' := cDr e++rest) (by show some (⟨b',0,(acc++[e]).flatMap cDr++rest,some 41,q' * 4⟩ : Row)=_;rw [← hfm,List.append_assoc];rfl) ?_
     dsimp only [List.set,List.cons_append,List.nil_append]
     repeat' (first | (refine uP rfl ?_;(first | ((first | refine uN rfl ?_);(first | (refine uE (EvF.sliceTo (hh:=acc.length) rfl rfl (te rfl) (te rfl) (congrArg (fun z=>some (Value.int .i64 z)) (by omega : (((acc++[e]).length : Nat) : Int) - 1 = (acc.length : Int))) (by omega)) rfl rfl ?_)|(refine uE (uM rfl rfl) rfl rfl ?_)|(refine uE (uA rfl rfl) rfl rfl ?_)|(refine uE (EvF.add64 rfl rfl rfl (by omega) (by omega)) rfl rfl ?_)|(refine Xg.st0 (StF.storeOne (i:=0) rfl rfl rfl rfl (te rfl) rfl rfl (Nat.le_of_ble_eq_true rfl)) rfl ?_;rintro _ _ ⟨rfl,rfl⟩;dsimp only [List.set])))))|(refine uD rfl ?_;refine hK _ _ ?_;clear hK K) | refine uR rfl (fun K hK=>?_))
     refine ⟨_,_,_,(by repeat (first | exact uU _ | refine uV rfl ?_)),qR _,⟨i + 1,_,[⟨b',0,acc.flatMap cDr,some 41,q' * 4⟩],rfl,by omega,.inr ⟨b',q',rfl,rfl⟩,?_,rfl,rfl⟩,by omega⟩
     rw [hlon,drop_cons he]
     simp only [lon,hln]
    ·refine ret_one (by simp) Tryz.results157 rfl (H' := _) (qR _) ⟨out',Z',.inl ⟨r,?_,rfl,hT'⟩,rfl⟩
     rw [hlon,drop_cons he]
     simp only [lon,hlr]
  ·refine ret_one (by simp) Tryz.results157 rfl (H' := _) (qR _) ⟨out,Z,.inr ⟨?_,rfl,hT⟩,rfl⟩
   rw [hlon]
   exact lon_short ok _ _ _ (by rw [List.length_drop];omega)
end Go.Proofs.YtbpcbdbclijomaaGreat
