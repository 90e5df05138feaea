/- CoreWeight: for every bale, a number of 16 bits and a byte the law returns true (a dry weight between two that can be explains each weighing by a dampness within what is told; what is paid, whether a weighing was damper, and whether the bale must be put aside, agree with it; the examples are as told), and each argument reads afterwards as before. No condition. -/
import Derived.Test.YtbpcbdbclijomaaGreatW06
import Derived.OpenShut
import Derived.ProofKit
import Derived.Test.YtbpcbdbclijomaaGreatRows
import Derived.WalkKit
import Derived.ChangeOld
import Derived.ShutString
set_option linter.unusedVariables false
set_option linter.unusedSimpArgs false
namespace Go.Proofs.YtbpcbdbclijomaaGreat
open Go Go.Fw
set_option maxRecDepth 10000
set_option maxHeartbeats 8000000 in
theorem coreWeight_spec (B : Bl) (p : Pb) (of dm : Int) (hof : 0 ≤ of∧of ≤ 65535) (hdm : 0 ≤ dm∧dm ≤ 255) (H : List Row) (hd : SlE H p.a1 cDr 4 B.draws) (hw : SlE H p.a2 cDr 4 B.weighs) :
  Fc Tryz.prog 5 [.agg (cBl B p).toArray,.int .u16 of,.int .u8 dm] H (fun v _=>v = .bool true):=by
 by_cases h : Rdy B
 ·have hB:=h.bl hd hw
  have kr:=fun S hS=>ready_yes B p S hS h
  have hm0:=Int.emod_nonneg dm (show (201 : Int) ≠ 0 by decide)
  have hm1:=Int.emod_lt_of_pos dm (show (0 : Int)<201 by decide)
  obtain ⟨n,hne⟩ : ∃ n,n = dm % 201:=⟨_,rfl⟩
  rw [← hne] at hm0 hm1
  have hn : 0 ≤ n∧n ≤ 200:=by omega
  have kd:=fun S hS=>kdry_spec B p S hS
  have kp:=fun S hS=>kPays_spec B p n S hS
  rw [show openE B ca0 = 0 from openE_rdy h [] (fun _ q=>absurd q List.not_mem_nil),spIf_pos rfl] at kd
  rw [show openE B (caD n)=0 from oE h.ok h.can (fun _ h=>absurd h List.not_mem_nil) (fun _ h=>absurd h List.not_mem_nil) (fun _ h=>absurd h List.not_mem_nil) (fun m hm=>by rw [List.mem_singleton.1 hm];exact hn),spIf_pos rfl] at kp
  have hdv:=dry_facts h.ok h.can
  have q1 : ¬ (dryOf B).lo < B.dlo:=by have:=hdv.lo;omega
  have q2 : ¬ (dryOf B).lo > (dryOf B).hi:=by have:=hdv.le;omega
  have q3 : ¬ (dryOf B).hi > B.dhi:=by have:=hdv.hi;omega
  refine Fc.mk (callable Tryz.call5) Tryz.func5 rfl Tryz.ntmps5 rfl ?_;dsimp only [fr]
  repeat' (first | (refine we_r9 B p of n _ _ _ _ _ h hof hn _ _ (qH _) (hB.sub (fun _ q=>qT _ q)) ?_;exact (by repeat (first | exact uU _ | refine uV rfl ?_)))|(refine uP rfl ?_;(first | ((first | refine uN rfl ?_ | (refine Xo.g rfl rfl ?_;with_reducible refine Xw.ff ?_));(first | (refine uC (uT rfl Args.nil) rfl rfl (alive_spec _) ?_;rintro _ _ ⟨rfl,rfl⟩)|(refine uE (uL rfl rfl (uW (cs:=cBl B p) (te rfl) rfl (by (repeat (first | exact qH _ | apply qT));done) rfl)) rfl rfl ?_)|(refine uC (uT rfl (Args.cons rfl Args.nil)) rfl rfl (kr _ (hB.sub (fun _ h=>by repeat (first | exact h | apply qT)))) ?_;rintro _ _ ⟨rfl,rfl⟩)|(refine uE (notT rfl rfl) rfl rfl ?_)|(refine uE (EvF.conv rfl rfl u8_und int_und (by omega) (by omega)) rfl rfl ?_)|(refine uE (v := .int .i64 n) (by rw [hne];exact EvF.rem64 (p:=dm) (q:=201) rfl rfl rfl (by omega) (by omega)) rfl rfl ?_)|(refine uC (uT rfl (Args.cons rfl Args.nil)) rfl rfl (kd _ (hB.sub (fun _ h=>by repeat (first | exact h | apply qT)))) ?_;rintro _ _ ⟨rfl,rfl⟩)|(refine uC (uT rfl (Args.cons rfl (Args.cons rfl Args.nil))) rfl rfl (kp _ (hB.sub (fun _ h=>by repeat (first | exact h | apply qT)))) ?_;rintro _ _ ⟨rfl,rfl⟩)|(refine uE (uX rfl rfl rfl) rfl rfl ?_)|(refine Xg.st (StF.alloc rfl Tryz.zeroValue24 rfl) rfl rfl ?_;rintro _ _ ⟨bx,rfl,rfl⟩)|(refine Xg.st0 (uZ (i:=0) (vs:=cSp (dryOf B)) rfl rfl rfl (te rfl) rfl rfl rfl rfl) rfl ?_;rintro _ _ ⟨rfl,rfl⟩;dsimp only [List.set])|(refine Xg.st0 (uZ (i:=0) (vs:=cSp (payF (dryOf B) n)) rfl rfl rfl (te rfl) rfl rfl rfl rfl) rfl ?_;rintro _ _ ⟨rfl,rfl⟩;dsimp only [List.set])|(refine uE (uQ (b:=false) rfl rfl rfl (congrArg some (nd_f (Eq.refl (0 : Int))))) rfl rfl ?_)|(refine uE (uL rfl rfl (uO (te rfl) rfl (by repeat (first | exact qH _ | apply qT)) rfl)) rfl rfl ?_)|(refine uE (uQ (b:=false) rfl rfl rfl (congrArg some (decide_eq_false q1))) rfl rfl ?_)|(refine uE (uQ (b:=false) rfl rfl rfl (congrArg some (decide_eq_false q2))) rfl rfl ?_)|(refine uE (uQ (b:=false) rfl rfl rfl (congrArg some (decide_eq_false q3))) rfl rfl ?_)|(refine uE (uM rfl rfl) rfl rfl ?_)|(refine uE (uA rfl rfl) rfl rfl ?_)|(refine uE (EvF.pickF rfl rfl rfl) rfl rfl ?_)|(refine uE (uF rfl rfl (te rfl) rfl (te rfl) (by decide)) rfl rfl ?_)|(refine Xg.st (StF.boxAgg rfl rfl) rfl rfl ?_;rintro _ _ ⟨bx,rfl,rfl⟩)))))|(refine uD rfl ?_;refine hK _ _ ?_;clear hK K) | refine uS rfl ?_ | refine uR rfl (fun K hK=>?_) | refine X.skip rfl ?_ | (refine X.ite rfl rfl (fun hc=>?_);(first | (with_reducible refine Xb.f hc ?_)) <;> clear hc))
  all_goals try (exfalso;contradiction)
 ·have kr:=fun S hd' hw' => ready_no B p S hd' hw' h
  refine Fc.mk (callable Tryz.call5) Tryz.func5 rfl Tryz.ntmps5 rfl ?_;dsimp only [fr]
  repeat' (first | (refine uP rfl ?_;(first | ((first | refine uN rfl ?_);(first | (refine uC (uT rfl Args.nil) rfl rfl (alive_spec _) ?_;rintro _ _ ⟨rfl,rfl⟩)|(refine uE (uL rfl rfl (uW (cs:=cBl B p) (te rfl) rfl (by (repeat (first | exact qH _ | apply qT));done) rfl)) rfl rfl ?_)|(refine uC (uT rfl (Args.cons rfl Args.nil)) rfl rfl (kr _ (hd.sub (fun _ h=>by repeat (first | exact h | apply qT))) (hw.sub (fun _ h=>by repeat (first | exact h | apply qT)))) ?_;rintro _ _ ⟨rfl,rfl⟩)|(refine uE (notF rfl rfl) rfl rfl ?_)|(refine uE (uM rfl rfl) rfl rfl ?_)|(refine uE (uA rfl rfl) rfl rfl ?_)|(refine uE (EvF.pickT rfl rfl rfl) rfl rfl ?_)|(refine Xg.st (StF.boxAgg rfl rfl) rfl rfl ?_;rintro _ _ ⟨bx,rfl,rfl⟩)))|(refine Xo.g rfl rfl ?_;(first | (with_reducible refine Xw.tf rfl rfl ?_)))))|(refine uD rfl ?_;refine hK _ _ ?_;clear hK K) | refine uS rfl ?_ | refine uR rfl (fun K hK=>?_) | refine X.ret rfl ?_ | (refine X.ite rfl rfl (fun hc=>?_);(first | (with_reducible refine Xb.t hc ?_)) <;> clear hc))
  all_goals try (exfalso;contradiction)
  all_goals exact ret_one (by simp) Tryz.results5 rfl (H' := _) (qR _) rfl
open Go Go.Fw Go.ChangeShapes Go.WideShapes
instance : Inhabited Sp:=⟨⟨0,0⟩⟩
instance : Inhabited Bx:=⟨⟨0,0⟩⟩
instance : Inhabited Mt:=⟨⟨0,0,0,0,0,0⟩⟩
def w64 (n : Int) : Prop:=(Lit.int .i64 n).wf = true
section
variable {H : Type} {enc : TypeId × Value → H} {w : World} {base : Nat} {spare : Nat → Bool} {held : Bool} {fuel : Nat} {cs : List Value} {x : DataW H × List MemPlace}
theorem open_i (h : DataW.trod enc Tryz.prog w base spare held fuel 3 cs = some x) : ∃ q : Int,cs = cI q∧w64 q:=trod_i (te rfl) h
theorem open_sp (h : DataW.trod enc Tryz.prog w base spare held fuel 24 cs = some x) : ∃ q : Sp,cs = cSp q∧(w64 q.lo∧w64 q.hi):=by
 obtain ⟨hl,hf⟩:=trod_st (te rfl) h
 obtain ⟨n0,y0,h0⟩:=hf 0 0 3 _ rfl (te rfl)
 obtain ⟨n1,y1,h1⟩:=hf 1 1 3 _ rfl (te rfl)
 match cs,hl with
 | [a,b],_ =>
  obtain ⟨lo,e0,w0⟩:=open_i h0
  obtain ⟨hi,e1,w1⟩:=open_i h1
  simp [cI] at e0 e1
  subst e0 e1
  exact ⟨⟨lo,hi⟩,rfl,w0,w1⟩
end
structure InRm (w : World) (R : Rm) (p : Pl) : Prop where
 ages : InSl w p.a1 cSp 2 R.ages
 boxes : InSl w p.a2 cBx 2 R.boxes
 mats : InSl w p.a3 cMt 6 R.mats
 mo : w64 R.months
 st : w64 R.step
 k1 : R.ages.length ≤ p.c1
 k2 : R.boxes.length ≤ p.c2
 k3 : R.mats.length ≤ p.c3
def rowsRm (R : Rm) (p : Pl) : List Row:=rowsOf p.a1 cSp R.ages++(rowsOf p.a2 cBx R.boxes++rowsOf p.a3 cMt R.mats)
theorem InRm.ok {w : World} {R : Rm} {p : Pl} {B : Nat} (h : InRm w R p) : ∀ r ∈ rowsRm R p,r.own = none∧r.ok B w:=by
 intro r hr
 rcases List.mem_append.1 hr with hr | hr
 ·exact h.ages.ok r hr
 ·rcases List.mem_append.1 hr with hr | hr
  ·exact h.boxes.ok r hr
  ·exact h.mats.ok r hr
section
variable {H : Type} {enc : TypeId × Value → H} {w : World} {base : Nat} {spare : Nat → Bool} {held : Bool} {v : Value} {d : DataW H} {p : List MemPlace} {r : Reach} {b0 : Nat}
end
open Go Go.Fw Go.ChangeShapes Go.WideShapes Go.ChangeAt Go.RowKit
set_option maxRecDepth 100000
instance : Inhabited Dr:=⟨⟨0,0,0,0⟩⟩
section
variable {H : Type} {enc : TypeId × Value → H} {w : World} {base : Nat} {spare : Nat → Bool} {held : Bool} {fuel : Nat} {cs : List Value} {x : DataW H × List MemPlace}
theorem open_dr (h : DataW.trod enc Tryz.prog w base spare held fuel 38 cs = some x) : ∃ q : Dr,cs = cDr q∧True:=by
 obtain ⟨hl,hf⟩:=trod_st (te rfl) h
 obtain ⟨n0,y0,h0⟩:=hf 0 0 3 _ rfl (te rfl)
 obtain ⟨n1,y1,h1⟩:=hf 1 1 3 _ rfl (te rfl)
 obtain ⟨n2,y2,h2⟩:=hf 2 2 24 _ rfl (te rfl)
 match cs,hl with
 | [a,b,c,d],_ =>
  obtain ⟨q0,e0,w0⟩:=open_i h0
  obtain ⟨q1,e1,w1⟩:=open_i h1
  obtain ⟨q2,e2,w2⟩:=open_sp h2
  simp [cI,cSp] at e0 e1 e2
  obtain ⟨e2,e3⟩:=e2
  subst e0 e1 e2 e3
  exact ⟨⟨q0,q1,q2.lo,q2.hi⟩,rfl,trivial⟩
theorem open_wg (h : DataW.trod enc Tryz.prog w base spare held fuel 41 cs = some x) : ∃ q : Dr,cs = cDr q∧True:=by
 obtain ⟨hl,hf⟩:=trod_st (te rfl) h
 obtain ⟨n0,y0,h0⟩:=hf 0 0 3 _ rfl (te rfl)
 obtain ⟨n1,y1,h1⟩:=hf 1 1 3 _ rfl (te rfl)
 obtain ⟨n2,y2,h2⟩:=hf 2 2 24 _ rfl (te rfl)
 match cs,hl with
 | [a,b,c,d],_ =>
  obtain ⟨q0,e0,w0⟩:=open_i h0
  obtain ⟨q1,e1,w1⟩:=open_i h1
  obtain ⟨q2,e2,w2⟩:=open_sp h2
  simp [cI,cSp] at e0 e1 e2
  obtain ⟨e2,e3⟩:=e2
  subst e0 e1 e2 e3
  exact ⟨⟨q0,q1,q2.lo,q2.hi⟩,rfl,trivial⟩
end
structure InBl (w : World) (B : Bl) (p : Pb) : Prop where
 draws : InSl w p.a1 cDr 4 B.draws
 weighs : InSl w p.a2 cDr 4 B.weighs
def rowsBl (B : Bl) (p : Pb) : List Row:=rowsOf p.a1 cDr B.draws++rowsOf p.a2 cDr B.weighs
theorem InBl.ok {w : World} {B : Bl} {p : Pb} {N : Nat} (h : InBl w B p) : ∀ r ∈ rowsBl B p,r.own = none∧r.ok N w:=by
 intro r hr
 rcases List.mem_append.1 hr with hr | hr
 ·exact h.draws.ok r hr
 ·exact h.weighs.ok r hr
section
variable {H : Type} {enc : TypeId × Value → H} {w : World} {base : Nat} {spare : Nat → Bool} {held : Bool} {v : Value} {d : DataW H} {p : List MemPlace} {r : Reach} {b0 : Nat}
theorem open_bale (hv : Value.okWide Tryz.prog w r b0 31 v) (h : DataW.Trod enc Tryz.prog w base spare held 31 v d p) : ∃ B pl,v = .agg (cBl B pl).toArray∧InBl w B pl:=by
 obtain ⟨fa,hu,_⟩:=ti_struct (te (T:=31) rfl)
 obtain ⟨⟨cs⟩,rfl,_⟩:=okWide_struct hu hv
 obtain ⟨fuel,hf⟩:=h
 obtain ⟨hl,hf⟩:=trod_st (te rfl) hf
 obtain ⟨n0,y0,h0⟩:=hf 0 0 3 _ rfl (te rfl)
 obtain ⟨n1,y1,h1⟩:=hf 1 1 3 _ rfl (te rfl)
 obtain ⟨n2,y2,h2⟩:=hf 2 2 24 _ rfl (te rfl)
 obtain ⟨n3,y3,h3⟩:=hf 3 4 28 _ rfl (te rfl)
 obtain ⟨n4,y4,h4⟩:=hf 4 5 29 _ rfl (te rfl)
 match cs,hl with
 | [a,b,c,d,e,f],_ =>
  obtain ⟨q0,e0,w0⟩:=open_i h0
  obtain ⟨q1,e1,w1⟩:=open_i h1
  obtain ⟨q2,e2,w2⟩:=open_sp h2
  simp [cI,cSp,Value.cells] at e0 e1 e2
  obtain ⟨l3,a3,c3,e3,i3,_,k3⟩:=open_sl (te rfl) (te rfl) rfl (by decide) (fun _ _ _=>open_dr) (fun _=>rfl) h3
  obtain ⟨l4,a4,c4,e4,i4,_,k4⟩:=open_sl (te rfl) (te rfl) rfl (by decide) (fun _ _ _=>open_wg) (fun _=>rfl) h4
  obtain ⟨ea,eb⟩:=e2
  subst e0 e1 ea eb e3 e4
  exact ⟨⟨q0,q1,q2.lo,q2.hi,l3,l4⟩,⟨a3,c3,a4,c4⟩,rfl,i3,i4⟩
end
theorem ownK : ownKnob Tryz.prog.godebug = none:=by kernel_rfl
theorem laidO : laidOutB Tryz.prog = true:=by kernel_rfl
theorem InBl.dr {w : World} {B : Bl} {p : Pb} {H : List Row} (h : InBl w B p) (hm : ∀ r ∈ rowsBl B p,r ∈ H) : SlE H p.a1 cDr 4 B.draws:=h.draws.sl (fun r hr=>hm r (List.mem_append_left _ hr))
theorem InBl.we {w : World} {B : Bl} {p : Pb} {H : List Row} (h : InBl w B p) (hm : ∀ r ∈ rowsBl B p,r ∈ H) : SlE H p.a2 cDr 4 B.weighs:=h.weighs.sl (fun r hr=>hm r (List.mem_append_right _ hr))
def u8 (n : Int) : Prop:=0 ≤ n∧n ≤ 255
section
variable {H : Type} {enc : TypeId × Value → H} {w : World} {base : Nat} {spare : Nat → Bool} {held : Bool} {v : Value} {d : DataW H} {p : List MemPlace} {r : Reach} {b0 : Nat}
theorem u8_wf {n : Int} (h : (Lit.int .u8 n).wf = true) : u8 n:=by
 simp [Lit.wf,IntKind.min,IntKind.max,IntKind.signed,IntKind.bits] at h
 exact ⟨by omega,by omega⟩
theorem open_u8 (hv : Value.okWide Tryz.prog w r b0 5 v) (h : DataW.Trod enc Tryz.prog w base spare held 5 v d p) : ∃ n,v = .int .u8 n∧u8 n:=by
 obtain ⟨n,h1,_,_,h2⟩:=Go.ChangeShapes.open_int Tryz.underlying5 hv h
 exact ⟨n,h1,u8_wf h2⟩
end
section
variable {H : Type} {enc : TypeId × Value → H} {w : World} {base : Nat} {spare : Nat → Bool} {held : Bool} {v : Value} {d : DataW H} {p : List MemPlace} {r : Reach} {b0 fuel : Nat} {cs : List Value} {x : DataW H × List MemPlace}
end
def u16 (n : Int) : Prop:=0 ≤ n∧n ≤ 65535
theorem u16_wf {n : Int} (h : (Lit.int .u16 n).wf = true) : u16 n:=by
 simp [Lit.wf,IntKind.min,IntKind.max,IntKind.signed,IntKind.bits] at h
 exact ⟨by omega,by omega⟩
section
variable {H : Type} {enc : TypeId × Value → H} {w : World} {base : Nat} {spare : Nat → Bool} {held : Bool} {v : Value} {d : DataW H} {p : List MemPlace} {r : Reach} {b0 : Nat}
theorem open_u16 (hv : Value.okWide Tryz.prog w r b0 61 v) (h : DataW.Trod enc Tryz.prog w base spare held 61 v d p) : ∃ n,v = .int .u16 n∧u16 n:=by
 obtain ⟨n,h1,_,_,h2⟩:=Go.ChangeShapes.open_int Tryz.underlying61 hv h
 exact ⟨n,h1,u16_wf h2⟩
end
theorem coreWeight_run (B : Bl) (pB : Pb) (of : Int) (dm : Int) (w : World) (hof : u16 of) (hdm : u8 dm) (hB : InBl w B pB) :
  Calls Tryz.prog 5 #[.agg (cBl B pB).toArray,.int .u16 of,.int .u8 dm] w fun e w' => e = .returned (.bool true)∧Below w.heap.size w w' :=
 Fc.calls (H:=rowsBl B pB) (coreWeight_spec B pB of dm hof hdm _ (hB.dr (fun _ h=>h)) (hB.we (fun _ h=>h))) (fun r hr=>by
  exact hB.ok r hr
 )
theorem coreWeight_lifted (os : Os) (started : os.Started) (H : Type) (enc : TypeId × Value → H) :
  ReturnsInHanded {} Tryz.checked os 5 .any (Rows.coreWeightSpec.pre6 enc Tryz.prog Tryz.f5 Rows.coreWeightRow.domain false) (Rows.coreWeightSpec.post enc Tryz.prog Tryz.f5 false true false false):=by
 refine returnsInHanded_of_change (C:=Tryz.checked) ownK started (by kernel_rfl) Tryz.func5
  (ChangeSpec.witness6 (enc:=enc) (C:=Tryz.checked) false ⟨#[], #[.agg (cBl Bz pzb).toArray,.int .u16 0,.int .u8 0],[]⟩ 8 (by kernel_rfl) (by kernel_rfl) (by kernel_rfl) (by kernel_rfl)) ?_
 intro W base args ds gs before hval0 hW hcnd _
 have hval : ∀ (j : Nat) t v,Tryz.f5.params[j]? = some t → args[j]? = some v → Value.okWide Tryz.prog W .any base t v:=hval0
 have hW' := hW
 obtain ⟨p,q,hA0,hV,rfl,hfz,hnd⟩:=hW
 have hA : DataW.TrodAll enc Tryz.prog W 0 (fun _=>true) true Tryz.f5.params.toList args.toList ds p:=hA0
 rw [Tryz.params5] at hA hval
 obtain ⟨v0,vs0,d0,ds0,p0,q0,hargs,rfl,rfl,h0,r0⟩:=trodAll_cons hA
 obtain ⟨v1,vs1,d1,ds1,p1,q1,rfl,rfl,rfl,h1,r1⟩:=trodAll_cons r0
 obtain ⟨v2,vs2,d2,ds2,p2,q2,rfl,rfl,rfl,h2,r2⟩:=trodAll_cons r1
 obtain ⟨rfl,rfl,rfl⟩:=trodAll_nil r2
 obtain rfl : args = #[v0,v1,v2]:=by cases args;simp_all
 obtain ⟨rfl,rfl⟩:=trodVars_none hV
 have lt : ∀ {t v d ps},DataW.Trod enc Tryz.prog W 0 (fun _=>true) true t v d ps → ∀ x ∈ ps,x.block < W.heap.size:=fun h=>by obtain ⟨m,hm⟩:=h;exact DataW.trod_lt m _ _ _ hm
 obtain ⟨B,pB,rfl,hB⟩:=open_bale (hval 0 _ v0 rfl rfl) h0
 obtain ⟨of,rfl,hof⟩:=open_u16 (hval 1 _ v1 rfl rfl) h1
 obtain ⟨dm,rfl,hdm⟩:=open_u8 (hval 2 _ v2 rfl rfl) h2
 clear hA0 hval0
 refine (coreWeight_run B pB of dm W hof hdm hB).mono fun e W' ⟨he,bel⟩=>?_
 subst he
 exact ⟨_,rfl,_,_,_,[],_,[],hW',trodAll_mk1 (shut_bool Tryz.underlying4 _),(trodAll_cons_mk (Below.trod laidO (by kernel_rfl) (of_decide_eq_true (by kernel_rfl)) h0 bel (lt h0)) (trodAll_cons_mk (Below.trod laidO (by kernel_rfl) (of_decide_eq_true (by kernel_rfl)) h1 bel (lt h1)) (trodAll_cons_mk (Below.trod laidO (by kernel_rfl) (of_decide_eq_true (by kernel_rfl)) h2 bel (lt h2)) trodAll_mk0))),rfl,bel.frame _,fun h=>by cases h⟩
theorem coreWeight_over : Rows.coreWeightRow.holds Tryz.pinned (OpenSpec.ofChange Rows.coreWeightSpec) :=
 OpenClaim.holds_of_wide 5 Tryz.f5 rfl rfl rfl rfl rfl rfl rfl ⟨rfl,rfl,rfl,rfl,rfl⟩ rfl rfl rfl rfl rfl (by kernel_rfl) Tryz.func5 (by kernel_rfl)
  (of_decide_eq_true (by kernel_rfl)) (by unfold Func.isWrapper;first | (rw [if_pos (by decide +kernel)];kernel_rfl)|(rw [if_neg (by decide +kernel)];exact ⟨rfl,rfl⟩))
  (fun os started H enc _=>coreWeight_lifted os started H enc)
theorem coreWeight_proved : Rows.CoreWeightSaid:=coreWeight_over
#print axioms coreWeight_proved
end Go.Proofs.YtbpcbdbclijomaaGreat
