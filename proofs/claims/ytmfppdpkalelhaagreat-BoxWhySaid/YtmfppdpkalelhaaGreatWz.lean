/- BoxWhy: for every room, a box and a month by numbers, and bits the law returns true (without all matches but those that are told the span is the same, no list before them does this, and each match on which the span rests is one of them), and each argument reads afterwards as before. No condition. -/
import Derived.Test.YtmfppdpkalelhaaGreatW59
section
set_option linter.unusedVariables false
namespace Go.Proofs.YtmfppdpkalelhaaGreat
open Go Go.Fw Go.ChangeShapes Go.WideShapes Go.ChangeAt Go.RowKit
set_option linter.unusedVariables false
set_option maxRecDepth 100000
theorem boxWhy_run (R : Rm) (pR : Pl) (wh : Int) (mo : Int) (bi : Int) (w : World) (hwh : u8 wh) (hmo : u8 mo) (hbi : u8 bi) (hR : InRm w R pR) :
  Calls Tryz.prog 6 #[.agg (cRm R pR).toArray,.int .u8 wh,.int .u8 mo,.int .u8 bi] w fun e w' => e = .returned (.bool true)∧Below w.heap.size w w' :=
 Fc.calls (H:=rowsRm R pR) (boxWhy_spec R pR wh mo bi hwh hmo hbi _ (hR.rm (fun _ h=>h))) (fun r hr=>by
  exact hR.ok r hr
 )
theorem boxWhy_lifted (os : Os) (started : os.Started) (H : Type) (enc : TypeId × Value → H) :
  ReturnsInHanded {} Tryz.checked os 6 .any (Rows.boxWhySpec.pre6 enc Tryz.prog Tryz.f6 Rows.boxWhyRow.domain false) (Rows.boxWhySpec.post enc Tryz.prog Tryz.f6 false true false false):=by
 refine returnsInHanded_of_change (C:=Tryz.checked) ownK started (by kernel_rfl) Tryz.func6
  (ChangeSpec.witness6 (enc:=enc) (C:=Tryz.checked) false ⟨#[], #[.agg (cRm ⟨0,0,[],[],[]⟩ ⟨none,0,none,0,none,0⟩).toArray,.int .u8 0,.int .u8 0,.int .u8 0],[]⟩ 8 (by kernel_rfl) (by kernel_rfl) (by kernel_rfl) (by kernel_rfl)) ?_
 intro W base args ds gs before hval0 hW hcnd _
 have hval : ∀ (j : Nat) t v,Tryz.f6.params[j]? = some t → args[j]? = some v → Value.okWide Tryz.prog W .any base t v:=hval0
 have hW' := hW
 obtain ⟨p,q,hA0,hV,rfl,hfz,hnd⟩:=hW
 have hA : DataW.TrodAll enc Tryz.prog W 0 (fun _=>true) true Tryz.f6.params.toList args.toList ds p:=hA0
 rw [Tryz.params6] at hA hval
 obtain ⟨v0,vs0,d0,ds0,p0,q0,hargs,rfl,rfl,h0,r0⟩:=trodAll_cons hA
 obtain ⟨v1,vs1,d1,ds1,p1,q1,rfl,rfl,rfl,h1,r1⟩:=trodAll_cons r0
 obtain ⟨v2,vs2,d2,ds2,p2,q2,rfl,rfl,rfl,h2,r2⟩:=trodAll_cons r1
 obtain ⟨v3,vs3,d3,ds3,p3,q3,rfl,rfl,rfl,h3,r3⟩:=trodAll_cons r2
 obtain ⟨rfl,rfl,rfl⟩:=trodAll_nil r3
 obtain rfl : args = #[v0,v1,v2,v3]:=by cases args;simp_all
 obtain ⟨rfl,rfl⟩:=trodVars_none hV
 have lt : ∀ {t v d ps},DataW.Trod enc Tryz.prog W 0 (fun _=>true) true t v d ps → ∀ x ∈ ps,x.block < W.heap.size:=fun h=>by obtain ⟨m,hm⟩:=h;exact DataW.trod_lt m _ _ _ hm
 obtain ⟨R,pR,rfl,hR⟩:=open_room (hval 0 _ v0 rfl rfl) h0
 obtain ⟨wh,rfl,hwh⟩:=open_u8 (hval 1 _ v1 rfl rfl) h1
 obtain ⟨mo,rfl,hmo⟩:=open_u8 (hval 2 _ v2 rfl rfl) h2
 obtain ⟨bi,rfl,hbi⟩:=open_u8 (hval 3 _ v3 rfl rfl) h3
 clear hA0 hval0
 refine (boxWhy_run R pR wh mo bi W hwh hmo hbi hR).mono fun e W' ⟨he,bel⟩=>?_
 subst he
 exact ⟨_,rfl,_,_,_,[],_,[],hW',trodAll_mk1 (shut_bool Tryz.underlying4 _),(trodAll_cons_mk (Below.trod laidO (by kernel_rfl) (of_decide_eq_true (by kernel_rfl)) h0 bel (lt h0)) (trodAll_cons_mk (Below.trod laidO (by kernel_rfl) (of_decide_eq_true (by kernel_rfl)) h1 bel (lt h1)) (trodAll_cons_mk (Below.trod laidO (by kernel_rfl) (of_decide_eq_true (by kernel_rfl)) h2 bel (lt h2)) (trodAll_cons_mk (Below.trod laidO (by kernel_rfl) (of_decide_eq_true (by kernel_rfl)) h3 bel (lt h3)) trodAll_mk0)))),rfl,bel.frame _,fun h=>by cases h⟩
theorem boxWhy_over : Rows.boxWhyRow.holds Tryz.pinned (OpenSpec.ofChange Rows.boxWhySpec) :=
 OpenClaim.holds_of_wide 6 Tryz.f6 rfl rfl rfl rfl rfl rfl rfl ⟨rfl,rfl,rfl,rfl,rfl⟩ rfl rfl rfl rfl rfl (by kernel_rfl) Tryz.func6 (by kernel_rfl)
  (of_decide_eq_true (by kernel_rfl)) (by unfold Func.isWrapper;first | (rw [if_pos (by decide +kernel)];kernel_rfl)|(rw [if_neg (by decide +kernel)];exact ⟨rfl,rfl⟩))
  (fun os started H enc _=>boxWhy_lifted os started H enc)
theorem boxWhy_proved : Rows.BoxWhySaid:=boxWhy_over
#print axioms boxWhy_proved
end Go.Proofs.YtmfppdpkalelhaaGreat
end
