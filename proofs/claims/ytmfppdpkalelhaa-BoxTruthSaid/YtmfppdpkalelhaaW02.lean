/- Own work: The reference: Twin copies a room.; The reference: Great.; The reference: has and SameInts.; Own work: structs that are compared. No condition.; Structs of this translation that are compared.; The reference: Same tells equal rooms.; The reference: without.; Own work: operations that are skipped since their guard was. No condition.; The reference: Strike.; The program: Rising and anyPoints.; Own work: regions that draw their order, with guards and calls. No condition.; Own work: copy, clear, append of a make, literals of two, slices held against nil. No condition.; The program: number, id, Within, anyMonth, IndexFunc.; The program: Index, Contains, ContainsFunc, closures, Clone.; contracts of functions, from rows of what is known of the memory; The program: Numbers.; The program: hasAges.;  -/
import Derived.Test.YtmfppdpkalelhaaW01
import Derived.Laws.StructEq
import Derived.Test.YtmfppdpkalelhaaChecked
import Derived.Tactics2
import Derived.Lib.Overlaps
import Derived.Lib.AppendZerosOnto
set_option linter.unusedVariables false
set_option linter.unusedSimpArgs false
namespace Go.Proofs.Ytmfppdpkalelhaa
open Go Go.Fw
set_option maxRecDepth 10000
def ts12 : List TOp:=[⟨some 3,[],[],[]⟩,⟨some 4,[0],[0],[]⟩,⟨some 5,[],[],[]⟩,⟨some 6,[2],[2],[]⟩,⟨some 7,[],[],[]⟩,⟨some 8,[],[],[]⟩,⟨some 9,[5],[5],[]⟩,⟨some 10,[4,5,6],[4,6],[4]⟩,
 ⟨some 11,[],[],[]⟩,⟨some 12,[],[],[]⟩,⟨some 13,[9],[9],[]⟩,⟨some 14,[8,9,10],[8,10],[8]⟩,⟨some 15,[],[],[]⟩,⟨some 16,[],[],[]⟩,⟨some 17,[13],[13],[]⟩,⟨some 18,[12,13,14],[12,14],[12]⟩,
 ⟨some 19,[0,1,2,3,4,5,6,7,8,9,10,11,12,13,14,15],[1,3,7,11,15],[]⟩,⟨none,[0,1,2,3,4,5,6,7,8,9,10,11,12,13,14,15,16],[16],[18]⟩,⟨none,[],[],[]⟩]
theorem ok12 : okReg (cops (cfst (csnd (cof Try.f14)))) ts12 [1,2] 20 = true:=by kernel_rfl
def pl12 (env : Env) : Pl:=⟨some ⟨(env 7).1,0,none⟩,(env 7).2,some ⟨(env 11).1,0,none⟩,(env 11).2,some ⟨(env 15).1,0,none⟩,(env 15).2⟩
def val12 (bx : Nat) (R : Rm) (p : Pl) (k : Nat) (env : Env) : Value :=
 match k with
 | 0 => .pointer (some ⟨bx,0,none⟩)
 | 1 => .int .i64 R.months
 | 2 => .pointer (some ⟨bx,1,none⟩)
 | 3 => .int .i64 R.step
 | 4 => .slice (some ⟨(env 4).1,0,none⟩) 0 0
 | 5 => .pointer (some ⟨bx,2,none⟩)
 | 6 => .slice p.a1 R.ages.length p.c1
 | 7 => .slice (some ⟨(env 7).1,0,none⟩) R.ages.length (env 7).2
 | 8 => .slice (some ⟨(env 8).1,0,none⟩) 0 0
 | 9 => .pointer (some ⟨bx,3,none⟩)
 | 10 => .slice p.a2 R.boxes.length p.c2
 | 11 => .slice (some ⟨(env 11).1,0,none⟩) R.boxes.length (env 11).2
 | 12 => .slice (some ⟨(env 12).1,0,none⟩) 0 0
 | 13 => .pointer (some ⟨bx,4,none⟩)
 | 14 => .slice p.a3 R.mats.length p.c3
 | 15 => .slice (some ⟨(env 15).1,0,none⟩) R.mats.length (env 15).2
 | 16 => .agg (cRm R (pl12 env)).toArray
 | _=>undef
def rows12 (b2 : Nat) (R : Rm) (k : Nat) (env : Env) : List Row :=
 match k with
 | 4=>[⟨(env 4).1,0,[],some 35,0⟩]
 | 7=>[⟨(env 7).1,0,R.ages.flatMap cSp,some 35,(env 7).2 * 2⟩]
 | 8=>[⟨(env 8).1,0,[],some 81,0⟩]
 | 11=>[⟨(env 11).1,0,R.boxes.flatMap cBx,some 81,(env 11).2 * 2⟩]
 | 12=>[⟨(env 12).1,0,[],some 111,0⟩]
 | 15=>[⟨(env 15).1,0,R.mats.flatMap cMt,some 111,(env 15).2 * 6⟩]
 | 17=>[⟨b2,0,cRm R (pl12 env),some 26,5⟩]
 | 18=>[⟨b2,0,[.int .i64 0,.int .i64 0,.slice none 0 0,.slice none 0 0,.slice none 0 0],some 26,5⟩]
 | _=>[]
theorem loc12 (bx b2 : Nat) (R : Rm) (p : Pl) : ∀ k env i q,i ≠ k → (tAt ts12 k).sup.contains i = false → val12 bx R p k (upd env i q)=val12 bx R p k env∧rows12 b2 R k (upd env i q)=rows12 b2 R k env:=by
 intro k env i q hk hs
 have hu : ∀ j,j ≠ i → upd env i q j = env j:=fun j hj=>by unfold upd;rw [if_neg hj]
 by_cases h16 : k = 16∨k = 17
 ·have h1 : pl12 (upd env i q)=pl12 env:=by
   unfold pl12
   rw [hu 7 (by rintro rfl;rcases h16 with rfl | rfl <;> cases hs),hu 11 (by rintro rfl;rcases h16 with rfl | rfl <;> cases hs),hu 15 (by rintro rfl;rcases h16 with rfl | rfl <;> cases hs)]
  rcases h16 with rfl | rfl <;> simp [val12,rows12,h1]
 ·unfold val12 rows12
  have h2:=hu k (fun e=>hk e.symm)
  constructor
  ·split <;> first | rfl | (rw [h2])|(exfalso;omega)
  ·split <;> first | rfl | (rw [h2])|(exfalso;omega)
theorem one_sp (e : Sp) : (cSp e).all (·.oneCell') = true:=rfl
theorem one_bx (e : Bx) : (cBx e).all (·.oneCell') = true:=rfl
theorem one_mt (e : Mt) : (cMt e).all (·.oneCell') = true:=rfl
theorem twin_spec (R : Rm) (p : Pl) (H : List Row) (hR : RmOk H R p) (h1 : R.ages.length ≤ 1000000) (h2 : R.boxes.length ≤ 1000000) (h3 : R.mats.length ≤ 1000000) : Fc Try.prog 14 [.agg (cRm R p).toArray] H (fun v H' => ∃ b1 k1 b2 k2 b3 k3,v = .agg (cRm R ⟨some ⟨b1,0,none⟩,k1,some ⟨b2,0,none⟩,k2,some ⟨b3,0,none⟩,k3⟩).toArray ∧
  H' = ⟨b1,0,R.ages.flatMap cSp,some 35,k1 * 2⟩::⟨b2,0,R.boxes.flatMap cBx,some 81,k2 * 2⟩::⟨b3,0,R.mats.flatMap cMt,some 111,k3 * 6⟩::H):=by
 refine Fc.mk (callable Try.call14) Try.func14 rfl Try.ntmps14 rfl ?_;dsimp only [fr]
 refine uS rfl ?_;refine uR rfl (fun K hK=>?_);repeat' (first | (refine uP rfl ?_;(first | ((first | refine uN rfl ?_);(first | (refine Xg.st (StF.boxAgg rfl rfl) rfl rfl ?_;rintro _ _ ⟨bx,rfl,rfl⟩)|(refine Xg.st (StF.alloc rfl Try.zeroValue26 rfl) rfl rfl ?_;rintro _ _ ⟨bx,rfl,rfl⟩)))))|(refine uD rfl ?_;refine hK _ _ ?_;clear hK K))
 rename_i b1;rename Nat=>b2
 refine uS rfl ?_
 refine X.regionOwn ts12 [1,2] [(1,.pointer (some ⟨b1,0,none⟩)),(2,.pointer (some ⟨b2,0,none⟩))] (val12 b1 R p) (rows12 b2 R) (fun _=>(0,0)) (⟨b1,0,cRm R p,some 26,5⟩::H) rfl mixed (by repeat (first | exact uU _ | refine uV rfl ?_)) rfl ok12 (loc12 b1 b2 R p) (qR _) ?_ ?_
 ·have hs : ∀ {α : Type} {a : Option Addr} {enc : α → List Value} {sz : Nat} {l : List α} (S Z : List Row),(∀ r ∈ ⟨b1,0,cRm R p,some 26,5⟩::H,r ∈ S) → SlE H a enc sz l → SlE (Z++S) a enc sz l :=
   fun S Z hS h=>h.sub (fun r hr=>List.mem_append_right _ (hS r (List.mem_cons_of_mem _ hr)))
  refine AllF.step rfl (fun env S hS=>by first | exact StF.pure (uF rfl rfl (te rfl) rfl (te rfl) (by decide)) rfl rfl | exact StF.pure (uM rfl rfl) rfl rfl | exact StF.pure (uA rfl rfl) rfl rfl | exact StF.pure (uL rfl rfl (uO (te rfl) rfl (hS _ (qH _)) rfl)) rfl rfl | exact StF.pure (uL rfl rfl (uO (te rfl) rfl (hS _ (qT _ (qH _))) rfl)) rfl rfl | exact StF.pure (uL rfl rfl (uO (te rfl) rfl (hS _ (qT _ (qT _ (qH _)))) rfl)) rfl rfl | exact StF.pure (uL rfl rfl (uW (te rfl) rfl (hS _ (qH _)) rfl)) rfl rfl | exact StF.pure (uL rfl rfl (uW (te rfl) rfl (hS _ (qT _ (qH _))) rfl)) rfl rfl | exact StF.pure (uL rfl rfl (uW (te rfl) rfl (hS _ (qT _ (qT _ (qH _)))) rfl)) rfl rfl | exact StF.pure (uY rfl rfl (te rfl)) rfl rfl) ?_
  refine AllF.step rfl (fun env S hS=>by first | exact StF.pure (uF rfl rfl (te rfl) rfl (te rfl) (by decide)) rfl rfl | exact StF.pure (uM rfl rfl) rfl rfl | exact StF.pure (uA rfl rfl) rfl rfl | exact StF.pure (uL rfl rfl (uO (te rfl) rfl (hS _ (qH _)) rfl)) rfl rfl | exact StF.pure (uL rfl rfl (uO (te rfl) rfl (hS _ (qT _ (qH _))) rfl)) rfl rfl | exact StF.pure (uL rfl rfl (uO (te rfl) rfl (hS _ (qT _ (qT _ (qH _)))) rfl)) rfl rfl | exact StF.pure (uL rfl rfl (uW (te rfl) rfl (hS _ (qH _)) rfl)) rfl rfl | exact StF.pure (uL rfl rfl (uW (te rfl) rfl (hS _ (qT _ (qH _))) rfl)) rfl rfl | exact StF.pure (uL rfl rfl (uW (te rfl) rfl (hS _ (qT _ (qT _ (qH _)))) rfl)) rfl rfl | exact StF.pure (uY rfl rfl (te rfl)) rfl rfl) ?_
  refine AllF.step rfl (fun env S hS=>by first | exact StF.pure (uF rfl rfl (te rfl) rfl (te rfl) (by decide)) rfl rfl | exact StF.pure (uM rfl rfl) rfl rfl | exact StF.pure (uA rfl rfl) rfl rfl | exact StF.pure (uL rfl rfl (uO (te rfl) rfl (hS _ (qH _)) rfl)) rfl rfl | exact StF.pure (uL rfl rfl (uO (te rfl) rfl (hS _ (qT _ (qH _))) rfl)) rfl rfl | exact StF.pure (uL rfl rfl (uO (te rfl) rfl (hS _ (qT _ (qT _ (qH _)))) rfl)) rfl rfl | exact StF.pure (uL rfl rfl (uW (te rfl) rfl (hS _ (qH _)) rfl)) rfl rfl | exact StF.pure (uL rfl rfl (uW (te rfl) rfl (hS _ (qT _ (qH _))) rfl)) rfl rfl | exact StF.pure (uL rfl rfl (uW (te rfl) rfl (hS _ (qT _ (qT _ (qH _)))) rfl)) rfl rfl | exact StF.pure (uY rfl rfl (te rfl)) rfl rfl) ?_
  refine AllF.step rfl (fun env S hS=>by first | exact StF.pure (uF rfl rfl (te rfl) rfl (te rfl) (by decide)) rfl rfl | exact StF.pure (uM rfl rfl) rfl rfl | exact StF.pure (uA rfl rfl) rfl rfl | exact StF.pure (uL rfl rfl (uO (te rfl) rfl (hS _ (qH _)) rfl)) rfl rfl | exact StF.pure (uL rfl rfl (uO (te rfl) rfl (hS _ (qT _ (qH _))) rfl)) rfl rfl | exact StF.pure (uL rfl rfl (uO (te rfl) rfl (hS _ (qT _ (qT _ (qH _)))) rfl)) rfl rfl | exact StF.pure (uL rfl rfl (uW (te rfl) rfl (hS _ (qH _)) rfl)) rfl rfl | exact StF.pure (uL rfl rfl (uW (te rfl) rfl (hS _ (qT _ (qH _))) rfl)) rfl rfl | exact StF.pure (uL rfl rfl (uW (te rfl) rfl (hS _ (qT _ (qT _ (qH _)))) rfl)) rfl rfl | exact StF.pure (uY rfl rfl (te rfl)) rfl rfl) ?_
  refine AllF.step rfl (fun env S hS=>(StF.buildNil rfl el22).mono (fun v H' ⟨b,hv,hH⟩=>⟨(b,0),fun _=>hv,by rw [hH];exact List.Perm.refl _⟩)) ?_
  refine AllF.step rfl (fun env S hS=>by first | exact StF.pure (uF rfl rfl (te rfl) rfl (te rfl) (by decide)) rfl rfl | exact StF.pure (uM rfl rfl) rfl rfl | exact StF.pure (uA rfl rfl) rfl rfl | exact StF.pure (uL rfl rfl (uO (te rfl) rfl (hS _ (qH _)) rfl)) rfl rfl | exact StF.pure (uL rfl rfl (uO (te rfl) rfl (hS _ (qT _ (qH _))) rfl)) rfl rfl | exact StF.pure (uL rfl rfl (uO (te rfl) rfl (hS _ (qT _ (qT _ (qH _)))) rfl)) rfl rfl | exact StF.pure (uL rfl rfl (uW (te rfl) rfl (hS _ (qH _)) rfl)) rfl rfl | exact StF.pure (uL rfl rfl (uW (te rfl) rfl (hS _ (qT _ (qH _))) rfl)) rfl rfl | exact StF.pure (uL rfl rfl (uW (te rfl) rfl (hS _ (qT _ (qT _ (qH _)))) rfl)) rfl rfl | exact StF.pure (uY rfl rfl (te rfl)) rfl rfl) ?_
  refine AllF.step rfl (fun env S hS=>by first | exact StF.pure (uF rfl rfl (te rfl) rfl (te rfl) (by decide)) rfl rfl | exact StF.pure (uM rfl rfl) rfl rfl | exact StF.pure (uA rfl rfl) rfl rfl | exact StF.pure (uL rfl rfl (uO (te rfl) rfl (hS _ (qH _)) rfl)) rfl rfl | exact StF.pure (uL rfl rfl (uO (te rfl) rfl (hS _ (qT _ (qH _))) rfl)) rfl rfl | exact StF.pure (uL rfl rfl (uO (te rfl) rfl (hS _ (qT _ (qT _ (qH _)))) rfl)) rfl rfl | exact StF.pure (uL rfl rfl (uW (te rfl) rfl (hS _ (qH _)) rfl)) rfl rfl | exact StF.pure (uL rfl rfl (uW (te rfl) rfl (hS _ (qT _ (qH _))) rfl)) rfl rfl | exact StF.pure (uL rfl rfl (uW (te rfl) rfl (hS _ (qT _ (qT _ (qH _)))) rfl)) rfl rfl | exact StF.pure (uY rfl rfl (te rfl)) rfl rfl) ?_
  refine AllF.step rfl (fun env S hS=>(StF.appendSl (i:=0) rfl el22 rfl rfl rfl (hs S _ hS hR.ages) (fun e _=>one_sp e) rfl (by decide) (by omega)).mono (fun v H' ⟨b,c,hv,hH⟩=>⟨(b,c),fun _=>by rw [hv,Nat.zero_add];rfl,by rw [hH];exact List.Perm.refl _⟩)) ?_
  refine AllF.step rfl (fun env S hS=>(StF.buildNil rfl el23).mono (fun v H' ⟨b,hv,hH⟩=>⟨(b,0),fun _=>hv,by rw [hH];exact List.Perm.refl _⟩)) ?_
  refine AllF.step rfl (fun env S hS=>by first | exact StF.pure (uF rfl rfl (te rfl) rfl (te rfl) (by decide)) rfl rfl | exact StF.pure (uM rfl rfl) rfl rfl | exact StF.pure (uA rfl rfl) rfl rfl | exact StF.pure (uL rfl rfl (uO (te rfl) rfl (hS _ (qH _)) rfl)) rfl rfl | exact StF.pure (uL rfl rfl (uO (te rfl) rfl (hS _ (qT _ (qH _))) rfl)) rfl rfl | exact StF.pure (uL rfl rfl (uO (te rfl) rfl (hS _ (qT _ (qT _ (qH _)))) rfl)) rfl rfl | exact StF.pure (uL rfl rfl (uW (te rfl) rfl (hS _ (qH _)) rfl)) rfl rfl | exact StF.pure (uL rfl rfl (uW (te rfl) rfl (hS _ (qT _ (qH _))) rfl)) rfl rfl | exact StF.pure (uL rfl rfl (uW (te rfl) rfl (hS _ (qT _ (qT _ (qH _)))) rfl)) rfl rfl | exact StF.pure (uY rfl rfl (te rfl)) rfl rfl) ?_
  refine AllF.step rfl (fun env S hS=>by first | exact StF.pure (uF rfl rfl (te rfl) rfl (te rfl) (by decide)) rfl rfl | exact StF.pure (uM rfl rfl) rfl rfl | exact StF.pure (uA rfl rfl) rfl rfl | exact StF.pure (uL rfl rfl (uO (te rfl) rfl (hS _ (qH _)) rfl)) rfl rfl | exact StF.pure (uL rfl rfl (uO (te rfl) rfl (hS _ (qT _ (qH _))) rfl)) rfl rfl | exact StF.pure (uL rfl rfl (uO (te rfl) rfl (hS _ (qT _ (qT _ (qH _)))) rfl)) rfl rfl | exact StF.pure (uL rfl rfl (uW (te rfl) rfl (hS _ (qH _)) rfl)) rfl rfl | exact StF.pure (uL rfl rfl (uW (te rfl) rfl (hS _ (qT _ (qH _))) rfl)) rfl rfl | exact StF.pure (uL rfl rfl (uW (te rfl) rfl (hS _ (qT _ (qT _ (qH _)))) rfl)) rfl rfl | exact StF.pure (uY rfl rfl (te rfl)) rfl rfl) ?_
  refine AllF.step rfl (fun env S hS=>(StF.appendSl (i:=0) rfl el23 rfl rfl rfl (hs S _ hS hR.boxes) (fun e _=>one_bx e) rfl (by decide) (by omega)).mono (fun v H' ⟨b,c,hv,hH⟩=>⟨(b,c),fun _=>by rw [hv,Nat.zero_add];rfl,by rw [hH];exact List.Perm.refl _⟩)) ?_
  refine AllF.step rfl (fun env S hS=>(StF.buildNil rfl el24).mono (fun v H' ⟨b,hv,hH⟩=>⟨(b,0),fun _=>hv,by rw [hH];exact List.Perm.refl _⟩)) ?_
  refine AllF.step rfl (fun env S hS=>by first | exact StF.pure (uF rfl rfl (te rfl) rfl (te rfl) (by decide)) rfl rfl | exact StF.pure (uM rfl rfl) rfl rfl | exact StF.pure (uA rfl rfl) rfl rfl | exact StF.pure (uL rfl rfl (uO (te rfl) rfl (hS _ (qH _)) rfl)) rfl rfl | exact StF.pure (uL rfl rfl (uO (te rfl) rfl (hS _ (qT _ (qH _))) rfl)) rfl rfl | exact StF.pure (uL rfl rfl (uO (te rfl) rfl (hS _ (qT _ (qT _ (qH _)))) rfl)) rfl rfl | exact StF.pure (uL rfl rfl (uW (te rfl) rfl (hS _ (qH _)) rfl)) rfl rfl | exact StF.pure (uL rfl rfl (uW (te rfl) rfl (hS _ (qT _ (qH _))) rfl)) rfl rfl | exact StF.pure (uL rfl rfl (uW (te rfl) rfl (hS _ (qT _ (qT _ (qH _)))) rfl)) rfl rfl | exact StF.pure (uY rfl rfl (te rfl)) rfl rfl) ?_
  refine AllF.step rfl (fun env S hS=>by first | exact StF.pure (uF rfl rfl (te rfl) rfl (te rfl) (by decide)) rfl rfl | exact StF.pure (uM rfl rfl) rfl rfl | exact StF.pure (uA rfl rfl) rfl rfl | exact StF.pure (uL rfl rfl (uO (te rfl) rfl (hS _ (qH _)) rfl)) rfl rfl | exact StF.pure (uL rfl rfl (uO (te rfl) rfl (hS _ (qT _ (qH _))) rfl)) rfl rfl | exact StF.pure (uL rfl rfl (uO (te rfl) rfl (hS _ (qT _ (qT _ (qH _)))) rfl)) rfl rfl | exact StF.pure (uL rfl rfl (uW (te rfl) rfl (hS _ (qH _)) rfl)) rfl rfl | exact StF.pure (uL rfl rfl (uW (te rfl) rfl (hS _ (qT _ (qH _))) rfl)) rfl rfl | exact StF.pure (uL rfl rfl (uW (te rfl) rfl (hS _ (qT _ (qT _ (qH _)))) rfl)) rfl rfl | exact StF.pure (uY rfl rfl (te rfl)) rfl rfl) ?_
  refine AllF.step rfl (fun env S hS=>(StF.appendSl (i:=0) rfl el24 rfl rfl rfl (hs S _ hS hR.mats) (fun e _=>one_mt e) rfl (by decide) (by omega)).mono (fun v H' ⟨b,c,hv,hH⟩=>⟨(b,c),fun _=>by rw [hv,Nat.zero_add];rfl,by rw [hH];exact List.Perm.refl _⟩)) ?_
  refine AllF.step rfl (fun env S hS=>StF.pure (EvF.build (cs:=cRm R (pl12 (upd env 16 (0,0)))) rfl (ArgsP.cons rfl (ArgsP.cons rfl (ArgsP.cons rfl (ArgsP.cons rfl (ArgsP.cons rfl ArgsP.nil))))) (te rfl) (Places.cons (te rfl) (Places.cons (te rfl) (Places.cons (te rfl) (Places.cons (te rfl) (Places.cons (te rfl) Places.nil))))) Try.zeroValue26 rfl) rfl rfl) ?_
  refine AllF.step rfl (fun env S hS=>StF.mono (uZ (i:=0) (vs:=cRm R (pl12 env)) (cs:=[.int .i64 0,.int .i64 0,.slice none 0 0,.slice none 0 0,.slice none 0 0]) rfl rfl rfl (te rfl) rfl rfl rfl rfl) (fun v H' ⟨hv,hH⟩=>⟨(0,0),fun h=>absurd rfl h,by rw [hH];exact List.Perm.refl _⟩)) ?_
  exact AllF.done rfl
 ·intro env t ha hv
  refine ⟨[(2,.pointer (some ⟨b2,0,none⟩))],ha.sub (by repeat (first | exact uU _ | refine uV rfl ?_)),?_⟩
  repeat' (first | refine X.ret rfl ?_)
  refine ret_one (.inr rfl) Try.results14 ⟨_,rfl,uW (te rfl) rfl (qT _ (qT _ (qT _ (qH _)))) rfl⟩ (H' := ⟨(env 7).1,0,R.ages.flatMap cSp,some 35,(env 7).2 * 2⟩::⟨(env 11).1,0,R.boxes.flatMap cBx,some 81,(env 11).2 * 2⟩::⟨(env 15).1,0,R.mats.flatMap cMt,some 111,(env 15).2 * 6⟩::H) ?_ ⟨_,_,_,_,_,_,rfl,rfl⟩
  exact qK _ (qK _ (qK _ (qC _ (qC _ (qR _)))))
def great (R : Rm) : Prop:=R.ages.length > 20∨R.boxes.length > 8∨R.mats.length > 16
instance (R : Rm) : Decidable (great R):=by unfold great;infer_instance
theorem great_spec (R : Rm) (p : Pl) (H : List Row) : Fc Try.prog 13 [.agg (cRm R p).toArray] H (fun v H' => v = .bool (decide (great R))∧H' = H):=by
 obtain ⟨a1,c1,a2,c2,a3,c3⟩:=p
 refine Fc.mk (callable Try.call13) Try.func13 rfl Try.ntmps13 rfl ?_;dsimp only [fr]
 repeat' (first | (refine uP rfl ?_;(first | ((first | refine uN rfl ?_ | (refine Xo.g rfl rfl ?_;with_reducible refine Xw.ff ?_));(first | (refine uE (uM rfl rfl) rfl rfl ?_)|(refine uE (uA rfl rfl) rfl rfl ?_)|(refine uE (EvF.pickT rfl rfl rfl) rfl rfl ?_)|(refine uE (EvF.pickF rfl rfl rfl) rfl rfl ?_)|(refine uE (uQ rfl rfl rfl rfl) rfl rfl ?_)|(refine uE (uF rfl rfl (te rfl) rfl (te rfl) (by decide)) rfl rfl ?_)|(refine uE (uY rfl rfl (te rfl)) rfl rfl ?_)|(refine uE (uL rfl rfl (uO (te rfl) rfl (qH _) rfl)) rfl rfl ?_)|(refine Xg.st (StF.boxAgg rfl rfl) rfl rfl ?_;rintro _ _ ⟨bx,rfl,rfl⟩)))|(refine Xo.g rfl rfl ?_;(first | (with_reducible refine Xw.tf rfl rfl ?_)|(with_reducible refine Xw.case (fun h=>?_) (fun h=>?_) <;> simp only [h,decide_true,decide_false,Bool.not_true,Bool.not_false,and_self,and_true,true_and,and_false,false_and])))))|(refine uD rfl ?_;refine hK _ _ ?_;clear hK K) | refine uS rfl ?_ | refine uR rfl (fun K hK=>?_) | refine X.block rfl ?_ | (refine X.brk rfl ?_;repeat (first | refine blockX_hit rfl ?_ | refine blockX_miss (by decide) ?_)) | refine X.skip rfl ?_ | refine X.ret rfl ?_ | (refine X.ite rfl rfl (fun hc=>?_);(first | (with_reducible refine Xb.case hc (fun h=>?_) (fun h=>?_))) <;> clear hc))
 all_goals (refine ret_one (by simp) Try.results13 rfl (H' := H) (by (repeat (first | exact qR _ | apply qC));done) ?_;simp only [and_true,true_and])
 all_goals (congr 1;symm;unfold great)
 all_goals first | exact decide_eq_true (by omega) | exact decide_eq_false (by omega) | exact decide_eq_decide.2 (by omega)
def cI (x : Int) : List Value:=[.int .i64 x]
theorem one_i (e : Int) : (cI e).all (·.oneCell') = true:=rfl
/-- two lists of numbers are compared -/
theorem sameInts_spec (l m : List Int) (a a' : Option Addr) (c c' : Nat) (H : List Row) (hl : SlE H a cI 1 l) (hm : SlE H a' cI 1 m) (hb : l.length ≤ 9223372036854775807) : Fc Try.prog 38 [.slice a l.length c,.slice a' m.length c'] H (fun v H' => v = .bool (decide (l = m))∧H' = H):=by
 refine Fc.mk (callable Try.call38) Try.func38 rfl Try.ntmps38 rfl ?_;dsimp only [fr]
 repeat' (first | (refine uP rfl ?_;(first | ((first | refine uN rfl ?_);(first | (refine uE (uM rfl rfl) rfl rfl ?_)|(refine uE (uA rfl rfl) rfl rfl ?_)|(refine uE (uQ rfl rfl rfl rfl) rfl rfl ?_)|(refine uE (uY rfl rfl (te rfl)) rfl rfl ?_)))))|(refine uD rfl ?_;refine hK _ _ ?_;clear hK K)|(refine XQ.op rfl ?_;(first | ((first | refine Yo.ng rfl ?_);(first | (refine Yg.ev (uM rfl rfl) rfl rfl ?_))))) | refine uS rfl ?_ | refine uR rfl (fun K hK=>?_) | refine X.regionD rfl mixed (by kernel_rfl) (fun K hK=>?_) | refine X.block rfl ?_ | (refine X.brk rfl ?_;repeat (first | refine blockX_hit rfl ?_ | refine blockX_miss (by decide) ?_)) | refine X.skip rfl ?_ | refine X.ret rfl ?_ | (refine X.ite rfl rfl (fun hc=>?_);(first | (with_reducible refine Xb.case hc (fun h=>?_) (fun h=>?_))|(with_reducible refine Xb.caseN hc (fun h=>?_) (fun h=>?_))) <;> clear hc))
 ·refine ret_one (by simp) Try.results38 rfl (H' := H) (by (repeat (first | exact qR _ | apply qC));done) ?_;simp only [and_true,true_and]
  congr 1;symm;exact decide_eq_false (fun e=>by subst e;omega)
 ·refine X.lp rfl (fun q F' H' => ∃ k : Nat,q = l.length - k∧k ≤ l.length∧(l = m ↔ l.drop k = m.drop k)∧H = H'∧F' = [(0,.slice a l.length c),(1,.slice a' m.length c'),(5,.int .i64 k)])
   l.length [(0,.slice a l.length c),(1,.slice a' m.length c'),(5,.int .i64 (0 : Nat))] _ (by repeat (first | exact uU _ | refine uV rfl ?_)) (qR _) ⟨0,by omega,by omega,by simp,rfl,rfl⟩ ?_
  rintro _ _ _ ⟨k,rfl,hk,hn,rfl,rfl⟩
  repeat' (first | (refine uP rfl ?_;(first | ((first | refine uN rfl ?_);(first | (refine uE (uM rfl rfl) rfl rfl ?_)|(refine uE (uA rfl rfl) rfl rfl ?_)|(refine uE (uQ rfl rfl rfl rfl) rfl rfl ?_)|(refine uE (uY rfl rfl (te rfl)) rfl rfl ?_)))))|(refine uD rfl ?_;refine hK _ _ ?_;clear hK K)|(refine XQ.op rfl ?_;(first | ((first | refine Yo.ng rfl ?_);(first | (refine Yg.ev (uM rfl rfl) rfl rfl ?_))))) | refine uS rfl ?_ | refine uR rfl (fun K hK=>?_) | refine X.regionD rfl mixed (by kernel_rfl) (fun K hK=>?_) | refine X.block rfl ?_ | (refine X.brk rfl ?_;repeat (first | refine blockX_hit rfl ?_ | refine blockX_miss (by decide) ?_)) | refine X.skip rfl ?_ | refine X.ret rfl ?_ | (refine X.ite rfl rfl (fun hc=>?_);(first | (with_reducible refine Xb.case hc (fun h=>?_) (fun h=>?_))|(with_reducible refine Xb.caseN hc (fun h=>?_) (fun h=>?_))) <;> clear hc))
  ·obtain ⟨b,off,e,rfl,he⟩:=hl.elem (i:=k) (by omega)
   obtain ⟨b',off',f,rfl,hf⟩:=hm.elem (i:=k) (by omega)
   rw [drop_cons he,drop_cons hf,List.cons.injEq] at hn
   repeat' (first | (refine uP rfl ?_;(first | ((first | refine uN rfl ?_);(first | (refine uE (uM rfl rfl) rfl rfl ?_)|(refine uE (uA rfl rfl) rfl rfl ?_)|(refine uE (EvF.add64 rfl rfl rfl (by omega) (by omega)) rfl rfl ?_)))))|(refine uD rfl ?_;refine hK _ _ ?_;clear hK K)|(refine XQ.op rfl ?_;(first | ((first | refine Yo.ng rfl ?_);(first | (refine Yg.ev (uL rfl rfl (LoadV.el0 hl he (te rfl) rfl (fun _ hm=>hm) rfl)) rfl rfl ?_)|(refine Yg.ev (uL rfl rfl (LoadV.el0 hm hf (te rfl) rfl (fun _ hm=>hm) rfl)) rfl rfl ?_)|(refine Yg.ev (uM rfl rfl) rfl rfl ?_)|(refine Yg.ev (uQ rfl rfl rfl rfl) rfl rfl ?_)|(refine Yg.ev (uJ rfl rfl rfl (te rfl) (te rfl) (by omega) (by omega)) rfl rfl ?_)))))|(refine XQ.done rfl ?_;refine hK _ ?_;clear hK K) | refine uS rfl ?_ | refine uR rfl (fun K hK=>?_) | refine X.skip rfl ?_ | refine X.ret rfl ?_ | (refine X.ite rfl rfl (fun hc=>?_);(first | (with_reducible refine Xb.caseN hc (fun h=>?_) (fun h=>?_))) <;> clear hc))
   ·refine ret_one (by simp) Try.results38 rfl (H' := H) (by (repeat (first | exact qR _ | apply qC));done) ?_;simp only [and_true,true_and]
    congr 1;symm;exact decide_eq_false (fun q=>by have:=(hn.1 q).1;omega)
   ·refine ⟨_,_,_,(by repeat (first | exact uU _ | refine uV rfl ?_)),(by (repeat (first | exact qR _ | apply qC));done),⟨k + 1,rfl,by omega,hn.trans (and_iff_right (by assumption)),rfl,rfl⟩,by omega⟩
  ·refine ret_one (by simp) Try.results38 rfl (H' := H) (by (repeat (first | exact qR _ | apply qC));done) ?_;simp only [and_true,true_and]
   congr 1;symm;refine decide_eq_true (hn.2 ?_)
   rw [List.drop_eq_nil_of_le (by omega),List.drop_eq_nil_of_le (by omega)]
theorem take_snoc {α : Type} {l : List α} {k : Nat} {e : α} (h : l[k]? = some e) : l.take (k + 1)=l.take k++[e]:=by
 rw [List.take_add_one,h];rfl
theorem lenI (l : List Int) : (l.flatMap cI).length = l.length * 1:=flat_len (fun _ _=>rfl)
end Go.Proofs.Ytmfppdpkalelhaa
namespace Go.Fw
open Go
section
variable {P : Program} {H : List Row} {n : Nat} {F : FS} {o : Oper}
theorem EvF.eqSt {op : BinOp} {T T' : TypeId} {x y : Operand} {xs ys : Array Value} {r b : Bool} (h : o.op = .binOp op T x y T') (hx : evF F x = some (.agg xs)) (hy : evF F y = some (.agg ys)) (hm : P.eqGuardType P.depth T = false)
  (hE : ∀ w,(Op.equalIn 10000 T (.agg xs) (.agg ys)).run P w = .ok r w) (hb : (match (generalizing:=false) op with | .eql=>some r | .neq=>some (!r) | _=>none)=some b) : EvF P n H F o (.bool b):=by
 unfold EvF EvOp;intro t ha B w0 w hS
 have ex:=ha.ev hx
 have ey:=ha.ev hy
 cases op <;> simp only [Option.some.injEq,reduceCtorEq] at hb <;> subst hb
 ·simp [execOp,h,ex,ey,run_eqGuard_agg w _ T x y xs ys hm,run_eql_struct w T xs ys,hE]
 ·simp [execOp,h,ex,ey,run_eqGuard_agg w _ T x y xs ys hm,run_neq_struct w T xs ys,hE]
end
end Go.Fw
namespace Go.Proofs.Ytmfppdpkalelhaa
open Go Go.Fw
noncomputable instance : DecidableEq Sp:=fun _ _=>Classical.propDecidable _
noncomputable instance : DecidableEq Bx:=fun _ _=>Classical.propDecidable _
noncomputable instance : DecidableEq Mt:=fun _ _=>Classical.propDecidable _
noncomputable instance : DecidableEq Rm:=fun _ _=>Classical.propDecidable _
theorem eqI (d : Nat) (a b : Int) (w : World) : (Op.equalIn (d + 1) 3 (.int .i64 a) (.int .i64 b)).run Try.prog w = .ok (decide (a = b)) w:=by
 rw [run_equalIn_int w d 3 .i64 .i64 a b (by kernel_rfl)]
 by_cases h : a = b <;> simp [h]
theorem eqSp (d : Nat) (e f : Sp) (w : World) : (Op.equalIn (d + 2) 35 (.agg (cSp e).toArray) (.agg (cSp f).toArray)).run Try.prog w = .ok (decide (e = f)) w:=by
 have hS : Try.prog.underlying 35 = some (.struct (Try.prog.fieldsOf 35)):=by kernel_rfl
 rw [run_equalIn_agg w (d + 1) 35 _ _ hS (by kernel_rfl)]
 simp only [Program.fieldsOf,Try.underlying35]
 go_simp
 obtain ⟨e1,e2⟩:=e
 obtain ⟨f1,f2⟩:=f
 by_cases h1 : e1 = f1 <;> by_cases h2 : e2 = f2 <;> simp [cSp,eqI,Result.andThen,h1,h2]
theorem eqBx (d : Nat) (e f : Bx) (w : World) : (Op.equalIn (d + 2) 81 (.agg (cBx e).toArray) (.agg (cBx f).toArray)).run Try.prog w = .ok (decide (e = f)) w:=by
 have hS : Try.prog.underlying 81 = some (.struct (Try.prog.fieldsOf 81)):=by kernel_rfl
 rw [run_equalIn_agg w (d + 1) 81 _ _ hS (by kernel_rfl)]
 simp only [Program.fieldsOf,Try.underlying81]
 go_simp
 obtain ⟨e1,e2⟩:=e
 obtain ⟨f1,f2⟩:=f
 by_cases h1 : e1 = f1 <;> by_cases h2 : e2 = f2 <;> simp [cBx,eqI,Result.andThen,h1,h2]
theorem eqMt (d : Nat) (e f : Mt) (w : World) : (Op.equalIn (d + 3) 111 (.agg (cMt e).toArray) (.agg (cMt f).toArray)).run Try.prog w = .ok (decide (e = f)) w:=by
 have hS : Try.prog.underlying 111 = some (.struct (Try.prog.fieldsOf 111)):=by kernel_rfl
 rw [run_equalIn_agg w (d + 2) 111 _ _ hS (by kernel_rfl)]
 simp only [Program.fieldsOf,Try.underlying111]
 go_simp
 obtain ⟨e1,e2,e3,e4,e5,e6⟩:=e
 obtain ⟨f1,f2,f3,f4,f5,f6⟩:=f
 by_cases h1 : e1 = f1
 ·by_cases h2 : e2 = f2
  ·by_cases h3 : e3 = f3
   ·by_cases h4 : e4 = f4
    ·by_cases h5 : e5 = f5 <;> by_cases h6 : e6 = f6 <;> simp [cMt,eqI,Result.andThen,h1,h2,h3,h4,h5,h6]
    ·simp [cMt,eqI,Result.andThen,h1,h2,h3,h4]
   ·simp [cMt,eqI,Result.andThen,h1,h2,h3]
  ·simp [cMt,eqI,Result.andThen,h1,h2]
 ·simp [cMt,eqI,Result.andThen,h1]
set_option maxRecDepth 10000
theorem Rm.ext' {R S : Rm} (h1 : R.months = S.months) (h2 : R.step = S.step) (h3 : R.ages = S.ages) (h4 : R.boxes = S.boxes) (h5 : R.mats = S.mats) : R = S:=by
 cases R;cases S;simp_all
theorem same_spec (R S : Rm) (p q : Pl) (H : List Row) (hR : RmOk H R p) (hS : RmOk H S q) : Fc Try.prog 23 [.agg (cRm R p).toArray,.agg (cRm S q).toArray] H (fun v H' => v = .bool (decide (R = S))∧H' = H):=by
 have l1:=hR.l1
 have l2:=hR.l2
 have l3:=hR.l3
 have m1:=hS.l1
 have m2:=hS.l2
 have m3:=hS.l3
 obtain ⟨a1,c1,a2,c2,a3,c3⟩:=p
 obtain ⟨b1,d1,b2,d2,b3,d3⟩:=q
 refine Fc.mk (callable Try.call23) Try.func23 rfl Try.ntmps23 rfl ?_;dsimp only [fr]
 repeat' (first | (refine uP rfl ?_;(first | ((first | refine uN rfl ?_ | (refine Xo.g rfl rfl ?_;with_reducible refine Xw.ff ?_));(first | (refine uE (uM rfl rfl) rfl rfl ?_)|(refine uE (uA rfl rfl) rfl rfl ?_)|(refine uE (EvF.pickT rfl rfl rfl) rfl rfl ?_)|(refine uE (EvF.pickF rfl rfl rfl) rfl rfl ?_)|(refine uE (uQ rfl rfl rfl rfl) rfl rfl ?_)|(refine uE (uF rfl rfl (te rfl) rfl (te rfl) (by decide)) rfl rfl ?_)|(refine uE (uY rfl rfl (te rfl)) rfl rfl ?_)|(refine uE (uL rfl rfl (uO (te rfl) rfl (qH _) rfl)) rfl rfl ?_)|(refine uE (uL rfl rfl (uO (te rfl) rfl (qT _ (qH _)) rfl)) rfl rfl ?_)|(refine Xg.st (StF.boxAgg rfl rfl) rfl rfl ?_;rintro _ _ ⟨bx,rfl,rfl⟩)))|(refine Xo.g rfl rfl ?_;(first | (with_reducible refine Xw.tf rfl rfl ?_)|(with_reducible refine Xw.caseN (fun h=>?_) (fun h=>?_) <;> simp only [h,decide_true,decide_false,Bool.not_true,Bool.not_false,and_self,and_true,true_and,and_false,false_and])))))|(refine uD rfl ?_;refine hK _ _ ?_;clear hK K)|(refine XQ.op rfl ?_;(first | ((first | refine Yo.ng rfl ?_);(first | (refine Yg.ev (uM rfl rfl) rfl rfl ?_)|(refine Yg.ev (uF rfl rfl (te rfl) rfl (te rfl) (by decide)) rfl rfl ?_)|(refine Yg.ev (uL rfl rfl (uO (te rfl) rfl (qT _ (qH _)) rfl)) rfl rfl ?_))))) | refine uS rfl ?_ | refine uR rfl (fun K hK=>?_) | refine X.regionD rfl mixed (by kernel_rfl) (fun K hK=>?_) | refine X.block rfl ?_ | (refine X.brk rfl ?_;repeat (first | refine blockX_hit rfl ?_ | refine blockX_miss (by decide) ?_)) | refine X.skip rfl ?_ | refine X.ret rfl ?_ | (refine X.ite rfl rfl (fun hc=>?_);(first | (with_reducible refine Xb.t hc ?_)|(with_reducible refine Xb.case hc (fun h=>?_) (fun h=>?_))|(with_reducible refine Xb.caseN hc (fun h=>?_) (fun h=>?_))) <;> clear hc))
 any_goals (refine ret_one (by simp) Try.results23 rfl (H' := H) (by (repeat (first | exact qR _ | apply qC));done) ?_;simp only [and_true,true_and];congr 1;symm;exact decide_eq_false (fun hh=>by subst hh;omega))
 rename_i bx1 em es e1 e2
 have e3:=h
 have hR2 : ∀ r r',RmOk (r::r'::H) R ⟨a1,c1,a2,c2,a3,c3⟩:=fun r r' => hR.sub (fun _ h=>List.mem_cons_of_mem _ (List.mem_cons_of_mem _ h))
 have hS2 : ∀ r r',RmOk (r::r'::H) S ⟨b1,d1,b2,d2,b3,d3⟩:=fun r r' => hS.sub (fun _ h=>List.mem_cons_of_mem _ (List.mem_cons_of_mem _ h))
 refine X.lp rfl (fun m F' H' => ∃ k : Nat,m = R.ages.length - k∧k ≤ R.ages.length∧(R.ages = S.ages ↔ R.ages.drop k = S.ages.drop k)∧⟨bx,0,cRm S ⟨b1,d1,b2,d2,b3,d3⟩,some 26,5⟩::⟨bx1,0,cRm R ⟨a1,c1,a2,c2,a3,c3⟩,some 26,5⟩::H = H' ∧
   F' = [(2,.pointer (some ⟨bx1,0,none⟩)),(3,.pointer (some ⟨bx,0,none⟩)),(5,.int .i64 k)])
  R.ages.length [(2,.pointer (some ⟨bx1,0,none⟩)),(3,.pointer (some ⟨bx,0,none⟩)),(5,.int .i64 (0 : Nat))] _ (by repeat (first | exact uU _ | refine uV rfl ?_)) (qR _) ⟨0,by omega,by omega,by simp,rfl,rfl⟩ ?_
 rintro _ _ _ ⟨k,rfl,hk,hn,rfl,rfl⟩
 repeat' (first | (refine uP rfl ?_;(first | ((first | refine uN rfl ?_ | (refine Xo.g rfl rfl ?_;with_reducible refine Xw.ff ?_));(first | (refine uE (uM rfl rfl) rfl rfl ?_)|(refine uE (uA rfl rfl) rfl rfl ?_)|(refine uE (EvF.pickT rfl rfl rfl) rfl rfl ?_)|(refine uE (EvF.pickF rfl rfl rfl) rfl rfl ?_)|(refine uE (uQ rfl rfl rfl rfl) rfl rfl ?_)|(refine uE (uF rfl rfl (te rfl) rfl (te rfl) (by decide)) rfl rfl ?_)|(refine uE (uY rfl rfl (te rfl)) rfl rfl ?_)|(refine uE (uL rfl rfl (uO (te rfl) rfl (qH _) rfl)) rfl rfl ?_)|(refine uE (uL rfl rfl (uO (te rfl) rfl (qT _ (qH _)) rfl)) rfl rfl ?_)|(refine Xg.st (StF.boxAgg rfl rfl) rfl rfl ?_;rintro _ _ ⟨bx,rfl,rfl⟩)))|(refine Xo.g rfl rfl ?_;(first | (with_reducible refine Xw.tf rfl rfl ?_)|(with_reducible refine Xw.caseN (fun h=>?_) (fun h=>?_) <;> simp only [h,decide_true,decide_false,Bool.not_true,Bool.not_false,and_self,and_true,true_and,and_false,false_and])))))|(refine uD rfl ?_;refine hK _ _ ?_;clear hK K)|(refine XQ.op rfl ?_;(first | ((first | refine Yo.ng rfl ?_);(first | (refine Yg.ev (uM rfl rfl) rfl rfl ?_)|(refine Yg.ev (uF rfl rfl (te rfl) rfl (te rfl) (by decide)) rfl rfl ?_)|(refine Yg.ev (uL rfl rfl (uO (te rfl) rfl (qT _ (qH _)) rfl)) rfl rfl ?_))))) | refine uS rfl ?_ | refine uR rfl (fun K hK=>?_) | refine X.regionD rfl mixed (by kernel_rfl) (fun K hK=>?_) | refine X.block rfl ?_ | (refine X.brk rfl ?_;repeat (first | refine blockX_hit rfl ?_ | refine blockX_miss (by decide) ?_)) | refine X.skip rfl ?_ | refine X.ret rfl ?_ | (refine X.ite rfl rfl (fun hc=>?_);(first | (with_reducible refine Xb.t hc ?_)|(with_reducible refine Xb.case hc (fun h=>?_) (fun h=>?_))|(with_reducible refine Xb.caseN hc (fun h=>?_) (fun h=>?_))) <;> clear hc))
 ·obtain ⟨b,off,e,rfl,he⟩:=hR.ages.elem (i:=k) (by omega)
  obtain ⟨b',off',f,rfl,hf⟩:=hS.ages.elem (i:=k) (by omega)
  rw [drop_cons he,drop_cons hf,List.cons.injEq] at hn
  repeat' (first | (refine uP rfl ?_;(first | ((first | refine uN rfl ?_);(first | (refine uE (uM rfl rfl) rfl rfl ?_)|(refine uE (uA rfl rfl) rfl rfl ?_)|(refine uE (EvF.add64 rfl rfl rfl (by omega) (by omega)) rfl rfl ?_)))))|(refine uD rfl ?_;refine hK _ _ ?_;clear hK K)|(refine XQ.op rfl ?_;(first | ((first | refine Yo.ng rfl ?_);(first | (refine Yg.ev (uL rfl rfl (LoadV.elA0 (hR2 _ _).ages he (te rfl) rfl (fun _ hm=>hm) rfl)) rfl rfl ?_)|(refine Yg.ev (uL rfl rfl (LoadV.elA0 (hS2 _ _).ages hf (te rfl) rfl (fun _ hm=>hm) rfl)) rfl rfl ?_)|(refine Yg.ev (EvF.eqSt rfl rfl rfl (by kernel_rfl) (fun w=>eqSp 9998 e f w) rfl) rfl rfl ?_)|(refine Yg.ev (uM rfl rfl) rfl rfl ?_)|(refine Yg.ev (uF rfl rfl (te rfl) rfl (te rfl) (by decide)) rfl rfl ?_)|(refine Yg.ev (uJ rfl rfl rfl (te rfl) (te rfl) (by omega) (by omega)) rfl rfl ?_)|(refine Yg.ev (uL rfl rfl (uO (te rfl) rfl (qH _) rfl)) rfl rfl ?_)))))|(refine XQ.done rfl ?_;refine hK _ ?_;clear hK K) | refine uS rfl ?_ | refine uR rfl (fun K hK=>?_) | refine X.skip rfl ?_ | refine X.ret rfl ?_ | (refine X.ite rfl rfl (fun hc=>?_);(first | (with_reducible refine Xb.caseN hc (fun h=>?_) (fun h=>?_))) <;> clear hc))
  ·refine ret_one (by simp) Try.results23 rfl (H' := H) (by (repeat (first | exact qR _ | apply qC));done) ?_;simp only [and_true,true_and]
   congr 1;symm;exact decide_eq_false (fun q=>by subst q;exact absurd (hn.1 rfl).1 (by assumption))
  ·refine ⟨_,_,_,(by repeat (first | exact uU _ | refine uV rfl ?_)),(by (repeat (first | exact qR _ | apply qC));done),⟨k + 1,rfl,by omega,hn.trans (and_iff_right (by assumption)),rfl,rfl⟩,by omega⟩
 have hA : R.ages = S.ages:=hn.2 (by rw [List.drop_eq_nil_of_le (by omega),List.drop_eq_nil_of_le (by omega)])
 clear hn
 refine X.lp rfl (fun m F' H' => ∃ k : Nat,m = R.boxes.length - k∧k ≤ R.boxes.length∧(R.boxes = S.boxes ↔ R.boxes.drop k = S.boxes.drop k)∧⟨bx,0,cRm S ⟨b1,d1,b2,d2,b3,d3⟩,some 26,5⟩::⟨bx1,0,cRm R ⟨a1,c1,a2,c2,a3,c3⟩,some 26,5⟩::H = H' ∧
   F' = [(2,.pointer (some ⟨bx1,0,none⟩)),(3,.pointer (some ⟨bx,0,none⟩)),(6,.int .i64 k)])
  R.boxes.length [(2,.pointer (some ⟨bx1,0,none⟩)),(3,.pointer (some ⟨bx,0,none⟩)),(6,.int .i64 (0 : Nat))] _ (by repeat (first | exact uU _ | refine uV rfl ?_)) (qR _) ⟨0,by omega,by omega,by simp,rfl,rfl⟩ ?_
 rintro _ _ _ ⟨k,rfl,hk,hn,rfl,rfl⟩
 repeat' (first | (refine uP rfl ?_;(first | ((first | refine uN rfl ?_ | (refine Xo.g rfl rfl ?_;with_reducible refine Xw.ff ?_));(first | (refine uE (uM rfl rfl) rfl rfl ?_)|(refine uE (uA rfl rfl) rfl rfl ?_)|(refine uE (EvF.pickT rfl rfl rfl) rfl rfl ?_)|(refine uE (EvF.pickF rfl rfl rfl) rfl rfl ?_)|(refine uE (uQ rfl rfl rfl rfl) rfl rfl ?_)|(refine uE (uF rfl rfl (te rfl) rfl (te rfl) (by decide)) rfl rfl ?_)|(refine uE (uY rfl rfl (te rfl)) rfl rfl ?_)|(refine uE (uL rfl rfl (uO (te rfl) rfl (qH _) rfl)) rfl rfl ?_)|(refine uE (uL rfl rfl (uO (te rfl) rfl (qT _ (qH _)) rfl)) rfl rfl ?_)|(refine Xg.st (StF.boxAgg rfl rfl) rfl rfl ?_;rintro _ _ ⟨bx,rfl,rfl⟩)))|(refine Xo.g rfl rfl ?_;(first | (with_reducible refine Xw.tf rfl rfl ?_)|(with_reducible refine Xw.caseN (fun h=>?_) (fun h=>?_) <;> simp only [h,decide_true,decide_false,Bool.not_true,Bool.not_false,and_self,and_true,true_and,and_false,false_and])))))|(refine uD rfl ?_;refine hK _ _ ?_;clear hK K)|(refine XQ.op rfl ?_;(first | ((first | refine Yo.ng rfl ?_);(first | (refine Yg.ev (uM rfl rfl) rfl rfl ?_)|(refine Yg.ev (uF rfl rfl (te rfl) rfl (te rfl) (by decide)) rfl rfl ?_)|(refine Yg.ev (uL rfl rfl (uO (te rfl) rfl (qT _ (qH _)) rfl)) rfl rfl ?_))))) | refine uS rfl ?_ | refine uR rfl (fun K hK=>?_) | refine X.regionD rfl mixed (by kernel_rfl) (fun K hK=>?_) | refine X.block rfl ?_ | (refine X.brk rfl ?_;repeat (first | refine blockX_hit rfl ?_ | refine blockX_miss (by decide) ?_)) | refine X.skip rfl ?_ | refine X.ret rfl ?_ | (refine X.ite rfl rfl (fun hc=>?_);(first | (with_reducible refine Xb.t hc ?_)|(with_reducible refine Xb.case hc (fun h=>?_) (fun h=>?_))|(with_reducible refine Xb.caseN hc (fun h=>?_) (fun h=>?_))) <;> clear hc))
 ·obtain ⟨b,off,e,rfl,he⟩:=hR.boxes.elem (i:=k) (by omega)
  obtain ⟨b',off',f,rfl,hf⟩:=hS.boxes.elem (i:=k) (by omega)
  rw [drop_cons he,drop_cons hf,List.cons.injEq] at hn
  repeat' (first | (refine uP rfl ?_;(first | ((first | refine uN rfl ?_);(first | (refine uE (uM rfl rfl) rfl rfl ?_)|(refine uE (uA rfl rfl) rfl rfl ?_)|(refine uE (EvF.add64 rfl rfl rfl (by omega) (by omega)) rfl rfl ?_)))))|(refine uD rfl ?_;refine hK _ _ ?_;clear hK K)|(refine XQ.op rfl ?_;(first | ((first | refine Yo.ng rfl ?_);(first | (refine Yg.ev (uL rfl rfl (LoadV.elA0 (hR2 _ _).boxes he (te rfl) rfl (fun _ hm=>hm) rfl)) rfl rfl ?_)|(refine Yg.ev (uL rfl rfl (LoadV.elA0 (hS2 _ _).boxes hf (te rfl) rfl (fun _ hm=>hm) rfl)) rfl rfl ?_)|(refine Yg.ev (EvF.eqSt rfl rfl rfl (by kernel_rfl) (fun w=>eqBx 9998 e f w) rfl) rfl rfl ?_)|(refine Yg.ev (uM rfl rfl) rfl rfl ?_)|(refine Yg.ev (uF rfl rfl (te rfl) rfl (te rfl) (by decide)) rfl rfl ?_)|(refine Yg.ev (uJ rfl rfl rfl (te rfl) (te rfl) (by omega) (by omega)) rfl rfl ?_)|(refine Yg.ev (uL rfl rfl (uO (te rfl) rfl (qH _) rfl)) rfl rfl ?_)))))|(refine XQ.done rfl ?_;refine hK _ ?_;clear hK K) | refine uS rfl ?_ | refine uR rfl (fun K hK=>?_) | refine X.skip rfl ?_ | refine X.ret rfl ?_ | (refine X.ite rfl rfl (fun hc=>?_);(first | (with_reducible refine Xb.caseN hc (fun h=>?_) (fun h=>?_))) <;> clear hc))
  ·refine ret_one (by simp) Try.results23 rfl (H' := H) (by (repeat (first | exact qR _ | apply qC));done) ?_;simp only [and_true,true_and]
   congr 1;symm;exact decide_eq_false (fun q=>by subst q;exact absurd (hn.1 rfl).1 (by assumption))
  ·refine ⟨_,_,_,(by repeat (first | exact uU _ | refine uV rfl ?_)),(by (repeat (first | exact qR _ | apply qC));done),⟨k + 1,rfl,by omega,hn.trans (and_iff_right (by assumption)),rfl,rfl⟩,by omega⟩
 have hB : R.boxes = S.boxes:=hn.2 (by rw [List.drop_eq_nil_of_le (by omega),List.drop_eq_nil_of_le (by omega)])
 clear hn
 refine X.lp rfl (fun m F' H' => ∃ k : Nat,m = R.mats.length - k∧k ≤ R.mats.length∧(R.mats = S.mats ↔ R.mats.drop k = S.mats.drop k)∧⟨bx,0,cRm S ⟨b1,d1,b2,d2,b3,d3⟩,some 26,5⟩::⟨bx1,0,cRm R ⟨a1,c1,a2,c2,a3,c3⟩,some 26,5⟩::H = H' ∧
   F' = [(2,.pointer (some ⟨bx1,0,none⟩)),(3,.pointer (some ⟨bx,0,none⟩)),(7,.int .i64 k)])
  R.mats.length [(2,.pointer (some ⟨bx1,0,none⟩)),(3,.pointer (some ⟨bx,0,none⟩)),(7,.int .i64 (0 : Nat))] _ (by repeat (first | exact uU _ | refine uV rfl ?_)) (qR _) ⟨0,by omega,by omega,by simp,rfl,rfl⟩ ?_
 rintro _ _ _ ⟨k,rfl,hk,hn,rfl,rfl⟩
 repeat' (first | (refine uP rfl ?_;(first | ((first | refine uN rfl ?_ | (refine Xo.g rfl rfl ?_;with_reducible refine Xw.ff ?_));(first | (refine uE (uM rfl rfl) rfl rfl ?_)|(refine uE (uA rfl rfl) rfl rfl ?_)|(refine uE (EvF.pickT rfl rfl rfl) rfl rfl ?_)|(refine uE (EvF.pickF rfl rfl rfl) rfl rfl ?_)|(refine uE (uQ rfl rfl rfl rfl) rfl rfl ?_)|(refine uE (uF rfl rfl (te rfl) rfl (te rfl) (by decide)) rfl rfl ?_)|(refine uE (uY rfl rfl (te rfl)) rfl rfl ?_)|(refine uE (uL rfl rfl (uO (te rfl) rfl (qH _) rfl)) rfl rfl ?_)|(refine uE (uL rfl rfl (uO (te rfl) rfl (qT _ (qH _)) rfl)) rfl rfl ?_)|(refine Xg.st (StF.boxAgg rfl rfl) rfl rfl ?_;rintro _ _ ⟨bx,rfl,rfl⟩)))|(refine Xo.g rfl rfl ?_;(first | (with_reducible refine Xw.tf rfl rfl ?_)|(with_reducible refine Xw.caseN (fun h=>?_) (fun h=>?_) <;> simp only [h,decide_true,decide_false,Bool.not_true,Bool.not_false,and_self,and_true,true_and,and_false,false_and])))))|(refine uD rfl ?_;refine hK _ _ ?_;clear hK K)|(refine XQ.op rfl ?_;(first | ((first | refine Yo.ng rfl ?_);(first | (refine Yg.ev (uM rfl rfl) rfl rfl ?_)|(refine Yg.ev (uF rfl rfl (te rfl) rfl (te rfl) (by decide)) rfl rfl ?_)|(refine Yg.ev (uL rfl rfl (uO (te rfl) rfl (qT _ (qH _)) rfl)) rfl rfl ?_))))) | refine uS rfl ?_ | refine uR rfl (fun K hK=>?_) | refine X.regionD rfl mixed (by kernel_rfl) (fun K hK=>?_) | refine X.block rfl ?_ | (refine X.brk rfl ?_;repeat (first | refine blockX_hit rfl ?_ | refine blockX_miss (by decide) ?_)) | refine X.skip rfl ?_ | refine X.ret rfl ?_ | (refine X.ite rfl rfl (fun hc=>?_);(first | (with_reducible refine Xb.t hc ?_)|(with_reducible refine Xb.case hc (fun h=>?_) (fun h=>?_))|(with_reducible refine Xb.caseN hc (fun h=>?_) (fun h=>?_))) <;> clear hc))
 ·obtain ⟨b,off,e,rfl,he⟩:=hR.mats.elem (i:=k) (by omega)
  obtain ⟨b',off',f,rfl,hf⟩:=hS.mats.elem (i:=k) (by omega)
  rw [drop_cons he,drop_cons hf,List.cons.injEq] at hn
  repeat' (first | (refine uP rfl ?_;(first | ((first | refine uN rfl ?_);(first | (refine uE (uM rfl rfl) rfl rfl ?_)|(refine uE (uA rfl rfl) rfl rfl ?_)|(refine uE (EvF.add64 rfl rfl rfl (by omega) (by omega)) rfl rfl ?_)))))|(refine uD rfl ?_;refine hK _ _ ?_;clear hK K)|(refine XQ.op rfl ?_;(first | ((first | refine Yo.ng rfl ?_);(first | (refine Yg.ev (uL rfl rfl (LoadV.elA0 (hR2 _ _).mats he (te rfl) rfl (fun _ hm=>hm) rfl)) rfl rfl ?_)|(refine Yg.ev (uL rfl rfl (LoadV.elA0 (hS2 _ _).mats hf (te rfl) rfl (fun _ hm=>hm) rfl)) rfl rfl ?_)|(refine Yg.ev (EvF.eqSt rfl rfl rfl (by kernel_rfl) (fun w=>eqMt 9997 e f w) rfl) rfl rfl ?_)|(refine Yg.ev (uM rfl rfl) rfl rfl ?_)|(refine Yg.ev (uF rfl rfl (te rfl) rfl (te rfl) (by decide)) rfl rfl ?_)|(refine Yg.ev (uJ rfl rfl rfl (te rfl) (te rfl) (by omega) (by omega)) rfl rfl ?_)|(refine Yg.ev (uL rfl rfl (uO (te rfl) rfl (qH _) rfl)) rfl rfl ?_)))))|(refine XQ.done rfl ?_;refine hK _ ?_;clear hK K) | refine uS rfl ?_ | refine uR rfl (fun K hK=>?_) | refine X.skip rfl ?_ | refine X.ret rfl ?_ | (refine X.ite rfl rfl (fun hc=>?_);(first | (with_reducible refine Xb.caseN hc (fun h=>?_) (fun h=>?_))) <;> clear hc))
  ·refine ret_one (by simp) Try.results23 rfl (H' := H) (by (repeat (first | exact qR _ | apply qC));done) ?_;simp only [and_true,true_and]
   congr 1;symm;exact decide_eq_false (fun q=>by subst q;exact absurd (hn.1 rfl).1 (by assumption))
  ·refine ⟨_,_,_,(by repeat (first | exact uU _ | refine uV rfl ?_)),(by (repeat (first | exact qR _ | apply qC));done),⟨k + 1,rfl,by omega,hn.trans (and_iff_right (by assumption)),rfl,rfl⟩,by omega⟩
 have hC : R.mats = S.mats:=hn.2 (by rw [List.drop_eq_nil_of_le (by omega),List.drop_eq_nil_of_le (by omega)])
 refine ret_one (by simp) Try.results23 rfl (H' := H) (by (repeat (first | exact qR _ | apply qC));done) ?_;simp only [and_true,true_and]
 congr 1;symm;exact decide_eq_true (Rm.ext' em es hA hB hC)
theorem lenMt (l : List Mt) : (l.flatMap cMt).length = l.length * 6:=flat_len (fun _ _=>rfl)
end Go.Proofs.Ytmfppdpkalelhaa
namespace Go.Fw
open Go
def udF (ops : List Oper) (F : FS) (j : Nat) : Bool :=
 match opAt ops j with
 | some o=>match o.dst with
  | some d=>match lk F d with
   | some (.tuple _)=>true
   | _=>false
  | none=>false
 | none=>false
theorem udF_eq {n : Nat} {ops : Array Oper} {F : FS} {t : List Value} {j : Nat} (ha : Ag n F t) (h : udF ops.toList F j = true) : yielded ops t.toArray j = none:=by
 unfold udF at h
 unfold yielded
 cases ho : opAt ops.toList j with
 | none=>rw [ho] at h;cases h
 | some o =>
  rw [ho] at h
  simp only at h
  have:=opAt_arr ho
  rw [this]
  cases hd : o.dst with
  | none=>rw [hd] at h;cases h
  | some d =>
   rw [hd] at h
   simp only at h
   simp only [Option.bind_some,hd,List.getElem?_toArray]
   cases ht : lk F d with
   | none=>rw [ht] at h;cases h
   | some v=>rw [ha.2 d v ht];rw [ht] at h;cases v <;> simp_all
theorem ud_wanted {n : Nat} {ops : Array Oper} {F : FS} {t : List Value} {o : Oper} {j : Nat} {w : Bool} (hg : o.guard = some (j,w)) (ha : Ag n F t) (h : udF ops.toList F j = true) : Region.wanted o (yielded ops t.toArray)=false:=by
 unfold Region.wanted
 rw [hg]
 simp only [udF_eq ha h]
 rfl
section
variable {P : Program} {n : Nat} {ops : Array Oper} {i : Nat} {o : Oper} {F : FS} {H : List Row}
theorem Xo.sk {N : FS → List Row → Prop} {j d : Nat} {w : Bool} (hg : o.guard = some (j,w)) (hy : udF ops.toList F j = true) (hx : o.dst = some d) (hd : Nat.blt d n = true) (k : XO P n ops (i + 1) ((d,undef)::F) H N) : Xo P n ops i o F H N:=by
 unfold Xo XO
 unfold XO at k
 exact fun ho t ha=>WO.skip ho (ud_wanted hg ha hy) (k _ (hx ▸ ha.put (d:=some d) hd _))
end
end Go.Fw
namespace Go.Proofs.Ytmfppdpkalelhaa
open Go Go.Fw
set_option maxRecDepth 10000
theorem sleNil {α : Type} {H : List Row} {a : Option Addr} {enc : α → List Value} {sz : Nat} : SlE H a enc sz []:=by
 unfold SlE
 exact ⟨fun _ h=>absurd h List.not_mem_nil,fun h=>absurd h (Nat.lt_irrefl 0)⟩
/-- numbers that rise, from above a number -/
def rises : Int → List Int → Prop
 | _,[]=>True
 | p,n::t=>p < n∧rises n t
def lastOf : Int → List Int → Int
 | p,[]=>p
 | _,n::t=>lastOf n t
def risesOk (l : List Int) : Prop:=rises 0 l∧lastOf 0 l ≤ 9999
noncomputable instance (l : List Int) : Decidable (risesOk l):=Classical.propDecidable _
theorem anyPoints_spec (H : List Row) : Fc Try.prog 107 [] H (fun v H' => v = .agg (cSp ⟨0,60⟩).toArray∧H' = H):=by
 refine Fc.mk (callable Try.call107) Try.func107 rfl Try.ntmps107 rfl ?_;dsimp only [fr]
 repeat' (first | (refine uP rfl ?_;(first | ((first | refine uN rfl ?_);(first | (refine uE (EvF.build (cs:=cSp ⟨0,60⟩) rfl (ArgsP.cons rfl (ArgsP.cons rfl ArgsP.nil)) (te rfl) (Places.cons (te rfl) (Places.cons (te rfl) Places.nil)) Try.zeroValue35 rfl) rfl rfl ?_)|(refine Xg.st (StF.alloc rfl Try.zeroValue35 rfl) rfl rfl ?_;rintro _ _ ⟨bx,rfl,rfl⟩)|(refine Xg.st0 (uZ (i:=0) rfl rfl rfl (te rfl) rfl rfl rfl rfl) rfl ?_;rintro _ _ ⟨rfl,rfl⟩;dsimp only [List.set])))))|(refine uD rfl ?_;refine hK _ _ ?_;clear hK K) | refine uS rfl ?_ | refine uR rfl (fun K hK=>?_) | refine X.ret rfl ?_)
 exact ret_one (by simp) Try.results107 ⟨_,rfl,uW (te rfl) rfl (qH _) rfl⟩ (H' := H) (by repeat (first | exact qR _ | apply qK | apply qC)) ⟨rfl,rfl⟩
theorem rising_spec (l : List Int) (a : Option Addr) (c : Nat) (H : List Row) (hl : SlE H a cI 1 l) (hb : l.length ≤ 9223372036854775807) : Fc Try.prog 109 [.slice a l.length c] H (fun v H' => v = .bool (decide (risesOk l))∧H' = H):=by
 refine Fc.mk (callable Try.call109) Try.func109 rfl Try.ntmps109 rfl ?_;dsimp only [fr]
 repeat' (first | (refine uP rfl ?_;(first | ((first | refine uN rfl ?_);(first | (refine uE (uM rfl rfl) rfl rfl ?_)|(refine uE (uA rfl rfl) rfl rfl ?_)|(refine uE (uQ rfl rfl rfl rfl) rfl rfl ?_)|(refine uE (uY rfl rfl (te rfl)) rfl rfl ?_)))))|(refine uD rfl ?_;refine hK _ _ ?_;clear hK K) | refine uS rfl ?_ | refine uR rfl (fun K hK=>?_) | refine X.block rfl ?_ | (refine X.brk rfl ?_;repeat (first | refine blockX_hit rfl ?_ | refine blockX_miss (by decide) ?_)) | refine X.skip rfl ?_ | refine X.ret rfl ?_ | (refine X.ite rfl rfl (fun hc=>?_);(first | (with_reducible refine Xb.case hc (fun h=>?_) (fun h=>?_))) <;> clear hc))
 refine X.lp rfl (fun q F' H' => ∃ (k : Nat) (last : Int),q = l.length - k∧k ≤ l.length∧(risesOk l ↔ rises last (l.drop k)∧lastOf last (l.drop k)≤9999)∧H = H' ∧
   F' = [(3,.int .i64 last),(6,.slice a l.length c),(7,.int .i64 l.length),(8,.int .i64 k)])
  l.length [(3,.int .i64 0),(6,.slice a l.length c),(7,.int .i64 l.length),(8,.int .i64 (0 : Nat))] _ (by repeat (first | exact uU _ | refine uV rfl ?_)) (by repeat (first | exact qR _ | apply qK | apply qC)) ⟨0,0,by omega,by omega,by simp [risesOk],rfl,rfl⟩ ?_
 rintro _ _ _ ⟨k,last,rfl,hk,hn,rfl,rfl⟩
 repeat' (first | (refine uP rfl ?_;(first | ((first | refine uN rfl ?_);(first | (refine uE (uM rfl rfl) rfl rfl ?_)|(refine uE (uA rfl rfl) rfl rfl ?_)|(refine uE (uQ rfl rfl rfl rfl) rfl rfl ?_)|(refine uE (uY rfl rfl (te rfl)) rfl rfl ?_)))))|(refine uD rfl ?_;refine hK _ _ ?_;clear hK K) | refine uS rfl ?_ | refine uR rfl (fun K hK=>?_) | refine X.block rfl ?_ | (refine X.brk rfl ?_;repeat (first | refine blockX_hit rfl ?_ | refine blockX_miss (by decide) ?_)) | refine X.skip rfl ?_ | refine X.ret rfl ?_ | (refine X.ite rfl rfl (fun hc=>?_);(first | (with_reducible refine Xb.case hc (fun h=>?_) (fun h=>?_))) <;> clear hc))
 ·obtain ⟨b,off,e,rfl,he⟩:=hl.elem (i:=k) (by omega)
  rw [drop_cons he] at hn
  repeat' (first | (refine uP rfl ?_;(first | ((first | refine uN rfl ?_);(first | (refine uE (uL rfl rfl (LoadV.el0 hl he (te rfl) rfl (fun _ hm=>hm) rfl)) rfl rfl ?_)|(refine uE (uM rfl rfl) rfl rfl ?_)|(refine uE (uA rfl rfl) rfl rfl ?_)|(refine uE (uQ rfl rfl rfl rfl) rfl rfl ?_)|(refine uE (EvF.add64 rfl rfl rfl (by omega) (by omega)) rfl rfl ?_)|(refine uE (uJ rfl rfl rfl (te rfl) (te rfl) (by omega) (by omega)) rfl rfl ?_)))))|(refine uD rfl ?_;refine hK _ _ ?_;clear hK K) | refine uS rfl ?_ | refine uR rfl (fun K hK=>?_) | refine X.skip rfl ?_ | refine X.ret rfl ?_ | (refine X.ite rfl rfl (fun hc=>?_);(first | (with_reducible refine Xb.case hc (fun h=>?_) (fun h=>?_))) <;> clear hc))
  ·refine ret_one (by simp) Try.results109 rfl (H' := H) (by (repeat (first | exact qR _ | apply qC));done) ?_;simp only [and_true,true_and]
   congr 1;symm;exact decide_eq_false (fun q=>by have:=(hn.1 q).1.1;omega)
  ·refine ⟨_,_,_,(by repeat (first | exact uU _ | refine uV rfl ?_)),(by (repeat (first | exact qR _ | apply qC));done),⟨k + 1,e,rfl,by omega,hn.trans ⟨fun q=>⟨q.1.2,q.2⟩,fun q=>⟨⟨by omega,q.1⟩,q.2⟩⟩,rfl,rfl⟩,by omega⟩
 ·rw [List.drop_eq_nil_of_le (by omega)] at hn
  refine ret_one (by simp) Try.results109 rfl (H' := H) (by (repeat (first | exact qR _ | apply qC));done) ?_;simp only [and_true,true_and]
  congr 1;symm
  exact decide_eq_decide.2 ⟨fun q=>(hn.1 q).2,fun q=>hn.2 ⟨trivial,q⟩⟩
end Go.Proofs.Ytmfppdpkalelhaa
namespace Go.Fw
open Go Go.RowKit
def bv : Value → Option Bool
 | .bool b=>some b
 | _=>none
theorem yielded_bv {ops : Array Oper} {t : List Value} {j d : Nat} {o : Oper} {v : Value} (ho : ops[j]? = some o) (hd : o.dst = some d) (hv : t[d]? = some v) : yielded ops t.toArray j = bv v:=by
 unfold yielded
 simp only [ho,Option.bind_some,hd,List.getElem?_toArray,hv]
 cases v <;> rfl
def okOp2 (ts : List TOp) (dom : List Nat) (n m : Nat) (i : Nat) (o : Oper) : Bool :=
 let T:=tAt ts i
 (match o.guard with | some (j,_)=>T.sup.contains j | none=>true) && (o.dst == T.dst) &&
 (match T.dst with | some d=>decide (d < n) && !dom.contains d && (List.range i).all (fun j=>(tAt ts j).dst != some d) | none=>true) &&
 o.after.toList.all (fun e => !Region.binds .any e || decide (e.on < i)) &&
 T.sup.all (fun j=>decide (j < i) && o.after.toList.any (fun e=>Region.binds .any e && (e.on == j || (tAt ts e.on).sup.contains j))) &&
 T.deps.all (fun j=>T.sup.contains j) && T.kills.all (fun k=>T.sup.contains k || decide (m ≤ k∧k < ts.length))
def okReg2 (ops : Array Oper) (ts : List TOp) (dom : List Nat) (n : Nat) : Bool :=
 decide (ops.size ≤ ts.length) && ops.toList.zipIdx.all (fun p=>okOp2 ts dom n ops.size p.2 p.1) && decide ((ts.flatMap (·.kills)).Nodup) && (ts.drop ops.size).all (fun T=>T.kills.isEmpty && T.sup.isEmpty)
/-- An operation, whatever it does: a value, a turn of the rows, or a call. -/
def OpF (P : Program) (n : Nat) (H : List Row) (F : FS) (o : Oper) (K : Value → List Row → Prop) : Prop := ∀ t,Ag n F t → ∀ ρ ds B w0 w,St B w0 H w → ∀ (k : Act → World → Prop) (Q : Exit → Act → World → Prop),
 (∀ v w' H',St B w0 H' w' → K v H' → k ⟨(put t o.dst v).toArray,ds⟩ w') → o.wpIn (wf ρ) 0 P ⟨t.toArray,ds⟩ w k Q
theorem StF.op {P : Program} {n : Nat} {H : List Row} {F : FS} {o : Oper} {K : Value → List Row → Prop} (h : StF P n H F o K) : OpF P n H F o K:=by
 intro t ha ρ ds B w0 w hS k Q hk
 unfold StF StepOp at h
 obtain ⟨v,w',H',hrun,hS',hK⟩:=h t ha B w0 w hS
 unfold Oper.wpIn
 refine ⟨fun _ _=>trivial,?_⟩
 rw [eval_ev]
 rcases hrun with hrun | ⟨hrun,rfl⟩
 ·rw [sem_value hrun,Oper.uponIn_value,put_act];exact hk v w' H' hS' hK
 ·rw [sem_skip hrun,Oper.uponIn_skip,put_act];exact hk undef w' H' hS' hK
theorem OpF.call {P : Program} {n : Nat} {H : List Row} {F : FS} {o : Oper} {f : FuncId} {args : List Value} {R : Value → List Row → Prop} (he : Callable P f → EnF P n H F o f args) (hf : Fc P f args H R) : OpF P n H F o R:=by
 intro t ha ρ ds B w0 w hS k Q hk
 unfold Fc at hf
 have h1:=he hf.1
 unfold EnF EnOp at h1
 unfold Oper.wpIn
 refine ⟨fun _ _=>trivial,?_⟩
 rw [eval_ev,sem_enter (h1 t ha B w0 w hS),Oper.uponIn_enter]
 refine ⟨(fun h=>by cases h),wf_calls.2 ((hf.2 B w0 w hS).mono ?_)⟩
 rintro e w' ⟨v,H',rfl,hR,hS'⟩
 simp only [put_act]
 exact hk v w' H' hS' hR
theorem OpF.mono {P : Program} {n : Nat} {H : List Row} {F : FS} {o : Oper} {K K' : Value → List Row → Prop} (h : OpF P n H F o K) (hk : ∀ v H',K v H' → K' v H') : OpF P n H F o K' :=
 fun t ha ρ ds B w0 w hS k Q hQ=>h t ha ρ ds B w0 w hS k Q (fun v w' H' hS' hK=>hQ v w' H' hS' (hk v H' hK))
theorem OpF.drop {P : Program} {n : Nat} {H : List Row} {F : FS} {o : Oper} {K K' : Value → List Row → Prop} (h : OpF P n H F o K) (hk : ∀ v H',K v H' → ∃ H'',H''.Sublist H'∧K' v H'') : OpF P n H F o K' :=
 fun t ha ρ ds B w0 w hS k Q hQ=>h t ha ρ ds B w0 w hS k Q (fun v w' H' hS' hK=>let ⟨H'',hs,hK'⟩:=hk v H' hK;hQ v w' H'' (hS'.sub hs) hK')
/-- a call whose result alone is kept -/
theorem OpF.callV {P : Program} {n : Nat} {Z R : List Row} {F : FS} {o : Oper} {f : FuncId} {args : List Value} {v0 : Value} {g : Nat × Nat → Value} {q : Prop} {rw' : Nat × Nat → List Row} (he : Callable P f → EnF P n (Z++R) F o f args) (hf : Fc P f args (Z++R) (fun v H' => v = v0∧H' = Z++R)) (hv : v0 = g (0,0)) (hr : rw' (0,0) = []) :
  OpF P n (Z++R) F o (fun u H' => ∃ p,(q → u = g p)∧H'.Perm (rw' p++R)) :=
 (OpF.call he hf).drop fun v H' ⟨h1,h2⟩=>⟨R,by rw [h2];exact List.sublist_append_right _ _,(0,0),fun _=>h1.trans hv,by rw [hr];exact List.Perm.refl _⟩
def gt (g : Bool) (v : Value) : Value:=match g with | true=>undef | false=>v
def gr (g : Bool) (l : List Row) : List Row:=match g with | true=>[] | false=>l
def Ob (P : Program) (n : Nat) (ts : List TOp) (val : Nat → Env → Value) (rows : Nat → Env → List Row) (F0 : FS) (R0 : List Row) (i : Nat) (o : Oper) : Prop :=
 ((o.guard = none ∨ ∃ j w,o.guard = some (j,w)∧(tAt ts j).dst ≠ none ∧ ∀ env,bv (val j env)=some w) ∧
  ∀ env R,(∀ r ∈ R0,r ∈ R) → OpF P n ((tAt ts i).kills.flatMap (fun k=>rows k env)++R) (fdeps ts val env F0 (tAt ts i).deps) o
   (fun v H' => ∃ p,((tAt ts i).dst ≠ none → v = val i (upd env i p))∧H'.Perm (rows i (upd env i p)++R))) ∨
 (∃ j w,o.guard = some (j,w)∧(tAt ts j).dst ≠ none∧(∀ env,bv (val j env) ≠ some w)∧(∀ env,(tAt ts i).kills.flatMap (fun k=>rows k env) = [])∧(∀ env,val i env = undef) ∧ ∀ env,rows i env = [])
def ObR (P : Program) (n : Nat) (ts : List TOp) (rd : Nat → List Nat) (val : Nat → Env → Value) (rows : Nat → Env → List Row) (F0 : FS) (R0 : List Row) (i : Nat) (o : Oper) : Prop :=
 ((o.guard = none ∨ ∃ j w,o.guard = some (j,w)∧(tAt ts j).dst ≠ none ∧ ∀ env,bv (val j env)=some w) ∧
  ∀ env R,(∀ r ∈ R0,r ∈ R) → (∀ k ∈ rd i,∀ r ∈ rows k env,r ∈ R) → OpF P n ((tAt ts i).kills.flatMap (fun k=>rows k env)++R) (fdeps ts val env F0 (tAt ts i).deps) o
   (fun v H' => ∃ p,((tAt ts i).dst ≠ none → v = val i (upd env i p))∧H'.Perm (rows i (upd env i p)++R))) ∨
 (∃ j w,o.guard = some (j,w)∧(tAt ts j).dst ≠ none∧(∀ env,bv (val j env) ≠ some w)∧(∀ env,(tAt ts i).kills.flatMap (fun k=>rows k env) = [])∧(∀ env,val i env = undef) ∧ ∀ env,rows i env = [])
theorem Ob.toR {P : Program} {n : Nat} {ts : List TOp} {rd : Nat → List Nat} {val : Nat → Env → Value} {rows : Nat → Env → List Row} {F0 : FS} {R0 : List Row} {i : Nat} {o : Oper} (h : Ob P n ts val rows F0 R0 i o) : ObR P n ts rd val rows F0 R0 i o:=by
 rcases h with ⟨h1,h2⟩ | h
 ·exact .inl ⟨h1,fun env R hR _=>h2 env R hR⟩
 ·exact .inr h
/-- what operations read, though others take it away: these come after -/
def okRd (ts : List TOp) (rd : Nat → List Nat) (m : Nat) : Bool :=
 (List.range m).all fun i=>(rd i).all fun k=>((tAt ts i).sup.contains k || decide (m ≤ k∧k < ts.length)) && !(tAt ts i).kills.contains k && (List.range m).all fun j => !(tAt ts j).kills.contains k || (tAt ts j).sup.contains i
theorem wpAny_ob {P : Program} {n : Nat} {ops : Array Oper} {ts : List TOp} {dom : List Nat} {F0 : FS} (hd : F0.map (·.1)=dom) (hok : okReg2 ops ts dom n = true) (rd : Nat → List Nat) (hrd : okRd ts rd ops.size = true) (val : Nat → Env → Value) (rows : Nat → Env → List Row)
  (hloc : ∀ k env i p,i ≠ k → (tAt ts k).sup.contains i = false → val k (upd env i p)=val k env∧rows k (upd env i p)=rows k env)
  (R0 : List Row) (hob : ∀ i o,opAt ops.toList i = some o → ObR P n ts rd val rows F0 R0 i o)
  {Q : QT} (hQ : ∀ env t,Ag n F0 t → (∀ i d,i < ops.size → (tAt ts i).dst = some d → t[d]? = some (val i env)) → Q .normal t ((alive ts).flatMap (fun k=>rows k env)++R0))
  {ρ : Option Nat} {ds : List Deferred} {B : Nat} {w0 : World} :
  ∀ (fuel : Nat) (listed : Array Bool) (U A : List Nat) (t : List Value) (H : List Row) (w : World) (env : Env),listed.size = ops.size → U.length = fuel → U.Nodup → (∀ k,k ∈ U ↔ k < ops.size∧listed.getD k true = false) →
   (∀ k,k < ops.size → listed.getD k true = true → ∀ j,(tAt ts k).sup.contains j = true → listed.getD j true = true) →
   A.Nodup → (∀ k,k ∈ A ↔ k < ts.length∧listed.getD k true = true ∧ ∀ j,j < ops.size → listed.getD j true = true → k ∉ (tAt ts j).kills) →
   Ag n F0 t → (∀ k d,k < ops.size → listed.getD k true = true → (tAt ts k).dst = some d → t[d]? = some (val k env)) →
   St B w0 H w → H.Perm (R0++A.flatMap (fun k=>rows k env)) → wpAnyIn (wf ρ) 0 P .any ops (lift ds B w0 Q) fuel listed ⟨t.toArray,ds⟩ w:=by
 unfold okReg2 at hok
 simp only [Bool.and_eq_true,decide_eq_true_eq] at hok
 obtain ⟨⟨⟨hlen,hops⟩,hkn⟩,hps⟩:=hok
 have hopAt : ∀ i o,ops[i]? = some o → okOp2 ts dom n ops.size i o = true:=by
  intro i o hi
  have:=List.all_eq_true.1 hops (o,i) (by
   rw [List.mem_zipIdx_iff_getElem?];simpa using hi)
  exact this
 intro fuel
 induction fuel with
 | zero =>
  intro listed U A t H w env hls hUl hUn hU hcl hAn hA hag hv hS hH
  have hU0 : U = []:=List.eq_nil_of_length_eq_zero hUl
  subst hU0
  have hall : ∀ k,listed.getD k true = true:=by
   intro k
   cases hk : listed.getD k true with
   | true=>rfl
   | false =>
    by_cases h1 : k < ops.size
    ·exact absurd ((hU k).2 ⟨h1,hk⟩) (by simp)
    ·rw [Array.getD_eq_getD_getElem?,Array.getElem?_eq_none (by omega)] at hk;cases hk
  refine ⟨?_,rfl,_,?_,hS.perm (H' := (alive ts).flatMap (fun k=>rows k env)++R0) ?_⟩
  ·unfold Region.ready
   rw [List.filter_eq_nil_iff]
   intro k _
   rw [hall];simp
  ·have:=hQ env t hag (fun i d hi hd=>hv i d hi (hall i) hd)
   simpa using this
  ·refine List.perm_append_comm.trans ((List.Perm.append_left R0 (List.Perm.flatMap_right _ ?_)).trans hH.symm)
   refine perm_of_mem ((List.nodup_range).sublist List.filter_sublist) hAn fun k=>?_
   rw [hA,alive,List.mem_filter,List.mem_range]
   simp only [hall,true_and,Bool.not_eq_true',List.contains_eq_mem,decide_eq_false_iff_not,true_implies]
   refine and_congr_right fun _=>⟨fun h j _ hj=>h (tAt_mem hj),fun h hm=>?_⟩
   obtain ⟨T,hT,hk⟩:=List.mem_flatMap.1 hm
   obtain ⟨j,hj,rfl⟩:=List.mem_iff_getElem.1 hT
   by_cases hj' : j < ops.size
   ·exact h j hj' (by unfold tAt;simp [List.getD,hj,hk])
   ·have:=List.all_eq_true.1 hps ts[j] (by
     rw [List.mem_iff_getElem?]
     exact ⟨j - ops.size,by rw [List.getElem?_drop,show ops.size + (j - ops.size)=j by omega,List.getElem?_eq_getElem hj]⟩)
    simp only [Bool.and_eq_true,List.isEmpty_iff] at this
    rw [this.1] at hk;cases hk
 | succ fuel ih =>
  intro listed U A t H w env hls hUl hUn hU hcl hAn hA hag hv hS hH
  have hge : ∀ k,ops.size ≤ k → listed.getD k true = true:=fun k hk=>by rw [Array.getD_eq_getD_getElem?,Array.getElem?_eq_none (by omega)];rfl
  have hgd : ∀ k,k < ops.size → listed.getD k false = listed.getD k true:=fun k hk=>by
   rw [Array.getD_eq_getD_getElem?,Array.getD_eq_getD_getElem?,Array.getElem?_eq_getElem (by omega)];rfl
  refine ⟨fun h0=>?_,fun i hi=>?_⟩
  ·exfalso
   have key : ∀ m,m ∈ U → False:=by
    intro m
    induction m using Nat.strongRecOn with
    | _ m ihm =>
     intro hm
     obtain ⟨hms,hml⟩:=(hU m).1 hm
     obtain ⟨o,ho⟩ : ∃ o,ops[m]? = some o:=⟨ops[m],Array.getElem?_eq_getElem hms⟩
     have hc:=hopAt m o ho
     unfold okOp2 at hc
     simp only [Bool.and_eq_true] at hc
     obtain ⟨⟨⟨⟨_,haf⟩,_⟩,_⟩,_⟩:=hc
     by_cases hal : o.after.all (fun e => !Region.binds .any e || listed.getD e.on false)=true
     ·have : m ∈ Region.ready .any ops listed:=by
       unfold Region.ready
       rw [List.mem_filter]
       refine ⟨List.mem_range.2 hms,?_⟩
       rw [hml,ho]
       simp only [Option.map_some,Option.getD_some,Bool.not_false,Bool.true_and]
       exact hal
      rw [h0] at this;cases this
     ·have : ∃ e ∈ o.after, ¬ ((!Region.binds .any e || listed.getD e.on false)=true):=by
       rw [Array.all_eq_true_iff_forall_mem] at hal
       simpa using hal
      obtain ⟨e,he,hne⟩:=this
      have h1:=List.all_eq_true.1 haf e (Array.mem_toList_iff.2 he)
      simp only [Bool.or_eq_true,Bool.not_eq_true',not_or,Bool.not_eq_false,Bool.not_eq_true] at hne h1
      have h2 : e.on < m:=by
       rcases h1 with h1 | h1
       ·rw [hne.1] at h1;cases h1
       ·simpa using h1
      refine ihm e.on h2 ((hU e.on).2 ⟨by omega,?_⟩)
      rw [← hgd e.on (by omega)];exact hne.2
   cases U with
   | nil=>simp at hUl
   | cons u U=>exact key u (List.mem_cons_self ..)
  ·unfold Region.ready at hi
   rw [List.mem_filter,List.mem_range] at hi
   obtain ⟨his,hi2⟩:=hi
   obtain ⟨o,ho⟩ : ∃ o,ops[i]? = some o:=⟨ops[i],Array.getElem?_eq_getElem his⟩
   simp only [ho,Option.map_some,Option.getD_some,Bool.and_eq_true,Bool.not_eq_true'] at hi2
   obtain ⟨hil,hia⟩:=hi2
   have hc:=hopAt i o ho
   unfold okOp2 at hc
   simp only [Bool.and_eq_true] at hc
   obtain ⟨⟨⟨⟨⟨⟨hgu,hdst⟩,hds⟩,haf⟩,hsup⟩,hdeps⟩,hkil⟩:=hc
   have hdst' : o.dst = (tAt ts i).dst:=by simpa using hdst
   rw [Array.all_eq_true_iff_forall_mem] at hia
   have hson : ∀ j,(tAt ts i).sup.contains j = true → j < i∧listed.getD j true = true:=by
    intro j hj
    have h1:=List.all_eq_true.1 hsup j (by simpa using hj)
    simp only [Bool.and_eq_true,decide_eq_true_eq,List.any_eq_true] at h1
    obtain ⟨hji,e,he',hb,h2⟩:=h1
    have he:=Array.mem_toList_iff.1 he'
    refine ⟨hji,?_⟩
    have h3:=hia e he
    rw [hb] at h3
    have h4:=List.all_eq_true.1 haf e he'
    rw [hb] at h4
    simp only [Bool.not_true,Bool.false_or,decide_eq_true_eq] at h3 h4
    rw [hgd e.on (by omega)] at h3
    simp only [Bool.or_eq_true,beq_iff_eq] at h2
    rcases h2 with h2 | h2
    ·rw [← h2];exact h3
    ·exact hcl e.on (by omega) h3 j h2
   have hks : ∀ k ∈ (tAt ts i).kills,k ∈ A:=by
    intro k hk
    rw [hA]
    have h1:=List.all_eq_true.1 hkil k hk
    simp only [Bool.or_eq_true,decide_eq_true_eq] at h1
    refine ⟨?_,?_,fun j hj hjl hkj=>?_⟩
    ·rcases h1 with h1 | h1
     ·have:=(hson k h1).1;omega
     ·omega
    ·rcases h1 with h1 | h1
     ·exact (hson k h1).2
     ·exact hge k h1.1
    ·have:=kills_once hkn hk hkj
     subst this
     rw [hil] at hjl;cases hjl
   have hkin : (tAt ts i).kills.Nodup:=by
    unfold tAt List.getD
    cases hti : ts[i]? with
    | none=>simp
    | some T =>
     simp only [Option.getD_some]
     exact kills_nodup hkn (List.mem_of_getElem? hti)
   obtain ⟨A',hp,hA'n,hA'm⟩:=take_out _ A hkin hAn hks
   have hH1 : ((tAt ts i).kills.flatMap (fun k=>rows k env)++(R0++A'.flatMap (fun k=>rows k env))).Perm H:=by
    refine List.Perm.trans ?_ hH.symm
    refine List.Perm.trans ?_ (List.Perm.append_left R0 (List.Perm.flatMap_right _ hp.symm))
    rw [List.flatMap_append, ← List.append_assoc, ← List.append_assoc]
    exact List.Perm.append_right _ List.perm_append_comm
   have hdp : ∀ k ∈ (tAt ts i).deps,∀ d,(tAt ts k).dst = some d → t[d]? = some (val k env):=by
    intro k hk d hd
    have h1:=List.all_eq_true.1 hdeps k hk
    obtain ⟨h2,h3⟩:=hson k h1
    exact hv k d (by omega) h3 hd
   have hst:=hob i o (by rw [opAt_eq];simpa using ho)
   have hreads : ∀ k ∈ rd i,∀ r ∈ rows k env,r ∈ R0++A'.flatMap (fun k=>rows k env):=by
    intro k hk r hr
    refine List.mem_append_right _ (List.mem_flatMap.2 ⟨k,?_,hr⟩)
    have h1:=List.all_eq_true.1 (List.all_eq_true.1 hrd i (List.mem_range.2 his)) k hk
    simp only [Bool.and_eq_true,Bool.or_eq_true,decide_eq_true_eq,Bool.not_eq_true'] at h1
    obtain ⟨⟨h1,h2⟩,h3⟩:=h1
    rw [hA'm,hA]
    refine ⟨⟨?_,?_,fun j hj hjl hkj=>?_⟩,by simpa using h2⟩
    ·rcases h1 with h1 | h1
     ·have:=(hson k h1).1;omega
     ·omega
    ·rcases h1 with h1 | h1
     ·exact (hson k h1).2
     ·exact hge k h1.1
    ·have h4:=List.all_eq_true.1 h3 j (List.mem_range.2 hj)
     simp only [Bool.or_eq_true,Bool.not_eq_true'] at h4
     rcases h4 with h4 | h4
     ·rw [List.contains_iff_mem.2 hkj] at h4;cases h4
     ·have:=hcl j hj hjl i h4
      rw [hil] at this;cases this
   have hyv : ∀ j ww,o.guard = some (j,ww) → (tAt ts j).dst ≠ none → yielded ops t.toArray j = bv (val j env):=by
    intro j ww hg hj
    rw [hg] at hgu
    obtain ⟨h1,h2⟩:=hson j hgu
    obtain ⟨d,hd'⟩:=Option.ne_none_iff_exists'.1 hj
    have hoj : ops[j]? = some ops[j]:=Array.getElem?_eq_getElem (by omega)
    have hcj:=hopAt j _ hoj
    unfold okOp2 at hcj
    simp only [Bool.and_eq_true] at hcj
    have hdj : (ops[j]).dst = (tAt ts j).dst:=by simpa using hcj.1.1.1.1.1.2
    exact yielded_bv hoj (by rw [hdj,hd']) (hv j d (by omega) h2 hd')
   have hnext : ∀ (v : Value) (w' : World) (H' : List Row),St B w0 H' w' → (∃ p,((tAt ts i).dst ≠ none → v = val i (upd env i p))∧H'.Perm (rows i (upd env i p)++(R0++A'.flatMap (fun k=>rows k env)))) → wpAnyIn (wf ρ) 0 P .any ops (lift ds B w0 Q) fuel (listed.setIfInBounds i true) ⟨(put t o.dst v).toArray,ds⟩ w' := by
    rintro v w' H' hS' ⟨p,hval,hH'⟩
    have hl' : ∀ k,(listed.setIfInBounds i true).getD k true = if k = i then true else listed.getD k true:=by
     intro k
     rw [Array.getD_eq_getD_getElem?,Array.getD_eq_getD_getElem?,Array.getElem?_setIfInBounds]
     by_cases hki : k = i
     ·subst hki;simp;split <;> rfl
     ·rw [if_neg (fun e=>hki e.symm),if_neg hki]
    have hnot : ∀ k,listed.getD k true = true → (tAt ts k).sup.contains i = false:=by
     intro k hk
     by_cases hks' : k < ops.size
     ·cases hcs : (tAt ts k).sup.contains i with
      | false=>rfl
      | true=>have:=hcl k hks' hk i hcs;rw [hil] at this;cases this
     ·by_cases hkt : k < ts.length
      ·have:=List.all_eq_true.1 hps ts[k] (by
        rw [List.mem_iff_getElem?]
        exact ⟨k - ops.size,by rw [List.getElem?_drop,show ops.size + (k - ops.size)=k by omega,List.getElem?_eq_getElem hkt]⟩)
       simp only [Bool.and_eq_true,List.isEmpty_iff] at this
       have e : tAt ts k = ts[k]:=by unfold tAt;simp [List.getD,hkt]
       rw [e,this.2];rfl
      ·have e : tAt ts k = ⟨none,[],[],[]⟩:=by unfold tAt;simp [List.getD,List.getElem?_eq_none (by omega : ts.length ≤ k)]
       rw [e];rfl
    have hiA : i ∉ A:=fun h=>by have:=((hA i).1 h).2.1;rw [hil] at this;cases this
    refine ih (listed.setIfInBounds i true) (U.erase i) (i::A') (put t o.dst v) H' w' (upd env i p) (by simpa using hls) ?_ (hUn.sublist List.erase_sublist) ?_ ?_ ?_ ?_ ?_ ?_ hS' ?_
    ·rw [List.length_erase_of_mem ((hU i).2 ⟨his,hil⟩)];omega
    ·intro k
     rw [hUn.mem_erase_iff,hU,hl']
     by_cases hki : k = i
     ·simp [hki]
     ·simp [hki]
    ·intro k hk hkl j hj
     rw [hl'] at hkl ⊢
     split
     ·rfl
     ·by_cases hki : k = i
      ·subst hki;exact (hson j hj).2
      ·rw [if_neg hki] at hkl;exact hcl k hk hkl j hj
    ·exact List.nodup_cons.2 ⟨fun h=>hiA ((hA'm i).1 h).1,hA'n⟩
    ·intro k
     rw [List.mem_cons,hA'm,hA,hl']
     by_cases hki : k = i
     ·subst hki
      simp only [true_or,if_true,true_and,true_iff]
      refine ⟨by omega,fun j hj hjl hkj=>?_⟩
      have h1 : ops[j]? = some ops[j]:=Array.getElem?_eq_getElem hj
      have hcj:=hopAt j _ h1
      unfold okOp2 at hcj
      simp only [Bool.and_eq_true] at hcj
      have h2:=List.all_eq_true.1 hcj.2 k hkj
      simp only [Bool.or_eq_true,decide_eq_true_eq] at h2
      rw [hl'] at hjl
      rcases h2 with h2 | h2
      ·by_cases hjk : j = k
       ·subst hjk;have:=(hson j h2).1;omega
       ·rw [if_neg hjk] at hjl
        have:=hcl j hj hjl k h2
        rw [hil] at this;cases this
      ·omega
     ·simp only [hki,false_or,if_false]
      constructor
      ·rintro ⟨⟨h1,h2,h3⟩,h4⟩
       refine ⟨h1,h2,fun j hj hjl=>?_⟩
       rw [hl'] at hjl
       by_cases hji : j = i
       ·subst hji;exact h4
       ·rw [if_neg hji] at hjl;exact h3 j hj hjl
      ·rintro ⟨h1,h2,h3⟩
       exact ⟨⟨h1,h2,fun j hj hjl=>h3 j hj (by rw [hl'];split;rfl;exact hjl)⟩,h3 i his (by rw [hl',if_pos rfl])⟩
    ·cases hdd : o.dst with
     | none=>exact hag
     | some d =>
      rw [hdst'] at hdd
      rw [hdd] at hds
      simp only [Bool.and_eq_true,decide_eq_true_eq,Bool.not_eq_true'] at hds
      refine ⟨by simpa [put] using hag.1,fun s u hs=>?_⟩
      have h1:=hag.2 s u hs
      simp only [put,List.getElem?_set]
      rw [if_neg]
      ·exact h1
      ·rintro rfl
       have : d ∈ dom:=by
        rw [← hd]
        exact lk_mem hs
       have h2:=hds.1.2
       simp [this] at h2
    ·intro k d hk hkl hkd
     rw [hl'] at hkl
     by_cases hki : k = i
     ·subst hki
      rw [hdst',hkd]
      rw [hkd] at hds
      simp only [Bool.and_eq_true,decide_eq_true_eq] at hds
      simp only [put,List.getElem?_set,if_true]
      rw [if_pos (by rw [hag.1];exact hds.1.1),hval (by rw [hkd];simp)]
     ·rw [if_neg hki] at hkl
      rw [(hloc k env i p (fun e=>hki e.symm) (hnot k hkl)).1]
      have h1:=hv k d hk hkl hkd
      cases hdd : o.dst with
      | none=>exact h1
      | some d' =>
       simp only [put,List.getElem?_set]
       rw [if_neg]
       ·exact h1
       ·rintro rfl
        rw [hdst'] at hdd
        rcases Nat.lt_or_gt_of_ne hki with hlt | hlt
        ·rw [hdd] at hds
         simp only [Bool.and_eq_true] at hds
         have:=List.all_eq_true.1 hds.2 k (List.mem_range.2 hlt)
         simp [hkd] at this
        ·have hck:=hopAt k _ (Array.getElem?_eq_getElem hk)
         unfold okOp2 at hck
         simp only [Bool.and_eq_true] at hck
         have hdk:=hck.1.1.1.1.2
         rw [hkd] at hdk
         simp only [Bool.and_eq_true] at hdk
         have:=List.all_eq_true.1 hdk.2 i (List.mem_range.2 hlt)
         simp [hdd] at this
    ·refine hH'.trans ?_
     have e : A'.flatMap (fun k=>rows k (upd env i p)) = A'.flatMap (fun k=>rows k env):=by
      have : ∀ k ∈ A',rows k (upd env i p)=rows k env:=fun k hk=>by
       have h1:=(hA'm k).1 hk
       have h2:=((hA k).1 h1.1).2.1
       exact (hloc k env i p (fun e=>hiA (e ▸ h1.1)) (hnot k h2)).2
      exact flatMap_congr' this
     rw [List.flatMap_cons,e, ← List.append_assoc, ← List.append_assoc]
     exact List.Perm.append_right _ List.perm_append_comm
   unfold wpOpIn
   simp only [ho]
   rcases hst with ⟨hgr,hst⟩ | ⟨j,ww,hg,hj,hbv,hki,hvi,hri⟩
   ·have hwant : Region.wanted o (yielded ops t.toArray)=true:=by
     unfold Region.wanted
     rcases hgr with hgr | ⟨j,ww,hg,hj,hb⟩
     ·rw [hgr]
     ·rw [hg];simp only [hyv j ww hg hj,hb];simp
    simp only [hwant,if_true]
    exact hst env (R0++A'.flatMap (fun k=>rows k env)) (fun r hr=>List.mem_append_left _ hr) hreads t (ag_fdeps hag _ hdp) ρ ds B w0 w (hS.perm hH1) _ _ hnext
   ·have hwant : Region.wanted o (yielded ops t.toArray)=false:=by
     unfold Region.wanted
     rw [hg];simp only [hyv j ww hg hj]
     simpa using hbv env
    simp only [hwant,Bool.false_eq_true,if_false]
    rw [put_act]
    refine ⟨fun _ _=>trivial,hnext undef w _ hS ⟨(0,0),fun _=>(hvi _).symm,?_⟩⟩
    --,fun _=>(hvi _).symm,?_⟩
    rw [hri,List.nil_append]
    rw [hki] at hH1
    simpa using hH1.symm
theorem X.regionRd {P : Program} {n : Nat} {c : Code} {F : FS} {H : List Row} {Q : QX} (ts : List TOp) (rd : Nat → List Nat) (dom : List Nat) (F0 : FS) (val : Nat → Env → Value) (rows : Nat → Env → List Row) (env0 : Env) (R0 : List Row)
  (h : c = .region (cid c) (cops c) true) (hm : P.follows .mixedOrders = true) (hsub : Sub F0 F) (hd : F0.map (·.1)=dom) (hok : okReg2 (cops c) ts dom n = true) (hrd : okRd ts rd (cops c).size = true)
  (hloc : ∀ k env i p,i ≠ k → (tAt ts k).sup.contains i = false → val k (upd env i p)=val k env∧rows k (upd env i p)=rows k env)
  (hH : (((List.range ts.length).drop (cops c).size).flatMap (fun k=>rows k env0)++R0).Sublist H)
  (hob' : AllF (cops c).toList 0 fun i o=>ObR P n ts rd val rows F0 R0 i o)
  (hQ : ∀ env t,Ag n F0 t → (∀ i d,i < (cops c).size → (tAt ts i).dst = some d → t[d]? = some (val i env)) → exQ n Q .normal t ((alive ts).flatMap (fun k=>rows k env)++R0)) : X P n c F H Q:=by
 have hob:=fun i o ho=>hob' i o (Nat.zero_le i) ho
 unfold X W
 intro t ha ρ ds B w0 w hS
 rw [h]
 refine wpIn_region_any hm ?_
 have hlen : (cops c).size ≤ ts.length:=by
  have:=hok
  unfold okReg2 at this
  simp only [Bool.and_eq_true,decide_eq_true_eq] at this
  exact this.1.1.1
 have hl : ∀ k d,(Array.replicate (cops c).size false).getD k d = if k < (cops c).size then false else d:=by
  intro k d
  rw [Array.getD_eq_getD_getElem?,Array.getElem?_replicate]
  split <;> rfl
 have hdm : ∀ k,k ∈ (List.range ts.length).drop (cops c).size ↔ (cops c).size ≤ k∧k < ts.length:=by
  intro k
  rw [List.mem_iff_getElem?]
  constructor
  ·rintro ⟨j,hj⟩
   rw [List.getElem?_drop] at hj
   have:=List.getElem?_eq_some_iff.1 hj
   obtain ⟨h1,h2⟩:=this
   simp at h1 h2
   omega
  ·rintro ⟨h1,h2⟩
   exact ⟨k - (cops c).size,by rw [List.getElem?_drop,show (cops c).size + (k - (cops c).size)=k by omega,List.getElem?_range h2]⟩
 refine wpAny_ob hd hok rd hrd val rows hloc R0 hob hQ (cops c).size _ (List.range (cops c).size) ((List.range ts.length).drop (cops c).size) t _ _ env0 (by simp) (by simp) List.nodup_range ?_ ?_ ((List.nodup_range).sublist (List.drop_sublist _ _)) ?_ (ha.sub hsub) ?_ ((hS.drewN 1).sub hH) List.perm_append_comm
 ·intro k
  rw [List.mem_range,hl]
  by_cases hk : k < (cops c).size <;> simp [hk]
 ·intro k hk hkl
  rw [hl,if_pos hk] at hkl
  cases hkl
 ·intro k
  rw [hdm,hl]
  constructor
  ·rintro ⟨h1,h2⟩
   refine ⟨h2,by rw [if_neg (by omega)],fun j hj hjl=>?_⟩
   rw [hl,if_pos hj] at hjl
   cases hjl
  ·rintro ⟨h1,h2,_⟩
   refine ⟨?_,h1⟩
   by_cases hk : k < (cops c).size
   ·rw [if_pos hk] at h2;cases h2
   ·omega
 ·intro k d hk hkl
  rw [hl,if_pos hk] at hkl
  cases hkl
theorem X.regionOb {P : Program} {n : Nat} {c : Code} {F : FS} {H : List Row} {Q : QX} (ts : List TOp) (dom : List Nat) (F0 : FS) (val : Nat → Env → Value) (rows : Nat → Env → List Row) (env0 : Env) (R0 : List Row)
  (h : c = .region (cid c) (cops c) true) (hm : P.follows .mixedOrders = true) (hsub : Sub F0 F) (hd : F0.map (·.1)=dom) (hok : okReg2 (cops c) ts dom n = true)
  (hloc : ∀ k env i p,i ≠ k → (tAt ts k).sup.contains i = false → val k (upd env i p)=val k env∧rows k (upd env i p)=rows k env)
  (hH : (((List.range ts.length).drop (cops c).size).flatMap (fun k=>rows k env0)++R0).Sublist H)
  (hob' : AllF (cops c).toList 0 fun i o=>Ob P n ts val rows F0 R0 i o)
  (hQ : ∀ env t,Ag n F0 t → (∀ i d,i < (cops c).size → (tAt ts i).dst = some d → t[d]? = some (val i env)) → exQ n Q .normal t ((alive ts).flatMap (fun k=>rows k env)++R0)) : X P n c F H Q:=by
 refine X.regionRd ts (fun _=>[]) dom F0 val rows env0 R0 h hm hsub hd hok (by unfold okRd;simp) hloc hH (fun j o hj ho=>(hob' j o hj ho).toR) hQ
section
variable {P : Program} {n : Nat} {ts : List TOp} {val : Nat → Env → Value} {rows : Nat → Env → List Row} {F0 : FS} {R0 : List Row} {i : Nat} {o : Oper}
abbrev ObK (P : Program) (n : Nat) (ts : List TOp) (val : Nat → Env → Value) (rows : Nat → Env → List Row) (F0 : FS) (R0 : List Row) (i : Nat) (o : Oper) : Prop := ∀ env R,(∀ r ∈ R0,r ∈ R) → OpF P n ((tAt ts i).kills.flatMap (fun k=>rows k env)++R) (fdeps ts val env F0 (tAt ts i).deps) o
   (fun v H' => ∃ p,((tAt ts i).dst ≠ none → v = val i (upd env i p))∧H'.Perm (rows i (upd env i p)++R))
abbrev ObKR (P : Program) (n : Nat) (ts : List TOp) (rd : Nat → List Nat) (val : Nat → Env → Value) (rows : Nat → Env → List Row) (F0 : FS) (R0 : List Row) (i : Nat) (o : Oper) : Prop := ∀ env R,(∀ r ∈ R0,r ∈ R) → (∀ k ∈ rd i,∀ r ∈ rows k env,r ∈ R) → OpF P n ((tAt ts i).kills.flatMap (fun k=>rows k env)++R) (fdeps ts val env F0 (tAt ts i).deps) o
   (fun v H' => ∃ p,((tAt ts i).dst ≠ none → v = val i (upd env i p))∧H'.Perm (rows i (upd env i p)++R))
theorem ObR.ng {rd : Nat → List Nat} (hg : o.guard = none) (h : ObKR P n ts rd val rows F0 R0 i o) : ObR P n ts rd val rows F0 R0 i o := .inl ⟨.inl hg,h⟩
theorem Ob.ng (hg : o.guard = none) (h : ObK P n ts val rows F0 R0 i o) : Ob P n ts val rows F0 R0 i o := .inl ⟨.inl hg,h⟩
theorem Ob.g {j : Nat} {w : Bool} (hg : o.guard = some (j,w)) (hj : (tAt ts j).dst.isSome = true) (hb : ∀ env,bv (val j env)=some w) (h : ObK P n ts val rows F0 R0 i o) : Ob P n ts val rows F0 R0 i o :=
 .inl ⟨.inr ⟨j,w,hg,(fun e=>by rw [e] at hj;cases hj),hb⟩,h⟩
theorem Ob.sk {j : Nat} {w : Bool} (hg : o.guard = some (j,w)) (hj : (tAt ts j).dst.isSome = true) (hb : ∀ env,(bv (val j env) == some w)=false) (hk : ∀ env,(tAt ts i).kills.flatMap (fun k=>rows k env) = []) (hv : ∀ env,val i env = undef) (hr : ∀ env,rows i env = []) : Ob P n ts val rows F0 R0 i o :=
 .inr ⟨j,w,hg,(fun e=>by rw [e] at hj;cases hj),(fun env e=>by have:=hb env;rw [e] at this;simp at this),hk,hv,hr⟩
/-- what only reads -/
theorem uK (he : ∀ env R,(∀ r ∈ R0,r ∈ R) → ∃ v,EvF P n ((tAt ts i).kills.flatMap (fun k=>rows k env)++R) (fdeps ts val env F0 (tAt ts i).deps) o v∧v = val i (upd env i (0,0))) (hk : (tAt ts i).kills = []) (hr : ∀ env,rows i (upd env i (0,0)) = []) : ObK P n ts val rows F0 R0 i o:=by
 intro env R hR
 obtain ⟨v,hv,he'⟩:=he env R hR
 refine (StF.ofEv hv).op.mono ?_
 rintro u H' ⟨rfl,rfl⟩
 exact ⟨(0,0),fun _=>he',by rw [hr,hk];exact List.Perm.refl _⟩
end
section
variable {P : Program} {n : Nat} {ops : Array Oper} {i : Nat} {o : Oper} {F : FS} {H : List Row}
/-- a slice that has an address, held against nil -/
theorem EvF.eqNil {T T' e : TypeId} {x : Operand} {ad : Addr} {len cap s y : Nat} (h : o.op = .binOp .eql T x (.const (.slice none 0 0)) T') (hx : evF F x = some (.slice (some ad) len cap)) (hT : tiOf P T = some ⟨.sl e,s,y⟩) : EvF P n H F o (.bool false):=by
 unfold EvF EvOp
 intro t ha B w0 w hS
 have hu:=ti_slice hT
 have h1 : (binOp .eql T (.slice (some ad) len cap) (.slice none 0 0)).run P w = .ok (.bool false) w:=by
  show Sem.run P (do pure (Value.bool (← Op.equalIn 10000 T (.slice (some ad) len cap) (.slice none 0 0)))) w = _
  rw [show (10000 : Nat)=9999 + 1 from rfl]
  unfold Op.equalIn
  simp [underlying,hu]
 have hxv:=ha.ev hx
 simp [execOp,h,hxv,show Fw.ev t (.const (.slice none 0 0)) = .slice none 0 0 from rfl,eqGuard,h1]
theorem loadCells_rd {B : Nat} {w0 w : World} {a : Addr} {vs : List Value} (h : Rd H a vs) (hS : St B w0 H w) : (loadCells a vs.length).run P w = .ok vs.toArray w:=run_loadCells_list (P:=P) (w:=w) a vs (h.cell hS)
/-- copy into a row of one's own -/
theorem StF.copyOwn {T e : TypeId} {x y : Operand} {sz by' q b j dLen dCap sLen sCap m cap : Nat} {a : Addr} {cs vs : List Value} (h : o.op = .call { callee := .builtin .copy,args := #[x,y],argTypes := #[T,T] }) (hT : ElT P T e sz by')
  (hx : evF F x = some (.slice (some ⟨b,j,none⟩) dLen dCap)) (hy : evF F y = some (.slice (some a) sLen sCap)) (hi : H[q]? = some ⟨b,0,cs,some e,cap⟩) (hm : Nat.min sLen dLen = m) (hn : vs.length = m * sz) (hr : Rd H a vs) (h1 : vs.all (·.oneCell') = true) (hl : j + vs.length ≤ cs.length) :
  StF P n H F o (fun v H' => v = .int .i64 m∧H' = H.set q ⟨b,0,splice cs j vs,some e,cap⟩):=by
 unfold StF StepOp
 intro t ha B w0 w hS
 obtain ⟨w',hst,hS'⟩:=store_cells (P:=P) vs cs H w j 0 hS hi (fun v hv=>List.all_eq_true.1 h1 v hv) (by omega)
 refine ⟨.int .i64 m,w',_,.inl ?_,hS',rfl,rfl⟩
 have hld:=loadCells_rd (P:=P) hr hS
 rw [hn] at hld
 simp [execOp,h,ha.ev hx,ha.ev hy,resolve,invoke,builtin,Builtin.copy_,hT.un,hT.sz,Builtin.lenOf,Builtin.firstCells,hm,hld,hst,goInt]
/-- what is known of a row may be forgotten from some cell on -/
theorem St.forget {B : Nat} {w0 w : World} (hS : St B w0 H w) {q b cap : Nat} {el : TypeId} {cs cs' : List Value} (hi : H[q]? = some ⟨b,0,cs++cs',some el,cap⟩) : St B w0 (H.set q ⟨b,0,cs,some el,cap⟩) w:=by
 refine ⟨hS.below,hS.size,fun r hr=>?_,pairwise_set H q _ _ hi (fun s k ho=>k ho) (fun s k ho=>k ho) hS.sep⟩
 rcases List.mem_or_eq_of_mem_set hr with hr | rfl
 ·exact hS.ok r hr
 ·obtain ⟨h1,h2,rest,h3,h4⟩:=hS.ok _ (List.mem_of_getElem? hi)
  exact ⟨h1,h2,cs'++rest,by rw [← List.append_assoc];exact h3,by rw [← List.append_assoc];exact h4⟩
theorem X.forget {c : Code} {Q : QX} {q b cap : Nat} {el : TypeId} {cs cs' : List Value} (hi : H[q]? = some ⟨b,0,cs++cs',some el,cap⟩) (k : X P n c F (H.set q ⟨b,0,cs,some el,cap⟩) Q) : X P n c F H Q:=by
 unfold X W at *
 intro t ha ρ ds B w0 w hS
 exact k t ha ρ ds B w0 w (hS.forget hi)
/-- all cells of a row -/
theorem St.reveal {B : Nat} {w0 w : World} (hS : St B w0 H w) {q b cap : Nat} {el : TypeId} {cs : List Value} (hi : H[q]? = some ⟨b,0,cs,some el,cap⟩) : ∃ rest,(cs++rest).length = cap∧St B w0 (H.set q ⟨b,0,cs++rest,some el,cap⟩) w:=by
 obtain ⟨h1,h2,rest,h3,h4⟩:=hS.ok _ (List.mem_of_getElem? hi)
 refine ⟨rest,h4,hS.below,hS.size,fun r hr=>?_,pairwise_set H q _ _ hi (fun s k ho=>k ho) (fun s k ho=>k ho) hS.sep⟩
 rcases List.mem_or_eq_of_mem_set hr with hr | rfl
 ·exact hS.ok r hr
 ·exact ⟨h1,h2,[],by simpa using h3,by simpa using h4⟩
theorem X.reveal {c : Code} {Q : QX} {q b cap : Nat} {el : TypeId} {cs : List Value} (hi : H[q]? = some ⟨b,0,cs,some el,cap⟩) (k : ∀ rest,(cs++rest).length = cap → X P n c F (H.set q ⟨b,0,cs++rest,some el,cap⟩) Q) : X P n c F H Q:=by
 unfold X W at *
 intro t ha ρ ds B w0 w hS
 obtain ⟨rest,hl,hS'⟩:=hS.reveal hi
 exact k rest hl t ha ρ ds B w0 w hS'
/-- a literal of two -/
theorem StF.buildTwo {T e : TypeId} {x y : Operand} {sz y' : Nat} {v0 v1 : Value} {cs ds : List Value} (h : o.op = .buildSlice T 2 #[(0,x),(1,y)]) (hT : ElT P T e sz y') (hx : evF F x = some v0) (hy : evF F y = some v1) (hc : v0.cells.toList = cs) (hd : v1.cells.toList = ds) (hl : cs.length = sz) (hl' : ds.length = sz) (hz : 0 < sz) (hz' : 2 * sz ≤ 16777216) :
  StF P n H F o (fun v H' => ∃ b,v = .slice (some ⟨b,0,none⟩) 2 2∧H' = ⟨b,0,cs++ds,some e,2 * sz⟩::H):=by
 unfold StF StepOp
 intro t ha B w0 w hS
 obtain ⟨z,hzs,hzr⟩:=hT.zero
 have hS' := hS.alloc (cs++ds) e
 refine ⟨.slice (some ⟨w.heap.size,0,none⟩) 2 2,_,_,.inl ?_,hS',_,rfl,by rw [List.length_append,hl,hl'];congr 2;omega⟩
 have hf:=fill_eq (fun i=>some (i * sz,sz)) [(0,v0),(1,v1)] ((Array.range (2 * sz)).map (z.cells[·% z.cells.size]!)) (cs++ds) (by
  simp only [fillL,Nat.zero_mul,Nat.zero_add,Nat.one_mul,hc,hd,hl,hl',Nat.beq_refl,Array.length_toList,Array.size_map,Array.size_range]
  rw [show Nat.ble sz (2 * sz)=true by rw [Nat.ble_eq];omega]
  simp only [splice,List.take_zero,List.nil_append,Nat.zero_add,hl]
  rw [show Nat.ble (sz + sz) (cs++List.drop sz (Array.map (fun x=>z.cells[x % z.cells.size]!) (Array.range (2 * sz))).toList).length = true by
   rw [Nat.ble_eq];simp [hl];omega]
  simp only [Option.some.injEq]
  rw [show List.take sz (cs++List.drop sz (Array.map (fun x=>z.cells[x % z.cells.size]!) (Array.range (2 * sz))).toList)=cs by rw [← hl,List.take_left]]
  rw [List.drop_eq_nil_of_le (by simp [hl,hl'];omega),List.append_nil])
 have h0 : ¬ (sz = 0):=by omega
 have h1 : ¬ (16777216 < 2 * sz):=by omega
 simp [execOp,h,Instr.buildSlice,hT.un,hT.sz,hzr,ha.ev hx,ha.ev hy,h1,hf,newRow,newObj,Sem.run,World.alloc_eq]
 intro h2;omega
theorem zero_one {z : Value} (h : z.cells.all (·.oneCell') = true) (m : Nat) : ∀ v ∈ (Builtin.zeroCells z.cells m).toList,v.oneCell' = true:=by
 intro v hv
 unfold Builtin.zeroCells at hv
 simp only [Array.toList_map,List.mem_map,Array.toList_range,List.mem_range] at hv
 obtain ⟨k,hk,rfl⟩:=hv
 have h0 : 0 < z.cells.size:=by
  rcases Nat.eq_zero_or_pos z.cells.size with h0 | h0
  ·rw [h0,Nat.mul_zero] at hk;omega
  ·exact h0
 have hlt : k % z.cells.size < z.cells.size:=Nat.mod_lt _ h0
 rw [getElem!_pos z.cells _ hlt]
 exact Array.all_eq_true_iff_forall_mem.1 h _ (Array.getElem_mem hlt)
/-- clear of a part of a row of one's own -/
theorem StF.clear {T e : TypeId} {x : Operand} {sz by' q b j m c cap : Nat} {cs : List Value} (h : o.op = .call { callee := .builtin .clear,args := #[x],argTypes := #[T] }) (hT : ElT P T e sz by')
  (hx : evF F x = some (.slice (some ⟨b,j,none⟩) m c)) (hi : H[q]? = some ⟨b,0,cs,some e,cap⟩) (hl : j + m * sz ≤ cs.length) (hone : ∀ (z : Value) (w : World),(zeroValue e).run P w = .ok z w → z.cells.all (·.oneCell') = true) :
  StF P n H F o (fun _ H' => ∃ zs,zs.length = m * sz∧H' = H.set q ⟨b,0,splice cs j zs,some e,cap⟩):=by
 unfold StF StepOp
 intro t ha B w0 w hS
 obtain ⟨z,hzs,hzr⟩:=hT.zero
 have hz1:=zero_one (hone z w (hzr w)) m
 have hzl : (Builtin.zeroCells z.cells m).toList.length = m * sz:=by rw [Array.length_toList,size_zeroCells,hzs]
 obtain ⟨w',hst,hS'⟩:=store_cells (P:=P) (Builtin.zeroCells z.cells m).toList cs H w j 0 hS hi hz1 (by rw [hzl];omega)
 have hxv:=ha.ev hx
 refine ⟨.tuple #[],w',_,.inl ?_,hS',_,hzl,rfl⟩
 cases m with
 | zero =>
  have h0 : (Builtin.zeroCells z.cells 0).toList = []:=List.eq_nil_of_length_eq_zero (by rw [hzl,Nat.zero_mul])
  rw [h0] at hst
  simp [storeCells] at hst
  subst hst
  simp [execOp,h,hxv,resolve,invoke,builtin,Builtin.clear_,hT.un]
 | succ m =>
  simp [execOp,h,hxv,resolve,invoke,builtin,Builtin.clear_,hT.un,hzr,hst]
/-- a struct is stored in a row of one's own -/
theorem StF.storeAt {T : TypeId} {a x : Operand} {q b j cap : Nat} {el : TypeId} {cs vs : List Value} {ti : TI} (h : o.op = .store T a x) (hx : evF F a = some (.pointer (some ⟨b,j,none⟩))) (hv : evF F x = some (.agg vs.toArray)) (hT : tiOf P T = some ti) (hi : H[q]? = some ⟨b,0,cs,some el,cap⟩)
  (hn : vs.length = ti.size) (h1 : vs.all (·.oneCell') = true) (hl : j + vs.length ≤ cs.length) : StF P n H F o (fun u H' => u = undef∧H' = H.set q ⟨b,0,splice cs j vs,some el,cap⟩):=by
 unfold StF
 intro t ha
 exact StepOp.store h (ha.ev hx) hT (by rw [ha.ev hv];rfl) hi hn h1 hl
end
theorem EnF.dyn0 {P : Program} {n : Nat} {H : List Row} {F : FS} {o : Oper} {g : Operand} {f : FuncId} {l : List Operand} {tys : Array TypeId} {vs cap : List Value} (h : o.op = .call { callee := .value g,args:=l.toArray,argTypes:=tys }) (hg : evF F g = some (.func (.func f) #[] cap.toArray)) (hv : Args F l vs) (hc : Callable P f) : EnF P n H F o f (vs++cap) :=
 EnF.dyn (first:=[]) h hg hv hc
end Go.Fw
namespace Go.Proofs.Ytmfppdpkalelhaa
open Go Go.Fw
set_option maxRecDepth 10000
theorem number_spec (m : Mt) (H : List Row) : Fc Try.prog 84 ([.agg (cMt m).toArray]++[]) H (fun v H' => v = .int .i64 m.number∧H' = H):=by
 show Fc Try.prog 84 [.agg (cMt m).toArray] H _
 refine Fc.mk (callable Try.call84) Try.func84 rfl Try.ntmps84 rfl ?_;dsimp only [fr]
 repeat' (first | (refine uP rfl ?_;(first | ((first | refine uN rfl ?_);(first | (refine uE (uM rfl rfl) rfl rfl ?_)|(refine uE (uA rfl rfl) rfl rfl ?_)|(refine uE (uQ rfl rfl rfl rfl) rfl rfl ?_)|(refine uE (uF rfl rfl (te rfl) rfl (te rfl) (by decide)) rfl rfl ?_)|(refine uE (uY rfl rfl (te rfl)) rfl rfl ?_)|(refine uE (uL rfl rfl (uO (te rfl) rfl (qH _) rfl)) rfl rfl ?_)|(refine Xg.st (StF.boxAgg rfl rfl) rfl rfl ?_;rintro _ _ ⟨bx,rfl,rfl⟩)))))|(refine uD rfl ?_;refine hK _ _ ?_;clear hK K) | refine uS rfl ?_ | refine uR rfl (fun K hK=>?_) | refine X.block rfl ?_ | (refine X.brk rfl ?_;repeat (first | refine blockX_hit rfl ?_ | refine blockX_miss (by decide) ?_)) | refine X.skip rfl ?_ | refine X.ret rfl ?_ | (refine X.ite rfl rfl (fun hc=>?_);(first | (with_reducible refine Xb.case hc (fun h=>?_) (fun h=>?_))) <;> clear hc))
 refine ret_one (by simp) Try.results84 rfl (H' := H) (by (repeat (first | exact qR _ | apply qC));done) ?_;simp only [and_true,true_and]
theorem id_spec (m : Bx) (H : List Row) : Fc Try.prog 111 ([.agg (cBx m).toArray]++[]) H (fun v H' => v = .int .i64 m.id∧H' = H):=by
 show Fc Try.prog 111 [.agg (cBx m).toArray] H _
 refine Fc.mk (callable Try.call111) Try.func111 rfl Try.ntmps111 rfl ?_;dsimp only [fr]
 repeat' (first | (refine uP rfl ?_;(first | ((first | refine uN rfl ?_);(first | (refine uE (uM rfl rfl) rfl rfl ?_)|(refine uE (uA rfl rfl) rfl rfl ?_)|(refine uE (uQ rfl rfl rfl rfl) rfl rfl ?_)|(refine uE (uF rfl rfl (te rfl) rfl (te rfl) (by decide)) rfl rfl ?_)|(refine uE (uY rfl rfl (te rfl)) rfl rfl ?_)|(refine uE (uL rfl rfl (uO (te rfl) rfl (qH _) rfl)) rfl rfl ?_)|(refine Xg.st (StF.boxAgg rfl rfl) rfl rfl ?_;rintro _ _ ⟨bx,rfl,rfl⟩)))))|(refine uD rfl ?_;refine hK _ _ ?_;clear hK K) | refine uS rfl ?_ | refine uR rfl (fun K hK=>?_) | refine X.block rfl ?_ | (refine X.brk rfl ?_;repeat (first | refine blockX_hit rfl ?_ | refine blockX_miss (by decide) ?_)) | refine X.skip rfl ?_ | refine X.ret rfl ?_ | (refine X.ite rfl rfl (fun hc=>?_);(first | (with_reducible refine Xb.case hc (fun h=>?_) (fun h=>?_))) <;> clear hc))
 refine ret_one (by simp) Try.results111 rfl (H' := H) (by (repeat (first | exact qR _ | apply qC));done) ?_;simp only [and_true,true_and]
theorem withinL_spec (s : Sp) (l : List Int) (a : Option Addr) (c : Nat) (H : List Row) (hl : SlE H a cI 1 l) (hb : l.length ≤ 9223372036854775807) : Fc Try.prog 106 [.agg (cSp s).toArray,.slice a l.length c] H (fun v H' => v = .bool (decide (∀ n ∈ l,s.lo ≤ n∧n ≤ s.hi))∧H' = H):=by
 refine Fc.mk (callable Try.call106) Try.func106 rfl Try.ntmps106 rfl ?_;dsimp only [fr]
 repeat' (first | (refine uP rfl ?_;(first | ((first | refine uN rfl ?_);(first | (refine uE (uM rfl rfl) rfl rfl ?_)|(refine uE (uA rfl rfl) rfl rfl ?_)|(refine uE (uQ rfl rfl rfl rfl) rfl rfl ?_)|(refine uE (uF rfl rfl (te rfl) rfl (te rfl) (by decide)) rfl rfl ?_)|(refine uE (uY rfl rfl (te rfl)) rfl rfl ?_)|(refine uE (uL rfl rfl (uO (te rfl) rfl (qH _) rfl)) rfl rfl ?_)|(refine Xg.st (StF.boxAgg rfl rfl) rfl rfl ?_;rintro _ _ ⟨bx,rfl,rfl⟩)))))|(refine uD rfl ?_;refine hK _ _ ?_;clear hK K) | refine uS rfl ?_ | refine uR rfl (fun K hK=>?_) | refine X.block rfl ?_ | (refine X.brk rfl ?_;repeat (first | refine blockX_hit rfl ?_ | refine blockX_miss (by decide) ?_)) | refine X.skip rfl ?_ | refine X.ret rfl ?_ | (refine X.ite rfl rfl (fun hc=>?_);(first | (with_reducible refine Xb.case hc (fun h=>?_) (fun h=>?_))) <;> clear hc))
 refine X.lp rfl (fun q F' H' => ∃ k : Nat,q = l.length - k∧k ≤ l.length∧((∀ n ∈ l,s.lo ≤ n∧n ≤ s.hi) ↔ ∀ n ∈ l.drop k,s.lo ≤ n∧n ≤ s.hi)∧⟨bx,0,cSp s,some 35,2⟩::H = H' ∧
   F' = [(2,.pointer (some ⟨bx,0,none⟩)),(7,.slice a l.length c),(8,.int .i64 l.length),(9,.int .i64 k)])
  l.length [(2,.pointer (some ⟨bx,0,none⟩)),(7,.slice a l.length c),(8,.int .i64 l.length),(9,.int .i64 (0 : Nat))] _ (by repeat (first | exact uU _ | refine uV rfl ?_)) (by repeat (first | exact qR _ | apply qK | apply qC)) ⟨0,by omega,by omega,by simp,rfl,rfl⟩ ?_
 rintro _ _ _ ⟨k,rfl,hk,hn,rfl,rfl⟩
 repeat' (first | (refine uP rfl ?_;(first | ((first | refine uN rfl ?_);(first | (refine uE (uM rfl rfl) rfl rfl ?_)|(refine uE (uA rfl rfl) rfl rfl ?_)|(refine uE (uQ rfl rfl rfl rfl) rfl rfl ?_)|(refine uE (uF rfl rfl (te rfl) rfl (te rfl) (by decide)) rfl rfl ?_)|(refine uE (uY rfl rfl (te rfl)) rfl rfl ?_)|(refine uE (uL rfl rfl (uO (te rfl) rfl (qH _) rfl)) rfl rfl ?_)|(refine Xg.st (StF.boxAgg rfl rfl) rfl rfl ?_;rintro _ _ ⟨bx,rfl,rfl⟩)))))|(refine uD rfl ?_;refine hK _ _ ?_;clear hK K) | refine uS rfl ?_ | refine uR rfl (fun K hK=>?_) | refine X.block rfl ?_ | (refine X.brk rfl ?_;repeat (first | refine blockX_hit rfl ?_ | refine blockX_miss (by decide) ?_)) | refine X.skip rfl ?_ | refine X.ret rfl ?_ | (refine X.ite rfl rfl (fun hc=>?_);(first | (with_reducible refine Xb.case hc (fun h=>?_) (fun h=>?_))) <;> clear hc))
 ·obtain ⟨b,off,e,rfl,he⟩:=hl.elem (i:=k) (by omega)
  have hl1 : ∀ r,SlE (r::H) (some ⟨b,off,none⟩) cI 1 l:=fun r=>hl.sub (fun _ h=>List.mem_cons_of_mem _ h)
  rw [drop_cons he] at hn
  repeat' (first | (refine uP rfl ?_;(first | ((first | refine uN rfl ?_ | (refine Xo.g rfl rfl ?_;with_reducible refine Xw.ff ?_));(first | (refine uE (uL rfl rfl (LoadV.el0 (hl1 _) he (te rfl) rfl (fun _ hm=>hm) rfl)) rfl rfl ?_)|(refine uE (uM rfl rfl) rfl rfl ?_)|(refine uE (uA rfl rfl) rfl rfl ?_)|(refine uE (EvF.pickT rfl rfl rfl) rfl rfl ?_)|(refine uE (EvF.pickF rfl rfl rfl) rfl rfl ?_)|(refine uE (uQ rfl rfl rfl rfl) rfl rfl ?_)|(refine uE (EvF.add64 rfl rfl rfl (by omega) (by omega)) rfl rfl ?_)|(refine uE (uF rfl rfl (te rfl) rfl (te rfl) (by decide)) rfl rfl ?_)|(refine uE (uJ rfl rfl rfl (te rfl) (te rfl) (by omega) (by omega)) rfl rfl ?_)|(refine uE (uL rfl rfl (uO (te rfl) rfl (qH _) rfl)) rfl rfl ?_)))|(refine Xo.g rfl rfl ?_;(first | (with_reducible refine Xw.tf rfl rfl ?_)|(with_reducible refine Xw.case (fun h=>?_) (fun h=>?_) <;> simp only [h,decide_true,decide_false,Bool.not_true,Bool.not_false,and_self,and_true,true_and,and_false,false_and])))))|(refine uD rfl ?_;refine hK _ _ ?_;clear hK K) | refine uS rfl ?_ | refine uR rfl (fun K hK=>?_) | refine X.skip rfl ?_ | refine X.ret rfl ?_ | (refine X.ite rfl rfl (fun hc=>?_);(first | (with_reducible refine Xb.t hc ?_)|(with_reducible refine Xb.case hc (fun h=>?_) (fun h=>?_))) <;> clear hc))
  any_goals (refine ret_one (by simp) Try.results106 rfl (H' := H) (by (repeat (first | exact qR _ | apply qC));done) ?_;simp only [and_true,true_and];congr 1;symm;exact decide_eq_false (fun q=>by have:=hn.1 q e List.mem_cons_self;omega))
  refine ⟨_,_,_,(by repeat (first | exact uU _ | refine uV rfl ?_)),(by repeat (first | exact qR _ | apply qK | apply qC)),⟨k + 1,rfl,by omega,hn.trans ⟨fun q n hm=>q n (List.mem_cons_of_mem _ hm),fun q n hm=>?_⟩,rfl,rfl⟩,by omega⟩
  rcases List.mem_cons.1 hm with rfl | hm
  ·omega
  ·exact q n hm
 ·rw [List.drop_eq_nil_of_le (by omega)] at hn
  refine ret_one (by simp) Try.results106 rfl (H' := H) (by (repeat (first | exact qR _ | apply qC));done) ?_;simp only [and_true,true_and]
  congr 1;symm
  exact decide_eq_true (hn.2 (fun _ h=>absurd h List.not_mem_nil))
theorem anyMonth_spec (R : Rm) (p : Pl) (H : List Row) (h0 : -1000000 ≤ R.months) (h1 : R.months ≤ 1000000) : Fc Try.prog 112 [.agg (cRm R p).toArray] H (fun v H' => v = .agg (cSp ⟨0,R.months - 1⟩).toArray∧H' = H):=by
 refine Fc.mk (callable Try.call112) Try.func112 rfl Try.ntmps112 rfl ?_;dsimp only [fr]
 repeat' (first | (refine uP rfl ?_;(first | ((first | refine uN rfl ?_);(first | (refine uE (EvF.build (cs:=cSp ⟨0,R.months - 1⟩) rfl (ArgsP.cons rfl (ArgsP.cons rfl ArgsP.nil)) (te rfl) (Places.cons (te rfl) (Places.cons (te rfl) Places.nil)) Try.zeroValue35 rfl) rfl rfl ?_)|(refine uE (EvF.sub64 rfl rfl rfl (by omega) (by omega)) rfl rfl ?_)|(refine uE (uF rfl rfl (te rfl) rfl (te rfl) (by decide)) rfl rfl ?_)|(refine uE (uL rfl rfl (uO (te rfl) rfl (qT _ (qH _)) rfl)) rfl rfl ?_)|(refine Xg.st (StF.boxAgg rfl rfl) rfl rfl ?_;rintro _ _ ⟨bx,rfl,rfl⟩)|(refine Xg.st (StF.alloc rfl Try.zeroValue35 rfl) rfl rfl ?_;rintro _ _ ⟨bx,rfl,rfl⟩)|(refine Xg.st0 (uZ (i:=0) rfl rfl rfl (te rfl) rfl rfl rfl rfl) rfl ?_;rintro _ _ ⟨rfl,rfl⟩;dsimp only [List.set])))))|(refine uD rfl ?_;refine hK _ _ ?_;clear hK K) | refine uS rfl ?_ | refine uR rfl (fun K hK=>?_) | refine X.ret rfl ?_)
 exact ret_one (by simp) Try.results112 ⟨_,rfl,uW (te rfl) rfl (qH _) rfl⟩ (H' := H) (by repeat (first | exact qR _ | apply qK | apply qC)) ⟨rfl,rfl⟩
/-- the first place of which something is so -/
def IdxR {α : Type} (p : α → Bool) (l : List α) (z : Int) : Prop:=(z = -1 ∧ ∀ e ∈ l,p e = false) ∨ ∃ k e,z = ((k : Nat) : Int)∧l[k]? = some e∧p e = true ∧ ∀ i e,i < k → l[i]? = some e → p e = false
theorem indexFunc_specMt (l : List Mt) (a : Option Addr) (c g : Nat) (p : Mt → Bool) (cap : List Value) (H : List Row) (hl : SlE H a cMt 6 l) (hb : l.length ≤ 9223372036854775807) (hf : ∀ e ∈ l,Fc Try.prog g ([.agg (cMt e).toArray]++cap) H (fun v H' => v = .bool (p e)∧H' = H)) :
  Fc Try.prog 135 [.slice a l.length c,.func (.func g) #[] cap.toArray] H (fun v H' => (∃ z,v = .int .i64 z∧IdxR p l z)∧H' = H):=by
 refine Fc.mk (callable Try.call135) Try.func135 rfl Try.ntmps135 rfl ?_;dsimp only [fr]
 repeat' (first | (refine uP rfl ?_;(first | ((first | refine uN rfl ?_);(first | (refine uE (uM rfl rfl) rfl rfl ?_)|(refine uE (uA rfl rfl) rfl rfl ?_)|(refine uE (uQ rfl rfl rfl rfl) rfl rfl ?_)|(refine uE (uF rfl rfl (te rfl) rfl (te rfl) (by decide)) rfl rfl ?_)|(refine uE (uY rfl rfl (te rfl)) rfl rfl ?_)|(refine uE (uL rfl rfl (uO (te rfl) rfl (qH _) rfl)) rfl rfl ?_)|(refine Xg.st (StF.boxAgg rfl rfl) rfl rfl ?_;rintro _ _ ⟨bx,rfl,rfl⟩)))))|(refine uD rfl ?_;refine hK _ _ ?_;clear hK K) | refine uS rfl ?_ | refine uR rfl (fun K hK=>?_) | refine X.block rfl ?_ | (refine X.brk rfl ?_;repeat (first | refine blockX_hit rfl ?_ | refine blockX_miss (by decide) ?_)) | refine X.skip rfl ?_ | refine X.ret rfl ?_ | (refine X.ite rfl rfl (fun hc=>?_);(first | (with_reducible refine Xb.case hc (fun h=>?_) (fun h=>?_))) <;> clear hc))
 refine X.lp rfl (fun q F' H' => ∃ k : Nat,q = l.length - k∧k ≤ l.length∧(∀ i e,i < k → l[i]? = some e → p e = false)∧H = H' ∧
   F' = [(0,.slice a l.length c),(1,.func (.func g) #[] cap.toArray),(7,.int .i64 l.length),(8,.int .i64 k)])
  l.length [(0,.slice a l.length c),(1,.func (.func g) #[] cap.toArray),(7,.int .i64 l.length),(8,.int .i64 (0 : Nat))] _ (by repeat (first | exact uU _ | refine uV rfl ?_)) (by repeat (first | exact qR _ | apply qK | apply qC)) ⟨0,by omega,by omega,(fun i e hi=>absurd hi (by omega)),rfl,rfl⟩ ?_
 rintro _ _ H2 ⟨k,rfl,hk,hn,hH,rfl⟩
 subst hH
 repeat' (first | (refine uP rfl ?_;(first | ((first | refine uN rfl ?_);(first | (refine uE (uM rfl rfl) rfl rfl ?_)|(refine uE (uA rfl rfl) rfl rfl ?_)|(refine uE (uQ rfl rfl rfl rfl) rfl rfl ?_)|(refine uE (uF rfl rfl (te rfl) rfl (te rfl) (by decide)) rfl rfl ?_)|(refine uE (uY rfl rfl (te rfl)) rfl rfl ?_)|(refine uE (uL rfl rfl (uO (te rfl) rfl (qH _) rfl)) rfl rfl ?_)|(refine Xg.st (StF.boxAgg rfl rfl) rfl rfl ?_;rintro _ _ ⟨bx,rfl,rfl⟩)))))|(refine uD rfl ?_;refine hK _ _ ?_;clear hK K) | refine uS rfl ?_ | refine uR rfl (fun K hK=>?_) | refine X.block rfl ?_ | (refine X.brk rfl ?_;repeat (first | refine blockX_hit rfl ?_ | refine blockX_miss (by decide) ?_)) | refine X.skip rfl ?_ | refine X.ret rfl ?_ | (refine X.ite rfl rfl (fun hc=>?_);(first | (with_reducible refine Xb.case hc (fun h=>?_) (fun h=>?_))) <;> clear hc))
 ·obtain ⟨b,off,e,rfl,he⟩:=hl.elem (i:=k) (by omega)
  repeat' (first | (refine uP rfl ?_;(first | ((first | refine uN rfl ?_);(first | (refine uE (uL rfl rfl (LoadV.elA0 hl he (te rfl) rfl (fun _ hm=>hm) rfl)) rfl rfl ?_)|(refine uC (EnF.dyn0 rfl rfl (by (repeat (first | exact Args.nil | refine Args.cons rfl ?_));done)) rfl rfl (hf e (List.mem_of_getElem? he)) ?_;rintro _ H9 ⟨rfl,hH9⟩;subst H9)|(refine uE (uM rfl rfl) rfl rfl ?_)|(refine uE (uA rfl rfl) rfl rfl ?_)|(refine uE (EvF.add64 rfl rfl rfl (by omega) (by omega)) rfl rfl ?_)|(refine uE (uJ rfl rfl rfl (te rfl) (te rfl) (by omega) (by omega)) rfl rfl ?_)))))|(refine uD rfl ?_;refine hK _ _ ?_;clear hK K) | refine uS rfl ?_ | refine uR rfl (fun K hK=>?_) | refine X.skip rfl ?_ | refine X.ret rfl ?_ | (refine X.ite rfl rfl (fun hc=>?_);(first | (with_reducible refine Xb.caseB hc (fun h=>?_) (fun h=>?_))) <;> clear hc))
  ·refine ret_one (by simp) Try.results135 rfl (H' := H) (by (repeat (first | exact qR _ | apply qC));done) ?_;simp only [and_true,true_and]
   exact ⟨_,rfl,.inr ⟨k,e,rfl,he,by assumption,hn⟩⟩
  ·refine ⟨_,_,_,(by repeat (first | exact uU _ | refine uV rfl ?_)),(by repeat (first | exact qR _ | apply qK | apply qC)),⟨k + 1,rfl,by omega,(fun i e' hi he' => ?_),rfl,rfl⟩,by omega⟩
   rcases Nat.lt_or_ge i k with h1 | h1
   ·exact hn i e' h1 he'
   ·obtain rfl : i = k:=by omega
    rw [he] at he';cases he';assumption
 ·refine ret_one (by simp) Try.results135 rfl (H' := H) (by (repeat (first | exact qR _ | apply qC));done) ?_;simp only [and_true,true_and]
  refine ⟨_,rfl,.inl ⟨rfl,fun e he=>?_⟩⟩
  obtain ⟨i,hi,rfl⟩:=List.mem_iff_getElem.1 he
  exact hn i _ (by omega) (List.getElem?_eq_getElem hi)
theorem indexFunc_specBx (l : List Bx) (a : Option Addr) (c g : Nat) (p : Bx → Bool) (cap : List Value) (H : List Row) (hl : SlE H a cBx 2 l) (hb : l.length ≤ 9223372036854775807) (hf : ∀ e ∈ l,Fc Try.prog g ([.agg (cBx e).toArray]++cap) H (fun v H' => v = .bool (p e)∧H' = H)) :
  Fc Try.prog 139 [.slice a l.length c,.func (.func g) #[] cap.toArray] H (fun v H' => (∃ z,v = .int .i64 z∧IdxR p l z)∧H' = H):=by
 refine Fc.mk (callable Try.call139) Try.func139 rfl Try.ntmps139 rfl ?_;dsimp only [fr]
 repeat' (first | (refine uP rfl ?_;(first | ((first | refine uN rfl ?_);(first | (refine uE (uM rfl rfl) rfl rfl ?_)|(refine uE (uA rfl rfl) rfl rfl ?_)|(refine uE (uQ rfl rfl rfl rfl) rfl rfl ?_)|(refine uE (uF rfl rfl (te rfl) rfl (te rfl) (by decide)) rfl rfl ?_)|(refine uE (uY rfl rfl (te rfl)) rfl rfl ?_)|(refine uE (uL rfl rfl (uO (te rfl) rfl (qH _) rfl)) rfl rfl ?_)|(refine Xg.st (StF.boxAgg rfl rfl) rfl rfl ?_;rintro _ _ ⟨bx,rfl,rfl⟩)))))|(refine uD rfl ?_;refine hK _ _ ?_;clear hK K) | refine uS rfl ?_ | refine uR rfl (fun K hK=>?_) | refine X.block rfl ?_ | (refine X.brk rfl ?_;repeat (first | refine blockX_hit rfl ?_ | refine blockX_miss (by decide) ?_)) | refine X.skip rfl ?_ | refine X.ret rfl ?_ | (refine X.ite rfl rfl (fun hc=>?_);(first | (with_reducible refine Xb.case hc (fun h=>?_) (fun h=>?_))) <;> clear hc))
 refine X.lp rfl (fun q F' H' => ∃ k : Nat,q = l.length - k∧k ≤ l.length∧(∀ i e,i < k → l[i]? = some e → p e = false)∧H = H' ∧
   F' = [(0,.slice a l.length c),(1,.func (.func g) #[] cap.toArray),(7,.int .i64 l.length),(8,.int .i64 k)])
  l.length [(0,.slice a l.length c),(1,.func (.func g) #[] cap.toArray),(7,.int .i64 l.length),(8,.int .i64 (0 : Nat))] _ (by repeat (first | exact uU _ | refine uV rfl ?_)) (by repeat (first | exact qR _ | apply qK | apply qC)) ⟨0,by omega,by omega,(fun i e hi=>absurd hi (by omega)),rfl,rfl⟩ ?_
 rintro _ _ H2 ⟨k,rfl,hk,hn,hH,rfl⟩
 subst hH
 repeat' (first | (refine uP rfl ?_;(first | ((first | refine uN rfl ?_);(first | (refine uE (uM rfl rfl) rfl rfl ?_)|(refine uE (uA rfl rfl) rfl rfl ?_)|(refine uE (uQ rfl rfl rfl rfl) rfl rfl ?_)|(refine uE (uF rfl rfl (te rfl) rfl (te rfl) (by decide)) rfl rfl ?_)|(refine uE (uY rfl rfl (te rfl)) rfl rfl ?_)|(refine uE (uL rfl rfl (uO (te rfl) rfl (qH _) rfl)) rfl rfl ?_)|(refine Xg.st (StF.boxAgg rfl rfl) rfl rfl ?_;rintro _ _ ⟨bx,rfl,rfl⟩)))))|(refine uD rfl ?_;refine hK _ _ ?_;clear hK K) | refine uS rfl ?_ | refine uR rfl (fun K hK=>?_) | refine X.block rfl ?_ | (refine X.brk rfl ?_;repeat (first | refine blockX_hit rfl ?_ | refine blockX_miss (by decide) ?_)) | refine X.skip rfl ?_ | refine X.ret rfl ?_ | (refine X.ite rfl rfl (fun hc=>?_);(first | (with_reducible refine Xb.case hc (fun h=>?_) (fun h=>?_))) <;> clear hc))
 ·obtain ⟨b,off,e,rfl,he⟩:=hl.elem (i:=k) (by omega)
  repeat' (first | (refine uP rfl ?_;(first | ((first | refine uN rfl ?_);(first | (refine uE (uL rfl rfl (LoadV.elA0 hl he (te rfl) rfl (fun _ hm=>hm) rfl)) rfl rfl ?_)|(refine uC (EnF.dyn0 rfl rfl (by (repeat (first | exact Args.nil | refine Args.cons rfl ?_));done)) rfl rfl (hf e (List.mem_of_getElem? he)) ?_;rintro _ H9 ⟨rfl,hH9⟩;subst H9)|(refine uE (uM rfl rfl) rfl rfl ?_)|(refine uE (uA rfl rfl) rfl rfl ?_)|(refine uE (EvF.add64 rfl rfl rfl (by omega) (by omega)) rfl rfl ?_)|(refine uE (uJ rfl rfl rfl (te rfl) (te rfl) (by omega) (by omega)) rfl rfl ?_)))))|(refine uD rfl ?_;refine hK _ _ ?_;clear hK K) | refine uS rfl ?_ | refine uR rfl (fun K hK=>?_) | refine X.skip rfl ?_ | refine X.ret rfl ?_ | (refine X.ite rfl rfl (fun hc=>?_);(first | (with_reducible refine Xb.caseB hc (fun h=>?_) (fun h=>?_))) <;> clear hc))
  ·refine ret_one (by simp) Try.results139 rfl (H' := H) (by (repeat (first | exact qR _ | apply qC));done) ?_;simp only [and_true,true_and]
   exact ⟨_,rfl,.inr ⟨k,e,rfl,he,by assumption,hn⟩⟩
  ·refine ⟨_,_,_,(by repeat (first | exact uU _ | refine uV rfl ?_)),(by repeat (first | exact qR _ | apply qK | apply qC)),⟨k + 1,rfl,by omega,(fun i e' hi he' => ?_),rfl,rfl⟩,by omega⟩
   rcases Nat.lt_or_ge i k with h1 | h1
   ·exact hn i e' h1 he'
   ·obtain rfl : i = k:=by omega
    rw [he] at he';cases he';assumption
 ·refine ret_one (by simp) Try.results139 rfl (H' := H) (by (repeat (first | exact qR _ | apply qC));done) ?_;simp only [and_true,true_and]
  refine ⟨_,rfl,.inl ⟨rfl,fun e he=>?_⟩⟩
  obtain ⟨i,hi,rfl⟩:=List.mem_iff_getElem.1 he
  exact hn i _ (by omega) (List.getElem?_eq_getElem hi)
theorem IdxR.ge {α : Type} {p : α → Bool} {l : List α} {z : Int} (h : IdxR p l z) : z ≥ 0 ↔ ∃ e ∈ l,p e = true:=by
 rcases h with ⟨rfl,h⟩ | ⟨k,e,rfl,he,hp,_⟩
 ·exact ⟨fun q=>absurd q (by decide),fun ⟨e,he,hp⟩=>by rw [h e he] at hp;cases hp⟩
 ·exact ⟨fun _=>⟨e,List.mem_of_getElem? he,hp⟩,fun _=>by omega⟩
theorem indexI_spec (l : List Int) (a : Option Addr) (c : Nat) (x : Int) (H : List Row) (hl : SlE H a cI 1 l) (hb : l.length ≤ 9223372036854775807) :
  Fc Try.prog 125 [.slice a l.length c,.int .i64 x] H (fun v H' => (∃ z,v = .int .i64 z∧IdxR (fun n=>decide (x = n)) l z)∧H' = H):=by
 refine Fc.mk (callable Try.call125) Try.func125 rfl Try.ntmps125 rfl ?_;dsimp only [fr]
 repeat' (first | (refine uP rfl ?_;(first | ((first | refine uN rfl ?_);(first | (refine uE (uM rfl rfl) rfl rfl ?_)|(refine uE (uA rfl rfl) rfl rfl ?_)|(refine uE (uQ rfl rfl rfl rfl) rfl rfl ?_)|(refine uE (uY rfl rfl (te rfl)) rfl rfl ?_)))))|(refine uD rfl ?_;refine hK _ _ ?_;clear hK K) | refine uS rfl ?_ | refine uR rfl (fun K hK=>?_) | refine X.block rfl ?_ | (refine X.brk rfl ?_;repeat (first | refine blockX_hit rfl ?_ | refine blockX_miss (by decide) ?_)) | refine X.skip rfl ?_ | refine X.ret rfl ?_ | (refine X.ite rfl rfl (fun hc=>?_);(first | (with_reducible refine Xb.case hc (fun h=>?_) (fun h=>?_))) <;> clear hc))
 refine X.lp rfl (fun q F' H' => ∃ k : Nat,q = l.length - k∧k ≤ l.length∧(∀ i e,i < k → l[i]? = some e → x ≠ e)∧H = H' ∧
   F' = [(0,.slice a l.length c),(1,.int .i64 x),(7,.int .i64 l.length),(8,.int .i64 k)])
  l.length [(0,.slice a l.length c),(1,.int .i64 x),(7,.int .i64 l.length),(8,.int .i64 (0 : Nat))] _ (by repeat (first | exact uU _ | refine uV rfl ?_)) (by repeat (first | exact qR _ | apply qK | apply qC)) ⟨0,by omega,by omega,(fun i e hi=>absurd hi (by omega)),rfl,rfl⟩ ?_
 rintro _ _ H2 ⟨k,rfl,hk,hn,hH,rfl⟩
 subst hH
 repeat' (first | (refine uP rfl ?_;(first | ((first | refine uN rfl ?_);(first | (refine uE (uM rfl rfl) rfl rfl ?_)|(refine uE (uA rfl rfl) rfl rfl ?_)|(refine uE (uQ rfl rfl rfl rfl) rfl rfl ?_)|(refine uE (uY rfl rfl (te rfl)) rfl rfl ?_)))))|(refine uD rfl ?_;refine hK _ _ ?_;clear hK K) | refine uS rfl ?_ | refine uR rfl (fun K hK=>?_) | refine X.block rfl ?_ | (refine X.brk rfl ?_;repeat (first | refine blockX_hit rfl ?_ | refine blockX_miss (by decide) ?_)) | refine X.skip rfl ?_ | refine X.ret rfl ?_ | (refine X.ite rfl rfl (fun hc=>?_);(first | (with_reducible refine Xb.case hc (fun h=>?_) (fun h=>?_))) <;> clear hc))
 ·obtain ⟨b,off,e,rfl,he⟩:=hl.elem (i:=k) (by omega)
  repeat' (first | (refine uP rfl ?_;(first | ((first | refine uN rfl ?_);(first | (refine uE (uL rfl rfl (LoadV.el0 hl he (te rfl) rfl (fun _ hm=>hm) rfl)) rfl rfl ?_)|(refine uE (uM rfl rfl) rfl rfl ?_)|(refine uE (uA rfl rfl) rfl rfl ?_)|(refine uE (uQ rfl rfl rfl rfl) rfl rfl ?_)|(refine uE (EvF.add64 rfl rfl rfl (by omega) (by omega)) rfl rfl ?_)|(refine uE (uJ rfl rfl rfl (te rfl) (te rfl) (by omega) (by omega)) rfl rfl ?_)))))|(refine uD rfl ?_;refine hK _ _ ?_;clear hK K) | refine uS rfl ?_ | refine uR rfl (fun K hK=>?_) | refine X.skip rfl ?_ | refine X.ret rfl ?_ | (refine X.ite rfl rfl (fun hc=>?_);(first | (with_reducible refine Xb.case hc (fun h=>?_) (fun h=>?_))) <;> clear hc))
  ·refine ret_one (by simp) Try.results125 rfl (H' := H) (by (repeat (first | exact qR _ | apply qC));done) ?_;simp only [and_true,true_and]
   refine ⟨_,rfl,.inr ⟨k,e,rfl,he,decide_eq_true (by assumption),fun i e hi he=>decide_eq_false (hn i e hi he)⟩⟩
  ·refine ⟨_,_,_,(by repeat (first | exact uU _ | refine uV rfl ?_)),(by repeat (first | exact qR _ | apply qK | apply qC)),⟨k + 1,rfl,by omega,(fun i e' hi he' => ?_),rfl,rfl⟩,by omega⟩
   rcases Nat.lt_or_ge i k with h1 | h1
   ·exact hn i e' h1 he'
   ·obtain rfl : i = k:=by omega
    rw [he] at he';cases he';assumption
 ·refine ret_one (by simp) Try.results125 rfl (H' := H) (by (repeat (first | exact qR _ | apply qC));done) ?_;simp only [and_true,true_and]
  refine ⟨_,rfl,.inl ⟨rfl,fun e he=>?_⟩⟩
  obtain ⟨i,hi,rfl⟩:=List.mem_iff_getElem.1 he
  exact decide_eq_false (hn i _ (by omega) (List.getElem?_eq_getElem hi))
theorem contains_spec (l : List Int) (a : Option Addr) (c : Nat) (x : Int) (H : List Row) (hl : SlE H a cI 1 l) (hb : l.length ≤ 9223372036854775807) :
  Fc Try.prog 94 [.slice a l.length c,.int .i64 x] H (fun v H' => v = .bool (decide (x ∈ l))∧H' = H):=by
 refine Fc.mk (callable Try.call94) Try.func94 rfl Try.ntmps94 rfl ?_;dsimp only [fr]
 repeat' (first | (refine uP rfl ?_;(first | ((first | refine uN rfl ?_);(first | (refine uC (uT rfl (by (repeat (first | exact Args.nil | refine Args.cons rfl ?_));done)) rfl rfl (indexI_spec l a c x H hl hb) ?_;rintro _ H9 ⟨⟨z,rfl,hz⟩,hH9⟩;subst H9)|(refine uE (uM rfl rfl) rfl rfl ?_)|(refine uE (uA rfl rfl) rfl rfl ?_)|(refine uE (uQ rfl rfl rfl rfl) rfl rfl ?_)))))|(refine uD rfl ?_;refine hK _ _ ?_;clear hK K) | refine uS rfl ?_ | refine uR rfl (fun K hK=>?_) | refine X.ret rfl ?_)
 refine ret_one (by simp) Try.results94 rfl (H' := H) (by (repeat (first | exact qR _ | apply qC));done) ?_;simp only [and_true,true_and]
 congr 1
 refine decide_eq_decide.2 (hz.ge.trans ⟨fun ⟨e,he,hp⟩=>?_,fun h=>⟨x,h,by simp⟩⟩)
 have:=of_decide_eq_true hp
 subst this;exact he
theorem containsFunc_spec (l : List Bx) (a : Option Addr) (c g : Nat) (p : Bx → Bool) (cap : List Value) (H : List Row) (hl : SlE H a cBx 2 l) (hb : l.length ≤ 9223372036854775807) (hf : ∀ e ∈ l,Fc Try.prog g ([.agg (cBx e).toArray]++cap) H (fun v H' => v = .bool (p e)∧H' = H)) :
  Fc Try.prog 134 [.slice a l.length c,.func (.func g) #[] cap.toArray] H (fun v H' => v = .bool (decide (∃ e ∈ l,p e = true))∧H' = H):=by
 refine Fc.mk (callable Try.call134) Try.func134 rfl Try.ntmps134 rfl ?_;dsimp only [fr]
 repeat' (first | (refine uP rfl ?_;(first | ((first | refine uN rfl ?_);(first | (refine uC (uT rfl (by (repeat (first | exact Args.nil | refine Args.cons rfl ?_));done)) rfl rfl (indexFunc_specBx l a c g p cap H hl hb hf) ?_;rintro _ H9 ⟨⟨z,rfl,hz⟩,hH9⟩;subst H9)|(refine uE (uM rfl rfl) rfl rfl ?_)|(refine uE (uA rfl rfl) rfl rfl ?_)|(refine uE (uQ rfl rfl rfl rfl) rfl rfl ?_)))))|(refine uD rfl ?_;refine hK _ _ ?_;clear hK K) | refine uS rfl ?_ | refine uR rfl (fun K hK=>?_) | refine X.ret rfl ?_)
 refine ret_one (by simp) Try.results134 rfl (H' := H) (by (repeat (first | exact qR _ | apply qC));done) ?_;simp only [and_true,true_and]
 congr 1
 exact decide_eq_decide.2 hz.ge
theorem areThere1_spec (b : Bx) (m : Int) (bm bq : Nat) (l : List Int) (a a' : Option Addr) (n' c c' : Nat) (ow ow' : Option Kd) (cap cap' : Nat) (H : List Row) (hm : ⟨bm,0,[.int .i64 m],ow,cap⟩ ∈ H) (hq : ⟨bq,0,[.slice a l.length c,.slice a' n' c'],ow',cap'⟩ ∈ H) (hl : SlE H a cI 1 l) (hb : l.length ≤ 9223372036854775807) :
  Fc Try.prog 133 ([.agg (cBx b).toArray]++[.pointer (some ⟨bm,0,none⟩),.pointer (some ⟨bq,0,none⟩)]) H (fun v H' => v = .bool (decide (b.made > m∧b.id ∈ l))∧H' = H):=by
 show Fc Try.prog 133 [.agg (cBx b).toArray,.pointer (some ⟨bm,0,none⟩),.pointer (some ⟨bq,0,none⟩)] H _
 refine Fc.mk (callable Try.call133) Try.func133 rfl Try.ntmps133 rfl ?_;dsimp only [fr]
 repeat' (first | (refine uP rfl ?_;(first | ((first | refine uN rfl ?_ | (refine Xo.g rfl rfl ?_;with_reducible refine Xw.tt ?_));(first | (refine uE (uL rfl rfl (uO (te rfl) rfl (List.mem_cons_of_mem _ hm) rfl)) rfl rfl ?_)|(refine uE (uL rfl rfl (uO (te rfl) rfl (List.mem_cons_of_mem _ hq) rfl)) rfl rfl ?_)|(refine uC (uT rfl (by (repeat (first | exact Args.nil | refine Args.cons rfl ?_));done)) rfl rfl (contains_spec l a c _ _ (hl.sub (fun _ h=>List.mem_cons_of_mem _ h)) hb) ?_;rintro _ H9 ⟨rfl,hH9⟩;subst H9)|(refine uE (uM rfl rfl) rfl rfl ?_)|(refine uE (uA rfl rfl) rfl rfl ?_)|(refine uE (EvF.pickT rfl rfl rfl) rfl rfl ?_)|(refine uE (EvF.pickF rfl rfl rfl) rfl rfl ?_)|(refine uE (uQ rfl rfl rfl rfl) rfl rfl ?_)|(refine uE (uF rfl rfl (te rfl) rfl (te rfl) (by decide)) rfl rfl ?_)|(refine uE (uL rfl rfl (uO (te rfl) rfl (qH _) rfl)) rfl rfl ?_)|(refine Xg.st (StF.boxAgg rfl rfl) rfl rfl ?_;rintro _ _ ⟨bx,rfl,rfl⟩)))|(refine Xo.g rfl rfl ?_;(first | (with_reducible refine Xw.ft rfl rfl ?_)|(with_reducible refine Xw.case (fun h=>?_) (fun h=>?_) <;> simp only [h,decide_true,decide_false,Bool.not_true,Bool.not_false,and_self,and_true,true_and,and_false,false_and])))))|(refine uD rfl ?_;refine hK _ _ ?_;clear hK K) | refine uS rfl ?_ | refine uR rfl (fun K hK=>?_) | refine X.ret rfl ?_)
 all_goals (refine ret_one (by simp) Try.results133 rfl (H' := H) (by (repeat (first | exact qR _ | apply qC));done) ?_;simp only [and_true,true_and])
 all_goals (congr 1;simp [*])
theorem clone_specMt (l : List Mt) (ad : Addr) (c : Nat) (H : List Row) (hl : SlE H (some ad) cMt 6 l) (hb : l.length ≤ 1000000) :
  Fc Try.prog 124 [.slice (some ad) l.length c] H (fun v H' => ∃ b k,v = .slice (some ⟨b,0,none⟩) l.length k∧H' = ⟨b,0,l.flatMap cMt,some 111,k * 6⟩::H):=by
 refine Fc.mk (callable Try.call124) Try.func124 rfl Try.ntmps124 rfl ?_;dsimp only [fr]
 repeat' (first | (refine uP rfl ?_;(first | ((first | refine uN rfl ?_);(first | (refine uE (EvF.eqNil rfl rfl (te rfl)) rfl rfl ?_)|(refine Xg.st (StF.buildNil rfl el24) rfl rfl ?_;rintro _ _ ⟨bn,rfl,rfl⟩)|(refine Xg.st (StF.appendSl (i:=0) rfl el24 rfl rfl rfl (hl.sub (fun _ h=>List.mem_cons_of_mem _ h)) (fun e _=>one_mt e) rfl (by decide) (by omega)) rfl rfl ?_;rintro _ _ ⟨b,k,rfl,rfl⟩;dsimp only [List.eraseIdx])|(refine uE (uM rfl rfl) rfl rfl ?_)|(refine uE (uA rfl rfl) rfl rfl ?_)))))|(refine uD rfl ?_;refine hK _ _ ?_;clear hK K) | refine uS rfl ?_ | refine uR rfl (fun K hK=>?_) | refine X.skip rfl ?_ | refine X.ret rfl ?_ | (refine X.ite rfl rfl (fun hc=>?_);(first | (with_reducible refine Xb.f hc ?_)) <;> clear hc))
 exact ret_one (by simp) Try.results124 rfl (H' := _) (qR _) ⟨_,_,by rw [Nat.zero_add],rfl⟩
theorem clone_specInt (l : List Int) (ad : Addr) (c : Nat) (H : List Row) (hl : SlE H (some ad) cI 1 l) (hb : l.length ≤ 1000000) :
  Fc Try.prog 79 [.slice (some ad) l.length c] H (fun v H' => ∃ b k,v = .slice (some ⟨b,0,none⟩) l.length k∧H' = ⟨b,0,l.flatMap cI,some 3,k * 1⟩::H):=by
 refine Fc.mk (callable Try.call79) Try.func79 rfl Try.ntmps79 rfl ?_;dsimp only [fr]
 repeat' (first | (refine uP rfl ?_;(first | ((first | refine uN rfl ?_);(first | (refine uE (EvF.eqNil rfl rfl (te rfl)) rfl rfl ?_)|(refine Xg.st (StF.buildNil rfl el55) rfl rfl ?_;rintro _ _ ⟨bn,rfl,rfl⟩)|(refine Xg.st (StF.appendSl (i:=0) rfl el55 rfl rfl rfl (hl.sub (fun _ h=>List.mem_cons_of_mem _ h)) (fun e _=>one_i e) rfl (by decide) (by omega)) rfl rfl ?_;rintro _ _ ⟨b,k,rfl,rfl⟩;dsimp only [List.eraseIdx])|(refine uE (uM rfl rfl) rfl rfl ?_)|(refine uE (uA rfl rfl) rfl rfl ?_)))))|(refine uD rfl ?_;refine hK _ _ ?_;clear hK K) | refine uS rfl ?_ | refine uR rfl (fun K hK=>?_) | refine X.skip rfl ?_ | refine X.ret rfl ?_ | (refine X.ite rfl rfl (fun hc=>?_);(first | (with_reducible refine Xb.f hc ?_)) <;> clear hc))
 exact ret_one (by simp) Try.results79 rfl (H' := _) (qR _) ⟨_,_,by rw [Nat.zero_add],rfl⟩
theorem indexFunc_specI (l : List Int) (a : Option Addr) (c g : Nat) (p : Int → Bool) (cap : List Value) (H : List Row) (hl : SlE H a cI 1 l) (hb : l.length ≤ 9223372036854775807) (hf : ∀ e ∈ l,Fc Try.prog g ([.int .i64 e]++cap) H (fun v H' => v = .bool (p e)∧H' = H)) :
  Fc Try.prog 118 [.slice a l.length c,.func (.func g) #[] cap.toArray] H (fun v H' => (∃ z,v = .int .i64 z∧IdxR p l z)∧H' = H):=by
 refine Fc.mk (callable Try.call118) Try.func118 rfl Try.ntmps118 rfl ?_;dsimp only [fr]
 repeat' (first | (refine uP rfl ?_;(first | ((first | refine uN rfl ?_);(first | (refine uE (uM rfl rfl) rfl rfl ?_)|(refine uE (uA rfl rfl) rfl rfl ?_)|(refine uE (uQ rfl rfl rfl rfl) rfl rfl ?_)|(refine uE (uY rfl rfl (te rfl)) rfl rfl ?_)))))|(refine uD rfl ?_;refine hK _ _ ?_;clear hK K) | refine uS rfl ?_ | refine uR rfl (fun K hK=>?_) | refine X.block rfl ?_ | (refine X.brk rfl ?_;repeat (first | refine blockX_hit rfl ?_ | refine blockX_miss (by decide) ?_)) | refine X.skip rfl ?_ | refine X.ret rfl ?_ | (refine X.ite rfl rfl (fun hc=>?_);(first | (with_reducible refine Xb.case hc (fun h=>?_) (fun h=>?_))) <;> clear hc))
 refine X.lp rfl (fun q F' H' => ∃ k : Nat,q = l.length - k∧k ≤ l.length∧(∀ i e,i < k → l[i]? = some e → p e = false)∧H = H' ∧
   F' = [(0,.slice a l.length c),(1,.func (.func g) #[] cap.toArray),(7,.int .i64 l.length),(8,.int .i64 k)])
  l.length [(0,.slice a l.length c),(1,.func (.func g) #[] cap.toArray),(7,.int .i64 l.length),(8,.int .i64 (0 : Nat))] _ (by repeat (first | exact uU _ | refine uV rfl ?_)) (by repeat (first | exact qR _ | apply qK | apply qC)) ⟨0,by omega,by omega,(fun i e hi=>absurd hi (by omega)),rfl,rfl⟩ ?_
 rintro _ _ H2 ⟨k,rfl,hk,hn,hH,rfl⟩
 subst hH
 repeat' (first | (refine uP rfl ?_;(first | ((first | refine uN rfl ?_);(first | (refine uE (uM rfl rfl) rfl rfl ?_)|(refine uE (uA rfl rfl) rfl rfl ?_)|(refine uE (uQ rfl rfl rfl rfl) rfl rfl ?_)|(refine uE (uY rfl rfl (te rfl)) rfl rfl ?_)))))|(refine uD rfl ?_;refine hK _ _ ?_;clear hK K) | refine uS rfl ?_ | refine uR rfl (fun K hK=>?_) | refine X.block rfl ?_ | (refine X.brk rfl ?_;repeat (first | refine blockX_hit rfl ?_ | refine blockX_miss (by decide) ?_)) | refine X.skip rfl ?_ | refine X.ret rfl ?_ | (refine X.ite rfl rfl (fun hc=>?_);(first | (with_reducible refine Xb.case hc (fun h=>?_) (fun h=>?_))) <;> clear hc))
 ·obtain ⟨b,off,e,rfl,he⟩:=hl.elem (i:=k) (by omega)
  repeat' (first | (refine uP rfl ?_;(first | ((first | refine uN rfl ?_);(first | (refine uE (uL rfl rfl (LoadV.el0 hl he (te rfl) rfl (fun _ hm=>hm) rfl)) rfl rfl ?_)|(refine uC (EnF.dyn0 rfl rfl (by (repeat (first | exact Args.nil | refine Args.cons rfl ?_));done)) rfl rfl (hf e (List.mem_of_getElem? he)) ?_;rintro _ H9 ⟨rfl,hH9⟩;subst H9)|(refine uE (uM rfl rfl) rfl rfl ?_)|(refine uE (uA rfl rfl) rfl rfl ?_)|(refine uE (EvF.add64 rfl rfl rfl (by omega) (by omega)) rfl rfl ?_)|(refine uE (uJ rfl rfl rfl (te rfl) (te rfl) (by omega) (by omega)) rfl rfl ?_)))))|(refine uD rfl ?_;refine hK _ _ ?_;clear hK K) | refine uS rfl ?_ | refine uR rfl (fun K hK=>?_) | refine X.skip rfl ?_ | refine X.ret rfl ?_ | (refine X.ite rfl rfl (fun hc=>?_);(first | (with_reducible refine Xb.caseB hc (fun h=>?_) (fun h=>?_))) <;> clear hc))
  ·refine ret_one (by simp) Try.results118 rfl (H' := H) (by (repeat (first | exact qR _ | apply qC));done) ?_;simp only [and_true,true_and]
   exact ⟨_,rfl,.inr ⟨k,e,rfl,he,by assumption,hn⟩⟩
  ·refine ⟨_,_,_,(by repeat (first | exact uU _ | refine uV rfl ?_)),(by repeat (first | exact qR _ | apply qK | apply qC)),⟨k + 1,rfl,by omega,(fun i e' hi he' => ?_),rfl,rfl⟩,by omega⟩
   rcases Nat.lt_or_ge i k with h1 | h1
   ·exact hn i e' h1 he'
   ·obtain rfl : i = k:=by omega
    rw [he] at he';cases he';assumption
 ·refine ret_one (by simp) Try.results118 rfl (H' := H) (by (repeat (first | exact qR _ | apply qC));done) ?_;simp only [and_true,true_and]
  refine ⟨_,rfl,.inl ⟨rfl,fun e he=>?_⟩⟩
  obtain ⟨i,hi,rfl⟩:=List.mem_iff_getElem.1 he
  exact hn i _ (by omega) (List.getElem?_eq_getElem hi)
theorem containsFunc_specI (l : List Int) (a : Option Addr) (c g : Nat) (p : Int → Bool) (cap : List Value) (H : List Row) (hl : SlE H a cI 1 l) (hb : l.length ≤ 9223372036854775807) (hf : ∀ e ∈ l,Fc Try.prog g ([.int .i64 e]++cap) H (fun v H' => v = .bool (p e)∧H' = H)) :
  Fc Try.prog 76 [.slice a l.length c,.func (.func g) #[] cap.toArray] H (fun v H' => v = .bool (decide (∃ e ∈ l,p e = true))∧H' = H):=by
 refine Fc.mk (callable Try.call76) Try.func76 rfl Try.ntmps76 rfl ?_;dsimp only [fr]
 repeat' (first | (refine uP rfl ?_;(first | ((first | refine uN rfl ?_);(first | (refine uC (uT rfl (by (repeat (first | exact Args.nil | refine Args.cons rfl ?_));done)) rfl rfl (indexFunc_specI l a c g p cap H hl hb hf) ?_;rintro _ H9 ⟨⟨z,rfl,hz⟩,hH9⟩;subst H9)|(refine uE (uM rfl rfl) rfl rfl ?_)|(refine uE (uA rfl rfl) rfl rfl ?_)|(refine uE (uQ rfl rfl rfl rfl) rfl rfl ?_)))))|(refine uD rfl ?_;refine hK _ _ ?_;clear hK K) | refine uS rfl ?_ | refine uR rfl (fun K hK=>?_) | refine X.ret rfl ?_)
 refine ret_one (by simp) Try.results76 rfl (H' := H) (by (repeat (first | exact qR _ | apply qC));done) ?_;simp only [and_true,true_and]
 congr 1
 exact decide_eq_decide.2 hz.ge
theorem among1_spec (l : List Int) (a : Option Addr) (c : Nat) (n : Int) (b : Nat) (ow : Option Kd) (cap : Nat) (H : List Row) (hm : ⟨b,0,[.slice a l.length c],ow,cap⟩ ∈ H) (hl : SlE H a cI 1 l) (hb : l.length ≤ 9223372036854775807) :
  Fc Try.prog 138 ([.int .i64 n]++[.pointer (some ⟨b,0,none⟩)]) H (fun v H' => v = .bool (!decide (n ∈ l))∧H' = H):=by
 show Fc Try.prog 138 [.int .i64 n,.pointer (some ⟨b,0,none⟩)] H _
 refine Fc.mk (callable Try.call138) Try.func138 rfl Try.ntmps138 rfl ?_;dsimp only [fr]
 repeat' (first | (refine uP rfl ?_;(first | ((first | refine uN rfl ?_);(first | (refine uE (uL rfl rfl (uO (te rfl) rfl hm rfl)) rfl rfl ?_)|(refine uC (uT rfl (by (repeat (first | exact Args.nil | refine Args.cons rfl ?_));done)) rfl rfl (contains_spec l a c n _ hl hb) ?_;rintro _ H9 ⟨rfl,hH9⟩;subst H9)|(refine uE (uM rfl rfl) rfl rfl ?_)|(refine uE (uA rfl rfl) rfl rfl ?_)|(refine uE (EvF.not rfl rfl) rfl rfl ?_)))))|(refine uD rfl ?_;refine hK _ _ ?_;clear hK K) | refine uS rfl ?_ | refine uR rfl (fun K hK=>?_) | refine X.ret rfl ?_)
 refine ret_one (by simp) Try.results138 rfl (H' := H) (by (repeat (first | exact qR _ | apply qC));done) ?_;simp only [and_true,true_and]
theorem among_spec (L l : List Int) (a a' : Option Addr) (c c' : Nat) (H : List Row) (hL : SlE H a cI 1 L) (hl : SlE H a' cI 1 l) (hb : L.length ≤ 9223372036854775807) (hb' : l.length ≤ 9223372036854775807) :
  Fc Try.prog 132 [.slice a L.length c,.slice a' l.length c'] H (fun v H' => v = .bool (decide (∀ n ∈ l,n ∈ L))∧H' = H):=by
 refine Fc.mk (callable Try.call132) Try.func132 rfl Try.ntmps132 rfl ?_;dsimp only [fr]
 repeat' (first | (refine uP rfl ?_;(first | ((first | refine uN rfl ?_);(first | (refine uE (EvF.makeFunc (fl:=[]) rfl Args.nil (Args.cons rfl Args.nil)) rfl rfl ?_)|(refine uC (uT rfl (by (repeat (first | exact Args.nil | refine Args.cons rfl ?_));done)) rfl rfl (containsFunc_specI l a' c' 138 (fun n => !decide (n ∈ L)) [_] _ (hl.sub (fun _ h=>by repeat (first | exact h | apply qT))) hb' (fun e _=>among1_spec L a c e _ _ _ _ (qH _) (hL.sub (fun _ h=>by repeat (first | exact h | apply qT))) hb)) ?_;rintro _ H9 ⟨rfl,hH9⟩;subst H9)|(refine uE (uM rfl rfl) rfl rfl ?_)|(refine uE (uA rfl rfl) rfl rfl ?_)|(refine uE (EvF.not rfl rfl) rfl rfl ?_)|(refine Xg.st (StF.boxOne rfl rfl rfl) rfl rfl ?_;rintro _ _ ⟨bx,rfl,rfl⟩)))))|(refine uD rfl ?_;refine hK _ _ ?_;clear hK K) | refine uS rfl ?_ | refine uR rfl (fun K hK=>?_) | refine X.ret rfl ?_)
 refine ret_one (by simp) Try.results132 rfl (H' := H) (by (repeat (first | exact qR _ | apply qC));done) ?_;simp only [and_true,true_and]
 congr 1
 cases hq : decide (∃ e ∈ l,(!decide (e ∈ L)) = true)
 ·symm
  refine decide_eq_true (fun n hn=>?_)
  have:=of_decide_eq_false hq
  by_cases h : n ∈ L
  ·exact h
  ·exact absurd ⟨n,hn,by rw [decide_eq_false h];rfl⟩ this
 ·symm
  refine decide_eq_false (fun h=>?_)
  obtain ⟨e,he,h2⟩:=of_decide_eq_true hq
  rw [decide_eq_true (h e he)] at h2
  cases h2
theorem numbersO_specMt (g : Nat) (f : Mt → Int) (hg : ∀ e H,Fc Try.prog g ([.agg (cMt e).toArray]++[]) H (fun v H' => v = .int .i64 (f e)∧H' = H)) (l : List Mt) (a : Option Addr) (c : Nat) (H : List Row) (hl : SlE H a cMt 6 l) (hb : l.length ≤ 1000000) :
  Fc Try.prog 83 [.slice a l.length c,.func (.func g) #[] #[]] H (fun v H' => (l = []∧v = .slice none 0 0∧H' = H) ∨ ∃ b q,l ≠ []∧v = .slice (some ⟨b,0,none⟩) (l.map f).length q∧H' = ⟨b,0,(l.map f).flatMap cI,some 3,q * 1⟩::H):=by
 refine Fc.mk (callable Try.call83) Try.func83 rfl Try.ntmps83 rfl ?_;dsimp only [fr]
 repeat' (first | (refine uP rfl ?_;(first | ((first | refine uN rfl ?_);(first | (refine uE (uM rfl rfl) rfl rfl ?_)|(refine uE (uA rfl rfl) rfl rfl ?_)|(refine uE (uQ rfl rfl rfl rfl) rfl rfl ?_)|(refine uE (uY rfl rfl (te rfl)) rfl rfl ?_)))))|(refine uD rfl ?_;refine hK _ _ ?_;clear hK K) | refine uS rfl ?_ | refine uR rfl (fun K hK=>?_) | refine X.block rfl ?_ | (refine X.brk rfl ?_;repeat (first | refine blockX_hit rfl ?_ | refine blockX_miss (by decide) ?_)) | refine X.skip rfl ?_ | refine X.ret rfl ?_ | (refine X.ite rfl rfl (fun hc=>?_);(first | (with_reducible refine Xb.case hc (fun h=>?_) (fun h=>?_))) <;> clear hc))
 refine X.lp rfl (fun q F' H' => ∃ (k : Nat) (out : Value) (Z : List Row),q = l.length - k∧k ≤ l.length∧((k = 0∧out = .slice none 0 0∧Z = []) ∨ ∃ b q,0 < k∧out = .slice (some ⟨b,0,none⟩) k q∧Z = [⟨b,0,((l.take k).map f).flatMap cI,some 3,q * 1⟩])∧Z++H = H' ∧
   F' = [(1,.func (.func g) #[] #[]),(5,out),(8,.slice a l.length c),(9,.int .i64 l.length),(10,.int .i64 k)])
  l.length [(1,.func (.func g) #[] #[]),(5,.slice none 0 0),(8,.slice a l.length c),(9,.int .i64 l.length),(10,.int .i64 (0 : Nat))] _ (by repeat (first | exact uU _ | refine uV rfl ?_)) (by repeat (first | exact qR _ | apply qK | apply qC)) ⟨0,_,[],by omega,by omega,.inl ⟨rfl,rfl,rfl⟩,rfl,rfl⟩ ?_
 rintro _ _ H2 ⟨k,out,Z,rfl,hk,⟨rfl,rfl,rfl⟩ | ⟨b0,q0,hk0,rfl,rfl⟩,hH,rfl⟩
 ·rw [List.nil_append] at hH
  subst hH
  repeat' (first | (refine uP rfl ?_;(first | ((first | refine uN rfl ?_);(first | (refine uE (uM rfl rfl) rfl rfl ?_)|(refine uE (uA rfl rfl) rfl rfl ?_)|(refine uE (uQ rfl rfl rfl rfl) rfl rfl ?_)|(refine uE (uY rfl rfl (te rfl)) rfl rfl ?_)))))|(refine uD rfl ?_;refine hK _ _ ?_;clear hK K) | refine uS rfl ?_ | refine uR rfl (fun K hK=>?_) | refine X.block rfl ?_ | (refine X.brk rfl ?_;repeat (first | refine blockX_hit rfl ?_ | refine blockX_miss (by decide) ?_)) | refine X.skip rfl ?_ | refine X.ret rfl ?_ | (refine X.ite rfl rfl (fun hc=>?_);(first | (with_reducible refine Xb.case hc (fun h=>?_) (fun h=>?_))) <;> clear hc))
  ·obtain ⟨b,off,e,rfl,he⟩:=hl.elem (i:=0) (by omega)
   repeat' (first | (refine uP rfl ?_;(first | ((first | refine uN rfl ?_);(first | (refine uE (uL rfl rfl (LoadV.elA0 hl he (te rfl) rfl (fun _ hm=>hm) rfl)) rfl rfl ?_)|(refine uC (EnF.dyn0 rfl rfl (by (repeat (first | exact Args.nil | refine Args.cons rfl ?_));done)) rfl rfl (hg _ _) ?_;rintro _ H9 ⟨rfl,hH9⟩;subst H9)|(refine Xg.st (StF.buildOne rfl el55 rfl rfl rfl (by decide) (by decide)) rfl rfl ?_;rintro _ _ ⟨bs,rfl,rfl⟩)|(refine Xg.st (StF.appendNew rfl el55 rfl rfl (by decide) rfl (Rd.own (qH _)) (by decide)) rfl rfl ?_;rintro _ _ ⟨bn,kn,rfl,rfl⟩)|(refine uE (uM rfl rfl) rfl rfl ?_)|(refine uE (uA rfl rfl) rfl rfl ?_)|(refine uE (EvF.add64 rfl rfl rfl (by omega) (by omega)) rfl rfl ?_)|(refine uE (uJ rfl rfl rfl (te rfl) (te rfl) (by omega) (by omega)) rfl rfl ?_)|(refine uE (uL rfl rfl (uW (te rfl) rfl (qH _) rfl)) rfl rfl ?_)|(refine Xg.st (StF.alloc rfl Try.zeroValue111 rfl) rfl rfl ?_;rintro _ _ ⟨bx,rfl,rfl⟩)|(refine Xg.st0 (uZ (i:=0) rfl rfl rfl (te rfl) rfl rfl rfl rfl) rfl ?_;rintro _ _ ⟨rfl,rfl⟩;dsimp only [List.set])))))|(refine uD rfl ?_;refine hK _ _ ?_;clear hK K) | refine uR rfl (fun K hK=>?_))
   refine ⟨_,_,_,(by repeat (first | exact uU _ | refine uV rfl ?_)),?_,⟨0 + 1,_,[⟨bn,0,((l.take (0 + 1)).map f).flatMap cI,some 3,kn * 1⟩],rfl,by omega,.inr ⟨_,_,by omega,rfl,rfl⟩,rfl,rfl⟩,by omega⟩
   rw [take_snoc he]
   exact (by repeat (first | exact qR _ | apply qK | apply qC))
  ·obtain rfl : l = []:=List.eq_nil_of_length_eq_zero (by omega)
   exact ret_one (by simp) Try.results83 rfl (H' := H) (by repeat (first | exact qR _ | apply qK | apply qC)) (.inl ⟨rfl,rfl,rfl⟩)
 ·have hlen : (((l.take k).map f).flatMap cI).length = k * 1:=by rw [lenI,List.length_map,List.length_take];omega
  simp only [List.cons_append,List.nil_append] at hH
  subst hH
  repeat' (first | (refine uP rfl ?_;(first | ((first | refine uN rfl ?_);(first | (refine uE (uM rfl rfl) rfl rfl ?_)|(refine uE (uA rfl rfl) rfl rfl ?_)|(refine uE (uQ rfl rfl rfl rfl) rfl rfl ?_)|(refine uE (uY rfl rfl (te rfl)) rfl rfl ?_)))))|(refine uD rfl ?_;refine hK _ _ ?_;clear hK K) | refine uS rfl ?_ | refine uR rfl (fun K hK=>?_) | refine X.block rfl ?_ | (refine X.brk rfl ?_;repeat (first | refine blockX_hit rfl ?_ | refine blockX_miss (by decide) ?_)) | refine X.skip rfl ?_ | refine X.ret rfl ?_ | (refine X.ite rfl rfl (fun hc=>?_);(first | (with_reducible refine Xb.case hc (fun h=>?_) (fun h=>?_))) <;> clear hc))
  ·obtain ⟨b,off,e,rfl,he⟩:=hl.elem (i:=k) (by omega)
   have hl1 : ∀ r,SlE (r::H) (some ⟨b,off,none⟩) cMt 6 l:=fun r=>hl.sub (fun _ h=>List.mem_cons_of_mem _ h)
   repeat' (first | (refine uP rfl ?_;(first | ((first | refine uN rfl ?_);(first | (refine uE (uL rfl rfl (LoadV.elA0 (hl1 _) he (te rfl) rfl (fun _ hm=>hm) rfl)) rfl rfl ?_)|(refine uC (EnF.dyn0 rfl rfl (by (repeat (first | exact Args.nil | refine Args.cons rfl ?_));done)) rfl rfl (hg _ _) ?_;rintro _ H9 ⟨rfl,hH9⟩;subst H9)|(refine Xg.st (StF.buildOne rfl el55 rfl rfl rfl (by decide) (by decide)) rfl rfl ?_;rintro _ _ ⟨bs,rfl,rfl⟩)|(refine Xg.st (StF.appendOwn (i:=2) rfl el55 rfl rfl rfl hlen rfl (Rd.own (qH _)) rfl (by omega)) rfl rfl ?_;rintro _ _ ⟨bn,kn,rfl,rfl⟩;dsimp only [List.eraseIdx])|(refine uE (uM rfl rfl) rfl rfl ?_)|(refine uE (uA rfl rfl) rfl rfl ?_)|(refine uE (EvF.add64 rfl rfl rfl (by omega) (by omega)) rfl rfl ?_)|(refine uE (uJ rfl rfl rfl (te rfl) (te rfl) (by omega) (by omega)) rfl rfl ?_)|(refine uE (uL rfl rfl (uW (te rfl) rfl (qH _) rfl)) rfl rfl ?_)|(refine Xg.st (StF.alloc rfl Try.zeroValue111 rfl) rfl rfl ?_;rintro _ _ ⟨bx,rfl,rfl⟩)|(refine Xg.st0 (uZ (i:=0) rfl rfl rfl (te rfl) rfl rfl rfl rfl) rfl ?_;rintro _ _ ⟨rfl,rfl⟩;dsimp only [List.set])))))|(refine uD rfl ?_;refine hK _ _ ?_;clear hK K) | refine uR rfl (fun K hK=>?_))
   refine ⟨_,_,_,(by repeat (first | exact uU _ | refine uV rfl ?_)),?_,⟨k + 1,_,[⟨bn,0,((l.take (k + 1)).map f).flatMap cI,some 3,kn * 1⟩],rfl,by omega,.inr ⟨_,_,by omega,rfl,rfl⟩,rfl,rfl⟩,by omega⟩
   rw [take_snoc he,List.map_append,List.flatMap_append]
   exact (by repeat (first | exact qR _ | apply qK | apply qC))
  ·obtain rfl : k = l.length:=by omega
   rw [List.take_length]
   refine ret_one (by simp) Try.results83 rfl (H' := ⟨b0,0,(l.map f).flatMap cI,some 3,q0 * 1⟩::H) (by repeat (first | exact qR _ | apply qK | apply qC)) (.inr ⟨b0,q0,(fun e=>by rw [e] at hk0;exact absurd hk0 (Nat.lt_irrefl 0)),by rw [List.length_map],rfl⟩)
theorem numbersF_specMt (g : Nat) (f : Mt → Int) (hg : ∀ e H,Fc Try.prog g ([.agg (cMt e).toArray]++[]) H (fun v H' => v = .int .i64 (f e)∧H' = H)) (l : List Mt) (a : Option Addr) (c : Nat) (H : List Row) (hl : SlE H a cMt 6 l) (hb : l.length ≤ 1000000) :
  Fc Try.prog 83 [.slice a l.length c,.func (.func g) #[] #[]] H (fun v H' => ∃ a' c' Z,v = .slice a' (l.map f).length c'∧H' = Z++H∧SlE (Z++H) a' cI 1 (l.map f)):=by
 refine (numbersO_specMt g f hg l a c H hl hb).mono ?_
 rintro v H' (⟨rfl,rfl,rfl⟩ | ⟨b,q,_,rfl,rfl⟩)
 ·exact ⟨none,0,[],rfl,rfl,sleNil⟩
 ·exact ⟨some ⟨b,0,none⟩,q,[_],rfl,rfl,SlE.ofRow (qH _) (fun _ _=>rfl)⟩
theorem numbers_specMt (l : List Mt) (a : Option Addr) (c : Nat) (H : List Row) (hl : SlE H a cMt 6 l) (hb : l.length ≤ 1000000) :
  Fc Try.prog 83 [.slice a l.length c,.func (.func 84) #[] #[]] H (fun v H' => ∃ a' c' Z,v = .slice a' (l.map (·.number)).length c'∧H' = Z++H∧SlE (Z++H) a' cI 1 (l.map (·.number))) :=
 numbersF_specMt 84 (·.number) number_spec l a c H hl hb
theorem numbersO_specBx (g : Nat) (f : Bx → Int) (hg : ∀ e H,Fc Try.prog g ([.agg (cBx e).toArray]++[]) H (fun v H' => v = .int .i64 (f e)∧H' = H)) (l : List Bx) (a : Option Addr) (c : Nat) (H : List Row) (hl : SlE H a cBx 2 l) (hb : l.length ≤ 1000000) :
  Fc Try.prog 110 [.slice a l.length c,.func (.func g) #[] #[]] H (fun v H' => (l = []∧v = .slice none 0 0∧H' = H) ∨ ∃ b q,l ≠ []∧v = .slice (some ⟨b,0,none⟩) (l.map f).length q∧H' = ⟨b,0,(l.map f).flatMap cI,some 3,q * 1⟩::H):=by
 refine Fc.mk (callable Try.call110) Try.func110 rfl Try.ntmps110 rfl ?_;dsimp only [fr]
 repeat' (first | (refine uP rfl ?_;(first | ((first | refine uN rfl ?_);(first | (refine uE (uM rfl rfl) rfl rfl ?_)|(refine uE (uA rfl rfl) rfl rfl ?_)|(refine uE (uQ rfl rfl rfl rfl) rfl rfl ?_)|(refine uE (uY rfl rfl (te rfl)) rfl rfl ?_)))))|(refine uD rfl ?_;refine hK _ _ ?_;clear hK K) | refine uS rfl ?_ | refine uR rfl (fun K hK=>?_) | refine X.block rfl ?_ | (refine X.brk rfl ?_;repeat (first | refine blockX_hit rfl ?_ | refine blockX_miss (by decide) ?_)) | refine X.skip rfl ?_ | refine X.ret rfl ?_ | (refine X.ite rfl rfl (fun hc=>?_);(first | (with_reducible refine Xb.case hc (fun h=>?_) (fun h=>?_))) <;> clear hc))
 refine X.lp rfl (fun q F' H' => ∃ (k : Nat) (out : Value) (Z : List Row),q = l.length - k∧k ≤ l.length∧((k = 0∧out = .slice none 0 0∧Z = []) ∨ ∃ b q,0 < k∧out = .slice (some ⟨b,0,none⟩) k q∧Z = [⟨b,0,((l.take k).map f).flatMap cI,some 3,q * 1⟩])∧Z++H = H' ∧
   F' = [(1,.func (.func g) #[] #[]),(5,out),(8,.slice a l.length c),(9,.int .i64 l.length),(10,.int .i64 k)])
  l.length [(1,.func (.func g) #[] #[]),(5,.slice none 0 0),(8,.slice a l.length c),(9,.int .i64 l.length),(10,.int .i64 (0 : Nat))] _ (by repeat (first | exact uU _ | refine uV rfl ?_)) (by repeat (first | exact qR _ | apply qK | apply qC)) ⟨0,_,[],by omega,by omega,.inl ⟨rfl,rfl,rfl⟩,rfl,rfl⟩ ?_
 rintro _ _ H2 ⟨k,out,Z,rfl,hk,⟨rfl,rfl,rfl⟩ | ⟨b0,q0,hk0,rfl,rfl⟩,hH,rfl⟩
 ·rw [List.nil_append] at hH
  subst hH
  repeat' (first | (refine uP rfl ?_;(first | ((first | refine uN rfl ?_);(first | (refine uE (uM rfl rfl) rfl rfl ?_)|(refine uE (uA rfl rfl) rfl rfl ?_)|(refine uE (uQ rfl rfl rfl rfl) rfl rfl ?_)|(refine uE (uY rfl rfl (te rfl)) rfl rfl ?_)))))|(refine uD rfl ?_;refine hK _ _ ?_;clear hK K) | refine uS rfl ?_ | refine uR rfl (fun K hK=>?_) | refine X.block rfl ?_ | (refine X.brk rfl ?_;repeat (first | refine blockX_hit rfl ?_ | refine blockX_miss (by decide) ?_)) | refine X.skip rfl ?_ | refine X.ret rfl ?_ | (refine X.ite rfl rfl (fun hc=>?_);(first | (with_reducible refine Xb.case hc (fun h=>?_) (fun h=>?_))) <;> clear hc))
  ·obtain ⟨b,off,e,rfl,he⟩:=hl.elem (i:=0) (by omega)
   repeat' (first | (refine uP rfl ?_;(first | ((first | refine uN rfl ?_);(first | (refine uE (uL rfl rfl (LoadV.elA0 hl he (te rfl) rfl (fun _ hm=>hm) rfl)) rfl rfl ?_)|(refine uC (EnF.dyn0 rfl rfl (by (repeat (first | exact Args.nil | refine Args.cons rfl ?_));done)) rfl rfl (hg _ _) ?_;rintro _ H9 ⟨rfl,hH9⟩;subst H9)|(refine Xg.st (StF.buildOne rfl el55 rfl rfl rfl (by decide) (by decide)) rfl rfl ?_;rintro _ _ ⟨bs,rfl,rfl⟩)|(refine Xg.st (StF.appendNew rfl el55 rfl rfl (by decide) rfl (Rd.own (qH _)) (by decide)) rfl rfl ?_;rintro _ _ ⟨bn,kn,rfl,rfl⟩)|(refine uE (uM rfl rfl) rfl rfl ?_)|(refine uE (uA rfl rfl) rfl rfl ?_)|(refine uE (EvF.add64 rfl rfl rfl (by omega) (by omega)) rfl rfl ?_)|(refine uE (uJ rfl rfl rfl (te rfl) (te rfl) (by omega) (by omega)) rfl rfl ?_)|(refine uE (uL rfl rfl (uW (te rfl) rfl (qH _) rfl)) rfl rfl ?_)|(refine Xg.st (StF.alloc rfl Try.zeroValue35 rfl) rfl rfl ?_;rintro _ _ ⟨bx,rfl,rfl⟩)|(refine Xg.st0 (uZ (i:=0) rfl rfl rfl (te rfl) rfl rfl rfl rfl) rfl ?_;rintro _ _ ⟨rfl,rfl⟩;dsimp only [List.set])))))|(refine uD rfl ?_;refine hK _ _ ?_;clear hK K) | refine uR rfl (fun K hK=>?_))
   refine ⟨_,_,_,(by repeat (first | exact uU _ | refine uV rfl ?_)),?_,⟨0 + 1,_,[⟨bn,0,((l.take (0 + 1)).map f).flatMap cI,some 3,kn * 1⟩],rfl,by omega,.inr ⟨_,_,by omega,rfl,rfl⟩,rfl,rfl⟩,by omega⟩
   rw [take_snoc he]
   exact (by repeat (first | exact qR _ | apply qK | apply qC))
  ·obtain rfl : l = []:=List.eq_nil_of_length_eq_zero (by omega)
   exact ret_one (by simp) Try.results110 rfl (H' := H) (by repeat (first | exact qR _ | apply qK | apply qC)) (.inl ⟨rfl,rfl,rfl⟩)
 ·have hlen : (((l.take k).map f).flatMap cI).length = k * 1:=by rw [lenI,List.length_map,List.length_take];omega
  simp only [List.cons_append,List.nil_append] at hH
  subst hH
  repeat' (first | (refine uP rfl ?_;(first | ((first | refine uN rfl ?_);(first | (refine uE (uM rfl rfl) rfl rfl ?_)|(refine uE (uA rfl rfl) rfl rfl ?_)|(refine uE (uQ rfl rfl rfl rfl) rfl rfl ?_)|(refine uE (uY rfl rfl (te rfl)) rfl rfl ?_)))))|(refine uD rfl ?_;refine hK _ _ ?_;clear hK K) | refine uS rfl ?_ | refine uR rfl (fun K hK=>?_) | refine X.block rfl ?_ | (refine X.brk rfl ?_;repeat (first | refine blockX_hit rfl ?_ | refine blockX_miss (by decide) ?_)) | refine X.skip rfl ?_ | refine X.ret rfl ?_ | (refine X.ite rfl rfl (fun hc=>?_);(first | (with_reducible refine Xb.case hc (fun h=>?_) (fun h=>?_))) <;> clear hc))
  ·obtain ⟨b,off,e,rfl,he⟩:=hl.elem (i:=k) (by omega)
   have hl1 : ∀ r,SlE (r::H) (some ⟨b,off,none⟩) cBx 2 l:=fun r=>hl.sub (fun _ h=>List.mem_cons_of_mem _ h)
   repeat' (first | (refine uP rfl ?_;(first | ((first | refine uN rfl ?_);(first | (refine uE (uL rfl rfl (LoadV.elA0 (hl1 _) he (te rfl) rfl (fun _ hm=>hm) rfl)) rfl rfl ?_)|(refine uC (EnF.dyn0 rfl rfl (by (repeat (first | exact Args.nil | refine Args.cons rfl ?_));done)) rfl rfl (hg _ _) ?_;rintro _ H9 ⟨rfl,hH9⟩;subst H9)|(refine Xg.st (StF.buildOne rfl el55 rfl rfl rfl (by decide) (by decide)) rfl rfl ?_;rintro _ _ ⟨bs,rfl,rfl⟩)|(refine Xg.st (StF.appendOwn (i:=2) rfl el55 rfl rfl rfl hlen rfl (Rd.own (qH _)) rfl (by omega)) rfl rfl ?_;rintro _ _ ⟨bn,kn,rfl,rfl⟩;dsimp only [List.eraseIdx])|(refine uE (uM rfl rfl) rfl rfl ?_)|(refine uE (uA rfl rfl) rfl rfl ?_)|(refine uE (EvF.add64 rfl rfl rfl (by omega) (by omega)) rfl rfl ?_)|(refine uE (uJ rfl rfl rfl (te rfl) (te rfl) (by omega) (by omega)) rfl rfl ?_)|(refine uE (uL rfl rfl (uW (te rfl) rfl (qH _) rfl)) rfl rfl ?_)|(refine Xg.st (StF.alloc rfl Try.zeroValue35 rfl) rfl rfl ?_;rintro _ _ ⟨bx,rfl,rfl⟩)|(refine Xg.st0 (uZ (i:=0) rfl rfl rfl (te rfl) rfl rfl rfl rfl) rfl ?_;rintro _ _ ⟨rfl,rfl⟩;dsimp only [List.set])))))|(refine uD rfl ?_;refine hK _ _ ?_;clear hK K) | refine uR rfl (fun K hK=>?_))
   refine ⟨_,_,_,(by repeat (first | exact uU _ | refine uV rfl ?_)),?_,⟨k + 1,_,[⟨bn,0,((l.take (k + 1)).map f).flatMap cI,some 3,kn * 1⟩],rfl,by omega,.inr ⟨_,_,by omega,rfl,rfl⟩,rfl,rfl⟩,by omega⟩
   rw [take_snoc he,List.map_append,List.flatMap_append]
   exact (by repeat (first | exact qR _ | apply qK | apply qC))
  ·obtain rfl : k = l.length:=by omega
   rw [List.take_length]
   refine ret_one (by simp) Try.results110 rfl (H' := ⟨b0,0,(l.map f).flatMap cI,some 3,q0 * 1⟩::H) (by repeat (first | exact qR _ | apply qK | apply qC)) (.inr ⟨b0,q0,(fun e=>by rw [e] at hk0;exact absurd hk0 (Nat.lt_irrefl 0)),by rw [List.length_map],rfl⟩)
theorem numbersF_specBx (g : Nat) (f : Bx → Int) (hg : ∀ e H,Fc Try.prog g ([.agg (cBx e).toArray]++[]) H (fun v H' => v = .int .i64 (f e)∧H' = H)) (l : List Bx) (a : Option Addr) (c : Nat) (H : List Row) (hl : SlE H a cBx 2 l) (hb : l.length ≤ 1000000) :
  Fc Try.prog 110 [.slice a l.length c,.func (.func g) #[] #[]] H (fun v H' => ∃ a' c' Z,v = .slice a' (l.map f).length c'∧H' = Z++H∧SlE (Z++H) a' cI 1 (l.map f)):=by
 refine (numbersO_specBx g f hg l a c H hl hb).mono ?_
 rintro v H' (⟨rfl,rfl,rfl⟩ | ⟨b,q,_,rfl,rfl⟩)
 ·exact ⟨none,0,[],rfl,rfl,sleNil⟩
 ·exact ⟨some ⟨b,0,none⟩,q,[_],rfl,rfl,SlE.ofRow (qH _) (fun _ _=>rfl)⟩
theorem numbers_specBx (l : List Bx) (a : Option Addr) (c : Nat) (H : List Row) (hl : SlE H a cBx 2 l) (hb : l.length ≤ 1000000) :
  Fc Try.prog 110 [.slice a l.length c,.func (.func 111) #[] #[]] H (fun v H' => ∃ a' c' Z,v = .slice a' (l.map (·.id)).length c'∧H' = Z++H∧SlE (Z++H) a' cI 1 (l.map (·.id))) :=
 numbersF_specBx 111 (·.id) id_spec l a c H hl hb
def ts66a : List TOp:=[⟨some 5,[],[],[]⟩,⟨some 6,[],[],[]⟩,⟨some 7,[1],[1],[]⟩,⟨some 8,[1,2],[2],[]⟩,⟨some 9,[0,1,2,3],[0,3],[3]⟩,⟨some 10,[0,1,2,3,4],[4],[]⟩,⟨some 11,[0,1,2,3,4,5],[5],[]⟩,⟨some 12,[0,1,2,3,4,5,6],[],[]⟩,⟨some 13,[0,1,2,3,4,5,6],[],[]⟩,⟨some 14,[0,1,2,3,4,5,6,8],[8],[]⟩,⟨some 15,[0,1,2,3,4,5,6,8,9],[9],[]⟩,⟨some 16,[0,1,2,3,4,5,6,7,8,9,10],[7,10],[10]⟩,⟨some 17,[0,1,2,3,4,5,6,7,8,9,10,11],[11],[]⟩,⟨some 18,[0,1,2,3,4,5,6,7,8,9,10,11,12],[6,12],[]⟩,⟨some 19,[0,1,2,3,4,5,6,7,8,9,10,11,12,13],[13],[]⟩,⟨some 20,[0,1,2,3,4,5,6,7,8,9,10,11,12,13,14],[],[]⟩,⟨some 21,[0,1,2,3,4,5,6,7,8,9,10,11,12,13,14,15],[15],[]⟩,⟨some 22,[0,1,2,3,4,5,6,7,8,9,10,11,12,13,14,15,16],[16],[]⟩,⟨some 23,[0,1,2,3,4,5,6,7,8,9,10,11,12,13,14],[],[]⟩,⟨some 24,[0,1,2,3,4,5,6,7,8,9,10,11,12,13,14,18],[18],[]⟩,⟨some 25,[0,1,2,3,4,5,6,7,8,9,10,11,12,13,14,15,16,17,18,19],[17,19],[]⟩,⟨some 26,[0,1,2,3,4,5,6,7,8,9,10,11,12,13,14,15,16,17,18,19,20],[14,20],[]⟩]
def val66a (b1 : Nat) (R : Rm) (p : Pl) (w0 w1 l1 : Bool) (k : Nat) (env : Env) : Value :=
 match k with
 | 0 => .agg (cSp ⟨1,12⟩).toArray
 | 1 => .pointer (some ⟨b1,0,none⟩)
 | 2 => .int .i64 R.months
 | 3 => .slice (some ⟨(env 3).1,0,none⟩) 1 1
 | 4 => .bool w0
 | 5 => .bool (!w0)
 | 6 => .bool (!w0)
 | 7=>gt (!w0) (.agg (cSp ⟨0,60⟩).toArray)
 | 8=>gt (!w0) (.pointer (some ⟨b1,1,none⟩))
 | 9=>gt (!w0) (.int .i64 R.step)
 | 10=>gt (!w0) (.slice (some ⟨(env 10).1,0,none⟩) 1 1)
 | 11=>gt (!w0) (.bool w1)
 | 12=>gt (!w0) (.bool (!w1))
 | 13 => .bool (!w0 || !w1)
 | 14 => .bool (!w0 || !w1)
 | 15=>gt (!w0 || !w1) (.pointer (some ⟨b1,2,none⟩))
 | 16=>gt (!w0 || !w1) (.slice p.a1 R.ages.length p.c1)
 | 17=>gt (!w0 || !w1) (.int .i64 R.ages.length)
 | 18=>gt (!w0 || !w1) (.pointer (some ⟨b1,0,none⟩))
 | 19=>gt (!w0 || !w1) (.int .i64 R.months)
 | 20=>gt (!w0 || !w1) (.bool l1)
 | 21 => .bool (!w0 || !w1 || l1)
 | _=>undef
def rows66a (R : Rm) (w0 : Bool) (k : Nat) (env : Env) : List Row :=
 match k with
 | 3=>[⟨(env 3).1,0,[.int .i64 R.months],some 3,1 * 1⟩]
 | 10=>gr (!w0) [⟨(env 10).1,0,[.int .i64 R.step],some 3,1 * 1⟩]
 | _=>[]
theorem loc66a (b1 : Nat) (R : Rm) (p : Pl) (w0 w1 l1 : Bool) : ∀ k env i q9,i ≠ k → (tAt ts66a k).sup.contains i = false → val66a b1 R p w0 w1 l1 k (upd env i q9)=val66a b1 R p w0 w1 l1 k env∧rows66a R w0 k (upd env i q9)=rows66a R w0 k env:=by
 intro k env i q hk hs
 have hu : ∀ j,j ≠ i → upd env i q j = env j:=fun j hj=>by unfold upd;rw [if_neg hj]
 match k,hk,hs with
 | 0,_,_=>exact ⟨rfl,rfl⟩
 | 1,_,_=>exact ⟨rfl,rfl⟩
 | 2,_,_=>exact ⟨rfl,rfl⟩
 | 3,hk,hs=>exact ⟨by simp only [val66a,hu 3 (fun e=>hk e.symm)],by simp only [rows66a,hu 3 (fun e=>hk e.symm)]⟩
 | 4,_,_=>exact ⟨rfl,rfl⟩
 | 5,_,_=>exact ⟨rfl,rfl⟩
 | 6,_,_=>exact ⟨rfl,rfl⟩
 | 7,_,_=>exact ⟨rfl,rfl⟩
 | 8,_,_=>exact ⟨rfl,rfl⟩
 | 9,_,_=>exact ⟨rfl,rfl⟩
 | 10,hk,hs=>exact ⟨by simp only [val66a,hu 10 (fun e=>hk e.symm)],by simp only [rows66a,hu 10 (fun e=>hk e.symm)]⟩
 | 11,_,_=>exact ⟨rfl,rfl⟩
 | 12,_,_=>exact ⟨rfl,rfl⟩
 | 13,_,_=>exact ⟨rfl,rfl⟩
 | 14,_,_=>exact ⟨rfl,rfl⟩
 | 15,_,_=>exact ⟨rfl,rfl⟩
 | 16,_,_=>exact ⟨rfl,rfl⟩
 | 17,_,_=>exact ⟨rfl,rfl⟩
 | 18,_,_=>exact ⟨rfl,rfl⟩
 | 19,_,_=>exact ⟨rfl,rfl⟩
 | 20,_,_=>exact ⟨rfl,rfl⟩
 | 21,_,_=>exact ⟨rfl,rfl⟩
 | _ + 22,_,_=>exact ⟨rfl,rfl⟩
theorem part_spec (s : Sp) (lo hi : Int) (H : List Row) : Fc Try.prog 108 [.agg (cSp s).toArray,.int .i64 lo,.int .i64 hi] H (fun v H' => v = .bool (decide (s.lo ≤ s.hi ∧ ∀ n ∈ [s.lo,s.hi],(Sp.mk lo hi).lo ≤ n∧n ≤ (Sp.mk lo hi).hi))∧H' = H):=by
 refine Fc.mk (callable Try.call108) Try.func108 rfl Try.ntmps108 rfl ?_;dsimp only [fr]
 repeat' (first | (refine uP rfl ?_;(first | ((first | refine uN rfl ?_ | (refine Xo.g rfl rfl ?_;with_reducible refine Xw.tt ?_));(first | (refine uE (EvF.build (cs:=cSp ⟨lo,hi⟩) rfl (ArgsP.cons rfl (ArgsP.cons rfl ArgsP.nil)) (te rfl) (Places.cons (te rfl) (Places.cons (te rfl) Places.nil)) Try.zeroValue35 rfl) rfl rfl ?_)|(refine Xg.st (StF.buildTwo rfl el55 rfl rfl rfl rfl rfl rfl (by decide) (by decide)) rfl rfl ?_;rintro _ _ ⟨bo,rfl,rfl⟩)|(refine uC (uT rfl (by (repeat (first | exact Args.nil | refine Args.cons rfl ?_));done)) rfl rfl (withinL_spec ⟨lo,hi⟩ [s.lo,s.hi] _ _ _ (SlE.ofRow (l:=[s.lo,s.hi]) (qH _) (fun _ _=>rfl)) (by simp)) ?_;rintro _ H9 ⟨rfl,hH9⟩;subst H9)|(refine uE (uM rfl rfl) rfl rfl ?_)|(refine uE (uA rfl rfl) rfl rfl ?_)|(refine uE (EvF.pickT rfl rfl rfl) rfl rfl ?_)|(refine uE (EvF.pickF rfl rfl rfl) rfl rfl ?_)|(refine uE (uQ rfl rfl rfl rfl) rfl rfl ?_)|(refine uE (uF rfl rfl (te rfl) rfl (te rfl) (by decide)) rfl rfl ?_)|(refine uE (uL rfl rfl (uO (te rfl) rfl (qH _) rfl)) rfl rfl ?_)|(refine Xg.st (StF.boxAgg rfl rfl) rfl rfl ?_;rintro _ _ ⟨bx,rfl,rfl⟩)))|(refine Xo.g rfl rfl ?_;(first | (with_reducible refine Xw.ft rfl rfl ?_)|(with_reducible refine Xw.case (fun h=>?_) (fun h=>?_) <;> simp only [h,decide_true,decide_false,Bool.not_true,Bool.not_false,and_self,and_true,true_and,and_false,false_and])))))|(refine uD rfl ?_;refine hK _ _ ?_;clear hK K) | refine uS rfl ?_ | refine uR rfl (fun K hK=>?_) | refine X.ret rfl ?_)
 all_goals (refine ret_one (by simp) Try.results108 rfl (H' := H) (by (repeat (first | exact qR _ | apply qC));done) ?_;simp only [and_true,true_and])
 ·congr 1;symm;exact decide_eq_decide.2 (and_iff_right (by assumption))
 ·congr 1;symm;exact decide_eq_false (fun q=>absurd q.1 (by assumption))
def agesOk (R : Rm) : Prop:=(1 ≤ R.months∧R.months ≤ 12)∧(0 ≤ R.step∧R.step ≤ 60)∧(R.ages.length : Int)=R.months∧okAges R.ages
instance (R : Rm) : Decidable (agesOk R):=by unfold agesOk;infer_instance
set_option maxHeartbeats 2000000 in
theorem hasAges_spec (R : Rm) (p : Pl) (H : List Row) (hR : RmOk H R p) : Fc Try.prog 61 [.agg (cRm R p).toArray] H (fun v H' => v = .bool (decide (agesOk R))∧H' = H):=by
 have l1:=hR.l1
 obtain ⟨w0,e0⟩ : ∃ b,decide (∀ n ∈ [R.months],(Sp.mk 1 12).lo ≤ n∧n ≤ (Sp.mk 1 12).hi)=b:=⟨_,rfl⟩
 obtain ⟨w1,e1⟩ : ∃ b,decide (∀ n ∈ [R.step],(Sp.mk 0 60).lo ≤ n∧n ≤ (Sp.mk 0 60).hi)=b:=⟨_,rfl⟩
 obtain ⟨bb,hbb⟩ : ∃ b,(!w0 || !w1 || !decide ((R.ages.length : Int)=R.months)) = b:=⟨_,rfl⟩
 have hh : bb = false ↔ (1 ≤ R.months∧R.months ≤ 12)∧(0 ≤ R.step∧R.step ≤ 60)∧(R.ages.length : Int)=R.months:=by
  rw [← hbb, ← e0, ← e1]
  simp [and_assoc]
 refine Fc.mk (callable Try.call61) Try.func61 rfl Try.ntmps61 rfl ?_;dsimp only [fr]
 refine uS rfl ?_;refine uR rfl (fun K hK=>?_);repeat' (first | (refine uP rfl ?_;(first | ((first | refine uN rfl ?_);(first | (refine uE (uA rfl rfl) rfl rfl ?_)|(refine Xg.st (StF.boxAgg rfl rfl) rfl rfl ?_;rintro _ _ ⟨bx,rfl,rfl⟩)))))|(refine uD rfl ?_;refine hK _ _ ?_;clear hK K))
 rename Nat=>b1
 refine uS rfl ?_
 refine uS rfl ?_
 refine X.regionOb ts66a [1] [(1,.pointer (some ⟨b1,0,none⟩))] (val66a b1 R p w0 w1 (!decide ((R.ages.length : Int)=R.months))) (rows66a R w0) (fun _=>(0,0)) (⟨b1,0,cRm R p,some 26,5⟩::H) rfl mixed (by repeat (first | exact uU _ | refine uV rfl ?_)) rfl (by kernel_rfl) (loc66a b1 R p w0 w1 _) (qR _) ?_ ?_
 ·clear hbb
  cases w0 <;> cases w1
  all_goals repeat' (first | exact AllF.done rfl | (refine AllF.step rfl ?_ ?_;·(first | exact Ob.sk rfl rfl (fun _=>rfl) (fun _=>rfl) (fun _=>rfl) (fun _=>rfl)|((first | refine Ob.ng rfl ?_ | refine Ob.g rfl rfl (fun _=>rfl) ?_);(first | exact uK (fun env R hR=>by exact ⟨_,uM rfl rfl,rfl⟩) rfl (fun _=>rfl) | exact uK (fun env R hR=>by exact ⟨_,EvF.pickT rfl rfl rfl,rfl⟩) rfl (fun _=>rfl) | exact uK (fun env R hR=>by exact ⟨_,EvF.pickF rfl rfl rfl,rfl⟩) rfl (fun _=>rfl) | exact uK (fun env R hR=>by exact ⟨_,uF rfl rfl (te rfl) rfl (te rfl) (by decide),rfl⟩) rfl (fun _=>rfl) | exact uK (fun env R hR=>by exact ⟨_,EvF.not rfl rfl,rfl⟩) rfl (fun _=>rfl) | exact uK (fun env R hR=>by exact ⟨_,uQ rfl rfl rfl rfl,rfl⟩) rfl (fun _=>rfl) | exact uK (fun env R hR=>by exact ⟨_,uY rfl rfl (te rfl),rfl⟩) rfl (fun _=>rfl) | exact uK (fun env R hR=>by exact ⟨_,uL rfl rfl (uO (te rfl) rfl (hR _ (qH _)) rfl),rfl⟩) rfl (fun _=>rfl)|(exact fun env S hS=>(StF.buildOne rfl el55 rfl rfl rfl (by decide) (by decide)).op.mono (fun v H' ⟨b,hv,hH⟩=>⟨(b,0),fun _=>hv,by rw [hH];exact List.Perm.refl _⟩))|(exact uK (fun env S hS=>⟨_,EvF.build (cs:=cSp ⟨1,12⟩) rfl (ArgsP.cons rfl (ArgsP.cons rfl ArgsP.nil)) (te rfl) (Places.cons (te rfl) (Places.cons (te rfl) Places.nil)) Try.zeroValue35 rfl,rfl⟩) rfl (fun _=>rfl))|(exact fun env S hS=>OpF.callV (Z:=[]) (uT rfl (by (repeat (first | exact Args.nil | refine Args.cons rfl ?_));done)) (anyPoints_spec _) rfl rfl)|(exact fun env S hS=>OpF.callV (uT rfl (by (repeat (first | exact Args.nil | refine Args.cons rfl ?_));done)) (withinL_spec ⟨1,12⟩ [R.months] _ _ _ (SlE.ofRow (l:=[R.months]) (qH _) (fun _ _=>rfl)) (by simp)) (by rw [e0];rfl) rfl)|(exact fun env S hS=>OpF.callV (uT rfl (by (repeat (first | exact Args.nil | refine Args.cons rfl ?_));done)) (withinL_spec ⟨0,60⟩ [R.step] _ _ _ (SlE.ofRow (l:=[R.step]) (qH _) (fun _ _=>rfl)) (by simp)) (by rw [e1];rfl) rfl))))))
 ·intro env t ha hv
  refine ⟨[(26,.bool bb),(1,.pointer (some ⟨b1,0,none⟩))],ha.cons (by rw [← hbb];exact hv 21 26 (Nat.le_of_ble_eq_true rfl) rfl),?_⟩
  show X _ _ _ _ (⟨b1,0,cRm R p,some 26,5⟩::H) _
  repeat' (first | (refine uP rfl ?_;(first | ((first | refine uN rfl ?_);(first | (refine uE (uM rfl rfl) rfl rfl ?_)|(refine uE (uA rfl rfl) rfl rfl ?_)|(refine uE (uQ rfl rfl rfl rfl) rfl rfl ?_)|(refine uE (uF rfl rfl (te rfl) rfl (te rfl) (by decide)) rfl rfl ?_)|(refine uE (uY rfl rfl (te rfl)) rfl rfl ?_)|(refine uE (uL rfl rfl (uO (te rfl) rfl (qH _) rfl)) rfl rfl ?_)))))|(refine uD rfl ?_;refine hK _ _ ?_;clear hK K) | refine uS rfl ?_ | refine uR rfl (fun K hK=>?_) | refine X.block rfl ?_ | (refine X.brk rfl ?_;repeat (first | refine blockX_hit rfl ?_ | refine blockX_miss (by decide) ?_)) | refine X.skip rfl ?_ | refine X.ret rfl ?_ | (refine X.ite rfl rfl (fun hc=>?_);(first | (with_reducible refine Xb.case hc (fun h=>?_) (fun h=>?_))|(with_reducible refine Xb.caseB hc (fun h=>?_) (fun h=>?_))) <;> clear hc))
  ·refine ret_one (by simp) Try.results61 rfl (H' := H) (by (repeat (first | exact qR _ | apply qC));done) ?_;simp only [and_true,true_and]
   congr 1;symm;exact decide_eq_false (fun q=>by rw [hh.2 ⟨q.1,q.2.1,q.2.2.1⟩] at h;cases h)
  have hh' := hh.1 (by assumption)
  have hR1 : ∀ r,RmOk (r::H) R p:=fun r=>hR.sub (fun _ h=>List.mem_cons_of_mem _ h)
  obtain ⟨a1,c1,a2,c2,a3,c3⟩:=p
  refine X.lp rfl (fun m F' H' => ∃ k : Nat,m = R.ages.length - k∧k ≤ R.ages.length∧(okAges R.ages ↔ okAges (R.ages.drop k))∧H' = ⟨b1,0,cRm R ⟨a1,c1,a2,c2,a3,c3⟩,some 26,5⟩::H ∧
    F' = [(1,.pointer (some ⟨b1,0,none⟩)),(28,.slice a1 R.ages.length c1),(29,.int .i64 R.ages.length),(30,.int .i64 k)])
   R.ages.length [(1,.pointer (some ⟨b1,0,none⟩)),(28,.slice a1 R.ages.length c1),(29,.int .i64 R.ages.length),(30,.int .i64 (0 : Nat))] _ (by repeat (first | exact uU _ | refine uV rfl ?_)) (qR _) ⟨0,by omega,by omega,by simp,rfl,rfl⟩ ?_
  rintro _ _ _ ⟨k,rfl,hk,hn,rfl,rfl⟩
  repeat' (first | (refine uP rfl ?_;(first | ((first | refine uN rfl ?_);(first | (refine uE (uM rfl rfl) rfl rfl ?_)|(refine uE (uA rfl rfl) rfl rfl ?_)|(refine uE (uQ rfl rfl rfl rfl) rfl rfl ?_)|(refine uE (uF rfl rfl (te rfl) rfl (te rfl) (by decide)) rfl rfl ?_)|(refine uE (uY rfl rfl (te rfl)) rfl rfl ?_)|(refine uE (uL rfl rfl (uO (te rfl) rfl (qH _) rfl)) rfl rfl ?_)))))|(refine uD rfl ?_;refine hK _ _ ?_;clear hK K) | refine uS rfl ?_ | refine uR rfl (fun K hK=>?_) | refine X.block rfl ?_ | (refine X.brk rfl ?_;repeat (first | refine blockX_hit rfl ?_ | refine blockX_miss (by decide) ?_)) | refine X.skip rfl ?_ | refine X.ret rfl ?_ | (refine X.ite rfl rfl (fun hc=>?_);(first | (with_reducible refine Xb.case hc (fun h=>?_) (fun h=>?_))|(with_reducible refine Xb.caseB hc (fun h=>?_) (fun h=>?_))) <;> clear hc))
  ·obtain ⟨b,off,e,rfl,he⟩:=hR.ages.elem (i:=k) (by omega)
   rw [drop_cons he] at hn
   have h2 : (e.lo ≤ e.hi ∧ ∀ n ∈ [e.lo,e.hi],(Sp.mk 0 60).lo ≤ n∧n ≤ (Sp.mk 0 60).hi) ↔ 0 ≤ e.lo∧e.lo ≤ e.hi∧e.hi ≤ 60:=by
    simp
    omega
   repeat' (first | (refine uP rfl ?_;(first | ((first | refine uN rfl ?_);(first | (refine uE (uL rfl rfl (LoadV.elA0 (hR1 _).ages he (te rfl) rfl (fun _ hm=>hm) rfl)) rfl rfl ?_)|(refine uC (uT rfl (by (repeat (first | exact Args.nil | refine Args.cons rfl ?_));done)) rfl rfl (part_spec e 0 60 _) ?_;rintro _ H9 ⟨rfl,hH9⟩;subst H9)|(refine uE (uM rfl rfl) rfl rfl ?_)|(refine uE (uA rfl rfl) rfl rfl ?_)|(refine uE (EvF.add64 rfl rfl rfl (by omega) (by omega)) rfl rfl ?_)|(refine uE (EvF.not rfl rfl) rfl rfl ?_)|(refine uE (uJ rfl rfl rfl (te rfl) (te rfl) (by omega) (by omega)) rfl rfl ?_)|(refine uE (uL rfl rfl (uW (te rfl) rfl (qH _) rfl)) rfl rfl ?_)|(refine Xg.st (StF.alloc rfl Try.zeroValue35 rfl) rfl rfl ?_;rintro _ _ ⟨bx,rfl,rfl⟩)|(refine Xg.st0 (uZ (i:=0) rfl rfl rfl (te rfl) rfl rfl rfl rfl) rfl ?_;rintro _ _ ⟨rfl,rfl⟩;dsimp only [List.set])))))|(refine uD rfl ?_;refine hK _ _ ?_;clear hK K) | refine uS rfl ?_ | refine uR rfl (fun K hK=>?_) | refine X.skip rfl ?_ | refine X.ret rfl ?_ | (refine X.ite rfl rfl (fun hc=>?_);(first | (with_reducible refine Xb.caseN hc (fun h=>?_) (fun h=>?_))) <;> clear hc))
   ·refine ret_one (by simp) Try.results61 rfl (H' := H) (by (repeat (first | exact qR _ | apply qC));done) ?_;simp only [and_true,true_and]
    congr 1;symm
    exact decide_eq_false (fun q=>h (h2.2 (okAges_cons.1 (hn.1 q.2.2.2)).1))
   ·exact ⟨_,_,_,(by repeat (first | exact uU _ | refine uV rfl ?_)),(by (repeat (first | exact qR _ | apply qC));done),⟨k + 1,rfl,by omega,hn.trans (okAges_cons.trans (and_iff_right (h2.1 (by assumption)))),rfl,rfl⟩,by omega⟩
  ·refine ret_one (by simp) Try.results61 rfl (H' := H) (by (repeat (first | exact qR _ | apply qC));done) ?_;simp only [and_true,true_and]
   congr 1;symm
   exact decide_eq_true ⟨hh'.1,hh'.2.1,hh'.2.2,hn.2 (by rw [List.drop_eq_nil_of_le (by omega)];simp [okAges])⟩
def ts67 : List TOp:=[⟨some 23,[],[],[]⟩,⟨some 24,[0],[0],[]⟩,⟨some 25,[],[],[]⟩,⟨some 26,[2],[2],[]⟩,⟨some 27,[2,3],[3],[]⟩,⟨some 28,[0,1,2,3,4],[1,4],[4]⟩,⟨some 29,[0,1,2,3,4,5],[5],[]⟩]
def val67 (b4 : Nat) (R : Rm) (p : Pl) (e : Bx) (w : Bool) (k : Nat) (env : Env) : Value :=
 match k with
 | 0 => .agg (cRm R p).toArray
 | 1 => .agg (cSp ⟨0,R.months - 1⟩).toArray
 | 2 => .pointer (some ⟨b4,1,none⟩)
 | 3 => .int .i64 e.made
 | 4 => .slice (some ⟨(env 4).1,0,none⟩) 1 1
 | 5 => .bool w
 | 6 => .bool (!w)
 | _=>undef
def rows67 (e : Bx) (k : Nat) (env : Env) : List Row :=
 match k with
 | 4=>[⟨(env 4).1,0,[.int .i64 e.made],some 3,1 * 1⟩]
 | _=>[]
theorem loc67 (b4 : Nat) (R : Rm) (p : Pl) (e : Bx) (w : Bool) : ∀ k env i q9,i ≠ k → (tAt ts67 k).sup.contains i = false → val67 b4 R p e w k (upd env i q9)=val67 b4 R p e w k env∧rows67 e k (upd env i q9)=rows67 e k env:=by
 intro k env i q hk hs
 have hu : ∀ j,j ≠ i → upd env i q j = env j:=fun j hj=>by unfold upd;rw [if_neg hj]
 match k,hk,hs with
 | 0,_,_=>exact ⟨rfl,rfl⟩
 | 1,_,_=>exact ⟨rfl,rfl⟩
 | 2,_,_=>exact ⟨rfl,rfl⟩
 | 3,_,_=>exact ⟨rfl,rfl⟩
 | 4,hk,hs=>exact ⟨by simp only [val67,hu 4 (fun e=>hk e.symm)],by simp only [rows67,hu 4 (fun e=>hk e.symm)]⟩
 | 5,_,_=>exact ⟨rfl,rfl⟩
 | 6,_,_=>exact ⟨rfl,rfl⟩
 | _ + 7,_,_=>exact ⟨rfl,rfl⟩
def boxesOk (R : Rm) : Prop:=R.boxes.length ≤ 4∧risesOk (R.boxes.map (·.id)) ∧ ∀ b ∈ R.boxes,0 ≤ b.made∧b.made ≤ R.months - 1
noncomputable instance (R : Rm) : Decidable (boxesOk R):=Classical.propDecidable _
set_option maxHeartbeats 2000000 in
theorem hasValidBoxes_spec (R : Rm) (p : Pl) (H : List Row) (hR : RmOk H R p) (hm : 1 ≤ R.months∧R.months ≤ 12) : Fc Try.prog 62 [.agg (cRm R p).toArray] H (fun v H' => v = .bool (decide (boxesOk R))∧H' = H):=by
 have l2:=hR.l2
 have hR1 : ∀ r,RmOk (r::H) R p:=fun r=>hR.sub (fun _ h=>List.mem_cons_of_mem _ h)
 obtain ⟨a1,c1,a2,c2,a3,c3⟩:=p
 refine Fc.mk (callable Try.call62) Try.func62 rfl Try.ntmps62 rfl ?_;dsimp only [fr]
 refine uS rfl ?_;refine uR rfl (fun K hK=>?_);repeat' (first | (refine uP rfl ?_;(first | ((first | refine uN rfl ?_);(first | (refine uE (uA rfl rfl) rfl rfl ?_)|(refine Xg.st (StF.boxAgg rfl rfl) rfl rfl ?_;rintro _ _ ⟨bx,rfl,rfl⟩)))))|(refine uD rfl ?_;refine hK _ _ ?_;clear hK K))
 rename Nat=>b1
 repeat' (first | (refine uP rfl ?_;(first | ((first | refine uN rfl ?_ | (refine Xo.g rfl rfl ?_;with_reducible refine Xw.ff ?_));(first | (refine uC (uT rfl (by (repeat (first | exact Args.nil | refine Args.cons rfl ?_));done)) rfl rfl (numbers_specBx R.boxes _ _ _ (hR1 _).boxes (by omega)) ?_;rintro _ _ ⟨a',c',Z,rfl,rfl,hz⟩)|(refine uC (uT rfl (by (repeat (first | exact Args.nil | refine Args.cons rfl ?_));done)) rfl rfl (rising_spec (R.boxes.map (·.id)) a' c' _ hz (by rw [List.length_map];omega)) ?_;rintro _ H9 ⟨rfl,hH9⟩;subst H9)|(refine uE (uL rfl rfl (uO (te rfl) rfl (List.mem_append_right _ (qH _)) rfl)) rfl rfl ?_)|(refine uE (uM rfl rfl) rfl rfl ?_)|(refine uE (uA rfl rfl) rfl rfl ?_)|(refine uE (EvF.pickT rfl rfl rfl) rfl rfl ?_)|(refine uE (EvF.pickF rfl rfl rfl) rfl rfl ?_)|(refine uE (uQ rfl rfl rfl rfl) rfl rfl ?_)|(refine uE (EvF.not rfl rfl) rfl rfl ?_)|(refine uE (uF rfl rfl (te rfl) rfl (te rfl) (by decide)) rfl rfl ?_)|(refine uE (uY rfl rfl (te rfl)) rfl rfl ?_)|(refine uE (uL rfl rfl (uO (te rfl) rfl (qH _) rfl)) rfl rfl ?_)))|(refine Xo.g rfl rfl ?_;(first | (with_reducible refine Xw.tf rfl rfl ?_)|(with_reducible refine Xw.case (fun h=>?_) (fun h=>?_) <;> simp only [h,decide_true,decide_false,Bool.not_true,Bool.not_false,and_self,and_true,true_and,and_false,false_and])))))|(refine uD rfl ?_;refine hK _ _ ?_;clear hK K) | refine uS rfl ?_ | refine uR rfl (fun K hK=>?_) | refine X.block rfl ?_ | refine X.skip rfl ?_ | refine X.ret rfl ?_ | (refine X.ite rfl rfl (fun hc=>?_);(first | (with_reducible refine Xb.t hc ?_)|(with_reducible refine Xb.caseN hc (fun h=>?_) (fun h=>?_))) <;> clear hc))
 ·refine ret_one (by simp) Try.results62 rfl (H' := H) (by (repeat (first | exact qR _ | apply qC));done) ?_;simp only [and_true,true_and]
  congr 1;symm;exact decide_eq_false (fun q=>by have:=q.1;omega)
 ·refine ret_one (by simp) Try.results62 rfl (H' := H) ((List.sublist_cons_self _ _).trans (List.sublist_append_right _ _)) ⟨?_,rfl⟩
  congr 1;symm;exact decide_eq_false (fun q=>h q.2.1)
 have hri : risesOk (R.boxes.map (·.id)):=by assumption
 refine X.lp rfl (fun m F' H' => ∃ k : Nat,m = R.boxes.length - k∧k ≤ R.boxes.length∧((∀ b ∈ R.boxes,0 ≤ b.made∧b.made ≤ R.months - 1) ↔ ∀ b ∈ R.boxes.drop k,0 ≤ b.made∧b.made ≤ R.months - 1)∧H' = ⟨b1,0,cRm R ⟨a1,c1,a2,c2,a3,c3⟩,some 26,5⟩::H ∧
   F' = [(1,.pointer (some ⟨b1,0,none⟩)),(17,.slice a2 R.boxes.length c2),(18,.int .i64 R.boxes.length),(19,.int .i64 k)])
  R.boxes.length [(1,.pointer (some ⟨b1,0,none⟩)),(17,.slice a2 R.boxes.length c2),(18,.int .i64 R.boxes.length),(19,.int .i64 (0 : Nat))] _ (by repeat (first | exact uU _ | refine uV rfl ?_)) (List.sublist_append_right _ _) ⟨0,by omega,by omega,by simp,rfl,rfl⟩ ?_
 rintro _ _ _ ⟨k,rfl,hk,hn,rfl,rfl⟩
 repeat' (first | (refine uP rfl ?_;(first | ((first | refine uN rfl ?_);(first | (refine uE (uM rfl rfl) rfl rfl ?_)|(refine uE (uA rfl rfl) rfl rfl ?_)|(refine uE (uQ rfl rfl rfl rfl) rfl rfl ?_)|(refine uE (EvF.add64 rfl rfl rfl (by omega) (by omega)) rfl rfl ?_)))))|(refine uD rfl ?_;refine hK _ _ ?_;clear hK K) | refine uS rfl ?_ | refine uR rfl (fun K hK=>?_) | refine X.block rfl ?_ | (refine X.brk rfl ?_;repeat (first | refine blockX_hit rfl ?_ | refine blockX_miss (by decide) ?_)) | refine X.skip rfl ?_ | refine X.ret rfl ?_ | (refine X.ite rfl rfl (fun hc=>?_);(first | (with_reducible refine Xb.case hc (fun h=>?_) (fun h=>?_))|(with_reducible refine Xb.caseB hc (fun h=>?_) (fun h=>?_))) <;> clear hc))
 ·obtain ⟨b,off,e,rfl,he⟩:=hR.boxes.elem (i:=k) (by omega)
  rw [drop_cons he] at hn
  repeat' (first | (refine uP rfl ?_;(first | ((first | refine uN rfl ?_);(first | (refine uE (uL rfl rfl (LoadV.elA0 (hR1 _).boxes he (te rfl) rfl (fun _ hm=>hm) rfl)) rfl rfl ?_)|(refine uE (uJ rfl rfl rfl (te rfl) (te rfl) (by omega) (by omega)) rfl rfl ?_)|(refine Xg.st (StF.alloc rfl Try.zeroValue35 rfl) rfl rfl ?_;rintro _ _ ⟨bx,rfl,rfl⟩)|(refine Xg.st0 (uZ (i:=0) rfl rfl rfl (te rfl) rfl rfl rfl rfl) rfl ?_;rintro _ _ ⟨rfl,rfl⟩;dsimp only [List.set])))))|(refine uD rfl ?_;refine hK _ _ ?_;clear hK K) | refine uS rfl ?_)
  rename Nat=>b4
  obtain ⟨w,ew⟩ : ∃ q,decide (∀ n ∈ [e.made],(Sp.mk 0 (R.months - 1)).lo ≤ n∧n ≤ (Sp.mk 0 (R.months - 1)).hi)=q:=⟨_,rfl⟩
  obtain ⟨b2,hb2⟩ : ∃ q,(!w)=q:=⟨_,rfl⟩
  have h2 : b2 = false ↔ 0 ≤ e.made∧e.made ≤ R.months - 1:=by
   rw [← hb2, ← ew]
   simp
  refine X.regionOb ts67 [4,1,17,18,19] [(4,.pointer (some ⟨b4,0,none⟩)),(1,.pointer (some ⟨b1,0,none⟩)),(17,.slice (some ⟨b,off,none⟩) R.boxes.length c2),(18,.int .i64 R.boxes.length),(19,.int .i64 k)] (val67 b4 R ⟨a1,c1,some ⟨b,off,none⟩,c2,a3,c3⟩ e w) (rows67 e) (fun _=>(0,0)) (⟨b4,0,cBx e,some 81,2⟩::⟨b1,0,cRm R ⟨a1,c1,some ⟨b,off,none⟩,c2,a3,c3⟩,some 26,5⟩::H) rfl mixed (by repeat (first | exact uU _ | refine uV rfl ?_)) rfl (by kernel_rfl) (loc67 b4 R _ e w) (qR _) ?_ ?_
  ·clear hb2 h2
   repeat' (first | exact AllF.done rfl | (refine AllF.step rfl ?_ ?_;·(first | fail | ((first | refine Ob.ng rfl ?_);(first | exact uK (fun env R hR=>by exact ⟨_,uF rfl rfl (te rfl) rfl (te rfl) (by decide),rfl⟩) rfl (fun _=>rfl) | exact uK (fun env R hR=>by exact ⟨_,EvF.not rfl rfl,rfl⟩) rfl (fun _=>rfl) | exact uK (fun env R hR=>by exact ⟨_,uL rfl rfl (uO (te rfl) rfl (hR _ (qH _)) rfl),rfl⟩) rfl (fun _=>rfl) | exact uK (fun env R hR=>by exact ⟨_,uL rfl rfl (uW (te rfl) rfl (hR _ (qT _ (qH _))) rfl),rfl⟩) rfl (fun _=>rfl)|(exact fun env S hS=>(StF.buildOne rfl el55 rfl rfl rfl (by decide) (by decide)).op.mono (fun v H' ⟨b,hv,hH⟩=>⟨(b,0),fun _=>hv,by rw [hH];exact List.Perm.refl _⟩))|(exact fun env S hS=>OpF.callV (Z:=[]) (uT rfl (by (repeat (first | exact Args.nil | refine Args.cons rfl ?_));done)) (anyMonth_spec R _ _ (by omega) (by omega)) rfl rfl)|(exact fun env S hS=>OpF.callV (uT rfl (by (repeat (first | exact Args.nil | refine Args.cons rfl ?_));done)) (withinL_spec ⟨0,R.months - 1⟩ [e.made] _ _ _ (SlE.ofRow (l:=[e.made]) (qH _) (fun _ _=>rfl)) (by simp)) (by rw [ew];rfl) rfl))))))
  ·intro env t ha hv
   refine ⟨[(29,.bool b2),(1,.pointer (some ⟨b1,0,none⟩)),(17,.slice (some ⟨b,off,none⟩) R.boxes.length c2),(18,.int .i64 R.boxes.length),(19,.int .i64 k)],(ha.sub (by repeat (first | exact uU _ | refine uV rfl ?_))).cons (by rw [← hb2];exact hv 6 29 (Nat.le_of_ble_eq_true rfl) rfl),?_⟩
   show X _ _ _ _ (⟨b4,0,cBx e,some 81,2⟩::⟨b1,0,cRm R ⟨a1,c1,some ⟨b,off,none⟩,c2,a3,c3⟩,some 26,5⟩::H) _
   repeat' (first | (refine uP rfl ?_;(first | ((first | refine uN rfl ?_);(first | (refine uE (uM rfl rfl) rfl rfl ?_)|(refine uE (uA rfl rfl) rfl rfl ?_)|(refine uE (uQ rfl rfl rfl rfl) rfl rfl ?_)|(refine uE (EvF.add64 rfl rfl rfl (by omega) (by omega)) rfl rfl ?_)))))|(refine uD rfl ?_;refine hK _ _ ?_;clear hK K) | refine uS rfl ?_ | refine uR rfl (fun K hK=>?_) | refine X.block rfl ?_ | (refine X.brk rfl ?_;repeat (first | refine blockX_hit rfl ?_ | refine blockX_miss (by decide) ?_)) | refine X.skip rfl ?_ | refine X.ret rfl ?_ | (refine X.ite rfl rfl (fun hc=>?_);(first | (with_reducible refine Xb.case hc (fun h=>?_) (fun h=>?_))|(with_reducible refine Xb.caseB hc (fun h=>?_) (fun h=>?_))) <;> clear hc))
   ·refine ret_one (by simp) Try.results62 rfl (H' := H) (by (repeat (first | exact qR _ | apply qC));done) ?_;simp only [and_true,true_and]
    congr 1;symm
    exact decide_eq_false (fun q=>by rw [h2.2 (hn.1 q.2.2 e List.mem_cons_self)] at h;cases h)
   ·refine ⟨_,_,_,(by repeat (first | exact uU _ | refine uV rfl ?_)),(by (repeat (first | exact qR _ | apply qC));done),⟨k + 1,rfl,by omega,hn.trans ⟨fun q n hm=>q n (List.mem_cons_of_mem _ hm),fun q n hm=>?_⟩,rfl,rfl⟩,by omega⟩
    rcases List.mem_cons.1 hm with rfl | hm
    ·exact h2.1 (by assumption)
    ·exact q n hm
 ·refine ret_one (by simp) Try.results62 rfl (H' := H) (by (repeat (first | exact qR _ | apply qC));done) ?_;simp only [and_true,true_and]
  congr 1;symm
  exact decide_eq_true ⟨by omega,hri,hn.2 (by rw [List.drop_eq_nil_of_le (by omega)];exact fun _ h=>absurd h List.not_mem_nil)⟩
end Go.Proofs.Ytmfppdpkalelhaa
