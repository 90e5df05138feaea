/- Own work: The program: hasBoxes and areThere.; The program: hasValidMatches.; The program: Check tells the same rooms as the reference.; The program: Put.; contracts of functions, from rows of what is known of the memory; contracts of functions, from rows of what is known of the memory; contracts of functions, from rows of what is known of the memory; contracts of functions, from rows of what is known of the memory; contracts of functions, from rows of what is known of the memory; contracts of functions, from rows of what is known of the memory; contracts of functions, from rows of what is known of the memory; contracts of functions, from rows of what is known of the memory; Own work: what came in, opened as rows that are only read. No condition.; contracts of functions, from rows of what is known o -/
import Derived.Test.YtmfppdpkalelhaaGreatW02
import Derived.Maps.RangeRun
import Derived.Laws.Entries
import Derived.Deep.Slices
import Derived.ChangeSame
section
set_option linter.unusedVariables false
set_option linter.unusedSimpArgs false
namespace Go.Proofs.YtmfppdpkalelhaaGreat
open Go Go.Fw
set_option maxRecDepth 10000
def cAb (a : Option Addr) (n c : Nat) (a' : Option Addr) (n' c' : Nat) : List Value:=[.slice a n c,.slice a' n' c']
def allThere (R : Rm) (l : List Int) : Prop := ∀ i ∈ l,∃ b ∈ R.boxes,b.id = i
noncomputable instance (R : Rm) (l : List Int) : Decidable (allThere R l):=Classical.propDecidable _
def tsHb : List TOp:=[⟨some 5,[],[],[]⟩,⟨some 6,[0],[0],[]⟩,⟨some 7,[0,1],[1],[]⟩,⟨some 8,[],[],[]⟩,⟨some 9,[3],[3],[]⟩,⟨some 10,[0,1,2,3,4],[2,4],[]⟩,⟨some 4,[0,1,2,3,4,5],[5],[]⟩]
def valHb (b2 b3 nB : Nat) (R : Rm) (p : Pl) (a : Option Addr) (n c : Nat) (IL : List Value) (w : Bool) (k : Nat) (env : Env) : Value :=
 match k with
 | 0 => .pointer (some ⟨b2,3,none⟩)
 | 1 => .slice p.a2 R.boxes.length p.c2
 | 2 => .slice (some ⟨(env 2).1,0,none⟩) nB (env 2).2
 | 3 => .pointer (some ⟨b3,0,none⟩)
 | 4 => .slice a n c
 | 5 => .bool w
 | 6 => .bool w
 | _=>undef
def rowsHb (b2 b3 nB : Nat) (R : Rm) (p : Pl) (a : Option Addr) (n c : Nat) (IL : List Value) (w : Bool) (k : Nat) (env : Env) : List Row :=
 match k with
 | 2=>[⟨(env 2).1,0,IL,some 3,(env 2).2 * 1⟩]
 | _=>[]
theorem locHb (b2 b3 nB : Nat) (R : Rm) (p : Pl) (a : Option Addr) (n c : Nat) (IL : List Value) (w : Bool) : ∀ k env i q9,i ≠ k → (tAt tsHb k).sup.contains i = false → valHb b2 b3 nB R p a n c IL w k (upd env i q9)=valHb b2 b3 nB R p a n c IL w k env∧rowsHb b2 b3 nB R p a n c IL w k (upd env i q9)=rowsHb b2 b3 nB R p a n c IL w k env:=by
 intro k env i q hk hs
 have hu : ∀ j,j ≠ i → upd env i q j = env j:=fun j hj=>by unfold upd;rw [if_neg hj]
 match k,hk,hs with
 | 0,_,_=>exact ⟨rfl,rfl⟩
 | 1,_,_=>exact ⟨rfl,rfl⟩
 | 2,hk,hs=>exact ⟨by simp only [valHb,hu 2 (fun e=>hk e.symm)],by simp only [rowsHb,hu 2 (fun e=>hk e.symm)]⟩
 | 3,_,_=>exact ⟨rfl,rfl⟩
 | 4,_,_=>exact ⟨rfl,rfl⟩
 | 5,_,_=>exact ⟨rfl,rfl⟩
 | 6,_,_=>exact ⟨rfl,rfl⟩
 | _ + 7,_,_=>exact ⟨rfl,rfl⟩
def rdHb (k : Nat) : List Nat:=match k with
 | 5=>[2]
 | _=>[]
def tsHc : List TOp:=[⟨some 5,[],[],[]⟩,⟨some 6,[0],[0],[]⟩,⟨some 7,[0,1],[1],[]⟩,⟨some 8,[],[],[]⟩,⟨some 9,[3],[3],[]⟩,⟨some 10,[0,1,2,3,4],[2,4],[]⟩,⟨some 4,[0,1,2,3,4,5],[5],[]⟩]
def valHc (b2 b3 : Nat) (R : Rm) (p : Pl) (a : Option Addr) (n c : Nat) (w : Bool) (k : Nat) (env : Env) : Value :=
 match k with
 | 0 => .pointer (some ⟨b2,3,none⟩)
 | 1 => .slice p.a2 R.boxes.length p.c2
 | 2 => .slice none 0 0
 | 3 => .pointer (some ⟨b3,0,none⟩)
 | 4 => .slice a n c
 | 5 => .bool w
 | 6 => .bool w
 | _=>undef
def rowsHc (b2 b3 : Nat) (R : Rm) (p : Pl) (a : Option Addr) (n c : Nat) (w : Bool) (k : Nat) (env : Env) : List Row :=
 match k with
 | _=>[]
theorem locHc (b2 b3 : Nat) (R : Rm) (p : Pl) (a : Option Addr) (n c : Nat) (w : Bool) : ∀ k env i q9,i ≠ k → (tAt tsHc k).sup.contains i = false → valHc b2 b3 R p a n c w k (upd env i q9)=valHc b2 b3 R p a n c w k env∧rowsHc b2 b3 R p a n c w k (upd env i q9)=rowsHc b2 b3 R p a n c w k env:=by
 intro k env i q hk hs
 have hu : ∀ j,j ≠ i → upd env i q j = env j:=fun j hj=>by unfold upd;rw [if_neg hj]
 match k,hk,hs with
 | 0,_,_=>exact ⟨rfl,rfl⟩
 | 1,_,_=>exact ⟨rfl,rfl⟩
 | 2,_,_=>exact ⟨rfl,rfl⟩
 | 3,_,_=>exact ⟨rfl,rfl⟩
 | 4,_,_=>exact ⟨rfl,rfl⟩
 | 5,_,_=>exact ⟨rfl,rfl⟩
 | 6,_,_=>exact ⟨rfl,rfl⟩
 | _ + 7,_,_=>exact ⟨rfl,rfl⟩
set_option maxHeartbeats 2000000 in
theorem hasBoxes_spec (R : Rm) (p : Pl) (l : List Int) (a : Option Addr) (c : Nat) (a' : Option Addr) (n' c' : Nat) (H : List Row) (hR : RmOk H R p) (hl : SlE H a cI 1 l) (hb : l.length ≤ 9223372036854775807) (h2 : R.boxes.length ≤ 1000000) :
  Fc Tryz.prog 107 [.agg (cRm R p).toArray,.agg (cAb a l.length c a' n' c').toArray] H (fun v H' => v = .bool (decide (allThere R l))∧H' = H):=by
 have l2:=hR.l2
 have hw : decide (∀ n ∈ l,n ∈ R.boxes.map (·.id)) = decide (allThere R l):=by
  refine decide_eq_decide.2 ⟨fun h n hn=>?_,fun h n hn=>?_⟩
  ·obtain ⟨b,hb,e⟩:=List.mem_map.1 (h n hn);exact ⟨b,hb,e⟩
  ·obtain ⟨b,hb,e⟩:=h n hn;exact List.mem_map.2 ⟨b,hb,e⟩
 obtain ⟨w,hwe⟩ : ∃ q,decide (allThere R l)=q:=⟨_,rfl⟩
 rw [hwe] at hw ⊢
 have hN : R.boxes ≠ [] → ∀ H',(∀ r ∈ H,r ∈ H') → Fc Tryz.prog 105 [.slice p.a2 R.boxes.length p.c2,.func (.func 67) #[] #[]] H' (fun v H'' => ∃ b q,v = .slice (some ⟨b,0,none⟩) (R.boxes.map (·.id)).length q∧H'' = ⟨b,0,(R.boxes.map (·.id)).flatMap cI,some 3,q * 1⟩::H'):=fun h0 H' h=>(numbersO_specBx 67 (·.id) id_spec R.boxes _ _ H' (hR.boxes.sub h) (by omega)).mono (by
  rintro v H'' (⟨e,_,_⟩ | ⟨b,q,_,e1,e2⟩)
  ·exact absurd e h0
  ·exact ⟨b,q,e1,e2⟩)
 have hN0 : R.boxes = [] → ∀ H',(∀ r ∈ H,r ∈ H') → Fc Tryz.prog 105 [.slice p.a2 R.boxes.length p.c2,.func (.func 67) #[] #[]] H' (fun v H'' => v = .slice none 0 0∧H'' = H'):=fun h0 H' h=>(numbersO_specBx 67 (·.id) id_spec R.boxes _ _ H' (hR.boxes.sub h) (by omega)).mono (by
  rintro v H'' (⟨_,e1,e2⟩ | ⟨b,q,e,_,_⟩)
  ·exact ⟨e1,e2⟩
  ·exact absurd h0 e)
 have hA : ∀ H' b q,(∀ r ∈ H,r ∈ H') → SlE H' (some ⟨b,0,none⟩) cI 1 (R.boxes.map (·.id)) → Fc Tryz.prog 121 [.slice (some ⟨b,0,none⟩) (R.boxes.map (·.id)).length q,.slice a l.length c] H' (fun v H'' => v = .bool w∧H'' = H'):=fun H' b q h hs=>by
  have:=among_spec (R.boxes.map (·.id)) l _ a q c H' hs (hl.sub h) (by rw [List.length_map];omega) hb
  rwa [hw] at this
 refine Fc.mk (callable Tryz.call107) Tryz.func107 rfl Tryz.ntmps107 rfl ?_;dsimp only [fr]
 refine uS rfl ?_;refine uR rfl (fun K hK=>?_);repeat' (first | (refine uP rfl ?_;(first | ((first | refine uN rfl ?_);(first | (refine uE (uA rfl rfl) rfl rfl ?_)|(refine Xg.st (StF.boxAgg rfl rfl) rfl rfl ?_;rintro _ _ ⟨bx,rfl,rfl⟩)))))|(refine uD rfl ?_;refine hK _ _ ?_;clear hK K))
 rename_i b2
 rename Nat=>b3
 by_cases hnil : R.boxes = []
 ·have hA0 : ∀ H',(∀ r ∈ H,r ∈ H') → Fc Tryz.prog 121 [.slice none 0 0,.slice a l.length c] H' (fun v H'' => v = .bool w∧H'' = H'):=fun H' h=>by
   have:=among_spec (R.boxes.map (·.id)) l none a 0 c H' (by rw [hnil];exact sleNil) (hl.sub h) (by rw [List.length_map];omega) hb
   rw [hw,List.length_map,hnil] at this
   exact this
  refine uS rfl ?_
  refine X.regionOb tsHc [2,3] [(2,.pointer (some ⟨b2,0,none⟩)),(3,.pointer (some ⟨b3,0,none⟩))] (valHc b2 b3 R p a l.length c w) (rowsHc b2 b3 R p a l.length c w) (fun _=>(0,0)) (⟨b3,0,cAb a l.length c a' n' c',some 83,2⟩::⟨b2,0,cRm R p,some 32,5⟩::H) rfl mixed (by repeat (first | exact uU _ | refine uV rfl ?_)) rfl (by kernel_rfl) (locHc b2 b3 R p a l.length c w) (qR _) ?_ ?_
  ·repeat' (first | exact AllF.done rfl | (refine AllF.step rfl ?_ ?_;·(first | fail | ((first | refine Ob.ng rfl ?_);(first | exact ObK.pure (fun env R hR=>by exact ⟨_,uA rfl rfl,rfl⟩) rfl (fun _=>rfl) | exact ObK.pure (fun env R hR=>by exact ⟨_,uF rfl rfl (te rfl) rfl (te rfl) (by decide),rfl⟩) rfl (fun _=>rfl) | exact ObK.pure (fun env R hR=>by exact ⟨_,uL rfl rfl (uO (te rfl) rfl (hR _ (qH _)) rfl),rfl⟩) rfl (fun _=>rfl) | exact ObK.pure (fun env R hR=>by exact ⟨_,uL rfl rfl (uO (te rfl) rfl (hR _ (qT _ (qH _))) rfl),rfl⟩) rfl (fun _=>rfl)|(exact fun env S hS=>OpF.callV (Z:=[]) (uT rfl (Args.cons rfl (Args.cons rfl Args.nil))) (hN0 hnil _ (fun _ h=>hS _ (List.mem_append_right [_,_] h))) rfl rfl)|(exact fun env S hS=>OpF.callV (Z:=[]) (uT rfl (Args.cons rfl (Args.cons rfl Args.nil))) (hA0 _ (fun _ h=>hS _ (List.mem_append_right [_,_] h))) rfl rfl))))))
  intro env t ha hv
  refine ⟨_,ha.cons (hv 6 4 (Nat.le_of_ble_eq_true rfl) rfl),?_⟩
  repeat' (first | (refine uP rfl ?_;(first | ((first | refine uN rfl ?_);(first | (refine uE (uM rfl rfl) rfl rfl ?_)|(refine uE (uA rfl rfl) rfl rfl ?_)|(refine uE (uQ rfl rfl rfl rfl) rfl rfl ?_)|(refine uE (EvF.add64 rfl rfl rfl (by omega) (by omega)) rfl rfl ?_)|(refine uE (uF rfl rfl (te rfl) rfl (te rfl) (by decide)) rfl rfl ?_)|(refine uE (EvF.lenSlice rfl rfl (te rfl)) rfl rfl ?_)|(refine uE (uL rfl rfl (uO (te rfl) rfl (qH _) rfl)) rfl rfl ?_)))))|(refine uD rfl ?_;refine hK _ _ ?_;clear hK K) | refine uS rfl ?_ | refine uR rfl (fun K hK=>?_) | refine X.block rfl ?_ | (refine X.brk rfl ?_;repeat (first | refine blockX_hit rfl ?_ | refine blockX_miss (by decide) ?_)) | refine X.skip rfl ?_ | refine X.ret rfl ?_ | (refine X.ite rfl rfl (fun hc=>?_);(first | (with_reducible refine Xb.case hc (fun h=>?_) (fun h=>?_))|(with_reducible refine Xb.caseB hc (fun h=>?_) (fun h=>?_))) <;> clear hc))
  refine ret_one (by simp) Tryz.results107 rfl (H' := H) (by (repeat (first | exact qR _ | apply qC));done) ?_;simp only [and_true,true_and]
  rfl
 ·refine uS rfl ?_
  refine X.regionRd tsHb rdHb [2,3] [(2,.pointer (some ⟨b2,0,none⟩)),(3,.pointer (some ⟨b3,0,none⟩))] (valHb b2 b3 (R.boxes.map (·.id)).length R p a l.length c ((R.boxes.map (·.id)).flatMap cI) w) (rowsHb b2 b3 (R.boxes.map (·.id)).length R p a l.length c ((R.boxes.map (·.id)).flatMap cI) w) (fun _=>(0,0)) (⟨b3,0,cAb a l.length c a' n' c',some 83,2⟩::⟨b2,0,cRm R p,some 32,5⟩::H) rfl mixed (by repeat (first | exact uU _ | refine uV rfl ?_)) rfl (by kernel_rfl) (by kernel_rfl) (locHb b2 b3 (R.boxes.map (·.id)).length R p a l.length c ((R.boxes.map (·.id)).flatMap cI) w) (qR _) ?_ ?_
  ·repeat' (first | exact AllF.done rfl | (refine AllF.step rfl ?_ ?_;·(first | exact (Ob.ng rfl (ObK.pure (fun env R hR=>by exact ⟨_,uA rfl rfl,rfl⟩) rfl (fun _=>rfl))).toR | exact (Ob.ng rfl (ObK.pure (fun env R hR=>by exact ⟨_,uF rfl rfl (te rfl) rfl (te rfl) (by decide),rfl⟩) rfl (fun _=>rfl))).toR | exact (Ob.ng rfl (ObK.pure (fun env R hR=>by exact ⟨_,uL rfl rfl (uO (te rfl) rfl (hR _ (qH _)) rfl),rfl⟩) rfl (fun _=>rfl))).toR | exact (Ob.ng rfl (ObK.pure (fun env R hR=>by exact ⟨_,uL rfl rfl (uO (te rfl) rfl (hR _ (qT _ (qH _))) rfl),rfl⟩) rfl (fun _=>rfl))).toR | (refine ObR.ng rfl ?_;(first | (exact fun env S hS hrd=>(OpF.call (uT rfl (Args.cons rfl (Args.cons rfl Args.nil))) (hN hnil _ (fun _ h=>hS _ (List.mem_append_right [_,_] h)))).mono (fun v H' ⟨b,q,hv,hH⟩=>⟨(b,q),fun _=>hv,by rw [hH];exact List.Perm.refl _⟩))|(exact fun env S hS hrd=>OpF.callV (Z:=[]) (uT rfl (Args.cons rfl (Args.cons rfl Args.nil))) (hA _ _ _ (fun _ h=>hS _ (List.mem_append_right [_,_] h)) (SlE.ofRow (hrd 2 (qH _) _ (qH _)) (fun _ _=>rfl))) rfl rfl))))))
  intro env t ha hv
  refine ⟨_,ha.cons (hv 6 4 (Nat.le_of_ble_eq_true rfl) rfl),?_⟩
  repeat' (first | (refine uP rfl ?_;(first | ((first | refine uN rfl ?_);(first | (refine uE (uM rfl rfl) rfl rfl ?_)|(refine uE (uA rfl rfl) rfl rfl ?_)|(refine uE (uQ rfl rfl rfl rfl) rfl rfl ?_)|(refine uE (EvF.add64 rfl rfl rfl (by omega) (by omega)) rfl rfl ?_)|(refine uE (uF rfl rfl (te rfl) rfl (te rfl) (by decide)) rfl rfl ?_)|(refine uE (EvF.lenSlice rfl rfl (te rfl)) rfl rfl ?_)|(refine uE (uL rfl rfl (uO (te rfl) rfl (qH _) rfl)) rfl rfl ?_)))))|(refine uD rfl ?_;refine hK _ _ ?_;clear hK K) | refine uS rfl ?_ | refine uR rfl (fun K hK=>?_) | refine X.block rfl ?_ | (refine X.brk rfl ?_;repeat (first | refine blockX_hit rfl ?_ | refine blockX_miss (by decide) ?_)) | refine X.skip rfl ?_ | refine X.ret rfl ?_ | (refine X.ite rfl rfl (fun hc=>?_);(first | (with_reducible refine Xb.case hc (fun h=>?_) (fun h=>?_))|(with_reducible refine Xb.caseB hc (fun h=>?_) (fun h=>?_))) <;> clear hc))
  refine ret_one (by simp) Tryz.results107 rfl (H' := H) (by (repeat (first | exact qR _ | apply qC));done) ?_;simp only [and_true,true_and]
  rfl
def ts122 : List TOp:=[⟨some 16,[],[],[]⟩,⟨some 17,[0],[0],[]⟩,⟨some 18,[],[],[]⟩,⟨some 19,[2],[2],[]⟩,⟨some 20,[0,1,2,3],[1,3],[3]⟩,⟨some 21,[0,1,2,3,4],[4],[]⟩,⟨some 22,[0,1,2,3,4,5],[5],[]⟩,⟨some 23,[0,1,2,3,4,5,6],[],[]⟩,⟨some 24,[0,1,2,3,4,5,6,7],[7],[]⟩,⟨some 25,[0,1,2,3,4,5,6],[],[]⟩,⟨some 26,[0,1,2,3,4,5,6,7,8,9],[8,9],[]⟩,⟨some 27,[0,1,2,3,4,5,6,7,8,9,10],[6,10],[]⟩]
def val122 (b2 b3 b6 : Nat) (R : Rm) (p : Pl) (m : Int) (w q : Bool) (k : Nat) (env : Env) : Value :=
 match k with
 | 0 => .agg (cRm R p).toArray
 | 1 => .agg (cSp ⟨0,R.months - 1⟩).toArray
 | 2 => .int .i64 m
 | 3 => .slice (some ⟨(env 3).1,0,none⟩) 1 1
 | 4 => .bool w
 | 5 => .bool (!w)
 | 6 => .bool (!w)
 | 7=>gt (!w) (.pointer (some ⟨b2,3,none⟩))
 | 8=>gt (!w) (.slice p.a2 R.boxes.length p.c2)
 | 9=>gt (!w) (.func (.func 122) #[] #[.pointer (some ⟨b6,0,none⟩),.pointer (some ⟨b3,0,none⟩)])
 | 10=>gt (!w) (.bool q)
 | 11 => .bool (!w || q)
 | _=>undef
def rows122 (m : Int) (k : Nat) (env : Env) : List Row :=
 match k with
 | 3=>[⟨(env 3).1,0,[.int .i64 m],some 3,1 * 1⟩]
 | _=>[]
theorem loc122 (b2 b3 b6 : Nat) (R : Rm) (p : Pl) (m : Int) (w q : Bool) : ∀ k env i q9,i ≠ k → (tAt ts122 k).sup.contains i = false → val122 b2 b3 b6 R p m w q k (upd env i q9)=val122 b2 b3 b6 R p m w q k env∧rows122 m k (upd env i q9)=rows122 m k env:=by
 intro k env i q hk hs
 have hu : ∀ j,j ≠ i → upd env i q j = env j:=fun j hj=>by unfold upd;rw [if_neg hj]
 match k,hk,hs with
 | 0,_,_=>exact ⟨rfl,rfl⟩
 | 1,_,_=>exact ⟨rfl,rfl⟩
 | 2,_,_=>exact ⟨rfl,rfl⟩
 | 3,hk,hs=>exact ⟨by simp only [val122,hu 3 (fun e=>hk e.symm)],by simp only [rows122,hu 3 (fun e=>hk e.symm)]⟩
 | 4,_,_=>exact ⟨rfl,rfl⟩
 | 5,_,_=>exact ⟨rfl,rfl⟩
 | 6,_,_=>exact ⟨rfl,rfl⟩
 | 7,_,_=>exact ⟨rfl,rfl⟩
 | 8,_,_=>exact ⟨rfl,rfl⟩
 | 9,_,_=>exact ⟨rfl,rfl⟩
 | 10,_,_=>exact ⟨rfl,rfl⟩
 | 11,_,_=>exact ⟨rfl,rfl⟩
 | _ + 12,_,_=>exact ⟨rfl,rfl⟩
def inTime (R : Rm) (l : List Int) (t : List Int) : Prop := ∀ m ∈ t,(0 ≤ m∧m ≤ R.months - 1) ∧ ¬ ∃ b ∈ R.boxes,b.made > m∧b.id ∈ l
noncomputable instance (R : Rm) (l t : List Int) : Decidable (inTime R l t):=Classical.propDecidable _
set_option maxHeartbeats 2000000 in
theorem areThere_spec (R : Rm) (p : Pl) (l t : List Int) (a : Option Addr) (c : Nat) (a' : Option Addr) (c' : Nat) (H : List Row) (hR : RmOk H R p) (hm : 1 ≤ R.months∧R.months ≤ 12) (hl : SlE H a cI 1 l) (hb : l.length ≤ 9223372036854775807) (ht : SlE H a' cI 1 t) (hb' : t.length ≤ 9223372036854775807) :
  Fc Tryz.prog 108 [.agg (cRm R p).toArray,.agg (cAb a l.length c a' t.length c').toArray] H (fun v H' => v = .bool (decide (inTime R l t))∧H' = H):=by
 have l2:=hR.l2
 have ht2 : ∀ r1 r2,SlE (r1::r2::H) a' cI 1 t:=fun r1 r2=>ht.sub (fun _ h=>qT _ (qT _ h))
 obtain ⟨a1,c1,a2,c2,a3,c3⟩:=p
 refine Fc.mk (callable Tryz.call108) Tryz.func108 rfl Tryz.ntmps108 rfl ?_;dsimp only [fr]
 refine uS rfl ?_;refine uR rfl (fun K hK=>?_);repeat' (first | (refine uP rfl ?_;(first | ((first | refine uN rfl ?_);(first | (refine uE (uA rfl rfl) rfl rfl ?_)|(refine Xg.st (StF.boxAgg rfl rfl) rfl rfl ?_;rintro _ _ ⟨bx,rfl,rfl⟩)))))|(refine uD rfl ?_;refine hK _ _ ?_;clear hK K))
 rename_i b2
 rename Nat=>b3
 repeat' (first | (refine uP rfl ?_;(first | ((first | refine uN rfl ?_);(first | (refine uE (uM rfl rfl) rfl rfl ?_)|(refine uE (uA rfl rfl) rfl rfl ?_)|(refine uE (uQ rfl rfl rfl rfl) rfl rfl ?_)|(refine uE (EvF.add64 rfl rfl rfl (by omega) (by omega)) rfl rfl ?_)|(refine uE (uF rfl rfl (te rfl) rfl (te rfl) (by decide)) rfl rfl ?_)|(refine uE (EvF.lenSlice rfl rfl (te rfl)) rfl rfl ?_)|(refine uE (uL rfl rfl (uO (te rfl) rfl (qH _) rfl)) rfl rfl ?_)))))|(refine uD rfl ?_;refine hK _ _ ?_;clear hK K) | refine uS rfl ?_ | refine uR rfl (fun K hK=>?_) | refine X.block rfl ?_ | (refine X.brk rfl ?_;repeat (first | refine blockX_hit rfl ?_ | refine blockX_miss (by decide) ?_)) | refine X.skip rfl ?_ | refine X.ret rfl ?_ | (refine X.ite rfl rfl (fun hc=>?_);(first | (with_reducible refine Xb.case hc (fun h=>?_) (fun h=>?_))|(with_reducible refine Xb.caseB hc (fun h=>?_) (fun h=>?_))) <;> clear hc))
 refine X.lp rfl (fun m F' H' => ∃ k : Nat,m = t.length - k∧k ≤ t.length∧(inTime R l t ↔ inTime R l (t.drop k))∧H' = ⟨b3,0,cAb a l.length c a' t.length c',some 83,2⟩::⟨b2,0,cRm R ⟨a1,c1,a2,c2,a3,c3⟩,some 32,5⟩::H ∧
   F' = [(2,.pointer (some ⟨b2,0,none⟩)),(3,.pointer (some ⟨b3,0,none⟩)),(9,.slice a' t.length c'),(10,.int .i64 t.length),(11,.int .i64 k)])
  t.length [(2,.pointer (some ⟨b2,0,none⟩)),(3,.pointer (some ⟨b3,0,none⟩)),(9,.slice a' t.length c'),(10,.int .i64 t.length),(11,.int .i64 (0 : Nat))] _ (by repeat (first | exact uU _ | refine uV rfl ?_)) (qR _) ⟨0,by omega,by omega,by simp,rfl,rfl⟩ ?_
 rintro _ _ _ ⟨k,rfl,hk,hn,rfl,rfl⟩
 repeat' (first | (refine uP rfl ?_;(first | ((first | refine uN rfl ?_);(first | (refine uE (uM rfl rfl) rfl rfl ?_)|(refine uE (uA rfl rfl) rfl rfl ?_)|(refine uE (uQ rfl rfl rfl rfl) rfl rfl ?_)|(refine uE (EvF.add64 rfl rfl rfl (by omega) (by omega)) rfl rfl ?_)|(refine uE (uF rfl rfl (te rfl) rfl (te rfl) (by decide)) rfl rfl ?_)|(refine uE (EvF.lenSlice rfl rfl (te rfl)) rfl rfl ?_)|(refine uE (uL rfl rfl (uO (te rfl) rfl (qH _) rfl)) rfl rfl ?_)))))|(refine uD rfl ?_;refine hK _ _ ?_;clear hK K) | refine uS rfl ?_ | refine uR rfl (fun K hK=>?_) | refine X.block rfl ?_ | (refine X.brk rfl ?_;repeat (first | refine blockX_hit rfl ?_ | refine blockX_miss (by decide) ?_)) | refine X.skip rfl ?_ | refine X.ret rfl ?_ | (refine X.ite rfl rfl (fun hc=>?_);(first | (with_reducible refine Xb.case hc (fun h=>?_) (fun h=>?_))|(with_reducible refine Xb.caseB hc (fun h=>?_) (fun h=>?_))) <;> clear hc))
 ·obtain ⟨b,off,e,rfl,he⟩:=ht.elem (i:=k) (by omega)
  rw [drop_cons he] at hn
  repeat' (first | (refine uP rfl ?_;(first | ((first | refine uN rfl ?_);(first | (refine uE (uL rfl rfl (LoadV.el0 (ht2 _ _) he (te rfl) rfl (fun _ hm=>hm) rfl)) rfl rfl ?_)|(refine uE (EvF.makeFunc (fl:=[]) rfl Args.nil (Args.cons rfl (Args.cons rfl Args.nil))) rfl rfl ?_)|(refine uE (uA rfl rfl) rfl rfl ?_)|(refine uE (EvF.indexSlice rfl rfl rfl (te rfl) (te rfl) (by omega) (by omega)) rfl rfl ?_)|(refine Xg.st (StF.alloc rfl Tryz.zeroValue3 rfl) rfl rfl ?_;rintro _ _ ⟨bx,rfl,rfl⟩)|(refine Xg.st0 (StF.storeOne (i:=0) rfl rfl rfl rfl (te rfl) rfl rfl (Nat.le_of_ble_eq_true rfl)) rfl ?_;rintro _ _ ⟨rfl,rfl⟩;dsimp only [List.set])))))|(refine uD rfl ?_;refine hK _ _ ?_;clear hK K) | refine uS rfl ?_ | refine uR rfl (fun K hK=>?_))
  rename Nat=>b6
  obtain ⟨w,ew⟩ : ∃ q,decide (∀ n ∈ [e],(Sp.mk 0 (R.months - 1)).lo ≤ n∧n ≤ (Sp.mk 0 (R.months - 1)).hi)=q:=⟨_,rfl⟩
  obtain ⟨q,eq⟩ : ∃ q,decide (∃ b ∈ R.boxes,decide (b.made > e∧b.id ∈ l)=true)=q:=⟨_,rfl⟩
  obtain ⟨bb,hbb⟩ : ∃ z,(!w || q)=z:=⟨_,rfl⟩
  have h2 : bb = false ↔ (0 ≤ e∧e ≤ R.months - 1) ∧ ¬ ∃ b ∈ R.boxes,b.made > e∧b.id ∈ l:=by
   rw [← hbb, ← ew, ← eq]
   simp
  refine X.regionOb ts122 [6,7,2,3,9,10,11] [(6,.pointer (some ⟨b6,0,none⟩)),(7,.func (.func 122) #[] #[.pointer (some ⟨b6,0,none⟩),.pointer (some ⟨b3,0,none⟩)]),(2,.pointer (some ⟨b2,0,none⟩)),(3,.pointer (some ⟨b3,0,none⟩)),(9,.slice (some ⟨b,off,none⟩) t.length c'),(10,.int .i64 t.length),(11,.int .i64 k)]
   (val122 b2 b3 b6 R ⟨a1,c1,a2,c2,a3,c3⟩ e w q) (rows122 e) (fun _=>(0,0)) (⟨b6,0,[.int .i64 e],some 3,1⟩::⟨b3,0,cAb a l.length c (some ⟨b,off,none⟩) t.length c',some 83,2⟩::⟨b2,0,cRm R ⟨a1,c1,a2,c2,a3,c3⟩,some 32,5⟩::H) rfl mixed (by repeat (first | exact uU _ | refine uV rfl ?_)) rfl (by kernel_rfl) (loc122 b2 b3 b6 R _ e w q) (qR _) ?_ ?_
  ·clear hbb h2
   cases w
   all_goals repeat' (first | exact AllF.done rfl | (refine AllF.step rfl ?_ ?_;·(first | exact Ob.sk rfl rfl (fun _=>rfl) (fun _=>rfl) (fun _=>rfl) (fun _=>rfl)|((first | refine Ob.ng rfl ?_ | refine Ob.g rfl rfl (fun _=>rfl) ?_);(first | exact ObK.pure (fun env R hR=>by exact ⟨_,uM rfl rfl,rfl⟩) rfl (fun _=>rfl) | exact ObK.pure (fun env R hR=>by exact ⟨_,EvF.pickT rfl rfl rfl,rfl⟩) rfl (fun _=>rfl) | exact ObK.pure (fun env R hR=>by exact ⟨_,EvF.pickF rfl rfl rfl,rfl⟩) rfl (fun _=>rfl) | exact ObK.pure (fun env R hR=>by exact ⟨_,uF rfl rfl (te rfl) rfl (te rfl) (by decide),rfl⟩) rfl (fun _=>rfl) | exact ObK.pure (fun env R hR=>by exact ⟨_,EvF.not rfl rfl,rfl⟩) rfl (fun _=>rfl) | exact ObK.pure (fun env R hR=>by exact ⟨_,uL rfl rfl (uO (te rfl) rfl (hR _ (qH _)) rfl),rfl⟩) rfl (fun _=>rfl) | exact ObK.pure (fun env R hR=>by exact ⟨_,uL rfl rfl (uO (te rfl) rfl (hR _ (qT _ (qT _ (qH _)))) rfl),rfl⟩) rfl (fun _=>rfl) | exact ObK.pure (fun env R hR=>by exact ⟨_,uL rfl rfl (uW (te rfl) rfl (hR _ (qT _ (qT _ (qH _)))) rfl),rfl⟩) rfl (fun _=>rfl)|(exact fun env S hS=>(StF.buildOne rfl el55 rfl rfl rfl (by decide) (by decide)).op.mono (fun v H' ⟨b,hv,hH⟩=>⟨(b,0),fun _=>hv,by rw [hH];exact List.Perm.refl _⟩))|(exact fun env S hS=>OpF.callV (Z:=[]) (uT rfl (by (repeat (first | exact Args.nil | refine Args.cons rfl ?_));done)) (anyMonth_spec R _ _ (by omega) (by omega)) rfl rfl)|(exact fun env S hS=>OpF.callV (uT rfl (by (repeat (first | exact Args.nil | refine Args.cons rfl ?_));done)) (withinL_spec ⟨0,R.months - 1⟩ [e] _ _ _ (SlE.ofRow (l:=[e]) (qH _) (fun _ _=>rfl)) (by simp)) (by rw [ew];rfl) rfl)|(exact fun env S hS=>OpF.callV (Z:=[]) (uT rfl (by (repeat (first | exact Args.nil | refine Args.cons rfl ?_));done)) (containsFunc_spec R.boxes _ _ 122 (fun b=>decide (b.made > e∧b.id ∈ l)) _ _ (hR.boxes.sub (fun _ h=>hS _ (qT _ (qT _ (qT _ h))))) l2 (fun q _=>areThere1_spec q e _ _ l _ _ _ _ _ _ _ _ _ _ (hS _ (qH _)) (hS _ (qT _ (qH _))) (hl.sub (fun _ h=>hS _ (qT _ (qT _ (qT _ h))))) hb)) (by rw [eq];rfl) rfl))))))
  ·intro env t' ha hv
   refine ⟨[(27,.bool bb),(2,.pointer (some ⟨b2,0,none⟩)),(3,.pointer (some ⟨b3,0,none⟩)),(9,.slice (some ⟨b,off,none⟩) t.length c'),(10,.int .i64 t.length),(11,.int .i64 k)],(ha.sub (by repeat (first | exact uU _ | refine uV rfl ?_))).cons (by rw [← hbb];exact hv 11 27 (Nat.le_of_ble_eq_true rfl) rfl),?_⟩
   show X _ _ _ _ (⟨b6,0,[.int .i64 e],some 3,1⟩::⟨b3,0,cAb a l.length c (some ⟨b,off,none⟩) t.length c',some 83,2⟩::⟨b2,0,cRm R ⟨a1,c1,a2,c2,a3,c3⟩,some 32,5⟩::H) _
   repeat' (first | (refine uP rfl ?_;(first | ((first | refine uN rfl ?_);(first | (refine uE (uM rfl rfl) rfl rfl ?_)|(refine uE (uA rfl rfl) rfl rfl ?_)|(refine uE (uQ rfl rfl rfl rfl) rfl rfl ?_)|(refine uE (EvF.add64 rfl rfl rfl (by omega) (by omega)) rfl rfl ?_)|(refine uE (uF rfl rfl (te rfl) rfl (te rfl) (by decide)) rfl rfl ?_)|(refine uE (EvF.lenSlice rfl rfl (te rfl)) rfl rfl ?_)|(refine uE (uL rfl rfl (uO (te rfl) rfl (qH _) rfl)) rfl rfl ?_)))))|(refine uD rfl ?_;refine hK _ _ ?_;clear hK K) | refine uS rfl ?_ | refine uR rfl (fun K hK=>?_) | refine X.block rfl ?_ | (refine X.brk rfl ?_;repeat (first | refine blockX_hit rfl ?_ | refine blockX_miss (by decide) ?_)) | refine X.skip rfl ?_ | refine X.ret rfl ?_ | (refine X.ite rfl rfl (fun hc=>?_);(first | (with_reducible refine Xb.case hc (fun h=>?_) (fun h=>?_))|(with_reducible refine Xb.caseB hc (fun h=>?_) (fun h=>?_))) <;> clear hc))
   ·refine ret_one (by simp) Tryz.results108 rfl (H' := H) (by (repeat (first | exact qR _ | apply qC));done) ?_;simp only [and_true,true_and]
    congr 1;symm
    exact decide_eq_false (fun q=>by rw [h2.2 (hn.1 q e List.mem_cons_self)] at h;cases h)
   ·refine ⟨_,_,_,(by repeat (first | exact uU _ | refine uV rfl ?_)),(by (repeat (first | exact qR _ | apply qC));done),⟨k + 1,rfl,by omega,hn.trans ⟨fun q n hm=>q n (List.mem_cons_of_mem _ hm),fun q n hm=>?_⟩,rfl,rfl⟩,by omega⟩
    rcases List.mem_cons.1 hm with rfl | hm
    ·exact h2.1 (by assumption)
    ·exact q n hm
 ·refine ret_one (by simp) Tryz.results108 rfl (H' := H) (by (repeat (first | exact qR _ | apply qC));done) ?_;simp only [and_true,true_and]
  congr 1;symm
  exact decide_eq_true (hn.2 (by rw [List.drop_eq_nil_of_le (by omega)];exact fun _ h=>absurd h List.not_mem_nil))
end Go.Proofs.YtmfppdpkalelhaaGreat
end
section
set_option linter.unusedVariables false
set_option linter.unusedSimpArgs false
namespace Go.Proofs.YtmfppdpkalelhaaGreat
open Go Go.Fw
set_option maxRecDepth 10000
def matOk1 (R : Rm) (e : Mt) : Prop:=e.a ≠ e.b∧e.lo ≤ e.hi∧(∀ n ∈ [e.lo,e.hi],(Sp.mk (-60) 60).lo ≤ n∧n ≤ (Sp.mk (-60) 60).hi)∧allThere R [e.a,e.b]∧inTime R [e.a,e.b] [e.month]
def matsOk (R : Rm) : Prop:=R.mats.length ≤ 8∧risesOk (R.mats.map (·.number)) ∧ ∀ m ∈ R.mats,matOk1 R m
noncomputable instance (R : Rm) : Decidable (matsOk R):=Classical.propDecidable _
set_option maxHeartbeats 4000000 in
theorem hasValidMatches_spec (R : Rm) (p : Pl) (H : List Row) (hR : RmOk H R p) (hm : 1 ≤ R.months∧R.months ≤ 12) (h2 : R.boxes.length ≤ 1000000) : Fc Tryz.prog 70 [.agg (cRm R p).toArray] H (fun v H' => v = .bool (decide (matsOk R))∧H' = H):=by
 have l2:=hR.l2
 have l3:=hR.l3
 have hR1 : ∀ r,RmOk (r::H) R p:=fun r=>hR.sub (fun _ h=>List.mem_cons_of_mem _ h)
 have hR2 : ∀ r1 r2,RmOk (r1::r2::H) R p:=fun r1 r2=>hR.sub (fun _ h=>qT _ (qT _ h))
 have hR7 : ∀ r1 r2 r3 r4 r5 r6 r7,RmOk (r1::r2::r3::r4::r5::r6::r7::H) R p:=fun r1 r2 r3 r4 r5 r6 r7=>hR.sub (fun _ h=>qT _ (qT _ (qT _ (qT _ (qT _ (qT _ (qT _ h)))))))
 obtain ⟨a1,c1,a2,c2,a3,c3⟩:=p
 refine Fc.mk (callable Tryz.call70) Tryz.func70 rfl Tryz.ntmps70 rfl ?_;dsimp only [fr]
 refine uS rfl ?_;refine uR rfl (fun K hK=>?_);repeat' (first | (refine uP rfl ?_;(first | ((first | refine uN rfl ?_);(first | (refine uE (uA rfl rfl) rfl rfl ?_)|(refine Xg.st (StF.boxAgg rfl rfl) rfl rfl ?_;rintro _ _ ⟨bx,rfl,rfl⟩)))))|(refine uD rfl ?_;refine hK _ _ ?_;clear hK K))
 rename Nat=>b1
 repeat' (first | (refine uP rfl ?_;(first | ((first | refine uN rfl ?_ | (refine Xo.g rfl rfl ?_;with_reducible refine Xw.ff ?_));(first | (refine uC (uT rfl (by (repeat (first | exact Args.nil | refine Args.cons rfl ?_));done)) rfl rfl (numbers_specMt R.mats _ _ _ (hR1 _).mats (by omega)) ?_;rintro _ _ ⟨a',c',Z,rfl,rfl,hz⟩)|(refine uC (uT rfl (by (repeat (first | exact Args.nil | refine Args.cons rfl ?_));done)) rfl rfl (rising_spec (R.mats.map (·.number)) a' c' _ hz (by rw [List.length_map];omega)) ?_;rintro _ H9 ⟨rfl,hH9⟩;subst H9)|(refine uE (uL rfl rfl (uO (te rfl) rfl (List.mem_append_right _ (qH _)) rfl)) rfl rfl ?_)|(refine uE (uM rfl rfl) rfl rfl ?_)|(refine uE (uA rfl rfl) rfl rfl ?_)|(refine uE (EvF.pickT rfl rfl rfl) rfl rfl ?_)|(refine uE (EvF.pickF rfl rfl rfl) rfl rfl ?_)|(refine uE (uQ rfl rfl rfl rfl) rfl rfl ?_)|(refine uE (EvF.not rfl rfl) rfl rfl ?_)|(refine uE (uF rfl rfl (te rfl) rfl (te rfl) (by decide)) rfl rfl ?_)|(refine uE (EvF.lenSlice rfl rfl (te rfl)) rfl rfl ?_)|(refine uE (uL rfl rfl (uO (te rfl) rfl (qH _) rfl)) rfl rfl ?_)))|(refine Xo.g rfl rfl ?_;(first | (with_reducible refine Xw.tf rfl rfl ?_)|(with_reducible refine Xw.case (fun h=>?_) (fun h=>?_) <;> simp only [h,decide_true,decide_false,Bool.not_true,Bool.not_false,and_self,and_true,true_and,and_false,false_and])))))|(refine uD rfl ?_;refine hK _ _ ?_;clear hK K) | refine uS rfl ?_ | refine uR rfl (fun K hK=>?_) | refine X.block rfl ?_ | refine X.skip rfl ?_ | refine X.ret rfl ?_ | (refine X.ite rfl rfl (fun hc=>?_);(first | (with_reducible refine Xb.t hc ?_)|(with_reducible refine Xb.caseN hc (fun h=>?_) (fun h=>?_))) <;> clear hc))
 ·refine ret_one (by simp) Tryz.results70 rfl (H' := H) (by (repeat (first | exact qR _ | apply qC));done) ?_;simp only [and_true,true_and]
  congr 1;symm;exact decide_eq_false (fun q=>by have:=q.1;omega)
 ·refine ret_one (by simp) Tryz.results70 rfl (H' := H) ((List.sublist_cons_self _ _).trans (List.sublist_append_right _ _)) ⟨?_,rfl⟩
  congr 1;symm;exact decide_eq_false (fun q=>h q.2.1)
 have hri : risesOk (R.mats.map (·.number)):=by assumption
 refine X.lp rfl (fun m F' H' => ∃ k : Nat,m = R.mats.length - k∧k ≤ R.mats.length∧((∀ b ∈ R.mats,matOk1 R b) ↔ ∀ b ∈ R.mats.drop k,matOk1 R b)∧H' = ⟨b1,0,cRm R ⟨a1,c1,a2,c2,a3,c3⟩,some 32,5⟩::H ∧
   F' = [(1,.pointer (some ⟨b1,0,none⟩)),(18,.slice a3 R.mats.length c3),(19,.int .i64 R.mats.length),(20,.int .i64 k)])
  R.mats.length [(1,.pointer (some ⟨b1,0,none⟩)),(18,.slice a3 R.mats.length c3),(19,.int .i64 R.mats.length),(20,.int .i64 (0 : Nat))] _ (by repeat (first | exact uU _ | refine uV rfl ?_)) (List.sublist_append_right _ _) ⟨0,by omega,by omega,by simp,rfl,rfl⟩ ?_
 rintro _ _ _ ⟨k,rfl,hk,hn,rfl,rfl⟩
 clear hz
 repeat' (first | (refine uP rfl ?_;(first | ((first | refine uN rfl ?_);(first | (refine uE (uA rfl rfl) rfl rfl ?_)|(refine uE (uQ rfl rfl rfl rfl) rfl rfl ?_)))))|(refine uD rfl ?_;refine hK _ _ ?_;clear hK K) | refine uS rfl ?_ | refine uR rfl (fun K hK=>?_) | refine X.block rfl ?_ | (refine X.brk rfl ?_;repeat (first | refine blockX_hit rfl ?_ | refine blockX_miss (by decide) ?_)) | refine X.skip rfl ?_ | refine X.ret rfl ?_ | (refine X.ite rfl rfl (fun hc=>?_);(first | (with_reducible refine Xb.case hc (fun h=>?_) (fun h=>?_))) <;> clear hc))
 ·obtain ⟨b,off,e,rfl,he⟩:=hR.mats.elem (i:=k) (by omega)
  rw [drop_cons he] at hn
  repeat' (first | (refine uP rfl ?_;(first | ((first | refine uN rfl ?_ | (refine Xo.g rfl rfl ?_;with_reducible refine Xw.ff ?_));(first | (refine uE (uL rfl rfl (LoadV.elA0 (hR.sub (fun _ h=>by repeat (first | exact h | apply qT))).mats he (te rfl) rfl (fun _ hm=>hm) rfl)) rfl rfl ?_)|(refine Xg.st (StF.buildTwo rfl el55 rfl rfl rfl rfl rfl rfl (by decide) (by decide)) rfl rfl ?_;rintro _ _ ⟨bt,rfl,rfl⟩)|(refine Xg.st (StF.buildOne rfl el55 rfl rfl rfl (by decide) (by decide)) rfl rfl ?_;rintro _ _ ⟨bo,rfl,rfl⟩)|(refine uC (uT rfl (by (repeat (first | exact Args.nil | refine Args.cons rfl ?_));done)) rfl rfl (part_spec ⟨e.lo,e.hi⟩ (-60) 60 _) ?_;rintro _ H9 ⟨rfl,hH9⟩;subst H9)|(refine uE (uL rfl rfl (LoadV.ownAgg (vs:=cSp ⟨e.lo,e.hi⟩) (te rfl) rfl (qH _) rfl rfl)) rfl rfl ?_)|(refine uE (EvF.build (T:=83) (cs:=cAb _ _ _ _ _ _) rfl (ArgsP.cons rfl (ArgsP.cons rfl ArgsP.nil)) (te rfl) (Places.cons (te rfl) (Places.cons (te rfl) Places.nil)) Tryz.zeroValue83 rfl) rfl rfl ?_)|(refine uC (uT rfl (by (repeat (first | exact Args.nil | refine Args.cons rfl ?_));done)) rfl rfl (hasBoxes_spec R _ [e.a,e.b] _ _ _ _ _ _ (hR.sub (fun _ h=>by repeat (first | exact h | apply qT))) (SlE.ofRow (l:=[e.a,e.b]) (qT _ (qT _ (qH _))) (fun _ _=>rfl)) (by simp) h2) ?_;rintro _ H9 ⟨rfl,hH9⟩;subst H9)|(refine uC (uT rfl (by (repeat (first | exact Args.nil | refine Args.cons rfl ?_));done)) rfl rfl (areThere_spec R _ [e.a,e.b] [e.month] _ _ _ _ _ (hR.sub (fun _ h=>by repeat (first | exact h | apply qT))) hm (SlE.ofRow (l:=[e.a,e.b]) (qT _ (qT _ (qH _))) (fun _ _=>rfl)) (by simp) (SlE.ofRow (l:=[e.month]) (qT _ (qH _)) (fun _ _=>rfl)) (by simp)) ?_;rintro _ H9 ⟨rfl,hH9⟩;subst H9)|(refine uE (uM rfl rfl) rfl rfl ?_)|(refine uE (uA rfl rfl) rfl rfl ?_)|(refine uE (EvF.pickT rfl rfl rfl) rfl rfl ?_)|(refine uE (EvF.pickF rfl rfl rfl) rfl rfl ?_)|(refine uE (uQ rfl rfl rfl rfl) rfl rfl ?_)|(refine uE (EvF.add64 rfl rfl rfl (by omega) (by omega)) rfl rfl ?_)|(refine uE (EvF.not rfl rfl) rfl rfl ?_)|(refine uE (uF rfl rfl (te rfl) rfl (te rfl) (by decide)) rfl rfl ?_)|(refine uE (EvF.indexSlice rfl rfl rfl (te rfl) (te rfl) (by omega) (by omega)) rfl rfl ?_)|(refine uE (uL rfl rfl (uO (te rfl) rfl (qH _) rfl)) rfl rfl ?_)|(refine uE (uL rfl rfl (uO (te rfl) rfl (qT _ (qH _)) rfl)) rfl rfl ?_)|(refine uE (uL rfl rfl (uW (te rfl) rfl (qH _) rfl)) rfl rfl ?_)|(refine uE (uL rfl rfl (uW (te rfl) rfl (qT _ (qT _ (qT _ (qT _ (qH _))))) rfl)) rfl rfl ?_)|(refine Xg.st (StF.alloc rfl Tryz.zeroValue44 rfl) rfl rfl ?_;rintro _ _ ⟨bx,rfl,rfl⟩)|(refine Xg.st (StF.alloc rfl Tryz.zeroValue83 rfl) rfl rfl ?_;rintro _ _ ⟨bx,rfl,rfl⟩)|(refine Xg.st0 (StF.storeAll (i:=0) rfl rfl rfl (te rfl) rfl rfl rfl rfl) rfl ?_;rintro _ _ ⟨rfl,rfl⟩;dsimp only [List.set])))|(refine Xo.g rfl rfl ?_;(first | (with_reducible refine Xw.tf rfl rfl ?_)|(with_reducible refine Xw.case (fun h=>?_) (fun h=>?_) <;> simp only [h,decide_true,decide_false,Bool.not_true,Bool.not_false,and_self,and_true,true_and,and_false,false_and])|(with_reducible refine Xw.caseN (fun h=>?_) (fun h=>?_) <;> simp only [h,decide_true,decide_false,Bool.not_true,Bool.not_false,and_self,and_true,true_and,and_false,false_and])))))|(refine uD rfl ?_;refine hK _ _ ?_;clear hK K) | refine uS rfl ?_ | refine uR rfl (fun K hK=>?_) | refine X.skip rfl ?_ | refine X.ret rfl ?_ | (refine X.ite rfl rfl (fun hc=>?_);(first | (with_reducible refine Xb.t hc ?_)|(with_reducible refine Xb.caseN hc (fun h=>?_) (fun h=>?_))) <;> clear hc))
  any_goals (refine ret_one (by simp) Tryz.results70 rfl (H' := H) (by (repeat (first | exact qR _ | apply qC));done) ?_;simp only [and_true,true_and];congr 1;symm;refine decide_eq_false (fun q=>?_);obtain ⟨q1,q2,q3,q4,q5⟩:=hn.1 q.2.2 e List.mem_cons_self;first | (exfalso;omega)|(exact absurd (And.intro q2 q3) (by assumption))|(exact absurd q4 (by assumption))|(exact absurd q5 (by assumption)))
  refine ⟨_,_,_,(by repeat (first | exact uU _ | refine uV rfl ?_)),(by (repeat (first | exact qR _ | apply qC));done),⟨k + 1,rfl,by omega,hn.trans ⟨fun q n hm=>q n (List.mem_cons_of_mem _ hm),fun q n hm=>?_⟩,rfl,rfl⟩,by omega⟩
  rcases List.mem_cons.1 hm with rfl | hm
  ·have hpp : n.lo ≤ n.hi ∧ ∀ x ∈ [n.lo,n.hi],(Sp.mk (-60) 60).lo ≤ x∧x ≤ (Sp.mk (-60) 60).hi:=by assumption
   exact ⟨by assumption,hpp.1,hpp.2,by assumption,by assumption⟩
  ·exact q n hm
 ·refine ret_one (by simp) Tryz.results70 rfl (H' := H) (by (repeat (first | exact qR _ | apply qC));done) ?_;simp only [and_true,true_and]
  congr 1;symm
  exact decide_eq_true ⟨by omega,hri,hn.2 (by rw [List.drop_eq_nil_of_le (by omega)];exact fun _ h=>absurd h List.not_mem_nil)⟩
end Go.Proofs.YtmfppdpkalelhaaGreat
end
section
set_option linter.unusedVariables false
set_option linter.unusedSimpArgs false
namespace Go.Proofs.YtmfppdpkalelhaaGreat
open Go Go.Fw
set_option maxRecDepth 10000
theorem rises_le : ∀ (l : List Int) (p : Int),rises p l → p ≤ lastOf p l
 | [],p,_=>by simp [lastOf]
 | n::t,p,h=>by
  have:=rises_le t n h.2
  have h1:=h.1
  simp only [lastOf]
  omega
theorem rises_mem : ∀ (l : List Int) (p n : Int),rises p l → n ∈ l → p < n
 | [],_,_,_,h=>absurd h List.not_mem_nil
 | m::t,p,n,h,hm=>by
  rcases List.mem_cons.1 hm with rfl | hm
  ·exact h.1
  ·have:=rises_mem t m n h.2 hm
   have:=h.1
   omega
theorem okBoxes_iff (m : Int) : ∀ (l : List Bx) (last : Int),last ≤ 9999 → (okBoxes m last l ↔ rises last (l.map (·.id))∧lastOf last (l.map (·.id)) ≤ 9999 ∧ ∀ b ∈ l,0 ≤ b.made∧b.made ≤ m - 1)
 | [],last,h=>by simp [okBoxes,rises,lastOf,h]
 | b::l,last,h=>by
  have hl:=rises_le (l.map (·.id)) b.id
  constructor
  ·rintro ⟨h1,h2,h3,h4,h5⟩
   obtain ⟨q1,q2,q3⟩:=(okBoxes_iff m l b.id h2).1 h5
   refine ⟨⟨(show last < b.id by omega),q1⟩,q2,fun e he=>?_⟩
   rcases List.mem_cons.1 he with rfl | he
   ·exact ⟨h3,h4⟩
   ·exact q3 e he
  ·rintro ⟨⟨h1,h2⟩,h3,h4⟩
   have h2' : rises b.id (l.map (·.id)):=h2
   have h3' : lastOf b.id (l.map (·.id)) ≤ 9999:=h3
   have h1' : last < b.id:=h1
   have h5:=hl h2'
   have hb:=h4 b List.mem_cons_self
   exact ⟨by omega,by omega,hb.1,hb.2,(okBoxes_iff m l b.id (by omega)).2 ⟨h2',h3',fun e he=>h4 e (List.mem_cons_of_mem _ he)⟩⟩
theorem okMats_iff (R : Rm) : ∀ (l : List Mt) (last : Int),last ≤ 9999 → (okMats R last l ↔ rises last (l.map (·.number))∧lastOf last (l.map (·.number)) ≤ 9999 ∧ ∀ b ∈ l,matchOk R b)
 | [],last,h=>by simp [okMats,rises,lastOf,h]
 | b::l,last,h=>by
  have hl:=rises_le (l.map (·.number)) b.number
  constructor
  ·rintro ⟨h1,h2,h3,h5⟩
   obtain ⟨q1,q2,q3⟩:=(okMats_iff R l b.number h2).1 h5
   refine ⟨⟨(show last < b.number by omega),q1⟩,q2,fun e he=>?_⟩
   rcases List.mem_cons.1 he with rfl | he
   ·exact h3
   ·exact q3 e he
  ·rintro ⟨⟨h1,h2⟩,h3,h4⟩
   have h2' : rises b.number (l.map (·.number)):=h2
   have h3' : lastOf b.number (l.map (·.number)) ≤ 9999:=h3
   have h1' : last < b.number:=h1
   have h5:=hl h2'
   exact ⟨by omega,by omega,h4 b List.mem_cons_self,(okMats_iff R l b.number (by omega)).2 ⟨h2',h3',fun e he=>h4 e (List.mem_cons_of_mem _ he)⟩⟩
theorem index_ge : ∀ (l : List Bx) (id : Int),0 ≤ index l id ↔ ∃ b ∈ l,b.id = id
 | [],id=>by simp [index]
 | b::l,id=>by
  have h:=index_ge l id
  simp only [index,List.mem_cons,exists_eq_or_imp]
  by_cases hb : b.id = id
  ·simp [hb]
  ·simp only [hb,if_false,false_or]
   rw [← h]
   split <;> omega
theorem index_id : ∀ (l : List Bx) (id : Int) (e : Bx),0 ≤ index l id → l[(index l id).toNat]? = some e → e.id = id
 | [],id,e,h,_=>by simp [index] at h
 | b::l,id,e,h,he=>by
  by_cases hb : b.id = id
  ·simp [index,hb] at he
   rw [← he];exact hb
  ·simp only [index,hb,if_false] at h he
   by_cases h0 : index l id < 0
   ·rw [if_pos h0] at h;omega
   ·rw [if_neg h0] at h he
    have : (index l id + 1).toNat = (index l id).toNat + 1:=by omega
    rw [this,List.getElem?_cons_succ] at he
    exact index_id l id e (by omega) he
theorem rises_inj : ∀ (l : List Bx) (p : Int),rises p (l.map (·.id)) → ∀ x ∈ l,∀ y ∈ l,x.id = y.id → x = y
 | [],_,_,_,h,_,_,_=>absurd h List.not_mem_nil
 | b::l,p,h,x,hx,y,hy,e=>by
  have hm : ∀ z ∈ l,b.id < z.id:=fun z hz=>rises_mem _ _ _ h.2 (List.mem_map.2 ⟨z,hz,rfl⟩)
  rcases List.mem_cons.1 hx with hx1 | hx1
  ·rcases List.mem_cons.1 hy with hy1 | hy1
   ·rw [hx1,hy1]
   ·have:=hm y hy1;rw [hx1] at e;omega
  ·rcases List.mem_cons.1 hy with hy1 | hy1
   ·have:=hm x hx1;rw [hy1] at e;omega
   ·exact rises_inj l b.id h.2 x hx1 y hy1 e
theorem match_iff (R : Rm) (hr : rises 0 (R.boxes.map (·.id))) (e : Mt) : matchOk R e ↔ matOk1 R e:=by
 have key : ∀ i : Int,0 ≤ index R.boxes i → bxAt R.boxes i ∈ R.boxes∧(bxAt R.boxes i).id = i:=fun i hi =>
  ⟨List.mem_of_getElem? (index_get hi),index_id _ _ _ hi (index_get hi)⟩
 have uniq : ∀ i : Int,0 ≤ index R.boxes i → ∀ b ∈ R.boxes,b.id = i → b = bxAt R.boxes i:=fun i hi b hb hbi =>
  rises_inj _ _ hr b hb _ (key i hi).1 (by rw [hbi,(key i hi).2])
 unfold matchOk matOk1 allThere inTime
 constructor
 ·rintro ⟨ha,hb,hne,h0,h1,hma,hmb,h2,h3,h4⟩
  refine ⟨fun q=>hne (by rw [q]),h3,?_,?_,?_⟩
  ·intro n hn
   simp only [List.mem_cons,List.not_mem_nil,or_false] at hn
   rcases hn with rfl | rfl <;> (constructor <;> dsimp only <;> omega)
  ·intro i hi
   simp only [List.mem_cons,List.not_mem_nil,or_false] at hi
   rcases hi with rfl | rfl
   ·exact ⟨_,(key _ ha).1,(key _ ha).2⟩
   ·exact ⟨_,(key _ hb).1,(key _ hb).2⟩
  ·intro m hm
   simp only [List.mem_cons,List.not_mem_nil,or_false] at hm
   subst hm
   refine ⟨⟨h0,h1⟩,?_⟩
   rintro ⟨b,hb1,hb2,hb3⟩
   simp only [List.mem_cons,List.not_mem_nil,or_false] at hb3
   rcases hb3 with h | h
   ·rw [uniq _ ha b hb1 h] at hb2;omega
   ·rw [uniq _ hb b hb1 h] at hb2;omega
 ·rintro ⟨hne,h3,hs,ht,hi⟩
  have ha:=(index_ge R.boxes e.a).2 (ht e.a (by simp))
  have hb:=(index_ge R.boxes e.b).2 (ht e.b (by simp))
  have hlo:=hs e.lo (by simp)
  have hhi:=hs e.hi (by simp)
  obtain ⟨hmo,hno⟩:=hi e.month (by simp)
  dsimp only at hlo hhi
  refine ⟨ha,hb,fun q=>hne ?_,hmo.1,hmo.2,?_,?_,by omega,h3,by omega⟩
  ·have h1:=(key _ ha).2
   have h2:=(key _ hb).2
   unfold bxAt at h1 h2
   rw [q] at h1
   rw [← h1,h2]
  ·refine Int.not_lt.1 (fun q=>hno ⟨_,(key _ ha).1,q,?_⟩)
   rw [(key _ ha).2];simp
  ·refine Int.not_lt.1 (fun q=>hno ⟨_,(key _ hb).1,q,?_⟩)
   rw [(key _ hb).2];simp
theorem room_iff (R : Rm) : (agesOk R∧boxesOk R∧matsOk R) ↔ roomOk R:=by
 unfold agesOk boxesOk matsOk roomOk okHead risesOk
 rw [okBoxes_iff _ _ _ (by omega),okMats_iff _ _ _ (by omega)]
 constructor
 ·rintro ⟨⟨h1,h2,h3,h4⟩,⟨h5,⟨h6,h6'⟩,h7⟩,h8,⟨h9,h9'⟩,h10⟩
  exact ⟨⟨h1.1,h1.2,h2.1,h2.2,h3,h5,h8⟩,h4,⟨h6,h6',h7⟩,h9,h9',fun b hb=>(match_iff R h6 b).2 (h10 b hb)⟩
 ·rintro ⟨⟨h1,h1',h2,h2',h3,h5,h8⟩,h4,⟨h6,h6',h7⟩,h9,h9',h10⟩
  exact ⟨⟨⟨h1,h1'⟩,⟨h2,h2'⟩,h3,h4⟩,⟨h5,⟨h6,h6'⟩,h7⟩,h8,⟨h9,h9'⟩,fun b hb=>(match_iff R h6 b).1 (h10 b hb)⟩
theorem agesOk.m {R : Rm} (h : agesOk R) : 1 ≤ R.months∧R.months ≤ 12:=h.1
theorem check_spec (R : Rm) (p : Pl) (H : List Row) (hR : RmOk H R p) : Fc Tryz.prog 27 [.agg (cRm R p).toArray] H (fun v H' => ((roomOk R∧v = .int .i64 0)∨(¬ roomOk R∧v = .int .i64 10))∧H' = H):=by
 have hR1 : ∀ r,RmOk (r::H) R p:=fun r=>hR.sub (fun _ h=>List.mem_cons_of_mem _ h)
 refine Fc.mk (callable Tryz.call27) Tryz.func27 rfl Tryz.ntmps27 rfl ?_;dsimp only [fr]
 repeat' (first | (refine uP rfl ?_;(first | ((first | refine uN rfl ?_ | (refine Xo.g rfl rfl ?_;with_reducible refine Xw.ff ?_));(first | (refine uC (uT rfl (by (repeat (first | exact Args.nil | refine Args.cons rfl ?_));done)) rfl rfl (hasAges_spec R _ _ (hR1 _)) ?_;rintro _ H9 ⟨rfl,hH9⟩;subst H9)|(refine uC (uT rfl (by (repeat (first | exact Args.nil | refine Args.cons rfl ?_));done)) rfl rfl (hasValidBoxes_spec R _ _ (hR1 _) (agesOk.m (by assumption))) ?_;rintro _ H9 ⟨rfl,hH9⟩;subst H9)|(refine uC (uT rfl (by (repeat (first | exact Args.nil | refine Args.cons rfl ?_));done)) rfl rfl (hasValidMatches_spec R _ _ (hR1 _) (agesOk.m (by assumption)) (by have:=(show boxesOk R by assumption).1;omega)) ?_;rintro _ H9 ⟨rfl,hH9⟩;subst H9)|(refine uE (uM rfl rfl) rfl rfl ?_)|(refine uE (uA rfl rfl) rfl rfl ?_)|(refine uE (EvF.pickT rfl rfl rfl) rfl rfl ?_)|(refine uE (EvF.pickF rfl rfl rfl) rfl rfl ?_)|(refine uE (EvF.not rfl rfl) rfl rfl ?_)|(refine uE (uL rfl rfl (uW (te rfl) rfl (qH _) rfl)) rfl rfl ?_)|(refine Xg.st (StF.boxAgg rfl rfl) rfl rfl ?_;rintro _ _ ⟨bx,rfl,rfl⟩)))|(refine Xo.g rfl rfl ?_;(first | (with_reducible refine Xw.tf rfl rfl ?_)|(with_reducible refine Xw.caseN (fun h=>?_) (fun h=>?_) <;> simp only [h,decide_true,decide_false,Bool.not_true,Bool.not_false,and_self,and_true,true_and,and_false,false_and])))))|(refine uD rfl ?_;refine hK _ _ ?_;clear hK K) | refine uS rfl ?_ | refine uR rfl (fun K hK=>?_) | refine X.skip rfl ?_ | refine X.ret rfl ?_ | (refine X.ite rfl rfl (fun hc=>?_);(first | (with_reducible refine Xb.t hc ?_)|(with_reducible refine Xb.caseN hc (fun h=>?_) (fun h=>?_))) <;> clear hc))
 ·refine ret_one (by simp) Tryz.results27 rfl (H' := H) (by (repeat (first | exact qR _ | apply qC));done) ⟨.inr ⟨fun q=>h ((room_iff R).2 q).2.2,rfl⟩,rfl⟩
 ·refine ret_one (by simp) Tryz.results27 rfl (H' := H) (by (repeat (first | exact qR _ | apply qC));done) ⟨.inl ⟨(room_iff R).1 ⟨by assumption,by assumption,by assumption⟩,rfl⟩,rfl⟩
 ·refine ret_one (by simp) Tryz.results27 rfl (H' := H) (by (repeat (first | exact qR _ | apply qC));done) ⟨.inr ⟨fun q=>h ((room_iff R).2 q).2.1,rfl⟩,rfl⟩
 ·refine ret_one (by simp) Tryz.results27 rfl (H' := H) (by (repeat (first | exact qR _ | apply qC));done) ⟨.inr ⟨fun q=>h ((room_iff R).2 q).1,rfl⟩,rfl⟩
end Go.Proofs.YtmfppdpkalelhaaGreat
end
section
set_option linter.unusedVariables false
set_option linter.unusedSimpArgs false
namespace Go.Proofs.YtmfppdpkalelhaaGreat
open Go Go.Fw
set_option maxRecDepth 10000
def Rz : Rm:=⟨0,0,[],[],[]⟩
def pz : Pl:=⟨none,0,none,0,none,0⟩
def rAges (R : Rm) (t k : Nat) : Row:=⟨t,0,R.ages.flatMap cSp,some 24,k * 2⟩
def rBoxes (R : Rm) (t k : Nat) : Row:=⟨t,0,R.boxes.flatMap cBx,some 47,k * 2⟩
def rMats (R : Rm) (t k : Nat) : Row:=⟨t,0,R.mats.flatMap cMt,some 44,k * 6⟩
/-- a room whose lists lie in memory of one's own, and nothing else there -/
def OwnRm (Z : List Row) (R : Rm) (p : Pl) : Prop :=
 (R = Rz∧p = pz∧Z = []) ∨ ∃ t1 k1 t2 k2 t3 k3,p = ⟨some ⟨t1,0,none⟩,k1,some ⟨t2,0,none⟩,k2,some ⟨t3,0,none⟩,k3⟩∧Z.Perm [rAges R t1 k1,rBoxes R t2 k2,rMats R t3 k3]
def tup' (R : Rm) (p : Pl) (e : Int) : Value := .tuple #[.agg (cRm R p).toArray,.int .i64 e]
def putRm (R : Rm) (x : Mt) : Rm:={ R with mats:=insMt x R.mats }
open Classical in
noncomputable def putF (R : Rm) (x : Mt) : Rm × Int:=if roomOk R then (if 8 ≤ R.mats.length then (Rz,9) else if roomOk (putRm R x) then (putRm R x,0) else (Rz,12)) else (Rz,10)
theorem ownSl {α : Type} {enc : α → List Value} {sz b cap : Nat} {l : List α} {ow : Option Kd} {H : List Row} (hl : ∀ e,(enc e).length = sz) (hm : ⟨b,0,l.flatMap enc,ow,cap⟩ ∈ H) : SlE H (some ⟨b,0,none⟩) enc sz l:=SlE.ofRow hm (fun e _=>hl e)
def ProgR (F : Rm × Int) (H : List Row) (v : Value) (H' : List Row) : Prop := ∃ p Z,v = tup' F.1 p F.2∧H' = Z++H∧OwnRm Z F.1 p
set_option maxHeartbeats 4000000 in
theorem putB_spec (R : Rm) (x : Mt) (d1 : Addr) (c1 : Nat) (d2 : Addr) (c2 : Nat) (d3 : Addr) (c3 : Nat) (H : List Row) (hR : RmOk H R ⟨some d1,c1,some d2,c2,some d3,c3⟩) (h1 : R.ages.length ≤ 1000000) (h2 : R.boxes.length ≤ 1000000) (h3 : R.mats.length ≤ 1000000) :
  Fc Tryz.prog 24 [.agg (cRm R ⟨some d1,c1,some d2,c2,some d3,c3⟩).toArray,.agg (cMt x).toArray] H (ProgR (putF R x) H):=by
 have hR3 : ∀ r1 r2 r3,RmOk (r1::r2::r3::H) R ⟨some d1,c1,some d2,c2,some d3,c3⟩:=fun r1 r2 r3=>hR.sub (fun _ h=>qT _ (qT _ (qT _ h)))
 have hR7 : ∀ r1 r2 r3 r4 r5 r6 r7,SlE (r1::r2::r3::r4::r5::r6::r7::H) (some d3) cMt 6 R.mats:=fun r1 r2 r3 r4 r5 r6 r7=>hR.mats.sub (fun _ h=>qT _ (qT _ (qT _ (qT _ (qT _ (qT _ (qT _ h)))))))
 have hil:=insMt_len x R.mats
 have l1:=hR.l1
 have l2:=hR.l2
 refine Fc.mk (callable Tryz.call24) Tryz.func24 rfl Tryz.ntmps24 rfl ?_;dsimp only [fr]
 repeat' (first | (refine uP rfl ?_;(first | ((first | refine uN rfl ?_);(first | (refine uE (EvF.build (cs:=zR) rfl ArgsP.nil (te rfl) (Places.cons (te rfl) (Places.cons (te rfl) (Places.cons (te rfl) (Places.cons (te rfl) (Places.cons (te rfl) Places.nil))))) Tryz.zeroValue32 rfl) rfl rfl ?_)|(refine uC (uT rfl (by (repeat (first | exact Args.nil | refine Args.cons rfl ?_));done)) rfl rfl (check_spec R _ _ (hR3 _ _ _)) ?_;rintro _ H9 ⟨⟨hr,rfl⟩ | ⟨hr,rfl⟩,hH9⟩ <;> subst H9)|(refine uC (uT rfl (by (repeat (first | exact Args.nil | refine Args.cons rfl ?_));done)) rfl rfl (check_spec (putRm R x) ⟨some ⟨t1,0,none⟩,k1,some ⟨t2,0,none⟩,k2,some ⟨bi,0,none⟩,ki⟩ _ ⟨ownSl (fun _=>rfl) (qT _ (qT _ (qH _))),ownSl (fun _=>rfl) (qT _ (qT _ (qT _ (qH _)))),ownSl (fun _=>rfl) (qH _),l1,l2,(by show (insMt x R.mats).length ≤ _;omega)⟩) ?_;rintro _ H9 ⟨⟨hr',rfl⟩ | ⟨hr',rfl⟩,hH9⟩ <;> subst H9)|(refine uC (uT rfl (by (repeat (first | exact Args.nil | refine Args.cons rfl ?_));done)) rfl rfl (copied_spec R d1 c1 d2 c2 d3 c3 _ (hR3 _ _ _) h1 h2 h3) ?_;rintro _ _ ⟨t1,k1,t2,k2,t3,k3,rfl,rfl⟩)|(refine uC (uT rfl (by (repeat (first | exact Args.nil | refine Args.cons rfl ?_));done)) rfl rfl (put_specMt R.mats x d3 c3 _ (hR7 _ _ _ _ _ _ _) h3) ?_;rintro _ _ ⟨bi,ki,rfl,rfl⟩)|(refine uE (uM rfl rfl) rfl rfl ?_)|(refine uE (uA rfl rfl) rfl rfl ?_)|(refine uE (uQ rfl rfl rfl rfl) rfl rfl ?_)|(refine uE (uF rfl rfl (te rfl) rfl (te rfl) (by decide)) rfl rfl ?_)|(refine uE (EvF.lenSlice rfl rfl (te rfl)) rfl rfl ?_)|(refine uE (uL rfl rfl (uO (te rfl) rfl (qT _ (qT _ (qH _))) rfl)) rfl rfl ?_)|(refine uE (uL rfl rfl (uO (te rfl) rfl (qT _ (qT _ (qT _ (qT _ (qT _ (qT _ (qH _))))))) rfl)) rfl rfl ?_)|(refine uE (uL rfl rfl (uW (te rfl) rfl (qT _ (qH _)) rfl)) rfl rfl ?_)|(refine uE (uL rfl rfl (uW (te rfl) rfl (qT _ (qT _ (qH _))) rfl)) rfl rfl ?_)|(refine uE (uL rfl rfl (uW (te rfl) rfl (qT _ (qT _ (qT _ (qT _ (qT _ (qH _)))))) rfl)) rfl rfl ?_)|(refine Xg.st (StF.boxAgg rfl rfl) rfl rfl ?_;rintro _ _ ⟨bx,rfl,rfl⟩)|(refine Xg.st (StF.alloc rfl Tryz.zeroValue32 rfl) rfl rfl ?_;rintro _ _ ⟨bx,rfl,rfl⟩)|(refine Xg.st0 (StF.storeAll (i:=0) rfl rfl rfl (te rfl) rfl rfl rfl rfl) rfl ?_;rintro _ _ ⟨rfl,rfl⟩;dsimp only [List.set])|(refine Xg.st0 (StF.storeOne (i:=1) rfl rfl rfl rfl (te rfl) rfl rfl (Nat.le_of_ble_eq_true rfl)) rfl ?_;rintro _ _ ⟨rfl,rfl⟩;dsimp only [List.set])|(refine Xg.st0 (StF.storeAll (i:=5) rfl rfl rfl (te rfl) rfl rfl rfl rfl) rfl ?_;rintro _ _ ⟨rfl,rfl⟩;dsimp only [List.set])))))|(refine uD rfl ?_;refine hK _ _ ?_;clear hK K) | refine uS rfl ?_ | refine uR rfl (fun K hK=>?_) | refine X.skip rfl ?_ | refine X.ret rfl ?_ | (refine X.ite rfl rfl (fun hc=>?_);(first | (with_reducible refine Xb.case hc (fun h=>?_) (fun h=>?_))|(with_reducible refine Xb.caseN hc (fun h=>?_) (fun h=>?_))) <;> clear hc))
 any_goals (exfalso;omega)
 ·refine ret_two (by simp) Tryz.results24 ⟨_,rfl,uW (te rfl) rfl (qH _) rfl⟩ rfl (H' := H) (by (repeat (first | exact qR _ | apply qC));done) ?_
  have e : putF R x = (Rz,9):=by unfold putF;rw [if_pos hr,if_pos (by omega)]
  unfold ProgR;rw [e]
  exact ⟨pz,[],rfl,rfl,.inl ⟨rfl,rfl,rfl⟩⟩
 ·refine ret_two (by simp) Tryz.results24 ⟨_,rfl,uW (te rfl) rfl (qT _ (qT _ (qT _ (qT _ (qT _ (qH _)))))) rfl⟩ rfl (H' := [rMats (putRm R x) bi ki,rAges R t1 k1,rBoxes R t2 k2]++H) (by repeat (first | exact qR _ | apply qK | apply qC)) ?_
  have e : putF R x = (putRm R x,0):=by unfold putF;rw [if_pos hr,if_neg (by omega),if_pos hr']
  unfold ProgR;rw [e]
  exact ⟨_,_,rfl,rfl,.inr ⟨t1,k1,t2,k2,bi,ki,rfl,List.perm_append_comm (l₁:=[_]) (l₂:=[_,_])⟩⟩
 ·refine ret_two (by simp) Tryz.results24 ⟨_,rfl,uW (te rfl) rfl (qT _ (qT _ (qT _ (qT _ (qT _ (qH _)))))) rfl⟩ rfl (H' := H) (by (repeat (first | exact qR _ | apply qC));done) ?_
  have e : putF R x = (Rz,12):=by unfold putF;rw [if_pos hr,if_neg (by omega),if_neg hr']
  unfold ProgR;rw [e]
  exact ⟨pz,[],rfl,rfl,.inl ⟨rfl,rfl,rfl⟩⟩
 ·refine ret_two (by simp) Tryz.results24 ⟨_,rfl,uW (te rfl) rfl (qH _) rfl⟩ rfl (H' := H) (by (repeat (first | exact qR _ | apply qC));done) ?_
  have e : putF R x = (Rz,10):=by unfold putF;rw [if_neg hr]
  unfold ProgR;rw [e]
  exact ⟨pz,[],rfl,rfl,.inl ⟨rfl,rfl,rfl⟩⟩
end Go.Proofs.YtmfppdpkalelhaaGreat
end
section
set_option linter.unusedVariables false
namespace Go.Fw
open Go Go.RowKit
section
variable {P : Program} {n : Nat} {ops : Array Oper} {i : Nat} {o : Oper} {F : FS} {H : List Row}
theorem EvF.nilCheck {x : Operand} {a : Addr} (h : o.op = .nilCheck x) (hx : evF F x = some (.pointer (some a))) : EvF P n H F o (.pointer (some a)):=by
 unfold EvF EvOp
 intro t ha B w0 w hS
 simp [execOp,h,ha.ev hx]
theorem EvF.cmpB {op : BinOp} {T T' : TypeId} {x y : Operand} {p q b : Bool} (h : o.op = .binOp op T x y T') (hx : evF F x = some (.bool p)) (hy : evF F y = some (.bool q)) (hu : P.underlying T = some .bool)
  (hb : (match op with | .eql=>some (p == q) | .neq=>some (!(p == q)) | _=>none)=some b) : EvF P n H F o (.bool b):=by
 unfold EvF EvOp
 intro t ha B w0 w hS
 have e1:=ha.ev hx
 have e2:=ha.ev hy
 have e3:=run_equalIn_bool (P:=P) w 9999 T p q hu
 cases op <;> simp only [Option.some.injEq,reduceCtorEq] at hb <;> subst hb <;> simp [execOp,h,e1,e2,eqGuard,binOp,Op.equal,Op.maxDepth,e3]
theorem EvF.buildArr {T e : TypeId} {l : List (Nat × Operand)} {vs : List (Nat × Value)} {len s y : Nat} {ti : TI} {zs cs : List Value} (h : o.op = .build T l.toArray) (hv : ArgsP F l vs) (hT : tiOf P T = some ⟨.ar len e,s,y⟩) (he : tiOf P e = some ti)
  (hz : ∀ w,(zeroValue T).run P w = .ok (.agg zs.toArray) w) (hf : fillL (fun i=>some (i * ti.size,ti.size)) zs vs = some cs) : EvF P n H F o (.agg cs.toArray):=by
 unfold EvF EvOp
 intro t ha B w0 w hS
 have hu:=ti_array hT
 have h2:=fill_eq (fun i=>some (i * ti.size,ti.size)) vs zs.toArray cs (by simpa using hf)
 have h3:=hv.ev ha
 have h5:=ti_size he w
 have h6 : l.map (fun x=>(x.1,Fw.ev t x.2)) = vs:=h3
 simp [execOp,h,Instr.build,hz,underlying,hu,h5,Value.cells,h6,h2]
end
section
variable {P : Program} {n : Nat} {c : Code} {F : FS} {H : List Row} {Q : QX}
abbrev ngX (Q : QX) : QX
 | .goto _,_,_=>False
 | e,F,H=>Q e F H
theorem X.label {l : Nat} (h : c = .label l) (hq : Q .normal F H) : X P n c F H Q:=by
 unfold X W
 intro t ha ρ ds B w0 w hS
 subst h
 exact wpIn_label ⟨rfl,H,⟨F,by simpa using ha,hq⟩,hS⟩
theorem wpIn_scope_straight {F : Fence} {n : Nat} {P : Program} {Q : Exit → Act → World → Prop} {a : Act} {w : World} {c : Code} (h : c.wpIn F n P (Exit.noGoto Q) a w) : (Code.scope c).wpIn F n P Q a w:=by
 intro b k cs hro hb hr
 obtain ⟨e,a₁,w₁,hq,harr⟩:=h b (.inScope c::k) cs hro hb hr
 have h0 : (lone (b.atR a (.code (.scope c)::k)) cs w).fenced P F:=fenced_calm hb hr rfl
 have hs : step P (lone (b.atR a (.code (.scope c)::k)) cs w) = .next (lone (b.atR a (.code c :: .inScope c::k)) cs w) :=
  step_lone_go (by simp [stepG,stepG.exec,Frame.atR])
 cases e with
 | normal=>exact ⟨.normal,a₁,w₁,hq,.head h0 hs (StepsIn.trans harr (.one (fenced_calm hb hr rfl) (step_lone_go (by simp [stepG,stepG.exec,Frame.atR]))))⟩
 | exit id =>
  exact ⟨.exit id,a₁,w₁,hq,(fun k' hk => .head h0 hs (harr.1 k' (by simpa [exitTo] using hk))),
   (fun hr' hk=>let ⟨k₁,h1,h2⟩:=harr.2 hr' (by simpa [exitTo] using hk); ⟨k₁,h1,.head h0 hs h2⟩)⟩
 | goto l=>exact hq.elim
 | ret=>exact ⟨_,a₁,w₁,hq,.of_steps (.one h0 hs) harr⟩
 | panic ch=>exact ⟨_,a₁,w₁,hq,.of_steps (.one h0 hs) harr⟩
 | outgrown=>exact ⟨_,a₁,w₁,hq,.of_steps (.one h0 hs) harr⟩
theorem X.scope (h : c = .scope (cfst c)) (hx : X P n (cfst c) F H (ngX Q)) : X P n c F H Q:=by
 unfold X W at hx ⊢
 intro t ha ρ ds B w0 w hS
 rw [h]
 refine wpIn_scope_straight (wpIn_mono (hx t ha ρ ds B w0 w hS) ?_)
 rintro e a w' ⟨hd,H',⟨F',ha',hq⟩,hS'⟩
 cases e with
 | goto l=>exact hq.elim
 | _=>exact ⟨hd,H',⟨F',ha',hq⟩,hS'⟩
end
end Go.Fw
end
section
set_option linter.unusedVariables false
namespace Go.Fw
open Go Go.RowKit
theorem Fc.weak {P : Program} {f : FuncId} {args : List Value} {H H' : List Row} {R : Value → List Row → Prop} (h : Fc P f args H R) (hp : H.Sublist H') : Fc P f args H' R:=by
 unfold Fc at *
 exact ⟨h.1,fun B w0 w hS=>h.2 B w0 w (hS.sub hp)⟩
theorem XO.reveal {P : Program} {n : Nat} {ops : Array Oper} {i : Nat} {F : FS} {H : List Row} {N : FS → List Row → Prop} {q b cap : Nat} {el : TypeId} {cs : List Value} (hi : H[q]? = some ⟨b,0,cs,some el,cap⟩) (k : ∀ rest,(cs++rest).length = cap → XO P n ops i F (H.set q ⟨b,0,cs++rest,some el,cap⟩) N) : XO P n ops i F H N:=by
 unfold XO WO at *
 intro t ha ρ ds B w0 w hS
 obtain ⟨rest,hl,hS'⟩:=hS.reveal hi
 exact k rest hl t ha ρ ds B w0 w hS'
theorem X.weakR {P : Program} {n : Nat} {c : Code} {F : FS} {H H' : List Row} {Q : QX} (hh : H'.Sublist H) (h : X P n c F H' Q) : X P n c F H Q:=X.weak (fun _ _ h=>h) hh h
end Go.Fw
end
section
set_option linter.unusedVariables false
namespace Go.Fw
open Go Go.RowKit
/-- A call of yield, from what is known. -/
def Yc (P : Program) (l : Nat) (args : List Value) (H : List Row) (R : Value → List Row → Prop) : Prop :=
 ∀ B w0 w,St B w0 H w → ∃ fn tmps assign body,(Instr.yield l args.toArray).run P w = .ok (.round l fn tmps assign body) w ∧
  RoundIn Fence.wide 0 P l fn tmps assign body w fun e w' => ∃ v H',e = .returned v∧R v H'∧St B w0 H' w'
section
variable {P : Program} {n : Nat} {ops : Array Oper} {i : Nat} {o : Oper} {F : FS} {H : List Row}
theorem Yc.mono {l : Nat} {args : List Value} {R R' : Value → List Row → Prop} (h : Yc P l args H R) (hr : ∀ v H',R v H' → R' v H') : Yc P l args H R' := by
 intro B w0 w hS
 obtain ⟨fn,tmps,assign,body,h1,h2⟩:=h B w0 w hS
 exact ⟨fn,tmps,assign,body,h1,h2.mono fun e w' ⟨v,H',he,hR,hS'⟩=>⟨v,H',he,hr _ _ hR,hS'⟩⟩
/-- yield is called -/
theorem Xg.yield {N : FS → List Row → Prop} {g : Operand} {l : Nat} {al : List Operand} {tys : Array TypeId} {vs : List Value} {R : Value → List Row → Prop} (h : o.op = .call { callee := .value g,args:=al.toArray,argTypes:=tys })
  (hg : evF F g = some (.func (.yield l) #[] #[])) (hv : Args F al vs) {d : Nat} (hx : o.dst = some d) (hd : Nat.blt d n = true) (hY : Yc P l vs H R)
  (k : ∀ v H',R v H' → XO P n ops (i + 1) ((d,v)::F) H' N) : Xg P n ops i o F H N:=by
 unfold Xg Xo XO WO
 intro hw ho t ha ρ ds B w0 w hS
 replace ho' := opAt_arr ho
 rw [range_step ho']
 simp only [wpOpsIn,ho',hw t ha,if_true,Oper.wpIn,eval_ev]
 obtain ⟨fn,tmps,assign,body,h1,h2⟩:=hY B w0 w hS
 have hrun : (execOp (Fw.ev t) o).run P w = .ok (.round l fn tmps assign body) w:=by
  have e:=ha.ev hg
  have e2:=hv.ev ha
  simp [execOp,h,resolve,e,Deferred.ofValue,invoke,e2,callFunc,h1]
 rw [sem_round hrun,Oper.uponIn_round]
 refine ⟨fun _ _=>trivial,(fun h=>by cases h),?_⟩
 refine RoundIn.mono (F:=wf ρ) h2 ?_
 rintro e w' ⟨v,H',rfl,hR,hS'⟩
 simp only [put_act]
 have:=k v H' hR
 unfold XO WO at this
 exact this _ (hx ▸ ha.put (d:=some d) hd v) ρ ds B w0 w' hS'
end
def oRow (b : Nat) (o : Obj) : Row:=⟨b,0,[],some (.obj o),0⟩
/-- the block for the deferred calls of a loop's rounds: none -/
def dRow (D : Nat) : Row:=oRow D (.deferred (some []))
def dMk (D : Nat) : Deferred:={ target := .collected D,args := #[] }
theorem St.putObj {B : Nat} {w0 w : World} {H : List Row} {b : Nat} {o : Obj} (h : St B w0 (oRow b o::H) w) (o' : Obj) : St B w0 (oRow b o'::H) (w.putObj b o'):=by
 obtain ⟨hB,_,hb⟩:=h.ok _ (List.mem_cons_self ..)
 have hlt:=(Array.getElem?_eq_some_iff.1 hb).1
 have hp:=List.pairwise_cons.1 h.sep
 have hbel : Below B w (w.putObj b o'):=⟨rfl,rfl,rfl,by simp,fun k hk=>World.putObj_heap_other (by simp only [oRow] at hB;omega)⟩
 refine ⟨h.below.trans hbel,by simpa using h.size,fun r hr=>?_,List.pairwise_cons.2 ⟨fun s hs ho=>hp.1 s hs (.inl rfl),hp.2⟩⟩
 rcases List.mem_cons.1 hr with rfl | hr
 ·exact ⟨hB,rfl,World.putObj_heap_same hlt⟩
 ·exact Row.ok_of_block (h.ok r (List.mem_cons_of_mem _ hr)) (by simp) (World.putObj_heap_other (fun e=>hp.1 r hr (.inl rfl) e.symm))
theorem St.allocObj {B : Nat} {w0 w : World} {H : List Row} (h : St B w0 H w) (o : Obj) : St B w0 (oRow w.heap.size o::H) (w.alloc o):=by
 have h' := h.allocAny o
 refine ⟨h'.below,h'.size,fun r hr=>?_,List.pairwise_cons.2 ⟨fun s hs _=>?_,h.sep⟩⟩
 ·rcases List.mem_cons.1 hr with rfl | hr
  ·exact ⟨h.size,rfl,heap_alloc' _ _⟩
  ·exact h'.ok r hr
 ·have:=Row.ok_lt (h.ok s hs)
  show w.heap.size ≠ s.b
  omega
theorem St.obj {B : Nat} {w0 w : World} {H : List Row} {b : Nat} {o : Obj} (h : St B w0 H w) (hm : oRow b o ∈ H) : w.heap[b]? = some o:=(h.ok _ hm).2.2
abbrev QTT:=Exit → FS → List Nat → List Row → Prop
def liftT (n : Nat) (B : Nat) (w0 : World) (Q : QTT) (e : Exit) (a : Act) (w : World) : Prop := ∃ Ds F H',a.defers = Ds.map dMk∧Ag n F a.tmps.toList∧Q e F Ds H'∧St B w0 (H'++Ds.map dRow) w
/-- the walk over the code of a function in which loops over functions stand: Ds are the blocks that such loops have left -/
def XT (P : Program) (n : Nat) (c : Code) (F : FS) (Ds : List Nat) (H : List Row) (Q : QTT) : Prop :=
 ∀ t,Ag n F t → ∀ B w0 w,St B w0 (H++Ds.map dRow) w → c.wpIn Fence.wide 0 P (liftT n B w0 Q) ⟨t.toArray,Ds.map dMk⟩ w
section
variable {P : Program} {n : Nat} {c : Code} {F : FS} {Ds : List Nat} {H : List Row} {Q : QTT}
theorem XT.ofX (h : X P n c F (H++Ds.map dRow) (fun e F' H' => ∃ H'',(H''++Ds.map dRow).Sublist H'∧Q e F' Ds H'')) : XT P n c F Ds H Q:=by
 unfold X W at h
 intro t ha B w0 w hS
 refine wpIn_mono (h t ha none (Ds.map dMk) B w0 w hS) ?_
 rintro e a w' ⟨hd,H',⟨F',ha',H'',hs,hq⟩,hS'⟩
 exact ⟨Ds,F',H'',hd,ha',hq,hS'.sub hs⟩
/-- no loop over a function yet -/
theorem XT.of0 (h : X P n c F H (fun e F' H' => Q e F' [] H')) : XT P n c F [] H Q:=by
 refine XT.ofX ?_
 simp only [List.map_nil,List.append_nil]
 unfold X W at h ⊢
 intro t ha ρ ds B w0 w hS
 refine wpIn_mono (h t ha ρ ds B w0 w hS) ?_
 rintro e a w' ⟨hd,H',⟨F',ha',hq⟩,hS'⟩
 exact ⟨hd,H',⟨F',ha',H',List.Sublist.refl _,hq⟩,hS'⟩
abbrev thenT (N : FS → List Nat → List Row → Prop) (Q : QTT) : QTT
 | .normal,F,Ds,H=>N F Ds H
 | e,F,Ds,H=>Q e F Ds H
theorem XT.seq (h : c = .seq (cfst c) (csnd c)) (hx : XT P n (cfst c) F Ds H (thenT (fun F Ds H=>XT P n (csnd c) F Ds H Q) Q)) : XT P n c F Ds H Q:=by
 intro t ha B w0 w hS
 rw [h]
 refine wpIn_seq (wpIn_mono (hx t ha B w0 w hS) ?_)
 rintro e a w' ⟨Ds',F',H',hd,ha',hq,hS'⟩
 cases e with
 | normal=>show (csnd c).wpIn _ 0 P _ a w';rw [act_eta hd];exact hq _ ha' B w0 w' hS'
 | _=>exact ⟨Ds',F',H',hd,ha',hq,hS'⟩
abbrev blockT (id : Nat) (Q : QTT) : QTT
 | .exit i,F,Ds,H=>if i = id then Q .normal F Ds H else Q (.exit i) F Ds H
 | e,F,Ds,H=>Q e F Ds H
theorem XT.block (h : c = .block (cid c) (cfst c)) (hx : XT P n (cfst c) F Ds H (blockT (cid c) Q)) : XT P n c F Ds H Q:=by
 intro t ha B w0 w hS
 rw [h]
 refine wpIn_block (wpIn_mono (hx t ha B w0 w hS) ?_)
 rintro e a w' ⟨Ds',F',H',hd,ha',hq,hS'⟩
 cases e with
 | exit i =>
  simp only [blockT] at hq
  simp only [Exit.inBlock]
  split
  ·rename_i hi;rw [if_pos hi] at hq;exact ⟨Ds',F',H',hd,ha',hq,hS'⟩
  ·rename_i hi;rw [if_neg hi] at hq;exact ⟨Ds',F',H',hd,ha',hq,hS'⟩
 | _=>exact ⟨Ds',F',H',hd,ha',hq,hS'⟩
theorem XT.perm {H' : List Row} (hp : H'.Perm H) (h : XT P n c F Ds H' Q) : XT P n c F Ds H Q :=
 fun t ha B w0 w hS=>h t ha B w0 w (hS.perm (List.Perm.append_right _ hp))
theorem XT.weak {F' : FS} {H' : List Row} (hs : Sub F' F) (hh : H'.Sublist H) (h : XT P n c F' Ds H' Q) : XT P n c F Ds H Q :=
 fun t ha B w0 w hS=>h t (ha.sub hs) B w0 w (hS.sub (List.Sublist.append_right hh _))
theorem XT.mono {Q' : QTT} (h : XT P n c F Ds H Q) (hq : ∀ e F Ds H,Q e F Ds H → Q' e F Ds H) : XT P n c F Ds H Q' :=
 fun t ha B w0 w hS=>wpIn_mono (h t ha B w0 w hS) fun _ _ _ ⟨Ds',F',H',hd,ha',hq',hS'⟩=>⟨Ds',F',H',hd,ha',hq _ _ _ _ hq',hS'⟩
end
theorem leave_marks {P : Program} {fn : Func} {t : List Value} {R : Ending → World → Prop} {B : Nat} {w0 : World} {H : List Row} {v : Value} (hv : ResV P fn t H v) (hR : ∀ w,St B w0 H w → R (.returned v) w) :
  ∀ (Ds : List Nat) (w : World),St B w0 (H++Ds.map dRow) w → LeavesInM Fence.wide 0 P fn t.toArray R (Ds.map dMk) .returning w
 | [],w,hS=>by
  simp only [List.map_nil,List.append_nil] at hS
  unfold ResV at hv
  exact ⟨v,hv B w0 w hS,hR w hS⟩
 | D::Ds,w,hS=>by
  have hS1 : St B w0 (dRow D::(H++Ds.map dRow)) w:=hS.perm (by simpa using List.perm_middle.symm)
  have hk : w.heap[D]? = some (.deferred (some [])):=hS1.obj (List.mem_cons_self ..)
  refine ⟨by simp,.inl ⟨D,_,rfl,run_takeDeferred hk,?_⟩⟩
  exact leave_marks hv hR Ds _ (hS1.putObj _).tail
def retT (P : Program) (fn : Func) (R : Value → List Row → Prop) : QTT:=fun e F _ H=>(e = .normal∨e = .ret) ∧ ∃ v H',ResX P F H fn v∧H'.Sublist H∧R v H'
theorem Fc.mkT {P : Program} {fn : Func} {f : FuncId} {args : List Value} {n : Nat} {H : List Row} {R : Value → List Row → Prop} (hc : Callable P f) (hf : P.funcs[f]? = some fn) (hb : fn.body = some (cof fn)) (hn : fn.ntmps = n) (hl' : Nat.ble args.length n = true)
  (h : XT P n (cof fn) (fr 0 args) [] H (retT P fn R)) : Fc P f args H R:=by
 have hl:=Nat.le_of_ble_eq_true hl'
 subst hn
 unfold Fc
 refine ⟨hc,fun B w0 w hS=>callsIn_wide.1 (callsIn_of_wp_marks (n:=0) hf hb trivial ?_ rfl)⟩
 have ha : Ag fn.ntmps (fr 0 args) (args++List.replicate (fn.ntmps - args.length) undef):=by
  refine ⟨by simp;omega,fun i v hi=>?_⟩
  obtain ⟨k,hk,hv⟩:=lk_fr args 0 i v hi
  have hlt:=(List.getElem?_eq_some_iff.1 hv).1
  rw [show i = k by omega,List.getElem?_append_left hlt,hv]
 have:=h _ ha B w0 w (by simpa using hS)
 have he : (args.toArray++Array.replicate (fn.ntmps - args.toArray.size) undef)=(args++List.replicate (fn.ntmps - args.length) undef).toArray:=by simp
 rw [he]
 refine wpIn_mono this ?_
 rintro e a w' ⟨Ds,F',H',hd,ha',⟨he,v,H'',hv,hsub,hR⟩,hS'⟩
 unfold ResX at hv
 have key : LeavesInM Fence.wide 0 P fn a.tmps (fun e w' => ∃ v H',e = .returned v∧R v H'∧St B w0 H' w') a.defers .returning w' := by
  rw [hd]
  have:=leave_marks (R:=fun e w' => ∃ v H',e = .returned v∧R v H'∧St B w0 H' w') (B:=B) (w0:=w0) (hv _ _ ha') (fun w hS=>⟨v,H'',rfl,hR,hS.sub hsub⟩) Ds w' hS'
  simpa using this
 rcases he with rfl | rfl <;> exact key
def lRow (l : Nat) (r : Loop) : Row:=oRow l (.loop r)
/-- what an iterator does, whatever the loop's body is: xs come, each as encs tells -/
def Itf (P : Program) {α : Type} (f : FuncId) (cap : List Value) (E : List Row) (xs : List α) (encs : α → List Value) : Prop :=
 Callable P f ∧ ∀ (l : Nat) (J Jx : List α → List Row → Prop) (Hc : List Row),J [] Hc →
  (∀ pre x Hc,(pre++[x]) <+: xs → J pre Hc → ∀ E',Yc P l (encs x) (Hc++E') (fun v H' => ∃ Hc',H' = Hc'++E'∧((v = .bool true∧J (pre++[x]) Hc')∨(v = .bool false∧Jx (pre++[x]) Hc')))) →
  Fc P f (.func (.yield l) #[] #[]::cap) (Hc++E) (fun _ H' => ∃ Hc',H' = Hc'++E∧(J xs Hc' ∨ ∃ pre,pre <+: xs∧Jx pre Hc'))
/-- the same, whatever comes: what may come before is told by Gd, what has come in the end by Dn -/
def ItfG (P : Program) {α : Type} (f : FuncId) (cap : List Value) (E : List Row) (Gd Dn : List α → Prop) (encs : α → List Value) : Prop :=
 Callable P f ∧ ∀ (l : Nat) (J Jx : List α → List Row → Prop) (Hc : List Row),J [] Hc →
  (∀ pre x Hc,Gd (pre++[x]) → J pre Hc → ∀ E',Yc P l (encs x) (Hc++E') (fun v H' => ∃ Hc',H' = Hc'++E'∧((v = .bool true∧J (pre++[x]) Hc')∨(v = .bool false∧Jx (pre++[x]) Hc')))) →
  Fc P f (.func (.yield l) #[] #[]::cap) (Hc++E) (fun _ H' => ∃ Hc',H' = Hc'++E∧((∃ ys,Dn ys∧J ys Hc') ∨ ∃ pre,Gd pre∧Jx pre Hc'))
/-- how a loop's body can be left -/
def bodyX (I : List Row → Prop) (Ix : Code → List Row → Prop) (Z : List Row) : QX:=fun e _ H => ∃ Hb,(Hb++Z).Sublist H∧match e with
 | .normal=>I Hb
 | .ret=>Ix .ret Hb
 | .exit id=>Ix (.exit id) Hb
 | _=>False
def zipF : List Nat → List Value → FS → FS
 | p::ps,v::vs,F=>zipF ps vs ((p,v)::F)
 | _,_,F=>F
theorem ag_zipF' {n : Nat} : ∀ (ps : List Nat) (vs : List Value) (F : FS) (t : Array Value),Ag n F t.toList → ps.all (fun p=>Nat.blt p n)=true → Ag n (zipF ps vs F) ((ps.zip vs).foldl (fun tmps (x : Nat × Value)=>tmps.setIfInBounds x.1 x.2) t).toList
 | [],vs,F,t,ha,_=>ha
 | p::ps,[],F,t,ha,_=>ha
 | p::ps,v::vs,F,t,ha,hp=>by
  simp only [List.all_cons,Bool.and_eq_true] at hp
  have h1 : Ag n ((p,v)::F) (t.setIfInBounds p v).toList:=by
   have:=ha.put (d:=some p) hp.1 v
   simpa [pf,put] using this
  exact ag_zipF' ps vs ((p,v)::F) (t.setIfInBounds p v) h1 hp.2
theorem ag_zipF {n : Nat} (ps : List Nat) (vs : List Value) (F : FS) (t : Array Value) (ha : Ag n F t.toList) (hp : ps.all (fun p=>Nat.blt p n)=true) : Ag n (zipF ps vs F) ((ps.toArray.zip vs.toArray).foldl (fun tmps (x : Nat × Value)=>tmps.setIfInBounds x.1 x.2) t).toList:=by
 have h:=ag_zipF' ps vs F t ha hp
 have e : ps.toArray.zip vs.toArray = (ps.zip vs).toArray:=by simp
 rw [e]
 rw [← Array.foldl_toList]
 exact h
theorem XT.rangeG {P : Program} {n : Nat} {c : Code} {F : FS} {H : List Row} {Q : QTT} {α : Type} {g : Operand} {ps : List Nat} {assign body : Code} {f : FuncId} {cap : List Value} {E : List Row} {Gd Dn : List α → Prop} {encs : α → List Value}
  (h : c = .rangeFunc g ps.toArray assign body) (hg : evF F g = some (.func (.func f) #[] cap.toArray)) (hI : ItfG P f cap E Gd Dn encs) (hps : ps.all (fun p=>Nat.blt p n)=true) (hen : ∀ x,(encs x).length = ps.length)
  (I : List α → List Row → Prop) (Ix : Code → List Row → Prop) (Hb0 : List Row) (hH : H = Hb0++E) (h0 : I [] Hb0)
  (hround : ∀ pre x Hb,Gd (pre++[x]) → I pre Hb → ∀ Z,X P n assign (zipF ps (encs x) F) (Hb++Z) (fun e F1 H1=>e = .normal ∧ ∃ Hb1,(Hb1++Z).Sublist H1 ∧ ∀ Z',X P n body F1 (Hb1++Z') (bodyX (I (pre++[x])) Ix Z')))
  (hdone : ∀ D ys Hb,Dn ys → I ys Hb → Q .normal F [D] (Hb++E))
  (hret : ∀ D Hb,Ix .ret Hb → Q .ret F [D] (Hb++E))
  (hexit : ∀ D id Hb,Ix (.exit id) Hb → Q (.exit id) F [D] (Hb++E))
  (honly : ∀ c Hb,Ix c Hb → c = .ret ∨ ∃ id,c = .exit id) : XT P n c F [] H Q:=by
 subst h hH
 intro t ha B w0 w hS
 simp only [List.map_nil,List.append_nil] at hS
 refine wpIn_rangeFunc ?_
 intro fn _
 obtain ⟨hcall,hit⟩:=hI
 obtain ⟨rec,hrec⟩ : ∃ rec : LoopState → Option Code → Loop,rec = fun st pe=>{ state:=st,pending:=pe,fn,tmps:=t.toArray,params:=ps.toArray,assign,body,defers:=w.heap.size }:=⟨_,rfl⟩
 have hg' : Act.eval ⟨t.toArray,[]⟩ g = .func (.func f) #[] cap.toArray:=by rw [eval_ev];exact ha.ev hg
 have hS1:=hS.allocObj (.deferred (some []))
 have hS2:=hS1.allocObj (.loop (rec .ready none))
 refine ⟨w.heap.size + 1,[dMk w.heap.size],(w.alloc (.deferred (some []))).alloc (.loop (rec .ready none)),{ target := .fn (.func f) cap.toArray,args := #[.func (.yield (w.heap.size + 1)) #[] #[]] },(w.alloc (.deferred (some []))).alloc (.loop (rec .ready none)),f,
  #[.func (.yield (w.heap.size + 1)) #[] #[]]++cap.toArray,(w.alloc (.deferred (some []))).alloc (.loop (rec .ready none)),?_,?_,fun _ _=>trivial,?_,(fun h=>by cases h),?_⟩
 ·rw [hrec];exact run_enterLoop_outer fn _ _ _ _
 ·simp only [resolve,List.map_nil,hg']
  simp [Deferred.ofValue,Act.eval]
 ·unfold Callable at hcall
  simp [invoke]
  exact hcall _ _
 have hsz : (w.alloc (.deferred (some []))).heap.size = w.heap.size + 1:=size_alloc' _ _
 rw [hsz] at hS2
 -- the round
 have key:=hit (w.heap.size + 1)
  (fun pre Hc => ∃ Hb,I pre Hb∧Hc = lRow (w.heap.size + 1) (rec .ready none)::dRow w.heap.size::Hb)
  (fun _ Hc => ∃ Hb c,Ix c Hb∧Hc = lRow (w.heap.size + 1) (rec .done (some c))::dRow w.heap.size::Hb)
  (lRow (w.heap.size + 1) (rec .ready none)::dRow w.heap.size::Hb0) ⟨Hb0,h0,rfl⟩ ?_
 ·unfold Fc at key
  have hc:=key.2 B w0 _ hS2
  have e1 : (#[Value.func (.yield (w.heap.size + 1)) #[] #[]]++cap.toArray)=(Value.func (.yield (w.heap.size + 1)) #[] #[]::cap).toArray:=by simp
  rw [e1]
  refine (callsIn_wide (n:=0)).2 (hc.mono ?_)
  rintro e w' ⟨v,H',rfl,⟨Hc',rfl,hJ⟩,hS'⟩
  rcases hJ with ⟨ys,hys,Hb,hIb,rfl⟩ | ⟨pre,_,Hb,cc,hIx,rfl⟩
  ·have hl : w'.heap[w.heap.size + 1]? = some (.loop (rec .ready none)):=hS'.obj (List.mem_cons_self ..)
   have hS3:=(hS'.putObj (.loop { rec .ready none with state := .exhausted })).tail
   refine ⟨none,w'.putObj (w.heap.size + 1) (.loop { rec .ready none with state := .exhausted }),?_,?_⟩
   ·have:=run_endLoop (P:=P) hl (by rw [hrec];simp)
    rw [this];rw [hrec]
   ·refine ⟨[w.heap.size],F,Hb++E,rfl,?_,hdone _ _ _ hys hIb,?_⟩
    ·simpa using ha
    ·refine hS3.perm ?_
     simpa using List.perm_append_comm (l₁:=Hb++E) (l₂:=[dRow w.heap.size])
  ·have hl : w'.heap[w.heap.size + 1]? = some (.loop (rec .done (some cc))):=hS'.obj (List.mem_cons_self ..)
   have hS3:=(hS'.putObj (.loop { rec .done (some cc) with state := .exhausted })).tail
   refine ⟨some cc,w'.putObj (w.heap.size + 1) (.loop { rec .done (some cc) with state := .exhausted }),?_,?_⟩
   ·have:=run_endLoop (P:=P) hl (by rw [hrec];simp)
    rw [this];rw [hrec]
   ·have hS4 : St B w0 ((Hb++E)++[w.heap.size].map dRow) (w'.putObj (w.heap.size + 1) (.loop { rec .done (some cc) with state := .exhausted })):=by
     refine hS3.perm ?_
     simpa using List.perm_append_comm (l₁:=Hb++E) (l₂:=[dRow w.heap.size])
    rcases honly cc Hb hIx with rfl | ⟨id,rfl⟩
    ·exact wpIn_ret ⟨[w.heap.size],F,Hb++E,rfl,by simpa using ha,hret _ _ hIx,hS4⟩
    ·exact wpIn_exit ⟨[w.heap.size],F,Hb++E,rfl,by simpa using ha,hexit _ _ _ hIx,hS4⟩
 ·rintro pre x Hc hpre ⟨Hb,hIb,rfl⟩ E' B w0 w' hS'
  have hl : w'.heap[w.heap.size + 1]? = some (.loop (rec .ready none)):=hS'.obj (List.mem_cons_self ..)
  have hy:=run_yield (P:=P) (args:=(encs x).toArray) hl (by rw [hrec];simp [hen])
  rw [hrec] at hy
  refine ⟨_,_,_,_,hy,roundIn_of_wpIn (F:=Fence.wide) trivial ?_⟩
  have hag:=ag_zipF ps (encs x) F t.toArray (by simpa using ha) hps
  have hx:=hround pre x Hb hpre hIb (lRow (w.heap.size + 1) (rec .ready none)::dRow w.heap.size::E')
  unfold X W at hx
  have hx1:=hx _ hag (some (w.heap.size + 1)) [] B w0 w' (hS'.perm (by
   simpa using (List.perm_append_comm (l₁:=Hb) (l₂:=[lRow (w.heap.size + 1) (rec .ready none),dRow w.heap.size])).append_right E'))
  refine wpIn_mono (F:=Fence.wide.inRound (w.heap.size + 1)) (by rw [Array.toArray_toList] at hx1;exact hx1) ?_
  rintro e a1 w1 ⟨hd1,H1,⟨F1,ha1,he1,Hb1,hs1,hbody⟩,hS1'⟩
  subst he1
  have hS1'' : St B w0 (lRow (w.heap.size + 1) (rec .ready none)::(Hb1++(dRow w.heap.size::E'))) w1:=(hS1'.sub hs1).perm (by simpa using List.perm_middle.symm)
  have hl1 : w1.heap[w.heap.size + 1]? = some (.loop (rec .ready none)):=hS1''.obj (List.mem_cons_self ..)
  have hS1b:=hS1''.putObj (.loop { rec .ready none with state := .busy })
  have hb1:=hbody (lRow (w.heap.size + 1) { rec .ready none with state := .busy }::dRow w.heap.size::E')
  have hb2:=hb1 _ ha1 (some (w.heap.size + 1)) [] B w0 _ (hS1b.perm (by simp [lRow]))
  refine ⟨_,run_beginRound hl1 (by rw [hrec]),?_⟩
  rw [act_eta hd1]
  refine wpIn_mono (F:=Fence.wide.inRound (w.heap.size + 1)) hb2 ?_
  rintro e a2 w2 ⟨hd2,H2,⟨F2,ha2,Hb2,hs2,hq⟩,hS2'⟩
  have hS2'' : St B w0 (lRow (w.heap.size + 1) { rec .ready none with state := .busy }::(Hb2++(dRow w.heap.size::E'))) w2:=(hS2'.sub hs2).perm (by simpa using List.perm_middle.symm)
  have hl2 : w2.heap[w.heap.size + 1]? = some (.loop { rec .ready none with state := .busy }):=hS2''.obj (List.mem_cons_self ..)
  have fin : ∀ jump : Option Code,∃ w3,(Instr.endRound (w.heap.size + 1) jump).run P w2 = .ok (.bool jump.isNone) w3∧St B w0 ((lRow (w.heap.size + 1) (rec (if jump.isNone then .ready else .done) jump)::dRow w.heap.size::Hb2)++E') w3:=by
   intro jump
   have h1:=run_endRound (P:=P) jump hl2
   have h2:=hS2''.putObj (.loop { { rec .ready none with state:=LoopState.busy } with state:=if jump.isNone then .ready else .done,pending:=jump })
   have h3 : ({ { rec .ready none with state:=LoopState.busy } with state:=if jump.isNone then .ready else .done,pending:=jump } : Loop)=rec (if jump.isNone then .ready else .done) jump:=by rw [hrec]
   rw [h3] at h2
   have h4 : (Instr.endRound (w.heap.size + 1) jump).run P w2 = .ok (.bool jump.isNone) (w2.putObj (w.heap.size + 1) (.loop (rec (if jump.isNone then .ready else .done) jump))):=by rw [h1];rw [hrec]
   refine ⟨_,h4,h2.perm ?_⟩
   simp only [lRow,List.cons_append]
   refine List.Perm.cons _ ?_
   exact List.perm_middle.symm
  cases e with
  | normal =>
   obtain ⟨w3,h1,h2⟩:=fin none
   exact ⟨_,w3,h1,_,_,rfl,⟨_,rfl,.inl ⟨rfl,Hb2,hq,rfl⟩⟩,h2⟩
  | ret =>
   obtain ⟨w3,h1,h2⟩:=fin (some .ret)
   exact ⟨_,w3,h1,_,_,rfl,⟨_,rfl,.inr ⟨rfl,Hb2,_,hq,rfl⟩⟩,h2⟩
  | exit id =>
   obtain ⟨w3,h1,h2⟩:=fin (some (.exit id))
   exact ⟨_,w3,h1,_,_,rfl,⟨_,rfl,.inr ⟨rfl,Hb2,_,hq,rfl⟩⟩,h2⟩
  | goto l=>exact hq.elim
  | panic ch=>exact hq.elim
  | outgrown=>exact hq.elim
theorem Itf.toG {P : Program} {α : Type} {f : FuncId} {cap : List Value} {E : List Row} {xs : List α} {encs : α → List Value} (h : Itf P f cap E xs encs) : ItfG P f cap E (·<+: xs) (·= xs) encs :=
 ⟨h.1,fun l J Jx Hc h0 hy=>(h.2 l J Jx Hc h0 hy).mono fun _ _ ⟨Hc',e,hq⟩=>⟨Hc',e,hq.imp (fun q=>⟨xs,rfl,q⟩) id⟩⟩
theorem XT.range {P : Program} {n : Nat} {c : Code} {F : FS} {H : List Row} {Q : QTT} {α : Type} {g : Operand} {ps : List Nat} {assign body : Code} {f : FuncId} {cap : List Value} {E : List Row} {xs : List α} {encs : α → List Value}
  (h : c = .rangeFunc g ps.toArray assign body) (hg : evF F g = some (.func (.func f) #[] cap.toArray)) (hI : Itf P f cap E xs encs) (hps : ps.all (fun p=>Nat.blt p n)=true) (hen : ∀ x,(encs x).length = ps.length)
  (I : List α → List Row → Prop) (Ix : Code → List Row → Prop) (Hb0 : List Row) (hH : H = Hb0++E) (h0 : I [] Hb0)
  (hround : ∀ pre x Hb,(pre++[x]) <+: xs → I pre Hb → ∀ Z,X P n assign (zipF ps (encs x) F) (Hb++Z) (fun e F1 H1=>e = .normal ∧ ∃ Hb1,(Hb1++Z).Sublist H1 ∧ ∀ Z',X P n body F1 (Hb1++Z') (bodyX (I (pre++[x])) Ix Z')))
  (hdone : ∀ D Hb,I xs Hb → Q .normal F [D] (Hb++E))
  (hret : ∀ D Hb,Ix .ret Hb → Q .ret F [D] (Hb++E))
  (hexit : ∀ D id Hb,Ix (.exit id) Hb → Q (.exit id) F [D] (Hb++E))
  (honly : ∀ c Hb,Ix c Hb → c = .ret ∨ ∃ id,c = .exit id) : XT P n c F [] H Q :=
 XT.rangeG h hg hI.toG hps hen I Ix Hb0 hH h0 hround (fun D ys Hb e q=>by subst e;exact hdone D Hb q) hret hexit honly
attribute [irreducible] XT Yc
end Go.Fw
end
section
set_option linter.unusedVariables false
namespace Go.Fw
open Go Go.RowKit
def okOp3 (sm : List Nat) (ts : List TOp) (dom : List Nat) (n m : Nat) (i : Nat) (o : Oper) : Bool :=
 let T:=tAt ts i
 (match o.guard with | some (j,_)=>T.sup.contains j | none=>true) && (o.dst == T.dst) &&
 (match T.dst with | some d=>decide (d < n) && (!dom.contains d || sm.contains i) && (List.range i).all (fun j=>(tAt ts j).dst != some d) | none=>true) &&
 o.after.toList.all (fun e => !Region.binds .any e || decide (e.on < i)) &&
 T.sup.all (fun j=>decide (j < i) && o.after.toList.any (fun e=>Region.binds .any e && (e.on == j || (tAt ts e.on).sup.contains j))) &&
 T.deps.all (fun j=>T.sup.contains j) && T.kills.all (fun k=>T.sup.contains k || decide (m ≤ k∧k < ts.length))
def okReg3 (sm : List Nat) (ops : Array Oper) (ts : List TOp) (dom : List Nat) (n : Nat) : Bool :=
 decide (ops.size ≤ ts.length) && ops.toList.zipIdx.all (fun p=>okOp3 sm ts dom n ops.size p.2 p.1) && decide ((ts.flatMap (·.kills)).Nodup) && (ts.drop ops.size).all (fun T=>T.kills.isEmpty && T.sup.isEmpty)
end Go.Fw
end
section
set_option linter.unusedVariables false
namespace Go.Fw
open Go Go.RowKit
/-- an entry: its key, its value, its stamp -/
abbrev Ent:=Int × Value × Nat
def mE (kd : IntKind) (e : Ent) : MapEntry:=⟨.int kd e.1,e.2.1,e.2.2⟩
def mEs (kd : IntKind) (l : List Ent) : Array MapEntry:=(l.map (mE kd)).toArray
def mRow (b : Nat) (kd : IntKind) (l : List Ent) (clock : Nat) : Row:=oRow b (.map (mEs kd l) clock)
/-- a loop's iterator over the map in block m: what it has handed out -/
def iRow (r m since : Nat) (pre : List Ent) : Row:=oRow r (.mapIter (some m) since (pre.map (·.2.2)).toArray since)
theorem St.putAt {B : Nat} {w0 w : World} {H : List Row} {i b : Nat} {o : Obj} (h : St B w0 H w) (hi : H[i]? = some (oRow b o)) (o' : Obj) : St B w0 (H.set i (oRow b o')) (w.putObj b o'):=by
 have hr:=h.ok _ (List.mem_of_getElem? hi)
 obtain ⟨hB,_,hb⟩:=hr
 have hlt:=(Array.getElem?_eq_some_iff.1 hb).1
 have hbel : Below B w (w.putObj b o'):=⟨rfl,rfl,rfl,by simp,fun k hk=>World.putObj_heap_other (by simp only [oRow] at hB;omega)⟩
 refine ⟨h.below.trans hbel,by simpa using h.size,fun r hm=>?_,pairwise_set H i _ _ hi (fun s q ho=>q (.inl rfl)) (fun s q ho=>q (.inr rfl)) h.sep⟩
 obtain ⟨k,hk,hke⟩:=List.mem_iff_getElem.1 hm
 by_cases hki : k = i
 ·subst hki
  have : r = oRow b o' := by rw [← hke];simp
  subst this
  exact ⟨hB,rfl,World.putObj_heap_same hlt⟩
 ·have hk' : H[k]? = some r:=by
   rw [List.length_set] at hk
   rw [List.getElem_set_ne (by omega)] at hke
   rw [List.getElem?_eq_getElem hk,hke]
  have hne:=sep_other h.sep hi hk' (fun e=>hki e.symm) rfl
  exact Row.ok_of_block (h.ok r (List.mem_of_getElem? hk')) (by simp) (World.putObj_heap_other (fun e=>hne (by simpa [oRow] using e)))
/-- what storing makes of the entries -/
def insM (l : List Ent) (clock : Nat) (k : Int) (v : Value) : List Ent:=if l.any (fun e=>e.1 == k) then l.map (fun e=>if e.1 = k then (e.1,v,e.2.2) else e) else l++[(k,v,clock)]
def clkM (l : List Ent) (clock : Nat) (k : Int) : Nat:=if l.any (fun e=>e.1 == k) then clock else clock + 1
def keysM (l : List Ent) : Prop:=(l.map (·.1)).Nodup
def atM (l : List Ent) (k : Int) : Option Value:=(l.find? (fun e=>e.1 == k)).map (·.2.1)
theorem findNow_mem {kd : IntKind} {k : Int} : ∀ (l : List Ent) (i : Nat),
  Instr.findNow (.int kd) (.int kd k) (l.map (mE kd)) i = some (match l.findIdx? (fun e=>e.1 == k) with | some j=>some (i + j,(l.getD j (0,undef,0)).2.1) | none=>none)
 | [],_=>rfl
 | e::l,i=>by
  rw [List.map_cons]
  unfold Instr.findNow
  have h1 : Instr.sameNow (.int kd) (.int kd k) (mE kd e).key = some (k == e.1):=by simp [Instr.sameNow,mE]
  rw [h1,List.findIdx?_cons]
  by_cases h : e.1 = k
  ·have h2 : (k == e.1)=true:=by simp [h]
   have h3 : (e.1 == k)=true:=by simp [h]
   rw [h2,h3]
   simp [mE]
  ·have h2 : (k == e.1)=false:=by simp;exact fun q=>h q.symm
   have h3 : (e.1 == k)=false:=by simp [h]
   rw [h2,h3]
   simp only [Bool.false_eq_true,if_false]
   rw [findNow_mem l (i + 1)]
   cases hf : l.findIdx? (fun e=>e.1 == k) with
   | none=>simp
   | some j=>simp [Nat.add_assoc,Nat.add_comm 1 j]
section
variable {P : Program} {H : List Row} {F : FS} {n : Nat} {o : Oper}
theorem run_findM {w : World} {kt : TypeId} {kd : IntKind} (hk : P.underlying kt = some (.int kd)) (l : List Ent) (k : Int) :
  (Instr.findKey kt (.int kd k) (mEs kd l).toList).run P w = .ok (match l.findIdx? (fun e=>e.1 == k) with | some j=>some (j,(l.getD j (0,undef,0)).2.1) | none=>none) w:=by
 have h:=findNow_mem (kd:=kd) (k:=k) l 0
 have : (mEs kd l).toList = l.map (mE kd):=by simp [mEs]
 rw [this]
 simp only [Nat.zero_add] at h
 exact MapKept.run_findKey hk h
theorem any_none {l : List Ent} {k : Int} (h : l.findIdx? (fun e=>e.1 == k)=none) : l.any (fun e=>e.1 == k)=false:=by
 rw [List.findIdx?_eq_none_iff] at h
 rw [List.any_eq_false]
 intro e he
 have:=h e he
 simpa using this
theorem any_some {l : List Ent} {k : Int} {j : Nat} (h : l.findIdx? (fun e=>e.1 == k)=some j) : l.any (fun e=>e.1 == k)=true ∧ ∃ e,l[j]? = some e∧e.1 = k:=by
 obtain ⟨hj,he,_⟩:=List.findIdx?_eq_some_iff_getElem.1 h
 exact ⟨List.any_eq_true.2 ⟨_,List.getElem_mem hj,he⟩,_,List.getElem?_eq_getElem hj,by simpa using he⟩
theorem StF.makeMap {T : TypeId} (kd : IntKind) (h : o.op = .makeMap T none) : StF P n H F o (fun v H' => ∃ b,v = .map (some b)∧H' = mRow b kd [] 0::H):=by
 unfold StF StepOp
 intro t ha B w0 w hS
 refine ⟨_,_,_,.inl ?_,hS.allocObj (.map #[] 0),_,rfl,rfl⟩
 simp [execOp,h,Instr.makeMap,newObj,Sem.run,World.alloc_eq]
theorem modify_list {α : Type} (f : α → α) : ∀ (l : List α) (j : Nat),(l.toArray.modify j f)=(l.modify j f).toArray:=by
 intro l j
 apply Array.ext'
 simp
theorem keys_inj {l : List Ent} (hl : keysM l) {i j : Nat} {a b : Ent} (ha : l[i]? = some a) (hb : l[j]? = some b) (h : a.1 = b.1) : i = j:=by
 obtain ⟨hi,he⟩:=List.getElem?_eq_some_iff.1 ha
 obtain ⟨hj,hf⟩:=List.getElem?_eq_some_iff.1 hb
 have:=(List.nodup_iff_pairwise_ne.1 hl)
 rw [List.pairwise_map] at this
 rcases Nat.lt_trichotomy i j with q | q | q
 ·exact absurd (by rw [he,hf];exact h) (List.pairwise_iff_getElem.1 this i j hi hj q)
 ·exact q
 ·exact absurd (by rw [he,hf];exact h.symm) (List.pairwise_iff_getElem.1 this j i hj hi q)
theorem StF.mapUpdate {T kt e : TypeId} {m key val : Operand} {kd : IntKind} {i b clock : Nat} {l : List Ent} {k : Int} {v : Value} (h : o.op = .mapUpdate T m key val) (hT : P.underlying T = some (.map kt e)) (hk : P.underlying kt = some (.int kd))
  (hm : evF F m = some (.map (some b))) (hx : evF F key = some (.int kd k)) (hv : evF F val = some v) (hi : H[i]? = some (mRow b kd l clock)) (hl : keysM l) :
  StF P n H F o (fun u H' => u = undef∧H' = H.set i (mRow b kd (insM l clock k v) (clkM l clock k))):=by
 unfold StF StepOp
 intro t ha B w0 w hS
 have hb : w.heap[b]? = some (.map (mEs kd l) clock):=(hS.ok _ (List.mem_of_getElem? hi)).2.2
 have e1:=ha.ev hm
 have e2:=ha.ev hx
 have e3:=ha.ev hv
 have hkey : MapKept.IsKey (.int kd) (.int kd k):=rfl
 refine ⟨undef,w.putObj b (.map (mEs kd (insM l clock k v)) (clkM l clock k)),_,.inr ⟨?_,rfl⟩,hS.putAt hi _,rfl,rfl⟩
 have hf:=run_findM (P:=P) (w:=w) hk l k
 cases hj : l.findIdx? (fun e=>e.1 == k) with
 | none =>
  have ha:=any_none hj
  rw [hj] at hf
  have hi1 : insM l clock k v = l++[(k,v,clock)]:=by unfold insM;rw [if_neg (by simp [ha])]
  have hi2 : clkM l clock k = clock + 1:=by unfold clkM;rw [if_neg (by simp [ha])]
  rw [hi1,hi2]
  have he : (mEs kd l).push ⟨.int kd k,v,clock⟩ = mEs kd (l++[(k,v,clock)]):=by simp [mEs,mE]
  simp [execOp,h,Instr.mapUpdate,e1,e2,e3,run_underlying hT,MapKept.run_getObj_map hb,MapKept.run_checkKey hk hkey,hf,MapKept.run_setObj_map _ hb,he,World.putObj]
 | some j =>
  obtain ⟨ha,e,hje,hek⟩:=any_some hj
  rw [hj] at hf
  have hi1 : insM l clock k v = l.map (fun e=>if e.1 = k then (e.1,v,e.2.2) else e):=by unfold insM;rw [if_pos ha]
  have hi2 : clkM l clock k = clock:=by unfold clkM;rw [if_pos ha]
  rw [hi1,hi2]
  have hkj : ((mEs kd l)[j]?.map (·.key)).getD (.int kd k) = .int kd k:=by simp [mEs,hje,mE,hek]
  have he : (mEs kd l).modify j (fun e=>{ e with key := .int kd k,val:=v }) = mEs kd (l.map (fun e=>if e.1 = k then (e.1,v,e.2.2) else e)):=by
   unfold mEs
   rw [modify_list]
   congr 1
   apply List.ext_getElem?
   intro x
   rw [List.getElem?_modify,List.getElem?_map,List.getElem?_map,List.getElem?_map]
   cases hx : l[x]? with
   | none=>simp
   | some a =>
    by_cases hxj : j = x
    ·subst hxj
     rw [hje] at hx
     obtain rfl:=Option.some.inj hx
     simp [mE,hek]
    ·have hne : a.1 ≠ k:=fun q=>hxj (keys_inj hl hje hx (by rw [hek,q]))
     simp [hxj,hne]
  simp [execOp,h,Instr.mapUpdate,e1,e2,e3,run_underlying hT,MapKept.run_getObj_map hb,MapKept.run_checkKey hk hkey,hf,hkj,MapKept.run_keyThatStays hkey,MapKept.run_setObj_map _ hb,he,World.putObj]
theorem EvF.lookup {T kt e : TypeId} {m key : Operand} {kd : IntKind} {b clock : Nat} {l : List Ent} {k : Int} {z : Value} (h : o.op = .lookup T m key false) (hT : P.underlying T = some (.map kt e)) (hk : P.underlying kt = some (.int kd))
  (hm : evF F m = some (.map (some b))) (hx : evF F key = some (.int kd k)) (hi : mRow b kd l clock ∈ H) (hz : ∀ w,(zeroValue e).run P w = .ok z w) : EvF P n H F o ((atM l k).getD z):=by
 unfold EvF EvOp
 intro t ha B w0 w hS
 have hb : w.heap[b]? = some (.map (mEs kd l) clock):=(hS.ok _ hi).2.2
 have e1:=ha.ev hm
 have e2:=ha.ev hx
 have hkey : MapKept.IsKey (.int kd) (.int kd k):=rfl
 have hf:=run_findM (P:=P) (w:=w) hk l k
 cases hj : l.findIdx? (fun e=>e.1 == k) with
 | none =>
  rw [hj] at hf
  have : atM l k = none:=by unfold atM;rw [List.find?_eq_none.2 (fun x hx=>by have:=(List.findIdx?_eq_none_iff.1 hj) x hx;simpa using this)];rfl
  rw [this]
  simp [execOp,h,Instr.lookup,e1,e2,run_underlying hT,MapKept.run_getObj_map hb,MapKept.run_checkKey hk hkey,hf,hz]
 | some j =>
  obtain ⟨hj1,hj2,hj3⟩:=List.findIdx?_eq_some_iff_getElem.1 hj
  rw [hj] at hf
  have : atM l k = some l[j].2.1:=by
   unfold atM
   have : l.find? (fun e=>e.1 == k)=some l[j]:=by
    rw [List.find?_eq_some_iff_getElem]
    exact ⟨hj2,j,hj1,rfl,fun i hi=>by have:=hj3 i hi;simpa using this⟩
   rw [this];rfl
  rw [this]
  have hg : (l.getD j (0,undef,0)) = l[j]:=by simp [List.getD,hj1]
  simp only [hg] at hf
  simp [execOp,h,Instr.lookup,e1,e2,run_underlying hT,MapKept.run_getObj_map hb,MapKept.run_checkKey hk hkey,hf]
theorem EvF.entry {it : Operand} {kd : IntKind} {r b clock : Nat} {l pre : List Ent} {e : Ent} (h : o.op = .entry it) (hx : evF F it = some (.pointer (some ⟨r,0,none⟩))) (hi : iRow r b clock (pre++[e]) ∈ H) (hb : mRow b kd l clock ∈ H) (he : e ∈ l) (hn : (l.map (·.2.2)).Nodup) :
  EvF P n H F o (.tuple #[.int kd e.1,e.2.1]):=by
 unfold EvF EvOp
 intro t ha B w0 w hS
 have hr : w.heap[r]? = some (.mapIter (some b) clock ((pre++[e]).map (·.2.2)).toArray clock):=(hS.ok _ hi).2.2
 have hm : w.heap[b]? = some (.map (mEs kd l) clock):=(hS.ok _ hb).2.2
 have e1:=ha.ev hx
 have hp : ((pre++[e]).map (·.2.2)).toArray = (pre.map (·.2.2)).toArray.push (mE kd e).born:=by simp [mE]
 rw [hp] at hr
 have hrun:=run_entry_at (P:=P) w r b clock (pre.map (·.2.2)).toArray (mEs kd l) clock (mE kd e) hr hm (by simpa [mEs] using List.mem_map_of_mem he) (by simpa [mEs,mE,Function.comp_def] using hn)
 simp [execOp,h,e1,hrun,mE]
end
end Go.Fw
end
section
set_option linter.unusedVariables false
namespace Go.Fw
open Go Go.RowKit
section
variable {P : Program} {H : List Row} {F : FS} {n : Nat} {o : Oper}
/-- a slice that is written out -/
theorem StF.buildLit {T e : TypeId} {len sz y : Nat} {l : List (Nat × Operand)} {vs : List (Nat × Value)} {z : Value} {cs : List Value} (h : o.op = .buildSlice T len l.toArray) (hT : ElT P T e sz y) (hz : ∀ w,(zeroValue e).run P w = .ok z w) (hv : ArgsP F l vs)
  (hf : fillL (fun i=>some (i * sz,sz)) ((Array.range (len * sz)).map (z.cells[·% z.cells.size]!)).toList vs = some cs) (h0 : Nat.ble 1 (len * sz)=true) (h1 : Nat.ble (len * sz) 16777216 = true) (hl : cs.length = len * sz) :
  StF P n H F o (fun v H' => ∃ b,v = .slice (some ⟨b,0,none⟩) len len∧H' = ⟨b,0,cs,some e,len * sz⟩::H):=by
 unfold StF StepOp
 intro t ha B w0 w hS
 have hS' := hS.alloc cs e
 refine ⟨.slice (some ⟨w.heap.size,0,none⟩) len len,_,_,.inl ?_,hS',_,rfl,by rw [hl]⟩
 have hf' := fill_eq (fun i=>some (i * sz,sz)) vs ((Array.range (len * sz)).map (z.cells[·% z.cells.size]!)) cs hf
 have h6 : l.map (fun x=>(x.1,Fw.ev t x.2)) = vs:=hv.ev ha
 have h00:=Nat.le_of_ble_eq_true h0
 have h11:=Nat.le_of_ble_eq_true h1
 have h2 : ¬ (len * sz = 0):=by omega
 have h3 : ¬ (16777216 < len * sz):=by omega
 simp [execOp,h,Instr.buildSlice,hT.un,hT.sz,hz,h3,h6,hf',newRow,newObj,Sem.run,World.alloc_eq]
 exact fun q=>absurd q h2
theorem EvF.conv {S D : TypeId} {x : Operand} {k : IntKind} {q : Int} (h : o.op = .convert S D x) (hx : evF F x = some (.int k q)) (hs : (P.underlying S).isSome = true) (hd : P.underlying D = some (.int .i64)) (h1 : -9223372036854775808 ≤ q) (h2 : q ≤ 9223372036854775807) : EvF P n H F o (.int .i64 q):=by
 unfold EvF EvOp
 intro t ha B w0 w hS
 have hw:=wrap_i64 h1 h2
 have e:=ha.ev hx
 obtain ⟨d,hd'⟩:=Option.isSome_iff_exists.mp hs
 simp [execOp,h,e,convert,run_underlying hd',run_underlying hd,Conv.intToInt,hw]
theorem EvF.rem64 {T T' : TypeId} {x y : Operand} {p q : Int} (h : o.op = .binOp .rem T x y T') (hx : evF F x = some (.int .i64 p)) (hy : evF F y = some (.int .i64 q))
  (h0 : 0 ≤ p) (hq : 0 < q) : EvF P n H F o (.int .i64 (p % q)):=by
 unfold EvF EvOp
 intro t ha B w0 w hS
 have e : p.tmod q = p % q:=Int.tmod_eq_emod_of_nonneg h0
 have hz : ¬ q = 0:=by omega
 simp [execOp,h,ha.ev hx,ha.ev hy,eqGuard,binOp,Op.intDiv,hz,e]
end
end Go.Fw
end
section
set_option linter.unusedVariables false
namespace Go.Fw
open Go Go.RowKit
section
variable {P : Program} {H : List Row} {F : FS} {n : Nat} {o : Oper}
/-- a slice of zeros -/
theorem StF.makeN {T e : TypeId} {len sz y : Nat} {x x' : Operand} {z : Value} {cs : List Value} (h : o.op = .makeSlice T x x') (hT : ElT P T e sz y) (hz : ∀ w,(zeroValue e).run P w = .ok z w)
  (hx : evF F x = some (.int .i64 (len : Nat))) (hx' : evF F x' = some (.int .i64 (len : Nat)))
  (hc : ((Array.range (len * sz)).map (z.cells[·% z.cells.size]!)).toList = cs) (h0 : Nat.ble 1 (len * sz)=true) (hb : Nat.ble len 1000000 = true) (hy : Nat.ble y 1000000 = true) (hl : cs.length = len * sz) :
  StF P n H F o (fun v H' => ∃ b,v = .slice (some ⟨b,0,none⟩) len len∧H' = ⟨b,0,cs,some e,len * sz⟩::H):=by
 unfold StF StepOp
 intro t ha B w0 w hS
 have hS' := hS.alloc cs e
 refine ⟨.slice (some ⟨w.heap.size,0,none⟩) len len,_,_,.inl ?_,hS',_,rfl,by rw [hl]⟩
 have h00:=Nat.le_of_ble_eq_true h0
 have hbb:=Nat.le_of_ble_eq_true hb
 have hyy:=Nat.le_of_ble_eq_true hy
 have h2 : ¬ (len * sz = 0):=by omega
 have e1:=ha.ev hx
 have e2:=ha.ev hx'
 have hm : len * y ≤ 1000000 * 1000000:=Nat.mul_le_mul hbb hyy
 have hm1 : ((len * y : Nat) : Int)≤1000000000000:=Int.ofNat_le.2 (Nat.le_trans hm (Nat.le_of_ble_eq_true rfl))
 have hm' : (y : Int) * (len : Int)≤1000000000000:=by rw [Int.mul_comm, ← Int.natCast_mul];exact hm1
 have wl : IntKind.i64.wrap (len : Int)=(len : Int):=wrap_i64 (by omega) (by omega)
 have n1 : ¬ ((len : Int)<0):=by omega
 have n2 : ¬ (281474976710656 < (y : Int) * (len : Int)):=by omega
 have n5 : ¬ (140737488355328 < len * y):=by omega
 obtain ⟨ht,inf,z',hinf,hz',rfl,rfl,hzs⟩:=hT
 have hcs : ((Array.range (len * inf.size)).map (z.cells[·% z.cells.size]!)) = cs.toArray:=by rw [← hc]
 simp [execOp,h,Instr.makeSlice,run_underlying ht,asInt,asIntOf,typeInfo,hinf,sizeOf,e1,e2,wl,n1,n2,h2,hz,newRow,newObj,Sem.run,askRoom,roomBytes,World.alloc_eq]
 rw [hcs]
end
end Go.Fw
end
section
set_option linter.unusedVariables false
namespace Go.Fw
open Go Go.RowKit
/-- a slice of a whole array -/
theorem EvF.sliceArrOf {P : Program} {n : Nat} {H : List Row} {F : FS} {o : Oper} {T e : TypeId} {x : Operand} {b off len s y : Nat} {ti : TI} (h : o.op = .slice T x none none none) (hx : evF F x = some (.pointer (some ⟨b,off,none⟩))) (hT : tiOf P T = some ⟨.ar len e,s,y⟩) (he : tiOf P e = some ti) :
  EvF P n H F o (.slice (some ⟨b,off,none⟩) len len):=by
 unfold EvF EvOp
 intro t ha B w0 w hS
 have hu:=ti_array hT
 have hsz:=ti_size he w
 have hxv:=ha.ev hx
 have hbd : (Instr.sliceBounds false len len none none none).run P w = .ok (0,len,len) w:=by
  simp [Instr.sliceBounds]
 simp [execOp,h,hxv,Instr.sliceAt,Instr.sureAddr,underlying,hu,hbd,hsz,add_none]
end Go.Fw
end
section
set_option linter.unusedVariables false
namespace Go.Fw
open Go Go.RowKit Go.ChangeShapes Go.WideShapes Go.Deep
theorem flat_at {α : Type} {enc : α → List Value} {sz : Nat} : ∀ {l : List α},(∀ e ∈ l,(enc e).length = sz) → ∀ (i : Nat) (e : α) (j : Nat) (v : Value),l[i]? = some e → (enc e)[j]? = some v → (l.flatMap enc)[i * sz + j]? = some v
 | [],_,i,e,j,v,hi,_=>by simp at hi
 | q::l,hl,i,e,j,v,hi,hj=>by
  rw [List.flatMap_cons,List.getElem?_append]
  have hq:=hl q (List.mem_cons_self ..)
  cases i with
  | zero =>
   simp only [List.getElem?_cons_zero,Option.some.injEq] at hi
   subst hi
   rw [if_pos (by have:=(List.getElem?_eq_some_iff.1 hj).1;omega)]
   simpa using hj
  | succ i =>
   rw [if_neg (by rw [hq,Nat.add_mul];omega),hq,show (i + 1) * sz + j - sz = i * sz + j by rw [Nat.add_mul];omega]
   exact flat_at (fun e he=>hl e (List.mem_cons_of_mem _ he)) i e j v (by simpa using hi) hj
section
variable {H : Type} {enc : TypeId × Value → H} {P : Program} {w : World} {base : Nat} {spare : Nat → Bool} {held : Bool}
theorem cellsOf_ti {T : TypeId} {ti : TI} (h : tiOf P T = some ti) : P.cellsOf T = ti.size:=by
 obtain ⟨i,d,hi,_,_,hs,_⟩:=ti_spec h
 simp [Program.cellsOf,hi,hs]
theorem trod_st {T : TypeId} {fs : List (Nat × TypeId)} {s y fuel : Nat} {cs : List Value} {x : DataW H × List MemPlace} (hT : tiOf P T = some ⟨.st fs,s,y⟩) (h : DataW.trod enc P w base spare held fuel T cs = some x) :
  cs.length = s ∧ ∀ (i o F : Nat) (ti : TI),fs[i]? = some (o,F) → tiOf P F = some ti → ∃ n x',DataW.trod enc P w base spare held n F ((cs.drop o).take ti.size)=some x' := by
 obtain ⟨fa,hu,hm⟩:=ti_struct hT
 obtain ⟨xs,n,_,_,hl,hxl,hf⟩:=DataW.trod_struct hu h
 refine ⟨by rw [hl,cellsOf_ti hT],fun i o F ti hi hF=>?_⟩
 rw [← hm] at hi
 simp only [List.getElem?_map,Option.map_eq_some_iff] at hi
 obtain ⟨f,h1,h2⟩:=hi
 simp only [Prod.mk.injEq] at h2
 obtain ⟨rfl,rfl⟩:=h2
 have h3:=hf i f (by simpa using h1)
 rw [cellsOf_ti hF] at h3
 have hlt : i < xs.length:=by
  have:=(List.getElem?_eq_some_iff.1 h1).1
  rw [hxl];simpa using this
 exact ⟨n,xs[i],by rw [h3,List.getElem?_eq_getElem hlt]⟩
theorem trod_i {T : TypeId} {k : IntKind} {s y fuel : Nat} {cs : List Value} {x : DataW H × List MemPlace} (hT : tiOf P T = some ⟨.int k,s,y⟩) (h : DataW.trod enc P w base spare held fuel T cs = some x) : ∃ n,cs = [.int k n]∧(Lit.int k n).wf = true:=by
 obtain ⟨i,d,_,hd,hk,_,_⟩:=ti_spec hT
 cases d <;> simp only [tkOf,reduceCtorEq,TK.int.injEq] at hk
 subst hk
 obtain ⟨n,h1,_,h2⟩:=DataW.trod_int hd h
 exact ⟨n,h1,h2⟩
/-- What is known of a slice that came in. -/
def InSl {α : Type} (w : World) (a : Option Addr) (e : α → List Value) (sz : Nat) (l : List α) : Prop :=
 (∀ q ∈ l,(e q).length = sz)∧l.length ≤ maxLen∧(0 < l.length → ∃ b off,a = some ⟨b,off,none⟩∧b < w.heap.size ∧ ∀ i q j v,l[i]? = some q → (e q)[j]? = some v → w.cell? ⟨b,off + (i * sz + j),none⟩ = some v)
theorem open_sl {α : Type} [Inhabited α] {e : α → List Value} {ok : α → Prop} {T E sz s y : Nat} {ti : TI} {fuel : Nat} {v : Value} {x : DataW H × List MemPlace} (hT : tiOf P T = some ⟨.sl E,s,y⟩) (hE : tiOf P E = some ti) (hsz : ti.size = sz) (hpos : 0 < sz)
  (hel : ∀ n cs x,DataW.trod enc P w base spare held n E cs = some x → ∃ q : α,cs = e q∧ok q) (hlen : ∀ q,(e q).length = sz) (h : DataW.trod enc P w base spare held fuel T [v] = some x) :
  ∃ (l : List α) (a : Option Addr) (c : Nat),v = .slice a l.length c∧InSl w a e sz l∧(∀ q ∈ l,ok q)∧l.length ≤ c:=by
 rcases open_slice (ti_slice hT) h with ⟨hc,_⟩ | ⟨a,len,cap,m,n,D,Pl,hcs,_,hl,hm,hmm,_,hi⟩
 ·simp only [List.cons.injEq,and_true] at hc
  subst hc
  exact ⟨[],none,0,rfl,⟨by simp,by simp,by simp⟩,by simp,Nat.le_refl _⟩
 ·simp only [List.cons.injEq,and_true] at hcs
  subst hcs
  have hlm : len ≤ m:=by rw [hmm];split <;> omega
  have hex : ∀ i,∃ q : α,i < len → ok q∧w.cells? base (a.add (i * sz)) sz = some (e q):=by
   intro i
   by_cases hil : i < len
   ·obtain ⟨cs',h1,h2⟩:=hi i (by omega)
    obtain ⟨q,rfl,hq⟩:=hel _ _ _ h2
    rw [cellsOf_ti hE,hsz] at h1
    exact ⟨q,fun _=>⟨hq,h1⟩⟩
   ·exact ⟨default,fun h=>absurd h hil⟩
  let f : Nat → α:=fun i=>Classical.choose (hex i)
  have hf : ∀ i,i < len → ok (f i)∧w.cells? base (a.add (i * sz)) sz = some (e (f i)):=fun i=>Classical.choose_spec (hex i)
  refine ⟨(List.range len).map f,some a,cap,by simp,⟨fun q _=>hlen q,by simp;omega,fun hp=>?_⟩,?_,by simp;omega⟩
  ·simp only [List.length_map,List.length_range] at hp
   have h0:=(hf 0 hp).2
   obtain ⟨_,_,hat⟩:=World.cells?_some h0
   have hc0:=hat 0 hpos
   have hv0 : (e (f 0))[0]? = some ((e (f 0))[0]'(by rw [hlen];exact hpos)):=List.getElem?_eq_getElem _
   rw [hv0,Nat.zero_mul] at hc0
   have hadd : ((a.add 0).add 0)=a:=rfl
   rw [hadd] at hc0
   obtain ⟨b,off,sp⟩:=a
   have hsp : sp = none:=by
    cases sp with
    | none=>rfl
    | some q=>unfold World.cell? at hc0;simp only at hc0;split at hc0 <;> simp at hc0
   subst hsp
   refine ⟨b,off,rfl,World.block_lt_of_cell? _ _ hc0,fun i q j v hq hj=>?_⟩
   have hil : i < len:=by have:=(List.getElem?_eq_some_iff.1 hq).1;simpa using this
   have hqe : f i = q:=by
    rw [List.getElem?_map,List.getElem?_range hil] at hq
    simpa using hq
   obtain ⟨_,_,hat⟩:=World.cells?_some (hf i hil).2
   have hjl : j < sz:=by have:=(List.getElem?_eq_some_iff.1 hj).1;rw [hlen] at this;exact this
   have:=hat j hjl
   rw [hqe,hj,add_none,add_none,Nat.add_assoc] at this
   exact this
  ·intro q hq
   obtain ⟨i,hi,rfl⟩:=List.mem_map.1 hq
   exact (hf i (List.mem_range.1 hi)).1
end
/-- the row of a slice that came in -/
def rowsOf {α : Type} (a : Option Addr) (e : α → List Value) (l : List α) : List Row :=
 match a,l with
 | some ⟨b,off,_⟩,_::_=>[⟨b,off,l.flatMap e,none,0⟩]
 | _,_=>[]
theorem InSl.ok {α : Type} {w : World} {a : Option Addr} {e : α → List Value} {sz B : Nat} {l : List α} (h : InSl w a e sz l) : ∀ r ∈ rowsOf a e l,r.own = none∧r.ok B w:=by
 intro r hr
 cases l with
 | nil=>cases a with | none=>cases hr | some a=>cases hr
 | cons q l =>
  obtain ⟨b,off,rfl,hb,hc⟩:=h.2.2 (by simp)
  simp only [rowsOf,List.mem_singleton] at hr
  subst hr
  refine ⟨rfl,hb,fun j v hj=>?_⟩
  obtain ⟨i,q',k,rfl,hi,hk⟩:=flat_get h.1 hj
  exact hc i q' k v hi hk
theorem InSl.sl {α : Type} {w : World} {a : Option Addr} {e : α → List Value} {sz : Nat} {l : List α} {H : List Row} (h : InSl w a e sz l) (hs : ∀ r ∈ rowsOf a e l,r ∈ H) : SlE H a e sz l:=by
 refine ⟨h.1,fun hp=>?_⟩
 obtain ⟨b,off,rfl,_,_⟩:=h.2.2 hp
 cases l with
 | nil=>simp at hp
 | cons q l =>
  refine ⟨b,off,rfl,_,0,hs _ (List.mem_singleton.2 rfl),rfl,rfl,fun i q' j v hi hj=>?_⟩
  rw [Nat.zero_add]
  exact flat_at h.1 i q' j v hi hj
/-- the start: only what came in is known -/
theorem St.start {w : World} {H : List Row} (h : ∀ r ∈ H,r.own = none∧r.ok w.heap.size w) : St w.heap.size w H w:=by
 refine ⟨Below.refl _ _,Nat.le_refl _,fun r hr=>(h r hr).2,?_⟩
 rw [List.pairwise_iff_getElem]
 intro i j hi hj _ ho
 have h1:=(h _ (List.getElem_mem hi)).1
 have h2:=(h _ (List.getElem_mem hj)).1
 rw [h1,h2] at ho
 simp at ho
/-- from a contract to the call in a world -/
theorem Fc.calls {P : Program} {f : FuncId} {args : List Value} {H : List Row} {v : Value} {w : World} (h : Fc P f args H (fun u _=>u = v)) (hH : ∀ r ∈ H,r.own = none∧r.ok w.heap.size w) :
  Calls P f args.toArray w fun e w' => e = .returned v∧Below w.heap.size w w' := by
 unfold Fc at h
 refine (h.2 _ _ _ (St.start hH)).mono ?_
 rintro e w' ⟨u,H',rfl,rfl,hS⟩
 exact ⟨rfl,hS.below⟩
end Go.Fw
end
section
set_option linter.unusedVariables false
namespace Go.Fw
open Go Go.RowKit
structure Sp where
 lo : Int
 hi : Int
def cSp (s : Sp) : List Value:=[.int .i64 s.lo,.int .i64 s.hi]
theorem one_sp (e : Sp) : (cSp e).all (·.oneCell') = true:=rfl
def cI (x : Int) : List Value:=[.int .i64 x]
theorem one_i (e : Int) : (cI e).all (·.oneCell') = true:=rfl
theorem lenI (l : List Int) : (l.flatMap cI).length = l.length * 1:=flat_len (fun _ _=>rfl)
theorem drop_cons {α : Type} {l : List α} {k : Nat} {e : α} (h : l[k]? = some e) : l.drop k = e::l.drop (k + 1):=by
 have:=(List.getElem?_eq_some_iff.1 h)
 obtain ⟨hk,rfl⟩:=this
 exact List.drop_eq_getElem_cons hk
theorem take_snoc {α : Type} {l : List α} {k : Nat} {e : α} (h : l[k]? = some e) : l.take (k + 1)=l.take k++[e]:=by
 rw [List.take_add_one,h];rfl
theorem sleNil {α : Type} {H : List Row} {a : Option Addr} {enc : α → List Value} {sz : Nat} : SlE H a enc sz []:=⟨fun _ h=>absurd h List.not_mem_nil,fun h=>absurd h (Nat.lt_irrefl 0)⟩
/-- the first place of which something is so -/
def IdxR {α : Type} (p : α → Bool) (l : List α) (z : Int) : Prop:=(z = -1 ∧ ∀ e ∈ l,p e = false) ∨ ∃ k e,z = ((k : Nat) : Int)∧l[k]? = some e∧p e = true ∧ ∀ i e,i < k → l[i]? = some e → p e = false
theorem IdxR.ge {α : Type} {p : α → Bool} {l : List α} {z : Int} (h : IdxR p l z) : z ≥ 0 ↔ ∃ e ∈ l,p e = true:=by
 rcases h with ⟨rfl,h⟩ | ⟨k,e,rfl,he,hp,_⟩
 ·exact ⟨fun q=>absurd q (by decide),fun ⟨e,he,hp⟩=>by rw [h e he] at hp;cases hp⟩
 ·exact ⟨fun _=>⟨e,List.mem_of_getElem? he,hp⟩,fun _=>by omega⟩
section
variable {P : Program} {F : FS} {H H' : List Row} {fn : Func} {R : Value → List Row → Prop} {Ds : List Nat}
theorem retT_two {e : Exit} (he : e = .normal∨e = .ret) {r r' : ResultVar} {v v' : Value} (hr : fn.results = #[r,r']) (h : ResF P F H r v) (h' : ResF P F H r' v') (hs : H'.Sublist H) (hR : R (.tuple #[v,v']) H') : retT P fn R e F Ds H:=⟨he,_,H',(by unfold ResX;exact fun _ _ ha=>ResV.two hr (h.i ha) (h'.i ha)),hs,hR⟩
end
end Go.Fw
end
section
set_option linter.unusedVariables false
namespace Go.Fw
/-- an edge: the number of a is at most that of b and w more -/
structure Ed where
 a : Nat
 b : Nat
 w : Int
def gt0 (l : List Int) (i : Nat) : Int:=l.getD i 0
def rlx (l : List Int) (e : Ed) : List Int:=l.set e.a (min (gt0 l e.a) (gt0 l e.b + e.w))
def rnd (es : List Ed) (l : List Int) : List Int:=es.foldl rlx l
theorem rlx_len (l : List Int) (e : Ed) : (rlx l e).length = l.length:=List.length_set ..
theorem rnd_len : ∀ (es : List Ed) (l : List Int),(rnd es l).length = l.length
 | [],_=>rfl
 | e::es,l=>by
  show (rnd es (rlx l e)).length = _
  rw [rnd_len es,rlx_len]
theorem rnd_app (es fs : List Ed) (l : List Int) : rnd (es++fs) l = rnd fs (rnd es l):=by unfold rnd;rw [List.foldl_append]
theorem gt0_rlx (l : List Int) (e : Ed) (i : Nat) (h : e.a < l.length) : gt0 (rlx l e) i = if i = e.a then min (gt0 l e.a) (gt0 l e.b + e.w) else gt0 l i:=by
 unfold gt0 rlx
 simp only [List.getD_eq_getElem?_getD]
 by_cases hi : i = e.a
 ·subst hi
  rw [if_pos rfl,List.getElem?_set_self h];rfl
 ·rw [if_neg hi,List.getElem?_set_ne (fun q=>hi q.symm)]
def fitE (m : Nat → Int) (es : List Ed) : Prop := ∀ e ∈ es,m e.a ≤ m e.b + e.w
def inE (n : Nat) (es : List Ed) : Prop := ∀ e ∈ es,e.a < n∧e.b < n
def geL (m : Nat → Int) (l : List Int) : Prop := ∀ i,i < l.length → m i ≤ gt0 l i
theorem rlx_le (l : List Int) (e : Ed) (h : e.a < l.length) (i : Nat) : gt0 (rlx l e) i ≤ gt0 l i:=by
 rw [gt0_rlx l e i h]
 split
 ·rename_i h;subst h;omega
 ·omega
theorem rnd_le : ∀ (es : List Ed) (l : List Int),inE l.length es → ∀ i,gt0 (rnd es l) i ≤ gt0 l i
 | [],_,_,_=>Int.le_refl _
 | e::es,l,h,i=>by
  have h1:=(h e List.mem_cons_self).1
  have h2:=rnd_le es (rlx l e) (by rw [rlx_len];exact fun f hf=>h f (List.mem_cons_of_mem _ hf)) i
  have h3:=rlx_le l e h1 i
  show gt0 (rnd es (rlx l e)) i ≤ _
  omega
theorem rlx_ge {m : Nat → Int} {l : List Int} {e : Ed} (hm : m e.a ≤ m e.b + e.w) (h : geL m l) (ha : e.a < l.length) (hb : e.b < l.length) : geL m (rlx l e):=by
 intro i hi
 rw [rlx_len] at hi
 rw [gt0_rlx l e i ha]
 split
 ·rename_i q;subst q
  have:=h _ ha
  have:=h _ hb
  omega
 ·exact h i hi
theorem rnd_ge {m : Nat → Int} : ∀ (es : List Ed) (l : List Int),fitE m es → inE l.length es → geL m l → geL m (rnd es l)
 | [],_,_,_,h=>h
 | e::es,l,hm,hi,h=>by
  have h1:=hi e List.mem_cons_self
  exact rnd_ge es (rlx l e) (fun f hf=>hm f (List.mem_cons_of_mem _ hf)) (by rw [rlx_len];exact fun f hf=>hi f (List.mem_cons_of_mem _ hf)) (rlx_ge (hm e List.mem_cons_self) h h1.1 h1.2)
/-- after a round each number is at most what an edge tells of one before it -/
theorem rnd_edge : ∀ (es : List Ed) (l : List Int),inE l.length es → ∀ e ∈ es,gt0 (rnd es l) e.a ≤ gt0 l e.b + e.w
 | [],_,_,_,h=>absurd h List.not_mem_nil
 | f::es,l,hi,e,he=>by
  have h1:=hi f List.mem_cons_self
  have hi' : inE (rlx l f).length es:=by rw [rlx_len];exact fun g hg=>hi g (List.mem_cons_of_mem _ hg)
  show gt0 (rnd es (rlx l f)) e.a ≤ _
  rcases List.mem_cons.1 he with rfl | he
  ·have h2:=rnd_le es (rlx l e) hi' e.a
   rw [gt0_rlx l e _ h1.1,if_pos rfl] at h2
   omega
  ·have h2:=rnd_edge es (rlx l f) hi' e he
   have h3:=rlx_le l f h1.1 e.b
   omega
def itR (es : List Ed) : Nat → List Int → List Int
 | 0,l=>l
 | k + 1,l=>itR es k (rnd es l)
theorem itR_len (es : List Ed) : ∀ (k : Nat) (l : List Int),(itR es k l).length = l.length
 | 0,_=>rfl
 | k + 1,l=>by rw [itR,itR_len es k,rnd_len]
theorem itR_add (es : List Ed) : ∀ (j k : Nat) (l : List Int),itR es (j + k) l = itR es k (itR es j l)
 | 0,k,l=>by rw [Nat.zero_add];rfl
 | j + 1,k,l=>by rw [Nat.succ_add];exact itR_add es j k (rnd es l)
theorem itR_ge {m : Nat → Int} {es : List Ed} (hm : fitE m es) : ∀ (k : Nat) (l : List Int),inE l.length es → geL m l → geL m (itR es k l)
 | 0,_,_,h=>h
 | k + 1,l,hi,h=>itR_ge hm k (rnd es l) (by rw [rnd_len];exact hi) (rnd_ge es l hm hi h)
theorem itR_rnd (es : List Ed) (k : Nat) (l : List Int) : itR es (k + 1) l = rnd es (itR es k l):=itR_add es k 1 l
/-- a round that changes nothing fits all edges -/
theorem fix_fit {es : List Ed} {l : List Int} (hi : inE l.length es) (h : ∀ i,i < l.length → gt0 (rnd es l) i = gt0 l i) : fitE (gt0 l) es:=fun e he=>by
 have:=rnd_edge es l hi e he
 rwa [h e.a (hi e he).1] at this
theorem ext_gt0 {l m : List Int} (hl : l.length = m.length) (h : ∀ i,i < l.length → gt0 l i = gt0 m i) : l = m:=by
 apply List.ext_getElem hl
 intro i h1 h2
 have:=h i h1
 unfold gt0 at this
 simpa [List.getD_eq_getElem?_getD,h1,h2] using this
/-- how far numbers lie above others, all together -/
def above (y : Nat → Int) (l : List Int) (n : Nat) : Nat:=((List.range n).map (fun i=>(gt0 l i - y i).toNat)).sum
theorem above_le (y : Nat → Int) {l l' : List Int} (h : ∀ i,gt0 l' i ≤ gt0 l i) : ∀ n,above y l' n ≤ above y l n
 | 0=>Nat.le_refl _
 | n + 1=>by
  have:=above_le y h n
  have:=h n
  unfold above at *
  simp only [List.range_succ,List.map_append,List.map_cons,List.map_nil,List.sum_append,List.sum_cons,List.sum_nil]
  omega
theorem above_lt (y : Nat → Int) {l l' : List Int} (h : ∀ i,gt0 l' i ≤ gt0 l i) {i : Nat} (hy : y i ≤ gt0 l' i) (hl : gt0 l' i < gt0 l i) : ∀ n,i < n → above y l' n < above y l n
 | 0,hi=>absurd hi (Nat.not_lt_zero _)
 | n + 1,hi=>by
  have h1:=above_le y h n
  have h2:=h n
  have h3 : i < n → above y l' n < above y l n:=above_lt y h hy hl n
  by_cases e : i = n
  ·subst e
   unfold above at *
   simp only [List.range_succ,List.map_append,List.map_cons,List.map_nil,List.sum_append,List.sum_cons,List.sum_nil]
   omega
  ·have:=h3 (by omega)
   unfold above at *
   simp only [List.range_succ,List.map_append,List.map_cons,List.map_nil,List.sum_append,List.sum_cons,List.sum_nil]
   omega
/-- some rounds are enough -/
theorem settles {es : List Ed} {y : Nat → Int} (hy : fitE y es) : ∀ (s : Nat) (l : List Int),above y l l.length ≤ s → inE l.length es → geL y l → ∃ k,rnd es (itR es k l)=itR es k l:=by
 intro s
 induction s with
 | zero =>
  intro l hs hi hg
  refine ⟨0,?_⟩
  refine ext_gt0 (rnd_len _ _) (fun i h=>?_)
  rw [rnd_len] at h
  have h1:=rnd_le es l hi
  have h2:=rnd_ge es l hy hi hg i (by rw [rnd_len];exact h)
  have h3:=h1 i
  by_cases hlt : gt0 (rnd es l) i < gt0 l i
  ·have:=above_lt y h1 h2 hlt l.length h;omega
  ·have:=hg i h;show gt0 (rnd es l) i = gt0 l i;omega
 | succ s ih =>
  intro l hs hi hg
  by_cases hex : ∃ i,i < l.length∧gt0 (rnd es l) i < gt0 l i
  ·obtain ⟨i,h,hlt⟩:=hex
   have h1:=rnd_le es l hi
   have h2:=rnd_ge es l hy hi hg i (by rw [rnd_len];exact h)
   have h4:=above_lt y h1 h2 hlt l.length h
   obtain ⟨k,hk⟩:=ih (rnd es l) (by rw [rnd_len];omega) (by rw [rnd_len];exact hi) (rnd_ge es l hy hi hg)
   exact ⟨k + 1,hk⟩
  ·refine ⟨0,ext_gt0 (rnd_len _ _) (fun i h=>?_)⟩
   rw [rnd_len] at h
   have h3:=rnd_le es l hi i
   have : ¬ gt0 (rnd es l) i < gt0 l i:=fun q=>hex ⟨i,h,q⟩
   show gt0 (rnd es l) i = gt0 l i
   omega
/-- if a round settles nothing, none after it does -/
theorem stuck {es : List Ed} {m : Nat → Int} {l : List Int} (hm : fitE m es) (hi : inE l.length es) (hg : geL m l) (hst : ∀ i,i < l.length → gt0 (rnd es l) i = m i → gt0 l i = m i) :
  ∀ (fs : List Ed) (t : List Int),(∀ e ∈ fs,e ∈ es) → t.length = l.length → geL m t → (∀ i,gt0 t i ≤ gt0 (rnd es l) i) → (∀ i,i < l.length → gt0 t i = m i → gt0 (rnd es l) i = m i) → ∀ i,i < l.length → gt0 (rnd fs t) i = m i → gt0 (rnd es l) i = m i
 | [],_,_,_,_,_,h=>h
 | e::fs,t,hs,hl,hgt,hle,h=>by
  have he:=hs e List.mem_cons_self
  obtain ⟨ha,hb⟩:=hi e he
  refine stuck hm hi hg hst fs (rlx t e) (fun f hf=>hs f (List.mem_cons_of_mem _ hf)) (by rw [rlx_len];exact hl) (rlx_ge (hm e he) hgt (by omega) (by omega)) (fun i=>Int.le_trans (rlx_le t e (by omega) i) (hle i)) (fun i hil hq=>?_)
  rw [gt0_rlx t e i (by omega)] at hq
  split at hq
  ·rename_i q;subst q
   by_cases h1 : gt0 t e.a = m e.a
   ·exact h _ hil h1
   ·have h2:=hgt e.b (by omega)
    have h3:=hm e he
    have h4:=hgt e.a (by omega)
    have h5 : gt0 t e.b = m e.b:=by omega
    have h6:=h e.b hb h5
    have h7:=hst e.b hb h6
    have h8:=rnd_edge es l hi e he
    have h9:=rnd_ge es l hm hi hg e.a (by rw [rnd_len];exact ha)
    omega
  ·exact h i hil hq
theorem stuckK {es : List Ed} {m : Nat → Int} {l : List Int} (hm : fitE m es) (hi : inE l.length es) (hg : geL m l) (hst : ∀ i,i < l.length → gt0 (rnd es l) i = m i → gt0 l i = m i) :
  ∀ (k : Nat) (t : List Int),t.length = l.length → geL m t → (∀ i,gt0 t i ≤ gt0 (rnd es l) i) → (∀ i,i < l.length → gt0 t i = m i → gt0 (rnd es l) i = m i) → ∀ i,i < l.length → gt0 (itR es k t) i = m i → gt0 (rnd es l) i = m i
 | 0,_,_,_,_,h=>h
 | k + 1,t,hl,hgt,hle,h=>by
  have hit : inE t.length es:=by rw [hl];exact hi
  exact stuckK hm hi hg hst k (rnd es t) (by rw [rnd_len];exact hl) (rnd_ge es t hm hit hgt) (fun i=>Int.le_trans (rnd_le es t hit i) (hle i)) (fun i hil hq=>stuck hm hi hg hst es t (fun _ h=>h) hl hgt hle h i hil hq)
/-- how many numbers are settled -/
def done (m : Nat → Int) (l : List Int) (n : Nat) : Nat:=((List.range n).filter (fun i=>decide (gt0 l i = m i))).length
theorem done_le (m : Nat → Int) (l : List Int) (n : Nat) : done m l n ≤ n:=by
 have:=List.length_filter_le (fun i=>decide (gt0 l i = m i)) (List.range n)
 unfold done
 simpa using this
theorem done_all {m : Nat → Int} {l : List Int} {n : Nat} (h : done m l n = n) : ∀ i,i < n → gt0 l i = m i:=by
 intro i hi
 have h1 : ((List.range n).filter (fun i=>decide (gt0 l i = m i))).length = (List.range n).length:=by simpa [done] using h
 have:=List.length_filter_eq_length_iff.1 h1 i (List.mem_range.2 hi)
 exact of_decide_eq_true this
theorem done_mono {m : Nat → Int} {l l' : List Int} : ∀ n,(∀ i,i < n → gt0 l i = m i → gt0 l' i = m i) → done m l n ≤ done m l' n
 | 0,_=>Nat.le_refl _
 | n + 1,h=>by
  have:=done_mono n (fun i hi=>h i (by omega))
  have h2:=h n (by omega)
  unfold done at *
  simp only [List.range_succ,List.filter_append,List.length_append,List.filter_cons,List.filter_nil]
  by_cases q : gt0 l n = m n
  ·simp [q,h2 q];omega
  ·simp [q];omega
theorem done_lt {m : Nat → Int} {l l' : List Int} {j : Nat} (hj : gt0 l' j = m j) (hj' : gt0 l j ≠ m j) : ∀ n,j < n → (∀ i,i < n → gt0 l i = m i → gt0 l' i = m i) → done m l n < done m l' n
 | 0,h,_=>absurd h (Nat.not_lt_zero _)
 | n + 1,hjn,h=>by
  have h1:=done_mono n (fun i hi=>h i (by omega))
  have h2:=h n (by omega)
  by_cases e : j = n
  ·subst e
   unfold done at *
   simp only [List.range_succ,List.filter_append,List.length_append,List.filter_cons,List.filter_nil]
   simp [hj,hj'];omega
  ·have h3:=done_lt hj hj' n (by omega) (fun i hi=>h i (by omega))
   unfold done at *
   simp only [List.range_succ,List.filter_append,List.length_append,List.filter_cons,List.filter_nil]
   by_cases q : gt0 l n = m n
   ·simp [q,h2 q];omega
   ·simp [q];omega
/-- as many rounds as there are numbers are enough -/
theorem rounds_done {es : List Ed} {y : Nat → Int} {l : List Int} (hy : fitE y es) (hi : inE l.length es) (hg : geL y l) : fitE (gt0 (itR es l.length l)) es:=by
 obtain ⟨K,hK⟩:=settles hy _ l (Nat.le_refl _) hi hg
 obtain ⟨m,hm⟩ : ∃ m,m = gt0 (itR es K l):=⟨_,rfl⟩
 have hlen:=itR_len es
 have hmf : fitE m es:=by
  rw [hm];exact fix_fit (by rw [hlen];exact hi) (fun i _=>by rw [hK])
 have hlow : ∀ k,∀ i,gt0 (itR es k l) i ≤ gt0 l i:=by
  intro k
  induction k with
  | zero=>intro i;exact Int.le_refl _
  | succ k ih=>intro i;rw [itR_rnd];exact Int.le_trans (rnd_le es _ (by rw [hlen];exact hi) i) (ih i)
 have hge : geL m l:=fun i _=>by rw [hm];exact hlow K i
 have hfar : ∀ k,itR es (K + k) l = itR es K l:=by
  intro k
  induction k with
  | zero=>rfl
  | succ k ih=>rw [← Nat.add_assoc,itR_rnd,ih,hK]
 have step : ∀ k,k ≤ l.length → k ≤ done m (itR es k l) l.length:=by
  intro k
  induction k with
  | zero=>intro _;omega
  | succ k ih =>
   intro hk
   have h1:=ih (by omega)
   have hgk:=itR_ge hmf k l hi hge
   have hik : inE (itR es k l).length es:=by rw [hlen];exact hi
   have hkeep : ∀ i,i < l.length → gt0 (itR es k l) i = m i → gt0 (itR es (k + 1) l) i = m i:=by
    intro i hil hq
    rw [itR_rnd]
    have a1:=rnd_le es _ hik i
    have a2:=rnd_ge es _ hmf hik hgk i (by rw [rnd_len,hlen];exact hil)
    omega
   by_cases hex : ∃ j,j < l.length∧gt0 (itR es (k + 1) l) j = m j∧gt0 (itR es k l) j ≠ m j
   ·obtain ⟨j,hj,q1,q2⟩:=hex
    have:=done_lt q1 q2 l.length hj hkeep
    omega
   ·have hst : ∀ i,i < (itR es k l).length → gt0 (rnd es (itR es k l)) i = m i → gt0 (itR es k l) i = m i:=by
     intro i hil hq
     rw [hlen] at hil
     refine Classical.byContradiction fun q=>hex ⟨i,hil,?_,q⟩
     rw [itR_rnd];exact hq
    have hall : ∀ i,i < l.length → gt0 (itR es (k + 1) l) i = m i:=by
     intro i hil
     have:=stuckK hmf hik hgk hst K (rnd es (itR es k l)) (rnd_len _ _) (rnd_ge es _ hmf hik hgk) (fun i=>Int.le_refl _) (fun i _ h=>h) i (by rw [hlen];exact hil) (by
      rw [← itR_rnd, ← itR_add,Nat.add_comm (k + 1) K,hfar,hm])
     rw [itR_rnd];exact this
    have : done m (itR es (k + 1) l) l.length = l.length:=by
     unfold done
     rw [List.filter_eq_self.2 (fun i hi' => decide_eq_true (hall i (List.mem_range.1 hi')))]
     simp
    omega
 have hfin:=step l.length (Nat.le_refl _)
 have:=done_le m (itR es l.length l) l.length
 have hall:=done_all (m:=m) (l:=itR es l.length l) (n:=l.length) (by omega)
 intro e he
 have h1:=hmf e he
 obtain ⟨ha,hb⟩:=hi e he
 rw [hall _ ha,hall _ hb]
 exact h1
end Go.Fw
end
section
set_option linter.unusedVariables false
namespace Go.Fw
open Go Go.RowKit
theorem mvM {α : Type} (d : α) (M Hb E : List α) : (d::(M++Hb)++E).Perm (Hb++E++(d::M)):=by
 have h1 : (d::(M++Hb)++E)=(d::M)++(Hb++E):=by simp
 rw [h1];exact List.perm_append_comm
theorem mvN {α : Type} (a d : α) (M Hb E : List α) : (a::d::(M++Hb)++E).Perm (Hb++(a::d::(M++E))):=by
 have h1 : (a::d::(M++Hb)++E)=(a::d::M)++Hb++E:=by simp
 have h2 : (Hb++(a::d::(M++E))) = Hb++(a::d::M)++E:=by simp
 rw [h1,h2];exact List.perm_append_comm.append_right E
theorem mvO {α : Type} (d : α) (M Hb E : List α) : (Hb++(d::(M++E))).Perm (d::(M++Hb++E)):=by
 have h1 : (d::(M++Hb++E)) = (d::M)++Hb++E:=by simp
 have h2 : (Hb++(d::(M++E))) = Hb++(d::M)++E:=by simp
 rw [h1,h2];exact List.perm_append_comm.append_right E
section
variable {P : Program} {n : Nat} {c : Code} {F : FS} {Ds : List Nat} {H : List Row} {Q : QTT}
theorem XT.lp (h : c = .loop (cfst c)) (I : Nat → FS → List Nat → List Row → Prop) (m : Nat) (F0 : FS) (H0 : List Row) (hs : Sub F0 F) (hh : H0.Sublist H) (h0 : I m F0 Ds H0)
  (round : ∀ m F Ds H,I m F Ds H → XT P n (cfst c) F Ds H (thenT (fun F' Ds' H' => ∃ m' F'' H'',Sub F'' F'∧H''.Sublist H'∧I m' F'' Ds' H''∧m' < m) Q)) : XT P n c F Ds H Q:=by
 unfold XT at round ⊢
 intro t ha B w0 w hS
 obtain ⟨x,hx⟩ : ∃ x,x = cfst c:=⟨_,rfl⟩
 rw [← hx] at h round
 subst h
 intro b k cs hro hb hr
 have key : ∀ m t Ds H w,(∃ F,Ag n F t∧I m F Ds H) → St B w0 (H++Ds.map dRow) w →
   ∃ e a' w',liftT n B w0 Q e a' w'∧ArrivesIn (Machine.fenced P Fence.wide) P (lone (b.atR ⟨t.toArray,Ds.map dMk⟩ (.code x :: .inLoop x::k)) cs w) b k cs e a' w' := by
  intro m
  induction m using Nat.strongRecOn with
  | _ m ih =>
   rintro t Ds H w ⟨F,ha,hI⟩ hS
   obtain ⟨e,a₁,w₁,⟨Ds₁,F₁,H₁,hd,ha₁,hq,hS₁⟩,harr⟩:=round m F Ds H hI t ha B w0 w hS b (.inLoop x::k) cs hro hb hr
   cases e with
   | normal =>
    obtain ⟨m',F₂,H₂,hsF,hsub,hI₁,hlt⟩:=hq
    obtain ⟨e₂,a₂,w₂,hq₂,harr₂⟩:=ih m' hlt _ Ds₁ H₂ w₁ ⟨F₂,ha₁.sub hsF,hI₁⟩ (hS₁.sub (List.Sublist.append_right hsub _))
    rw [← act_eta hd] at harr₂
    exact ⟨e₂,a₂,w₂,hq₂,.of_steps (StepsIn.trans harr (.one (fenced_calm hb hr rfl) stepR_inLoop)) harr₂⟩
   | exit id=>exact ⟨_,a₁,w₁,⟨Ds₁,F₁,H₁,hd,ha₁,hq,hS₁⟩,.pass (x := .inLoop x) rfl (fun _ _ => .inl (by simp)) harr⟩
   | goto l=>exact ⟨_,a₁,w₁,⟨Ds₁,F₁,H₁,hd,ha₁,hq,hS₁⟩,.pass (x := .inLoop x) rfl (fun _ _ => .inl (by simp)) harr⟩
   | ret=>exact ⟨_,a₁,w₁,⟨Ds₁,F₁,H₁,hd,ha₁,hq,hS₁⟩,.pass (x := .inLoop x) rfl (fun _ _ => .inl (by simp)) harr⟩
   | panic ch=>exact ⟨_,a₁,w₁,⟨Ds₁,F₁,H₁,hd,ha₁,hq,hS₁⟩,.pass (x := .inLoop x) rfl (fun _ _ => .inl (by simp)) harr⟩
   | outgrown=>exact ⟨_,a₁,w₁,⟨Ds₁,F₁,H₁,hd,ha₁,hq,hS₁⟩,.pass (x := .inLoop x) rfl (fun _ _ => .inl (by simp)) harr⟩
 obtain ⟨e,a',w',hq,harr⟩:=key _ t Ds H0 w ⟨F0,ha.sub hs,h0⟩ (hS.sub (List.Sublist.append_right hh _))
 exact ⟨e,a',w',hq,.of_steps (.one (fenced_calm hb hr rfl) stepR_loop) harr⟩
end
section
end
abbrev ngT (Q : QTT) : QTT
 | .goto _,_,_,_=>False
 | e,F,Ds,H=>Q e F Ds H
theorem XT.scope {P : Program} {n : Nat} {c : Code} {F : FS} {Ds : List Nat} {H : List Row} {Q : QTT} (h : c = .scope (cfst c)) (hx : XT P n (cfst c) F Ds H (ngT Q)) : XT P n c F Ds H Q:=by
 unfold XT at hx ⊢
 intro t ha B w0 w hS
 rw [h]
 refine wpIn_scope_straight (wpIn_mono (hx t ha B w0 w hS) ?_)
 rintro e a w' ⟨Ds',F',H',hd,ha',hq,hS'⟩
 cases e with
 | goto l=>exact hq.elim
 | _=>exact ⟨Ds',F',H',hd,ha',hq,hS'⟩
end Go.Fw
end
section
set_option linter.unusedVariables false
set_option linter.unusedSimpArgs false
namespace Go.Proofs.YtmfppdpkalelhaaGreat
open Go Go.Fw
set_option maxRecDepth 10000
structure Pk where
 box : Int
 month : Int
theorem Pk.ext' {p q : Pk} (h1 : p.box = q.box) (h2 : p.month = q.month) : p = q:=by cases p;cases q;simp_all
noncomputable instance : DecidableEq Pk:=fun _ _=>Classical.propDecidable _
def nAge (R : Rm) (b : Bx) : Nat:=(R.months - b.made).toNat
def agesOf (R : Rm) (b : Bx) : List Pk:=(List.range (nAge R b)).map (fun (a : Nat)=>⟨b.id,b.made + a⟩)
def plcs (R : Rm) : List Pk:=⟨0,0⟩::R.boxes.flatMap (agesOf R)
noncomputable def pidx (R : Rm) (p : Pk) : Nat:=(plcs R).findIdx (fun q=>decide (q = p))
structure Bd where
 a : Nat
 b : Nat
 s : Sp
def zp : Pk:=⟨0,0⟩
noncomputable def bdA (R : Rm) : List Bd:=R.boxes.flatMap (fun x=>(List.range (nAge R x)).map (fun (k : Nat)=>⟨pidx R ⟨x.id,x.made⟩ + k,0,R.ages.getD k ⟨0,0⟩⟩))
noncomputable def bdS1 (R : Rm) (i : Nat) : List Bd:=if (plcs R).getD i zp = ⟨((plcs R).getD (i + 1) zp).box,((plcs R).getD (i + 1) zp).month - 1⟩ then [⟨i + 1,i,⟨0,R.step⟩⟩] else []
noncomputable def bdS (R : Rm) : List Bd:=(List.range ((plcs R).length - 1)).flatMap (bdS1 R)
noncomputable def bdM (R : Rm) (M : List Mt) : List Bd:=M.map (fun x=>⟨pidx R ⟨x.a,x.month⟩,pidx R ⟨x.b,x.month⟩,⟨x.lo,x.hi⟩⟩)
noncomputable def bds (R : Rm) (M : List Mt) : List Bd:=bdA R++bdS R++bdM R M
def edges (B : List Bd) : List Ed:=B.flatMap (fun x=>[⟨x.a,x.b,x.s.hi⟩,⟨x.b,x.a, -x.s.lo⟩])
def there (R : Rm) (b : Bx) (m : Int) : Prop:=b ∈ R.boxes∧b.made ≤ m∧m ≤ R.months - 1
/-- a truth: by how much each box has yellowed in each month -/
structure Tru (R : Rm) (M : List Mt) (z : Pk → Int) : Prop where
 zero : z zp = 0
 age : ∀ b m,there R b m → (R.ages.getD (m - b.made).toNat ⟨0,0⟩).lo ≤ z ⟨b.id,m⟩∧z ⟨b.id,m⟩ ≤ (R.ages.getD (m - b.made).toNat ⟨0,0⟩).hi
 step : ∀ b m,there R b m → there R b (m + 1) → 0 ≤ z ⟨b.id,m + 1⟩ - z ⟨b.id,m⟩∧z ⟨b.id,m + 1⟩ - z ⟨b.id,m⟩ ≤ R.step
 mat : ∀ x ∈ M,x.lo ≤ z ⟨x.a,x.month⟩ - z ⟨x.b,x.month⟩∧z ⟨x.a,x.month⟩ - z ⟨x.b,x.month⟩ ≤ x.hi
theorem okBoxes_mem (m : Int) : ∀ (l : List Bx) (p : Int),okBoxes m p l → ∀ b ∈ l,p < b.id∧b.id ≤ 9999∧0 ≤ b.made∧b.made ≤ m - 1
 | [],_,_,_,h=>absurd h List.not_mem_nil
 | c::l,p,h,b,hb=>by
  rcases List.mem_cons.1 hb with rfl | hb
  ·exact ⟨by have:=h.1;omega,h.2.1,h.2.2.1,h.2.2.2.1⟩
  ·obtain ⟨h1,h2⟩:=okBoxes_mem m l c.id h.2.2.2.2 b hb
   exact ⟨by have:=h.1;omega,h2⟩
theorem okBoxes_pw (m : Int) : ∀ (l : List Bx) (p : Int),okBoxes m p l → l.Pairwise (fun a b=>a.id < b.id)
 | [],_,_=>List.Pairwise.nil
 | c::l,p,h=>List.Pairwise.cons (fun b hb=>(okBoxes_mem m l c.id h.2.2.2.2 b hb).1) (okBoxes_pw m l c.id h.2.2.2.2)
theorem mem_agesOf {R : Rm} {b : Bx} {q : Pk} (h : q ∈ agesOf R b) : q.box = b.id∧b.made ≤ q.month∧q.month ≤ R.months - 1:=by
 unfold agesOf nAge at h
 obtain ⟨a,ha,rfl⟩:=List.mem_map.1 h
 have:=List.mem_range.1 ha
 exact ⟨rfl,by show _ ≤ b.made + (a : Int);omega,by show b.made + (a : Int)≤_;omega⟩
theorem agesOf_mem {R : Rm} {b : Bx} {m : Int} (h1 : b.made ≤ m) (h2 : m ≤ R.months - 1) : (⟨b.id,m⟩ : Pk) ∈ agesOf R b:=by
 unfold agesOf nAge
 refine List.mem_map.2 ⟨(m - b.made).toNat,List.mem_range.2 (by omega),?_⟩
 exact Pk.ext' rfl (by show b.made + (((m - b.made).toNat : Nat) : Int)=m;omega)
theorem plcs_mem {R : Rm} {b : Bx} {m : Int} (h : there R b m) : (⟨b.id,m⟩ : Pk) ∈ plcs R:=List.mem_cons_of_mem _ (List.mem_flatMap.2 ⟨b,h.1,agesOf_mem h.2.1 h.2.2⟩)
theorem mem_plcs {R : Rm} {q : Pk} (h : q ∈ plcs R) : q = zp ∨ ∃ b,there R b q.month∧q.box = b.id:=by
 rcases List.mem_cons.1 h with rfl | h
 ·exact .inl rfl
 ·obtain ⟨b,hb,hq⟩:=List.mem_flatMap.1 h
  obtain ⟨h1,h2,h3⟩:=mem_agesOf hq
  exact .inr ⟨b,⟨hb,h2,h3⟩,h1⟩
theorem pw_inj : ∀ (l : List Bx),l.Pairwise (fun a b=>a.id < b.id) → ∀ x ∈ l,∀ y ∈ l,x.id = y.id → x = y
 | [],_,_,h,_,_,_=>absurd h List.not_mem_nil
 | c::l,h,x,hx,y,hy,e=>by
  have h1:=List.pairwise_cons.1 h
  rcases List.mem_cons.1 hx with rfl | hx'
  ·rcases List.mem_cons.1 hy with rfl | hy'
   ·rfl
   ·have:=h1.1 y hy';omega
  ·rcases List.mem_cons.1 hy with rfl | hy'
   ·have:=h1.1 x hx';omega
   ·exact pw_inj l h1.2 x hx' y hy' e
theorem rises_inj_bx {R : Rm} (h : okBoxes R.months 0 R.boxes) : ∀ x ∈ R.boxes,∀ y ∈ R.boxes,x.id = y.id → x = y:=pw_inj _ (okBoxes_pw _ _ _ h)
theorem plcs_nodup {R : Rm} (h : okBoxes R.months 0 R.boxes) : (plcs R).Nodup:=by
 refine List.nodup_cons.2 ⟨fun hm=>?_,?_⟩
 ·obtain ⟨b,hb,hq⟩:=List.mem_flatMap.1 hm
  have h1:=(mem_agesOf hq).1
  have h2:=(okBoxes_mem _ _ _ h b hb).1
  dsimp only at h1
  omega
 ·refine List.pairwise_flatMap.2 ⟨fun b _=>?_,?_⟩
  ·unfold agesOf
   refine List.pairwise_map.2 (List.Pairwise.imp ?_ List.nodup_range)
   intro a c hac he
   injection he with _ he2
   exact hac (by omega)
  ·refine List.Pairwise.imp ?_ (okBoxes_pw _ _ _ h)
   intro a b hab x hx y hy e
   subst e
   have h1:=(mem_agesOf hx).1
   have h2:=(mem_agesOf hy).1
   omega
theorem nodup_get {α : Type} : ∀ {l : List α} {i j : Nat} {x : α},l.Nodup → l[i]? = some x → l[j]? = some x → i = j:=by
 intro l i j x hn hi hj
 obtain ⟨h1,e1⟩:=List.getElem?_eq_some_iff.1 hi
 obtain ⟨h2,e2⟩:=List.getElem?_eq_some_iff.1 hj
 exact (List.getElem_inj hn).1 (e1.trans e2.symm)
theorem pidx_get {R : Rm} {p : Pk} (h : p ∈ plcs R) : (plcs R)[pidx R p]? = some p:=by
 have hl : pidx R p < (plcs R).length:=List.findIdx_lt_length_of_exists ⟨p,h,by simp⟩
 have:=List.findIdx_getElem (w:=hl)
 rw [List.getElem?_eq_getElem hl]
 exact congrArg some (of_decide_eq_true this)
theorem pidx_lt {R : Rm} {p : Pk} (h : p ∈ plcs R) : pidx R p < (plcs R).length:=List.findIdx_lt_length_of_exists ⟨p,h,by simp⟩
theorem pidx_eq {R : Rm} {p : Pk} {i : Nat} (hb : okBoxes R.months 0 R.boxes) (h : (plcs R)[i]? = some p) : pidx R p = i:=nodup_get (plcs_nodup hb) (pidx_get (List.mem_of_getElem? h)) h
theorem flat_at {α β : Type} (f : α → List β) : ∀ (l : List α) (b : α),b ∈ l → ∃ off,∀ (k : Nat) (y : β),(f b)[k]? = some y → (l.flatMap f)[off + k]? = some y
 | [],b,h=>absurd h List.not_mem_nil
 | c::l,b,h=>by
  rcases List.mem_cons.1 h with rfl | h
  ·refine ⟨0,fun k y hk=>?_⟩
   rw [List.flatMap_cons,Nat.zero_add,List.getElem?_append_left (List.getElem?_eq_some_iff.1 hk).1];exact hk
  ·obtain ⟨off,ho⟩:=flat_at f l b h
   refine ⟨(f c).length + off,fun k y hk=>?_⟩
   rw [List.flatMap_cons,Nat.add_assoc,List.getElem?_append_right (by omega),Nat.add_sub_cancel_left]
   exact ho k y hk
/-- the places of a box lie one behind the other -/
theorem plcs_off {R : Rm} {b : Bx} (hb : b ∈ R.boxes) : ∃ off,∀ k : Nat,k < nAge R b → (plcs R)[off + k]? = some ⟨b.id,b.made + k⟩:=by
 obtain ⟨off,ho⟩:=flat_at (agesOf R) R.boxes b hb
 refine ⟨off + 1,fun k hk=>?_⟩
 rw [show off + 1 + k = (off + k) + 1 by omega]
 unfold plcs
 rw [List.getElem?_cons_succ]
 refine ho k _ ?_
 unfold agesOf
 rw [List.getElem?_map,List.getElem?_range hk]
 rfl
theorem pidx_off {R : Rm} {b : Bx} (ho : okBoxes R.months 0 R.boxes) (hb : b ∈ R.boxes) {k : Nat} (hk : k < nAge R b) : pidx R ⟨b.id,b.made + k⟩ = pidx R ⟨b.id,b.made⟩ + k:=by
 obtain ⟨off,hoff⟩:=plcs_off hb
 have h0:=hoff 0 (by omega)
 have h1:=pidx_eq ho (hoff k hk)
 have h2 : pidx R ⟨b.id,b.made⟩ = off:=by
  have:=pidx_eq ho h0
  rw [show b.made + ((0 : Nat) : Int)=b.made by omega] at this
  omega
 omega
theorem pidx_get_off {R : Rm} {b : Bx} (ho : okBoxes R.months 0 R.boxes) (hb : b ∈ R.boxes) {k : Nat} (hk : k < nAge R b) : (plcs R)[pidx R ⟨b.id,b.made⟩ + k]? = some ⟨b.id,b.made + k⟩:=by
 have hm : there R b (b.made + k):=⟨hb,by omega,by unfold nAge at hk;omega⟩
 rw [← pidx_off ho hb hk]
 exact pidx_get (plcs_mem hm)
theorem pidx_zero (R : Rm) : pidx R zp = 0:=by
 unfold pidx plcs
 rw [List.findIdx_cons]
 have : decide ((⟨0,0⟩ : Pk)=zp)=true:=decide_eq_true rfl
 rw [this]
 rfl
/-- the matches that a chart holds: of boxes that are there -/
def matsThere (R : Rm) (M : List Mt) : Prop := ∀ x ∈ M,(∃ b,there R b x.month∧b.id = x.a)∧(∃ b,there R b x.month∧b.id = x.b) ∧ -60 ≤ x.lo∧x.lo ≤ x.hi∧x.hi ≤ 60
theorem matsThere.a {R : Rm} {M : List Mt} (h : matsThere R M) {x : Mt} (hx : x ∈ M) : (⟨x.a,x.month⟩ : Pk) ∈ plcs R:=by
 obtain ⟨b,hb,e⟩:=(h x hx).1
 rw [← e];exact plcs_mem hb
theorem matsThere.b {R : Rm} {M : List Mt} (h : matsThere R M) {x : Mt} (hx : x ∈ M) : (⟨x.b,x.month⟩ : Pk) ∈ plcs R:=by
 obtain ⟨b,hb,e⟩:=(h x hx).2.1
 rw [← e];exact plcs_mem hb
theorem there_nAge {R : Rm} {b : Bx} {m : Int} (h : there R b m) : (m - b.made).toNat < nAge R b:=by
 have:=h.2.1
 have:=h.2.2
 unfold nAge
 omega
def fitB (x : Nat → Int) (B : List Bd) : Prop := ∀ d ∈ B,d.s.lo ≤ x d.a - x d.b∧x d.a - x d.b ≤ d.s.hi
theorem fitB_edges {x : Nat → Int} {B : List Bd} : fitE x (edges B) ↔ fitB x B:=by
 unfold fitE fitB edges
 constructor
 ·intro h d hd
  have h1:=h ⟨d.a,d.b,d.s.hi⟩ (List.mem_flatMap.2 ⟨d,hd,List.mem_cons_self⟩)
  have h2:=h ⟨d.b,d.a, -d.s.lo⟩ (List.mem_flatMap.2 ⟨d,hd,List.mem_cons_of_mem _ List.mem_cons_self⟩)
  dsimp only at h1 h2
  omega
 ·intro h e he
  obtain ⟨d,hd,he⟩:=List.mem_flatMap.1 he
  have:=h d hd
  simp only [List.mem_cons,List.not_mem_nil,or_false] at he
  rcases he with rfl | rfl <;> dsimp only <;> omega
/-- what a truth tells of places, in their order -/
theorem Tru.fit {R : Rm} {M : List Mt} {z : Pk → Int} (ho : okBoxes R.months 0 R.boxes) (hm : matsThere R M) (h : Tru R M z) : fitB (fun k=>z ((plcs R).getD k zp)) (bds R M):=by
 intro d hd
 unfold bds at hd
 rcases List.mem_append.1 hd with hd | hd
 ·rcases List.mem_append.1 hd with hd | hd
  ·obtain ⟨b,hb,hd⟩:=List.mem_flatMap.1 hd
   obtain ⟨k,hk,rfl⟩:=List.mem_map.1 hd
   have hk:=List.mem_range.1 hk
   have hg:=pidx_get_off ho hb hk
   have ht : there R b (b.made + k):=⟨hb,by omega,by unfold nAge at hk;omega⟩
   have:=h.age b _ ht
   rw [show (b.made + (k : Int) - b.made).toNat = k by omega] at this
   simp only [List.getD_eq_getElem?_getD (l:=plcs R),hg,Option.getD_some]
   have h0 : (plcs R)[0]?.getD zp = zp:=rfl
   rw [h0,h.zero]
   omega
  ·obtain ⟨i,hi,hd⟩:=List.mem_flatMap.1 hd
   unfold bdS1 at hd
   split at hd
   ·rename_i he
    simp only [List.mem_cons,List.not_mem_nil,or_false] at hd
    subst hd
    have hi:=List.mem_range.1 hi
    have g0 : (plcs R)[i]? = some ((plcs R).getD i zp):=by simp [List.getD_eq_getElem?_getD,List.getElem?_eq_getElem (show i < (plcs R).length by omega)]
    have g1 : (plcs R)[i + 1]? = some ((plcs R).getD (i + 1) zp):=by simp [List.getD_eq_getElem?_getD,List.getElem?_eq_getElem (show i + 1 < (plcs R).length by omega)]
    obtain ⟨p,hp⟩ : ∃ p,p = (plcs R).getD (i + 1) zp:=⟨_,rfl⟩
    dsimp only
    rw [← hp] at he g1 ⊢
    rw [he] at g0 ⊢
    rcases mem_plcs (List.mem_of_getElem? g1) with rfl | ⟨b,hb,hpb⟩
    ·exact absurd (nodup_get (plcs_nodup ho) g1 (show (plcs R)[0]? = some zp from rfl)) (by omega)
    ·rcases mem_plcs (List.mem_of_getElem? g0) with e0 | ⟨c,hc,hpc⟩
     ·have e1 : p.box = 0:=congrArg Pk.box e0
      have:=(okBoxes_mem _ _ _ ho b hb.1).1
      omega
     ·dsimp only at hc hpc
      obtain ⟨pb,pm⟩:=p
      dsimp only at hb hpb hc hpc he ⊢
      subst hpb
      have hbc : b = c:=by
       have:=okBoxes_pw _ _ _ ho
       exact rises_inj_bx ho b hb.1 c hc.1 hpc
      subst hbc
      have:=h.step b (pm - 1) hc (by rw [show pm - 1 + 1 = pm by omega];exact hb)
      rw [show pm - 1 + 1 = pm by omega] at this
      omega
   ·exact absurd hd List.not_mem_nil
 ·obtain ⟨x,hx,rfl⟩:=List.mem_map.1 hd
  have g1:=pidx_get (hm.a hx)
  have g2:=pidx_get (hm.b hx)
  have:=h.mat x hx
  simp only [List.getD_eq_getElem?_getD,g1,g2,Option.getD_some]
  omega
/-- numbers of the places that fit make a truth -/
theorem fit_tru {R : Rm} {M : List Mt} {x : Nat → Int} (ho : okBoxes R.months 0 R.boxes) (h : fitB x (bds R M)) : Tru R M (fun p=>x (pidx R p) - x 0) where
 zero:=by rw [pidx_zero];omega
 age:=by
  intro b m ht
  have hk:=there_nAge ht
  have:=h ⟨pidx R ⟨b.id,b.made⟩ + (m - b.made).toNat,0,R.ages.getD (m - b.made).toNat ⟨0,0⟩⟩ (List.mem_append_left _ (List.mem_append_left _ (List.mem_flatMap.2 ⟨b,ht.1,List.mem_map.2 ⟨_,List.mem_range.2 hk,rfl⟩⟩)))
  have e:=pidx_off ho ht.1 hk
  have h1:=ht.2.1
  rw [show b.made + (((m - b.made).toNat : Nat) : Int)=m by omega] at e
  rw [e]
  exact this
 step:=by
  intro b m h1 h2
  have k1:=there_nAge h1
  have k2:=there_nAge h2
  have q1:=h1.2.1
  have e1:=pidx_off ho h1.1 k1
  have e2:=pidx_off ho h2.1 k2
  have g1:=pidx_get (plcs_mem h1)
  have g2:=pidx_get (plcs_mem h2)
  have l2:=pidx_lt (plcs_mem h2)
  rw [show b.made + (((m - b.made).toNat : Nat) : Int)=m by omega] at e1
  rw [show b.made + (((m + 1 - b.made).toNat : Nat) : Int)=m + 1 by omega] at e2
  have e3 : pidx R ⟨b.id,m + 1⟩ = pidx R ⟨b.id,m⟩ + 1:=by omega
  rw [e3] at g2 l2
  have:=h ⟨pidx R ⟨b.id,m⟩ + 1,pidx R ⟨b.id,m⟩,⟨0,R.step⟩⟩ (List.mem_append_left _ (List.mem_append_right _ (List.mem_flatMap.2 ⟨pidx R ⟨b.id,m⟩,List.mem_range.2 (by omega),by
   unfold bdS1
   rw [if_pos (by simp only [List.getD_eq_getElem?_getD,g1,g2,Option.getD_some];exact Pk.ext' rfl (by show m = m + 1 - 1;omega))]
   exact List.mem_cons_self⟩)))
  dsimp only at this ⊢
  rw [e3]
  omega
 mat:=by
  intro y hy
  have:=h ⟨pidx R ⟨y.a,y.month⟩,pidx R ⟨y.b,y.month⟩,⟨y.lo,y.hi⟩⟩ (List.mem_append_right _ (List.mem_map.2 ⟨y,hy,rfl⟩))
  dsimp only at this ⊢
  omega
end Go.Proofs.YtmfppdpkalelhaaGreat
end
section
set_option linter.unusedVariables false
set_option linter.unusedSimpArgs false
namespace Go.Proofs.YtmfppdpkalelhaaGreat
open Go Go.Fw
set_option maxRecDepth 10000
open Classical in
noncomputable def mostL (es : List Ed) : Nat → List Int → Option (List Int)
 | 0,_=>none
 | j + 1,l=>if fitE (gt0 (rnd es l)) es then some (rnd es l) else mostL es j (rnd es l)
theorem mostL_none {es : List Ed} : ∀ (n : Nat) (l : List Int),mostL es n l = none → ∀ j,1 ≤ j → j ≤ n → ¬ fitE (gt0 (itR es j l)) es
 | 0,_,_,j,h1,h2=>absurd h1 (by omega)
 | n + 1,l,h,j,h1,h2=>by
  unfold mostL at h
  split at h
  ·cases h
  ·rename_i hf
   by_cases e : j = 1
   ·subst e;exact hf
   ·have:=mostL_none n (rnd es l) h (j - 1) (by omega) (by omega)
    rwa [show itR es (j - 1) (rnd es l)=itR es j l by rw [show j = (j - 1) + 1 by omega];rfl] at this
theorem mostL_some {es : List Ed} : ∀ (n : Nat) (l t : List Int),inE l.length es → mostL es n l = some t → t.length = l.length∧fitE (gt0 t) es∧(∀ i,gt0 t i ≤ gt0 l i) ∧ ∀ y,fitE y es → geL y l → geL y t
 | 0,_,_,_,h=>by unfold mostL at h;cases h
 | n + 1,l,t,hi,h=>by
  unfold mostL at h
  have hl:=rnd_len es l
  split at h
  ·rename_i hf
   cases h
   exact ⟨hl,hf,rnd_le es l hi,fun y hy hg=>rnd_ge es l hy hi hg⟩
  ·obtain ⟨h1,h2,h3,h4⟩:=mostL_some n (rnd es l) t (by rw [hl];exact hi) h
   exact ⟨by omega,h2,fun i=>Int.le_trans (h3 i) (rnd_le es l hi i),fun y hy hg=>h4 y hy (rnd_ge es l hy hi hg)⟩
def start (n k : Nat) : List Int:=(List.replicate n (1048576 : Int)).set k 0
theorem start_len (n k : Nat) : (start n k).length = n:=by unfold start;simp
theorem start_at {n k i : Nat} (hk : k < n) (hi : i < n) : gt0 (start n k) i = if i = k then 0 else 1048576:=by
 unfold gt0 start
 simp only [List.getD_eq_getElem?_getD]
 by_cases e : i = k
 ·subst e;rw [if_pos rfl,List.getElem?_set_self (by simpa using hk)];rfl
 ·rw [if_neg e,List.getElem?_set_ne (fun q=>e q.symm),List.getElem?_replicate,if_pos hi];rfl
noncomputable def mostR (R : Rm) (M : List Mt) (k : Nat) : Option (List Int):=mostL (edges (bds R M)) (plcs R).length (start (plcs R).length k)
theorem bds_in {R : Rm} {M : List Mt} (ho : okBoxes R.months 0 R.boxes) (hm : matsThere R M) : ∀ d ∈ bds R M,d.a < (plcs R).length∧d.b < (plcs R).length:=by
 intro d hd
 unfold bds at hd
 rcases List.mem_append.1 hd with hd | hd
 ·rcases List.mem_append.1 hd with hd | hd
  ·obtain ⟨b,hb,hd⟩:=List.mem_flatMap.1 hd
   obtain ⟨k,hk,rfl⟩:=List.mem_map.1 hd
   exact ⟨(List.getElem?_eq_some_iff.1 (pidx_get_off ho hb (List.mem_range.1 hk))).1,Nat.succ_pos _⟩
  ·obtain ⟨i,hi,hd⟩:=List.mem_flatMap.1 hd
   have:=List.mem_range.1 hi
   unfold bdS1 at hd
   split at hd
   ·simp only [List.mem_cons,List.not_mem_nil,or_false] at hd
    subst hd
    dsimp only;omega
   ·exact absurd hd List.not_mem_nil
 ·obtain ⟨x,hx,rfl⟩:=List.mem_map.1 hd
  exact ⟨pidx_lt (hm.a hx),pidx_lt (hm.b hx)⟩
theorem edges_in {R : Rm} {M : List Mt} (ho : okBoxes R.months 0 R.boxes) (hm : matsThere R M) : inE (plcs R).length (edges (bds R M)):=by
 intro e he
 obtain ⟨d,hd,he⟩:=List.mem_flatMap.1 he
 have:=bds_in ho hm d hd
 simp only [List.mem_cons,List.not_mem_nil,or_false] at he
 rcases he with rfl | rfl
 ·exact this
 ·exact ⟨this.2,this.1⟩
/-- a room whose boxes and ages are as they must be -/
structure okRm (R : Rm) : Prop where
 bx : okBoxes R.months 0 R.boxes
 ages : okAges R.ages
 len : (R.ages.length : Int)=R.months
 m1 : 1 ≤ R.months
 m12 : R.months ≤ 12
 s0 : 0 ≤ R.step
 s60 : R.step ≤ 60
 b4 : R.boxes.length ≤ 4
theorem roomOk.ok {R : Rm} (h : roomOk R) : okRm R:=⟨h.2.2.1,h.2.1,h.1.2.2.2.2.1,h.1.1,h.1.2.1,h.1.2.2.1,h.1.2.2.2.1,h.1.2.2.2.2.2.1⟩
theorem okRm.age {R : Rm} (h : okRm R) {b : Bx} {m : Int} (ht : there R b m) : 0 ≤ (R.ages.getD (m - b.made).toNat ⟨0,0⟩).lo∧(R.ages.getD (m - b.made).toNat ⟨0,0⟩).lo ≤ (R.ages.getD (m - b.made).toNat ⟨0,0⟩).hi∧(R.ages.getD (m - b.made).toNat ⟨0,0⟩).hi ≤ 60:=by
 have h1:=(okBoxes_mem _ _ _ h.bx b ht.1)
 have h2:=h.len
 have h3:=ht.2.2
 have hl : (m - b.made).toNat < R.ages.length:=by omega
 have:=h.ages (R.ages.getD (m - b.made).toNat ⟨0,0⟩) (by simp [List.getD_eq_getElem?_getD,List.getElem?_eq_getElem hl])
 exact this
theorem Tru.in60 {R : Rm} {M : List Mt} {z : Pk → Int} (hr : okRm R) (h : Tru R M z) {p : Pk} (hp : p ∈ plcs R) : 0 ≤ z p∧z p ≤ 60:=by
 rcases mem_plcs hp with rfl | ⟨b,hb,e⟩
 ·rw [h.zero];omega
 ·obtain ⟨pb,pm⟩:=p
  dsimp only at hb e
  subst e
  have:=h.age b pm hb
  have:=hr.age hb
  omega
theorem at_mem {R : Rm} {k : Nat} (h : k < (plcs R).length) : (plcs R).getD k zp ∈ plcs R:=by
 simp [List.getD_eq_getElem?_getD,List.getElem?_eq_getElem h]
theorem fitB_shift {x : Nat → Int} {B : List Bd} {c : Int} (h : fitB x B) : fitB (fun k=>x k - c) B:=fun d hd=>by
 have:=h d hd
 dsimp only
 omega
theorem most_none {R : Rm} {M : List Mt} {k : Nat} (hr : okRm R) (hm : matsThere R M) (hk : k < (plcs R).length) (h : mostR R M k = none) : ¬ ∃ z,Tru R M z:=by
 rintro ⟨z,hz⟩
 have hl : (start (plcs R).length k).length = (plcs R).length:=start_len _ _
 have hf:=fitB_edges.2 (fitB_shift (c:=z ((plcs R).getD k zp)) (hz.fit hr.bx hm))
 have hd:=rounds_done hf (l:=start (plcs R).length k) (by rw [hl];exact edges_in hr.bx hm) (fun i hi=>by
  rw [hl] at hi
  rw [start_at hk hi]
  have h1:=hz.in60 hr (at_mem hi)
  have h2:=hz.in60 hr (at_mem hk)
  split
  ·rename_i e;subst e;omega
  ·omega)
 rw [hl] at hd
 exact mostL_none _ _ h (plcs R).length (by omega) (Nat.le_refl _) hd
structure MostP (R : Rm) (M : List Mt) (k : Nat) (t : List Int) : Prop where
 len : t.length = (plcs R).length
 fit : fitB (gt0 t) (bds R M)
 at0 : gt0 t k = 0
 top : ∀ z,Tru R M z → ∀ i,i < (plcs R).length → z ((plcs R).getD i zp) - z ((plcs R).getD k zp)≤gt0 t i
theorem most_some {R : Rm} {M : List Mt} {k : Nat} {t : List Int} (hr : okRm R) (hm : matsThere R M) (hk : k < (plcs R).length) (h : mostR R M k = some t) : MostP R M k t:=by
 have hl : (start (plcs R).length k).length = (plcs R).length:=start_len _ _
 obtain ⟨h1,h2,h3,h4⟩:=mostL_some _ _ t (by rw [hl];exact edges_in hr.bx hm) h
 have hfit:=fitB_edges.1 h2
 have hT:=fit_tru hr.bx hfit
 have hge : ∀ z,Tru R M z → ∀ i,i < (plcs R).length → z ((plcs R).getD i zp) - z ((plcs R).getD k zp)≤gt0 t i:=by
  intro z hz i hi
  refine h4 (fun i=>z ((plcs R).getD i zp) - z ((plcs R).getD k zp)) (fitB_edges.2 (fitB_shift (hz.fit hr.bx hm))) (fun i hi=>?_) i (by rw [h1,hl];exact hi)
  rw [hl] at hi
  rw [start_at hk hi]
  have h1:=hz.in60 hr (at_mem hi)
  have h2:=hz.in60 hr (at_mem hk)
  dsimp only
  split
  ·rename_i e;subst e;omega
  ·omega
 refine ⟨by rw [h1,hl],hfit,?_,hge⟩
 have q1:=h3 k
 rw [start_at hk hk,if_pos rfl] at q1
 have q2:=hge _ hT k hk
 omega
/-- the numbers between which what a has less what b has lies in all truths -/
structure ExR (R : Rm) (M : List Mt) (a b : Pk) (s : Sp) : Prop where
 all : ∀ z,Tru R M z → s.lo ≤ z a - z b∧z a - z b ≤ s.hi
 lo : ∃ z,Tru R M z∧z a - z b = s.lo
 hi : ∃ z,Tru R M z∧z a - z b = s.hi
theorem ExR.uniq {R : Rm} {M : List Mt} {a b : Pk} {s t : Sp} (h : ExR R M a b s) (g : ExR R M a b t) : s = t:=by
 obtain ⟨z1,q1,e1⟩:=h.lo
 obtain ⟨z2,q2,e2⟩:=h.hi
 obtain ⟨z3,q3,e3⟩:=g.lo
 obtain ⟨z4,q4,e4⟩:=g.hi
 have a1:=g.all z1 q1
 have a2:=g.all z2 q2
 have a3:=h.all z3 q3
 have a4:=h.all z4 q4
 obtain ⟨s1,s2⟩:=s
 obtain ⟨t1,t2⟩:=t
 dsimp only at *
 congr 1 <;> omega
open Classical in
noncomputable def rng (R : Rm) (M : List Mt) (a b : Pk) : Sp:=if h : ∃ s,ExR R M a b s then h.choose else ⟨0,0⟩
theorem rng_eq {R : Rm} {M : List Mt} {a b : Pk} {s : Sp} (h : ExR R M a b s) : rng R M a b = s:=by
 unfold rng
 rw [dif_pos ⟨s,h⟩]
 exact (Exists.choose_spec (p:=fun s=>ExR R M a b s) ⟨s,h⟩).uniq h
theorem ExR.rng {R : Rm} {M : List Mt} {a b : Pk} {s : Sp} (h : ExR R M a b s) : ExR R M a b (rng R M a b):=by rw [rng_eq h];exact h
def hasT (R : Rm) (M : List Mt) : Prop := ∃ z,Tru R M z
theorem MostP.tru {R : Rm} {M : List Mt} {k : Nat} {t : List Int} (hr : okRm R) (h : MostP R M k t) : Tru R M (fun p=>gt0 t (pidx R p) - gt0 t 0):=fit_tru hr.bx h.fit
theorem most_rng {R : Rm} {M : List Mt} {a b : Pk} {ta tb : List Int} (hr : okRm R) (ha : a ∈ plcs R) (hb : b ∈ plcs R) (h1 : MostP R M (pidx R b) tb) (h2 : MostP R M (pidx R a) ta) :
  ExR R M a b ⟨-(gt0 ta (pidx R b)),gt0 tb (pidx R a)⟩:=by
 have ga : (plcs R).getD (pidx R a) zp = a:=by simp [List.getD_eq_getElem?_getD,pidx_get ha]
 have gb : (plcs R).getD (pidx R b) zp = b:=by simp [List.getD_eq_getElem?_getD,pidx_get hb]
 refine ⟨fun z hz=>?_,⟨_,h2.tru hr,?_⟩,⟨_,h1.tru hr,?_⟩⟩
 ·have q1:=h1.top z hz _ (pidx_lt ha)
  have q2:=h2.top z hz _ (pidx_lt hb)
  rw [ga,gb] at q1 q2
  dsimp only
  omega
 ·have:=h2.at0
  dsimp only
  omega
 ·have:=h1.at0
  dsimp only
  omega
end Go.Proofs.YtmfppdpkalelhaaGreat
end
section
set_option linter.unusedVariables false
set_option linter.unusedSimpArgs false
namespace Go.Proofs.YtmfppdpkalelhaaGreat
open Go Go.Fw
set_option maxRecDepth 10000
noncomputable instance : DecidableEq Sp:=fun _ _=>Classical.propDecidable _
def sat (l : List Sp) (k : Nat) : Sp:=l.getD k ⟨0,0⟩
def cut (s t : Sp) : Sp:=⟨max s.lo t.lo,min s.hi t.hi⟩
def nar (l : List Sp) (k : Nat) (t : Sp) : List Sp:=l.set k (cut (sat l k) t)
def wid (l : List Sp) : Int:=(l.map (fun s=>s.hi - s.lo)).sum
theorem wid_set : ∀ (l : List Sp) (k : Nat) (s : Sp),k < l.length → wid (l.set k s)=wid l - ((sat l k).hi - (sat l k).lo) + (s.hi - s.lo)
 | [],k,_,h=>absurd h (Nat.not_lt_zero _)
 | a::l,0,s,_=>by
  unfold wid sat
  simp only [List.set_cons_zero,List.map_cons,List.sum_cons,List.getD_cons_zero]
  omega
 | a::l,k + 1,s,h=>by
  have:=wid_set l k s (by simpa using h)
  unfold wid sat at *
  simp only [List.set_cons_succ,List.map_cons,List.sum_cons,List.getD_cons_succ]
  omega
theorem wid_nonneg : ∀ (l : List Sp),(∀ s ∈ l,s.lo ≤ s.hi) → 0 ≤ wid l
 | [],_=>Int.le_refl _
 | a::l,h=>by
  have h1:=wid_nonneg l (fun s hs=>h s (List.mem_cons_of_mem _ hs))
  have h2:=h a List.mem_cons_self
  unfold wid at *
  simp only [List.map_cons,List.sum_cons]
  omega
theorem sat_set {l : List Sp} {k j : Nat} {s : Sp} (h : k < l.length) : sat (l.set k s) j = if j = k then s else sat l j:=by
 unfold sat
 simp only [List.getD_eq_getElem?_getD]
 by_cases e : j = k
 ·subst e;rw [if_pos rfl,List.getElem?_set_self h];rfl
 ·rw [if_neg e,List.getElem?_set_ne (fun q=>e q.symm)]
theorem sat_get {l : List Sp} {k : Nat} (h : k < l.length) : l[k]? = some (sat l k):=by
 unfold sat
 simp [List.getD_eq_getElem?_getD,List.getElem?_eq_getElem h]
theorem set_sat {l : List Sp} {k : Nat} (h : k < l.length) : l.set k (sat l k)=l:=by
 apply List.ext_getElem?
 intro i
 by_cases e : i = k
 ·subst e;rw [List.getElem?_set_self h,sat_get h]
 ·rw [List.getElem?_set_ne (fun q=>e q.symm)]
def cel (R : Rm) (p : Pk) : Nat:=(index R.boxes p.box).toNat * 12 + p.month.toNat
def holds (s : Sp) (n : Int) : Prop:=s.lo ≤ n∧n ≤ s.hi
def Inn (R : Rm) (l : List Sp) (z : Pk → Int) : Prop := ∀ b m,there R b m → holds (sat l (cel R ⟨b.id,m⟩)) (z ⟨b.id,m⟩)
theorem index_pw : ∀ (l : List Bx),l.Pairwise (fun a b=>a.id < b.id) → ∀ (i : Nat) (b : Bx),l[i]? = some b → index l b.id = i
 | [],_,i,b,h=>by simp at h
 | c::l,hp,0,b,h=>by simp at h;subst h;simp [index]
 | c::l,hp,i + 1,b,h=>by
  have h1:=List.pairwise_cons.1 hp
  simp at h
  have h2:=h1.1 b (List.mem_of_getElem? h)
  have h3:=index_pw l h1.2 i b h
  unfold index
  rw [if_neg (by omega),if_neg (by omega),h3]
  omega
theorem index_box {R : Rm} (ho : okBoxes R.months 0 R.boxes) {i : Nat} {b : Bx} (h : R.boxes[i]? = some b) : index R.boxes b.id = i:=index_pw _ (okBoxes_pw _ _ _ ho) i b h
theorem cel_box {R : Rm} (ho : okBoxes R.months 0 R.boxes) {i : Nat} {b : Bx} (h : R.boxes[i]? = some b) (m : Int) : cel R ⟨b.id,m⟩ = i * 12 + m.toNat:=by
 unfold cel
 rw [show (⟨b.id,m⟩ : Pk).box = b.id from rfl,index_box ho h]
 rfl
theorem box_at {R : Rm} {b : Bx} (h : b ∈ R.boxes) : ∃ i : Nat,R.boxes[i]? = some b:=by
 obtain ⟨i,hi,e⟩:=List.mem_iff_getElem.1 h
 exact ⟨i,by rw [List.getElem?_eq_getElem hi,e]⟩
theorem there_bd {R : Rm} (hr : okRm R) {b : Bx} {m : Int} (h : there R b m) : 0 ≤ m∧m ≤ 11:=by
 have h1:=okBoxes_mem _ _ _ hr.bx b h.1
 have h2:=h.2.1
 have h3:=h.2.2
 have h4:=hr.m12
 omega
theorem cel_lt {R : Rm} (hr : okRm R) {b : Bx} {m : Int} (h : there R b m) : cel R ⟨b.id,m⟩ < 48:=by
 obtain ⟨i,hi⟩:=box_at h.1
 have h1:=there_bd hr h
 have h2:=(List.getElem?_eq_some_iff.1 hi).1
 have h3:=hr.b4
 rw [cel_box hr.bx hi]
 omega
theorem cel_inj {R : Rm} (hr : okRm R) {b c : Bx} {m n : Int} (h : there R b m) (g : there R c n) (e : cel R ⟨b.id,m⟩ = cel R ⟨c.id,n⟩) : b = c∧m = n:=by
 obtain ⟨i,hi⟩:=box_at h.1
 obtain ⟨j,hj⟩:=box_at g.1
 have h1:=there_bd hr h
 have h2:=there_bd hr g
 rw [cel_box hr.bx hi,cel_box hr.bx hj] at e
 have e1 : i = j:=by omega
 subst e1
 rw [hi] at hj
 cases hj
 exact ⟨rfl,by omega⟩
theorem cut_sub (s t : Sp) : s.lo ≤ (cut s t).lo∧(cut s t).hi ≤ s.hi:=by unfold cut;dsimp only;omega
theorem cut_holds {s t : Sp} {n : Int} (h : holds s n) (g : holds t n) : holds (cut s t) n:=by unfold holds cut at *;dsimp only;omega
theorem cut_same {s t : Sp} (h : cut s t = s) : t.lo ≤ s.lo∧s.hi ≤ t.hi:=by
 have h1:=congrArg Sp.lo h
 have h2:=congrArg Sp.hi h
 unfold cut at h1 h2
 dsimp only at h1 h2
 omega
theorem cut_wid {s t : Sp} (h : cut s t ≠ s) : (cut s t).hi - (cut s t).lo < s.hi - s.lo:=by
 obtain ⟨a,b⟩:=s
 unfold cut at *
 dsimp only at *
 by_cases h1 : t.lo ≤ a
 ·by_cases h2 : b ≤ t.hi
  ·refine absurd ?_ h
   congr 1 <;> omega
  ·omega
 ·omega
/-- what is so while a chart is narrowed: l0 is the chart as the round began -/
structure Nv (R : Rm) (M : List Mt) (l0 cur : List Sp) (ag : Bool) (n : Nat) : Prop where
 len0 : l0.length = 48
 len : cur.length = 48
 sub : ∀ k,(sat l0 k).lo ≤ (sat cur k).lo∧(sat cur k).hi ≤ (sat l0 k).hi
 keep : ∀ z,Tru R M z → Inn R l0 z → Inn R cur z
 no : ag = false → cur = l0
 yes : ag = true → wid cur < wid l0
 bd : ∀ k, -(60 * ((n : Int) + 1)) ≤ (sat cur k).lo∧(sat cur k).lo ≤ 60 * ((n : Int) + 1) ∧ -(60 * ((n : Int) + 1)) ≤ (sat cur k).hi∧(sat cur k).hi ≤ 60 * ((n : Int) + 1)
theorem Nv.narrow {R : Rm} {M : List Mt} {l0 cur : List Sp} {ag : Bool} {n : Nat} (h : Nv R M l0 cur ag n) {k : Nat} {t : Sp} (hk : k < 48)
  (ht : -(60 * ((n : Int) + 2)) ≤ t.lo∧t.lo ≤ 60 * ((n : Int) + 2) ∧ -(60 * ((n : Int) + 2)) ≤ t.hi∧t.hi ≤ 60 * ((n : Int) + 2))
  (hz : ∀ z,Tru R M z → Inn R l0 z → Inn R cur z → ∀ b m,there R b m → cel R ⟨b.id,m⟩ = k → holds t (z ⟨b.id,m⟩)) (c : Bool) (hc : c = true ↔ cut (sat cur k) t ≠ sat cur k) :
  Nv R M l0 (nar cur k t) (ag || c) (n + 1):=by
 have hl:=h.len
 have hs : ∀ j,sat (nar cur k t) j = if j = k then cut (sat cur k) t else sat cur j:=fun j=>sat_set (by omega)
 have hw : wid (nar cur k t)=wid cur - ((sat cur k).hi - (sat cur k).lo) + ((cut (sat cur k) t).hi - (cut (sat cur k) t).lo):=wid_set cur k _ (by omega)
 have hcs:=cut_sub (sat cur k) t
 refine ⟨h.len0,by unfold nar;rw [List.length_set];exact hl,fun j=>?_,fun z hT hI b m ht' => ?_,fun hf=>?_,fun hf=>?_,fun j=>?_⟩
 ·rw [hs]
  have:=h.sub j
  split
  ·rename_i e;subst e;omega
  ·exact this
 ·have h1:=h.keep z hT hI
  rw [hs]
  split
  ·rename_i e;rw [← e];exact cut_holds (h1 b m ht') (hz z hT hI h1 b m ht' e)
  ·exact h1 b m ht'
 ·cases ag
  ·cases c
   ·have : cut (sat cur k) t = sat cur k:=Classical.byContradiction fun q=>by have:=hc.2 q;cases this
    unfold nar
    rw [this,set_sat (by omega)]
    exact h.no rfl
   ·cases hf
  ·cases hf
 ·cases ag
  ·cases c
   ·cases hf
   ·have:=cut_wid (hc.1 rfl)
    have:=h.no rfl
    subst this
    omega
  ·have h1:=h.yes rfl
   by_cases q : cut (sat cur k) t = sat cur k
   ·rw [hw,q];omega
   ·have:=cut_wid q
    omega
 ·rw [hs]
  have h1:=h.bd j
  have h2:=h.bd k
  split
  ·unfold cut;dsimp only;omega
  ·omega
theorem Nv.start {R : Rm} {M : List Mt} {l : List Sp} (hl : l.length = 48) (hb : ∀ k,0 ≤ (sat l k).lo∧(sat l k).lo ≤ (sat l k).hi∧(sat l k).hi ≤ 60) : Nv R M l l false 0 :=
 ⟨hl,hl,fun _=>⟨Int.le_refl _,Int.le_refl _⟩,fun _ _ h=>h,fun _=>rfl,(fun h=>by cases h),fun k=>by have:=hb k;omega⟩
/-- a constraint holds of a chart's ends -/
def Fits (l : List Sp) (p q : Nat) (lo hi : Int) : Prop:=lo ≤ (sat l p).lo - (sat l q).lo∧(sat l p).lo - (sat l q).lo ≤ hi∧lo ≤ (sat l p).hi - (sat l q).hi∧(sat l p).hi - (sat l q).hi ≤ hi
theorem fits_of {l : List Sp} {p q : Nat} {lo hi : Int} (h1 : cut (sat l p) ⟨(sat l q).lo + lo,(sat l q).hi + hi⟩ = sat l p) (h2 : cut (sat l q) ⟨(sat l p).lo - hi,(sat l p).hi - lo⟩ = sat l q) : Fits l p q lo hi:=by
 have:=cut_same h1
 have:=cut_same h2
 dsimp only at *
 unfold Fits
 omega
/-- all constraints hold -/
structure Fixed (R : Rm) (M : List Mt) (l : List Sp) : Prop where
 step : ∀ b m,there R b m → there R b (m + 1) → Fits l (cel R ⟨b.id,m + 1⟩) (cel R ⟨b.id,m⟩) 0 R.step
 mat : ∀ x ∈ M,Fits l (cel R ⟨x.a,x.month⟩) (cel R ⟨x.b,x.month⟩) x.lo x.hi
open Classical in
noncomputable def zlo (R : Rm) (l : List Sp) (p : Pk) : Int:=if p = zp then 0 else (sat l (cel R p)).lo
open Classical in
noncomputable def zhi (R : Rm) (l : List Sp) (p : Pk) : Int:=if p = zp then 0 else (sat l (cel R p)).hi
/-- within the ages -/
def inAges (R : Rm) (l : List Sp) : Prop := ∀ b m,there R b m → (R.ages.getD (m - b.made).toNat ⟨0,0⟩).lo ≤ (sat l (cel R ⟨b.id,m⟩)).lo∧(sat l (cel R ⟨b.id,m⟩)).hi ≤ (R.ages.getD (m - b.made).toNat ⟨0,0⟩).hi∧(sat l (cel R ⟨b.id,m⟩)).lo ≤ (sat l (cel R ⟨b.id,m⟩)).hi
theorem ne_zp {R : Rm} (hr : okRm R) {b : Bx} {m : Int} (h : there R b m) : (⟨b.id,m⟩ : Pk) ≠ zp:=fun e=>by
 have:=(okBoxes_mem _ _ _ hr.bx b h.1).1
 have e1 : b.id = 0:=congrArg Pk.box e
 omega
theorem mats_ne {R : Rm} (hr : okRm R) {M : List Mt} (hm : matsThere R M) {x : Mt} (hx : x ∈ M) : (⟨x.a,x.month⟩ : Pk) ≠ zp∧(⟨x.b,x.month⟩ : Pk) ≠ zp:=by
 obtain ⟨⟨b,hb,e⟩,⟨c,hc,f⟩,_⟩:=hm x hx
 rw [← e, ← f]
 exact ⟨ne_zp hr hb,ne_zp hr hc⟩
theorem Fixed.zlo {R : Rm} {M : List Mt} {l : List Sp} (hr : okRm R) (hm : matsThere R M) (h : Fixed R M l) (ha : inAges R l) : Tru R M (zlo R l) where
 zero:=by unfold Proofs.YtmfppdpkalelhaaGreat.zlo;rw [if_pos rfl]
 age:=by
  intro b m ht
  have:=ha b m ht
  unfold Proofs.YtmfppdpkalelhaaGreat.zlo
  rw [if_neg (ne_zp hr ht)]
  omega
 step:=by
  intro b m h1 h2
  have:=h.step b m h1 h2
  unfold Proofs.YtmfppdpkalelhaaGreat.zlo
  unfold Fits at this
  rw [if_neg (ne_zp hr h1),if_neg (ne_zp hr h2)]
  omega
 mat:=by
  intro x hx
  have:=h.mat x hx
  obtain ⟨n1,n2⟩:=mats_ne hr hm hx
  unfold Proofs.YtmfppdpkalelhaaGreat.zlo
  unfold Fits at this
  rw [if_neg n1,if_neg n2]
  omega
theorem Fixed.zhi {R : Rm} {M : List Mt} {l : List Sp} (hr : okRm R) (hm : matsThere R M) (h : Fixed R M l) (ha : inAges R l) : Tru R M (zhi R l) where
 zero:=by unfold Proofs.YtmfppdpkalelhaaGreat.zhi;rw [if_pos rfl]
 age:=by
  intro b m ht
  have:=ha b m ht
  unfold Proofs.YtmfppdpkalelhaaGreat.zhi
  rw [if_neg (ne_zp hr ht)]
  omega
 step:=by
  intro b m h1 h2
  have:=h.step b m h1 h2
  unfold Proofs.YtmfppdpkalelhaaGreat.zhi
  unfold Fits at this
  rw [if_neg (ne_zp hr h1),if_neg (ne_zp hr h2)]
  omega
 mat:=by
  intro x hx
  have:=h.mat x hx
  obtain ⟨n1,n2⟩:=mats_ne hr hm hx
  unfold Proofs.YtmfppdpkalelhaaGreat.zhi
  unfold Fits at this
  rw [if_neg n1,if_neg n2]
  omega
/-- what the closing of a chart yields -/
structure ClosedT (R : Rm) (M : List Mt) (c l : List Sp) : Prop where
 len : l.length = 48
 sub : ∀ k,(sat c k).lo ≤ (sat l k).lo∧(sat l k).hi ≤ (sat c k).hi
 full : ∀ k,(sat l k).lo ≤ (sat l k).hi
 fix : Fixed R M l
 keep : ∀ z,Tru R M z → Inn R c z → Inn R l z
theorem ClosedT.ages {R : Rm} {M : List Mt} {c l : List Sp} (h : ClosedT R M c l) (ha : inAges R c) : inAges R l:=by
 intro b m ht
 have h1:=ha b m ht
 have h2:=h.sub (cel R ⟨b.id,m⟩)
 have h3:=h.full (cel R ⟨b.id,m⟩)
 omega
/-- all that a closed chart tells of places -/
theorem ClosedT.ex {R : Rm} {M : List Mt} {c l : List Sp} (hr : okRm R) (hm : matsThere R M) (h : ClosedT R M c l) (ha : inAges R c) (hc : ∀ z,Tru R M z → Inn R c z) {b : Bx} {m : Int} (ht : there R b m) : ExR R M ⟨b.id,m⟩ zp (sat l (cel R ⟨b.id,m⟩)):=by
 have hi:=h.ages ha
 refine ⟨fun z hz=>?_,⟨_,h.fix.zlo hr hm hi,?_⟩,⟨_,h.fix.zhi hr hm hi,?_⟩⟩
 ·have:=h.keep z hz (hc z hz) b m ht
  rw [hz.zero]
  unfold holds at this
  omega
 ·rw [(h.fix.zlo hr hm hi).zero]
  unfold Proofs.YtmfppdpkalelhaaGreat.zlo
  rw [if_neg (ne_zp hr ht)];omega
 ·rw [(h.fix.zhi hr hm hi).zero]
  unfold Proofs.YtmfppdpkalelhaaGreat.zhi
  rw [if_neg (ne_zp hr ht)];omega
end Go.Proofs.YtmfppdpkalelhaaGreat
end
section
set_option linter.unusedVariables false
set_option linter.unusedSimpArgs false
namespace Go.Proofs.YtmfppdpkalelhaaGreat
open Go Go.Fw
set_option maxRecDepth 10000
structure Acc (R : Rm) (M : List Mt) (a b : Pk) (lo v : Int) (out : Sp) (any : Bool) : Prop where
 no : any = false → ∀ z,Tru R M z → lo ≤ z b → z b < v → False
 all : any = true → ∀ z,Tru R M z → lo ≤ z b → z b < v → out.lo ≤ z a - z b∧z a - z b ≤ out.hi
 atlo : any = true → ∃ z,Tru R M z∧z a - z b = out.lo
 athi : any = true → ∃ z,Tru R M z∧z a - z b = out.hi
theorem Acc.zero (R : Rm) (M : List Mt) (a b : Pk) (lo : Int) (out : Sp) : Acc R M a b lo lo out false :=
 ⟨fun _ z _ h1 h2=>by omega,(fun h=>by cases h),(fun h=>by cases h),(fun h=>by cases h)⟩
theorem Acc.skip {R : Rm} {M : List Mt} {a b : Pk} {lo v : Int} {out : Sp} {any : Bool} (h : Acc R M a b lo v out any) (hn : ∀ z,Tru R M z → z b = v → False) : Acc R M a b lo (v + 1) out any:=by
 refine ⟨fun ha z hz h1 h2=>?_,fun ha z hz h1 h2=>?_,h.atlo,h.athi⟩
 ·by_cases e : z b = v
  ·exact hn z hz e
  ·exact h.no ha z hz h1 (by omega)
 ·by_cases e : z b = v
  ·exact (hn z hz e).elim
  ·exact h.all ha z hz h1 (by omega)
theorem Acc.add {R : Rm} {M : List Mt} {a b : Pk} {lo v : Int} {out s : Sp} {any : Bool} (h : Acc R M a b lo v out any) (hs : ∀ z,Tru R M z → z b = v → s.lo ≤ z a - z b∧z a - z b ≤ s.hi)
  (hl : ∃ z,Tru R M z∧z a - z b = s.lo) (hh : ∃ z,Tru R M z∧z a - z b = s.hi) : Acc R M a b lo (v + 1) (if any then ⟨min s.lo out.lo,max s.hi out.hi⟩ else s) true:=by
 cases any
 ·refine ⟨(fun h=>by cases h),fun _ z hz h1 h2=>?_,fun _=>hl,fun _=>hh⟩
  by_cases e : z b = v
  ·exact hs z hz e
  ·exact (h.no rfl z hz h1 (by omega)).elim
 ·refine ⟨(fun h=>by cases h),fun _ z hz h1 h2=>?_,fun _=>?_,fun _=>?_⟩
  ·show min s.lo out.lo ≤ _∧_ ≤ max s.hi out.hi
   by_cases e : z b = v
   ·have:=hs z hz e;omega
   ·have:=h.all rfl z hz h1 (by omega);omega
  ·show ∃ z,Tru R M z∧z a - z b = min s.lo out.lo
   obtain ⟨z1,t1,e1⟩:=hl
   obtain ⟨z2,t2,e2⟩:=h.atlo rfl
   by_cases q : s.lo ≤ out.lo
   ·exact ⟨z1,t1,by omega⟩
   ·exact ⟨z2,t2,by omega⟩
  ·show ∃ z,Tru R M z∧z a - z b = max s.hi out.hi
   obtain ⟨z1,t1,e1⟩:=hh
   obtain ⟨z2,t2,e2⟩:=h.athi rfl
   by_cases q : out.hi ≤ s.hi
   ·exact ⟨z1,t1,by omega⟩
   ·exact ⟨z2,t2,by omega⟩
theorem Acc.ex {R : Rm} {M : List Mt} {a b : Pk} {lo v : Int} {out : Sp} {any : Bool} (h : Acc R M a b lo v out any) (hT : hasT R M) (hb : ∀ z,Tru R M z → lo ≤ z b∧z b < v) : ExR R M a b out:=by
 obtain ⟨z0,h0⟩:=hT
 have ha : any = true:=by
  cases any
  ·exact (h.no rfl z0 h0 (hb z0 h0).1 (hb z0 h0).2).elim
  ·rfl
 exact ⟨fun z hz=>h.all ha z hz (hb z hz).1 (hb z hz).2,h.atlo ha,h.athi ha⟩
/-- the chart by ages -/
structure FirstC (R : Rm) (l : List Sp) : Prop where
 len : l.length = 48
 at_ : ∀ b m,there R b m → sat l (cel R ⟨b.id,m⟩) = R.ages.getD (m - b.made).toNat ⟨0,0⟩
 ok : ∀ k,0 ≤ (sat l k).lo∧(sat l k).lo ≤ (sat l k).hi∧(sat l k).hi ≤ 60
theorem FirstC.ages {R : Rm} {l : List Sp} (hr : okRm R) (h : FirstC R l) : inAges R l:=by
 intro b m ht
 rw [h.at_ b m ht]
 have:=hr.age ht
 omega
theorem FirstC.inn {R : Rm} {M : List Mt} {l : List Sp} (h : FirstC R l) : ∀ z,Tru R M z → Inn R l z:=fun z hz b m ht=>by
 rw [h.at_ b m ht]
 exact hz.age b m ht
/-- a chart that is good to go on from: within ages, full, with all truths -/
structure GoodC (R : Rm) (M : List Mt) (c : List Sp) : Prop where
 len : c.length = 48
 ages : inAges R c
 inn : ∀ z,Tru R M z → Inn R c z
 ok : ∀ k,0 ≤ (sat c k).lo∧(sat c k).lo ≤ (sat c k).hi∧(sat c k).hi ≤ 60
theorem FirstC.good {R : Rm} {M : List Mt} {l : List Sp} (hr : okRm R) (h : FirstC R l) : GoodC R M l:=⟨h.len,h.ages hr,h.inn,h.ok⟩
theorem ClosedT.good {R : Rm} {M : List Mt} {c l : List Sp} (h : ClosedT R M c l) (g : GoodC R M c) : GoodC R M l :=
 ⟨h.len,h.ages g.ages,fun z hz=>h.keep z hz (g.inn z hz),fun k=>by
  have h1:=h.sub k
  have h2:=h.full k
  have h3:=g.ok k
  omega⟩
end Go.Proofs.YtmfppdpkalelhaaGreat
end
section
set_option linter.unusedVariables false
namespace Go.Fw
open Go Go.RowKit
def allOk {α : Type} (ok : List α → Bool) (pre : List α) : Prop := ∀ q,q <+: pre → q ≠ [] → ok q = true
/-- what an iterator does, if each round's end is known -/
def Itd (P : Program) {α : Type} (f : FuncId) (cap : List Value) (E : List Row) (xs : List α) (encs : α → List Value) : Prop :=
 Callable P f ∧ ∀ (l : Nat) (h : List α → List Row) (ok : List α → Bool) (hx : List α → List Row),
  (∀ pre x,(pre++[x]) <+: xs → allOk ok pre → ∀ E',Yc P l (encs x) (h pre++E') (fun v H' => v = .bool (ok (pre++[x]))∧H' = (if ok (pre++[x]) then h (pre++[x]) else hx (pre++[x]))++E')) →
  Fc P f (.func (.yield l) #[] #[]::cap) (h []++E) (fun _ H' => (allOk ok xs∧H' = h xs++E) ∨ ∃ pre,pre <+: xs∧ok pre = false∧H' = hx pre++E)
theorem XT.rangeD {P : Program} {n : Nat} {c : Code} {F : FS} {Ds : List Nat} {H : List Row} {Q : QTT} {α : Type} {g : Operand} {ps : List Nat} {assign body : Code} {f : FuncId} {cap : List Value} {E : List Row} {xs : List α} {encs : α → List Value}
  (h : c = .rangeFunc g ps.toArray assign body) (hg : evF F g = some (.func (.func f) #[] cap.toArray)) (hI : Itd P f cap E xs encs) (hps : ps.all (fun p=>Nat.blt p n)=true) (hen : ∀ x,(encs x).length = ps.length)
  (hb : List α → List Row) (ok : List α → Bool) (hx : List α → List Row) (cx : Code) (hH : H = hb []++E)
  (hround : ∀ pre x,(pre++[x]) <+: xs → allOk ok pre → ∀ Z,X P n assign (zipF ps (encs x) F) (hb pre++Z) (fun e F1 H1=>e = .normal ∧ ∃ Hb1,(Hb1++Z).Sublist H1 ∧ ∀ Z',X P n body F1 (Hb1++Z') (bodyX (fun Hb=>ok (pre++[x]) = true∧Hb = hb (pre++[x])) (fun c Hb=>c = cx∧ok (pre++[x]) = false∧Hb = hx (pre++[x])) Z')))
  (hdone : ∀ D,allOk ok xs → Q .normal F (D::Ds) (hb xs++E))
  (hret : ∀ D pre,cx = .ret → pre <+: xs → ok pre = false → Q .ret F (D::Ds) (hx pre++E))
  (hexit : ∀ D id pre,cx = .exit id → pre <+: xs → ok pre = false → Q (.exit id) F (D::Ds) (hx pre++E))
  (honly : cx = .ret ∨ ∃ id,cx = .exit id) : XT P n c F Ds H Q:=by
 subst h hH
 unfold XT
 intro t ha B w0 w hS
 obtain ⟨M,hM⟩ : ∃ M,M = Ds.map dRow:=⟨_,rfl⟩
 have hS : St B w0 ((M++hb [])++E) w:=hS.perm (by rw [hM,List.append_assoc];exact List.perm_append_comm)
 refine wpIn_rangeFunc ?_
 intro fn _
 obtain ⟨hcall,hit⟩:=hI
 obtain ⟨rec,hrec⟩ : ∃ rec : LoopState → Option Code → Loop,rec = fun st pe=>{ state:=st,pending:=pe,fn,tmps:=t.toArray,params:=ps.toArray,assign,body,defers:=w.heap.size }:=⟨_,rfl⟩
 have hg' : Act.eval ⟨t.toArray,Ds.map dMk⟩ g = .func (.func f) #[] cap.toArray:=by rw [eval_ev];exact ha.ev hg
 have hS1:=hS.allocObj (.deferred (some []))
 have hS2:=hS1.allocObj (.loop (rec .ready none))
 refine ⟨w.heap.size + 1,[dMk w.heap.size],(w.alloc (.deferred (some []))).alloc (.loop (rec .ready none)),{ target := .fn (.func f) cap.toArray,args := #[.func (.yield (w.heap.size + 1)) #[] #[]] },(w.alloc (.deferred (some []))).alloc (.loop (rec .ready none)),f,
  #[.func (.yield (w.heap.size + 1)) #[] #[]]++cap.toArray,(w.alloc (.deferred (some []))).alloc (.loop (rec .ready none)),?_,?_,fun _ _=>trivial,?_,(fun h=>by cases h),?_⟩
 ·rw [hrec];exact run_enterLoop_outer fn _ _ _ _
 ·simp only [resolve,hg']
  simp [Deferred.ofValue,Act.eval]
 ·unfold Callable at hcall
  simp [invoke]
  exact hcall _ _
 have hsz : (w.alloc (.deferred (some []))).heap.size = w.heap.size + 1:=size_alloc' _ _
 rw [hsz] at hS2
 -- the round
 have key:=hit (w.heap.size + 1)
  (fun pre=>lRow (w.heap.size + 1) (rec .ready none)::dRow w.heap.size::(M++hb pre)) ok
  (fun pre=>lRow (w.heap.size + 1) (rec .done (some cx))::dRow w.heap.size::(M++hx pre)) ?_
 ·unfold Fc at key
  have hc:=key.2 B w0 _ hS2
  have e1 : (#[Value.func (.yield (w.heap.size + 1)) #[] #[]]++cap.toArray)=(Value.func (.yield (w.heap.size + 1)) #[] #[]::cap).toArray:=by simp
  rw [e1]
  refine (callsIn_wide (n:=0)).2 (hc.mono ?_)
  rintro e w' ⟨v,H',rfl,hJ,hS'⟩
  rcases hJ with ⟨hok,rfl⟩ | ⟨pre,hpx,hno,rfl⟩
  ·have hl : w'.heap[w.heap.size + 1]? = some (.loop (rec .ready none)):=hS'.obj (List.mem_cons_self ..)
   have hS3:=(hS'.putObj (.loop { rec .ready none with state := .exhausted })).tail
   refine ⟨none,w'.putObj (w.heap.size + 1) (.loop { rec .ready none with state := .exhausted }),?_,?_⟩
   ·have:=run_endLoop (P:=P) hl (by rw [hrec];simp)
    rw [this];rw [hrec]
   ·refine ⟨w.heap.size::Ds,F,hb xs++E,rfl,?_,hdone _ hok,?_⟩
    ·simpa using ha
    ·refine hS3.perm ?_
     rw [List.map_cons, ← hM]
     exact (mvM _ _ _ _).symm
  ·have hl : w'.heap[w.heap.size + 1]? = some (.loop (rec .done (some cx))):=hS'.obj (List.mem_cons_self ..)
   have hS3:=(hS'.putObj (.loop { rec .done (some cx) with state := .exhausted })).tail
   refine ⟨some cx,w'.putObj (w.heap.size + 1) (.loop { rec .done (some cx) with state := .exhausted }),?_,?_⟩
   ·have:=run_endLoop (P:=P) hl (by rw [hrec];simp)
    rw [this];rw [hrec]
   ·have hS4 : St B w0 ((hx pre++E)++(w.heap.size::Ds).map dRow) (w'.putObj (w.heap.size + 1) (.loop { rec .done (some cx) with state := .exhausted })):=by
     refine hS3.perm ?_
     rw [List.map_cons, ← hM]
     exact (mvM _ _ _ _).symm
    rcases honly with hc | ⟨id,hc⟩
    ·rw [hc];exact wpIn_ret ⟨w.heap.size::Ds,F,hx pre++E,rfl,by simpa using ha,hret _ _ hc hpx hno,by rw [hc] at hS4;exact hS4⟩
    ·rw [hc];exact wpIn_exit ⟨w.heap.size::Ds,F,hx pre++E,rfl,by simpa using ha,hexit _ _ _ hc hpx hno,by rw [hc] at hS4;exact hS4⟩
 ·rintro pre x hpre hall E'
  unfold Yc
  intro B w0 w' hS'
  have hl : w'.heap[w.heap.size + 1]? = some (.loop (rec .ready none)):=hS'.obj (List.mem_cons_self ..)
  have hy:=run_yield (P:=P) (args:=(encs x).toArray) hl (by rw [hrec];simp [hen])
  rw [hrec] at hy
  refine ⟨_,_,_,_,hy,roundIn_of_wpIn (F:=Fence.wide) trivial ?_⟩
  have hag:=ag_zipF ps (encs x) F t.toArray (by simpa using ha) hps
  have hx:=hround pre x hpre hall (lRow (w.heap.size + 1) (rec .ready none)::dRow w.heap.size::(M++E'))
  unfold X W at hx
  have hx1:=hx _ hag (some (w.heap.size + 1)) [] B w0 w' (hS'.perm (mvN _ _ _ _ _).symm)
  refine wpIn_mono (F:=Fence.wide.inRound (w.heap.size + 1)) (by rw [Array.toArray_toList] at hx1;exact hx1) ?_
  rintro e a1 w1 ⟨hd1,H1,⟨F1,ha1,he1,Hb1,hs1,hbody⟩,hS1'⟩
  subst he1
  have hS1'' : St B w0 (lRow (w.heap.size + 1) (rec .ready none)::(Hb1++(dRow w.heap.size::(M++E')))) w1:=(hS1'.sub hs1).perm (by simpa using List.perm_middle.symm)
  have hl1 : w1.heap[w.heap.size + 1]? = some (.loop (rec .ready none)):=hS1''.obj (List.mem_cons_self ..)
  have hS1b:=hS1''.putObj (.loop { rec .ready none with state := .busy })
  have hb1:=hbody (lRow (w.heap.size + 1) { rec .ready none with state := .busy }::dRow w.heap.size::(M++E'))
  have hb2:=hb1 _ ha1 (some (w.heap.size + 1)) [] B w0 _ (hS1b.perm (by simp [lRow]))
  refine ⟨_,run_beginRound hl1 (by rw [hrec]),?_⟩
  rw [act_eta hd1]
  refine wpIn_mono (F:=Fence.wide.inRound (w.heap.size + 1)) hb2 ?_
  rintro e a2 w2 ⟨hd2,H2,⟨F2,ha2,Hb2,hs2,hq⟩,hS2'⟩
  have hS2'' : St B w0 (lRow (w.heap.size + 1) { rec .ready none with state := .busy }::(Hb2++(dRow w.heap.size::(M++E')))) w2:=(hS2'.sub hs2).perm (by simpa using List.perm_middle.symm)
  have hl2 : w2.heap[w.heap.size + 1]? = some (.loop { rec .ready none with state := .busy }):=hS2''.obj (List.mem_cons_self ..)
  have fin : ∀ jump : Option Code,∃ w3,(Instr.endRound (w.heap.size + 1) jump).run P w2 = .ok (.bool jump.isNone) w3∧St B w0 ((lRow (w.heap.size + 1) (rec (if jump.isNone then .ready else .done) jump)::dRow w.heap.size::(M++Hb2))++E') w3:=by
   intro jump
   have h1:=run_endRound (P:=P) jump hl2
   have h2:=hS2''.putObj (.loop { { rec .ready none with state:=LoopState.busy } with state:=if jump.isNone then .ready else .done,pending:=jump })
   have h3 : ({ { rec .ready none with state:=LoopState.busy } with state:=if jump.isNone then .ready else .done,pending:=jump } : Loop)=rec (if jump.isNone then .ready else .done) jump:=by rw [hrec]
   rw [h3] at h2
   have h4 : (Instr.endRound (w.heap.size + 1) jump).run P w2 = .ok (.bool jump.isNone) (w2.putObj (w.heap.size + 1) (.loop (rec (if jump.isNone then .ready else .done) jump))):=by rw [h1];rw [hrec]
   refine ⟨_,h4,h2.perm ?_⟩
   simp only [lRow,List.cons_append]
   refine List.Perm.cons _ ?_
   exact (mvO _ _ _ _).symm
  cases e with
  | normal =>
   obtain ⟨w3,h1,h2⟩:=fin none
   obtain ⟨hq1,hq2⟩:=hq
   subst hq2
   refine ⟨_,w3,h1,_,_,rfl,⟨by rw [hq1];rfl,?_⟩,h2⟩
   rw [hq1];rfl
  | ret =>
   obtain ⟨w3,h1,h2⟩:=fin (some .ret)
   obtain ⟨hq0,hq1,hq2⟩:=hq
   subst hq2
   refine ⟨_,w3,h1,_,_,rfl,⟨by rw [hq1];rfl,?_⟩,h2⟩
   rw [hq1, ← hq0];rfl
  | exit id =>
   obtain ⟨w3,h1,h2⟩:=fin (some (.exit id))
   obtain ⟨hq0,hq1,hq2⟩:=hq
   subst hq2
   refine ⟨_,w3,h1,_,_,rfl,⟨by rw [hq1];rfl,?_⟩,h2⟩
   rw [hq1, ← hq0];rfl
  | goto l=>exact hq.elim
  | panic ch=>exact hq.elim
  | outgrown=>exact hq.elim
theorem X.capLe {P : Program} {n : Nat} {c : Code} {F : FS} {H : List Row} {Q : QX} {q b cap : Nat} {el : TypeId} {cs : List Value} (hi : H[q]? = some ⟨b,0,cs,some el,cap⟩) (k : cs.length ≤ cap → X P n c F H Q) : X P n c F H Q:=by
 unfold X W at k ⊢
 intro t ha ρ ds B w0 w hS
 obtain ⟨_,_,r,_,h2⟩:=hS.ok _ (List.mem_of_getElem? hi)
 have h3 : cs.length + r.length = cap:=by rw [← List.length_append];exact h2
 exact k (by omega) t ha ρ ds B w0 w hS
theorem XO.capLe {P : Program} {n : Nat} {ops : Array Oper} {i : Nat} {F : FS} {H : List Row} {N : FS → List Row → Prop} {q b cap : Nat} {el : TypeId} {cs : List Value} (hi : H[q]? = some ⟨b,0,cs,some el,cap⟩) (k : cs.length ≤ cap → XO P n ops i F H N) : XO P n ops i F H N:=by
 unfold XO WO at k ⊢
 intro t ha ρ ds B w0 w hS
 obtain ⟨_,_,r,_,h2⟩:=hS.ok _ (List.mem_of_getElem? hi)
 have h3 : cs.length + r.length = cap:=by rw [← List.length_append];exact h2
 exact k (by omega) t ha ρ ds B w0 w hS
theorem nd_f {p : Prop} [Decidable p] (h : p) : (!decide p)=false:=by rw [decide_eq_true h];rfl
theorem nd_t {p : Prop} [Decidable p] (h : ¬ p) : (!decide p)=true:=by rw [decide_eq_false h];rfl
/-- yield is called in a region that draws its order -/
theorem OpF.yield {P : Program} {n : Nat} {H : List Row} {F : FS} {o : Oper} {g : Operand} {l : Nat} {al : List Operand} {tys : Array TypeId} {vs : List Value} {R : Value → List Row → Prop} (h : o.op = .call { callee := .value g,args:=al.toArray,argTypes:=tys })
  (hg : evF F g = some (.func (.yield l) #[] #[])) (hv : Args F al vs) (hY : Yc P l vs H R) : OpF P n H F o R:=by
 intro t ha ρ ds B w0 w hS k Q hk
 unfold Yc at hY
 obtain ⟨fn,tmps,assign,body,h1,h2⟩:=hY B w0 w hS
 have hrun : (execOp (Fw.ev t) o).run P w = .ok (.round l fn tmps assign body) w:=by
  have e:=ha.ev hg
  have e2:=hv.ev ha
  simp [execOp,h,resolve,e,Deferred.ofValue,invoke,e2,callFunc,h1]
 unfold Oper.wpIn
 refine ⟨fun _ _=>trivial,?_⟩
 rw [eval_ev,sem_round hrun,Oper.uponIn_round]
 refine ⟨(fun h=>by cases h),?_⟩
 refine RoundIn.mono (F:=wf ρ) h2 ?_
 rintro e w' ⟨v,H',rfl,hR,hS'⟩
 simp only [put_act]
 exact hk v w' H' hS' hR
end Go.Fw
end
