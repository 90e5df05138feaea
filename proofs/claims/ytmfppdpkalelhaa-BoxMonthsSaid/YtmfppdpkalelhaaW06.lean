/- Own work: contracts of functions, from rows of what is known of the memory; contracts of functions, from rows of what is known of the memory; contracts of functions, from rows of what is known of the memory; contracts of functions, from rows of what is known of the memory; The reference: differ.; contracts of functions, from rows of what is known of the memory; contracts of functions, from rows of what is known of the memory; contracts of functions, from rows of what is known of the memory; contracts of functions, from rows of what is known of the memory; contracts of functions, from rows of what is known of the memory; The law BoxTells returns true from whatever memory.; Rooms, matches, boxes and lists that came in, opened.; BoxTells: for every room, two boxes and a month the law returns true (whet -/
import Derived.Test.YtmfppdpkalelhaaW05
import Derived.OpenShut
import Derived.ProofKit
import Derived.Test.YtmfppdpkalelhaaRows
import Derived.WalkKit
import Derived.ChangeOld
import Derived.ShutString
section
set_option linter.unusedVariables false
set_option linter.unusedSimpArgs false
namespace Go.Proofs.Ytmfppdpkalelhaa
open Go Go.Fw
set_option maxRecDepth 10000
theorem inj2 : ∀ (a b m n : Nat),2 ^ a * (2 * m + 1)=2 ^ b * (2 * n + 1) → a = b∧m = n
 | 0,0,m,n,h=>by simp only [Nat.pow_zero,Nat.one_mul] at h;exact ⟨rfl,by omega⟩
 | 0,b + 1,m,n,h=>by
  rw [Nat.pow_succ,Nat.mul_comm (2 ^ b) 2,Nat.mul_assoc] at h
  simp only [Nat.pow_zero,Nat.one_mul] at h
  omega
 | a + 1,0,m,n,h=>by
  rw [Nat.pow_succ,Nat.mul_comm (2 ^ a) 2,Nat.mul_assoc] at h
  simp only [Nat.pow_zero,Nat.one_mul] at h
  omega
 | a + 1,b + 1,m,n,h=>by
  rw [Nat.pow_succ,Nat.mul_comm (2 ^ a) 2,Nat.mul_assoc,Nat.pow_succ,Nat.mul_comm (2 ^ b) 2,Nat.mul_assoc] at h
  obtain ⟨h1,h2⟩:=inj2 a b m n (by omega)
  exact ⟨by omega,h2⟩
def eI (i : Int) : Nat:=if 0 ≤ i then 2 * i.toNat else 2 * (-i).toNat + 1
theorem eI_inj {i j : Int} (h : eI i = eI j) : i = j:=by unfold eI at h;split at h <;> split at h <;> omega
def eSp (s : Sp) : Nat:=2 ^ eI s.lo * (2 * eI s.hi + 1)
theorem eSp_inj {s t : Sp} (h : eSp s = eSp t) : s = t:=by
 obtain ⟨h1,h2⟩:=inj2 _ _ _ _ h
 cases s;cases t
 have:=eI_inj h1
 have:=eI_inj h2
 simp_all
def eLs : List Sp → Nat
 | []=>0
 | s::l=>2 ^ eSp s * (2 * eLs l + 1)
theorem eLs_inj : ∀ (l r : List Sp),eLs l = eLs r → l = r
 | [],[],_=>rfl
 | [],s::r,h=>by
  have : 0 < 2 ^ eSp s:=Nat.pow_pos (by omega)
  have : 0 < 2 ^ eSp s * (2 * eLs r + 1):=Nat.mul_pos this (by omega)
  unfold eLs at h;omega
 | s::l,[],h=>by
  have : 0 < 2 ^ eSp s:=Nat.pow_pos (by omega)
  have : 0 < 2 ^ eSp s * (2 * eLs l + 1):=Nat.mul_pos this (by omega)
  unfold eLs at h;omega
 | s::l,t::r,h=>by
  obtain ⟨h1,h2⟩:=inj2 _ _ _ _ h
  rw [eSp_inj h1,eLs_inj l r h2]
theorem drawn {α : Type} (e : α → Nat) (inj : ∀ a b,e a = e b → a = b) (Φ : α → Prop) (h : ∃ a,Φ a) : ∃ d : Nat → α,(∀ n,Φ (d n)) ∧ ∀ a,Φ a → ∃ n,d n = a:=by
 classical
 obtain ⟨a0,h0⟩:=h
 refine ⟨fun n=>if q : ∃ a,Φ a∧e a = n then q.choose else a0,fun n=>?_,fun a ha=>⟨e a,?_⟩⟩
 ·dsimp only
  split
  ·rename_i q;exact q.choose_spec.1
  ·exact h0
 ·have q : ∃ b,Φ b∧e b = e a:=⟨a,ha,rfl⟩
  dsimp only
  rw [dif_pos q]
  exact inj _ _ q.choose_spec.2
open Classical in
noncomputable def chartOf (R : Rm) (f : Bx → Int → Sp) : List Sp:=(List.range 48).map (fun k=>if h : ∃ q : Bx × Int,there R q.1 q.2∧cel R ⟨q.1.id,q.2⟩ = k then f h.choose.1 h.choose.2 else ⟨0,0⟩)
theorem chartOf_len (R : Rm) (f : Bx → Int → Sp) : (chartOf R f).length = 48:=by unfold chartOf;simp
theorem chartOf_get {R : Rm} {f : Bx → Int → Sp} {k : Nat} (h : k < 48) : ∃ s,sat (chartOf R f) k = s∧((∃ b m,there R b m∧cel R ⟨b.id,m⟩ = k∧s = f b m)∨s = ⟨0,0⟩):=by
 refine ⟨_,rfl,?_⟩
 unfold sat chartOf
 rw [List.getD_eq_getElem?_getD,List.getElem?_map,List.getElem?_range h]
 simp only [Option.map_some,Option.getD_some]
 split
 ·rename_i q;exact .inl ⟨_,_,q.choose_spec.1,q.choose_spec.2,rfl⟩
 ·exact .inr rfl
theorem chartOf_at {R : Rm} (hr : okRm R) {f : Bx → Int → Sp} {b : Bx} {m : Int} (ht : there R b m) : sat (chartOf R f) (cel R ⟨b.id,m⟩) = f b m:=by
 unfold sat chartOf
 rw [List.getD_eq_getElem?_getD,List.getElem?_map,List.getElem?_range (cel_lt hr ht)]
 simp only [Option.map_some,Option.getD_some]
 have q : ∃ q : Bx × Int,there R q.1 q.2∧cel R ⟨q.1.id,q.2⟩ = cel R ⟨b.id,m⟩:=⟨(b,m),ht,rfl⟩
 rw [dif_pos q]
 obtain ⟨h1,h2⟩:=cel_inj hr q.choose_spec.1 ht q.choose_spec.2
 rw [h1,h2]
theorem chartOf_ok {R : Rm} {f : Bx → Int → Sp} (h : ∀ b m,there R b m → 0 ≤ (f b m).lo∧(f b m).lo ≤ (f b m).hi∧(f b m).hi ≤ 60) (k : Nat) : 0 ≤ (sat (chartOf R f) k).lo∧(sat (chartOf R f) k).lo ≤ (sat (chartOf R f) k).hi∧(sat (chartOf R f) k).hi ≤ 60:=by
 by_cases hk : k < 48
 ·obtain ⟨s,h1,h2⟩:=chartOf_get (R:=R) (f:=f) hk
  rw [h1]
  rcases h2 with ⟨b,m,ht,_,rfl⟩ | rfl
  ·exact h b m ht
  ·exact ⟨by decide,by decide,by decide⟩
 ·have : sat (chartOf R f) k = ⟨0,0⟩:=by
   unfold sat
   rw [List.getD_eq_getElem?_getD,List.getElem?_eq_none (by rw [chartOf_len];omega)]
   rfl
  rw [this]
  exact ⟨by decide,by decide,by decide⟩
theorem first_ex {R : Rm} (hr : okRm R) : ∃ l,FirstC R l:=⟨chartOf R (fun b m=>R.ages.getD (m - b.made).toNat ⟨0,0⟩),chartOf_len _ _,fun b m ht=>chartOf_at hr ht,chartOf_ok (fun b m ht=>hr.age ht)⟩
/-- what is known by all matches -/
structure Fd (R : Rm) (x : List Sp × Bool) : Prop where
 len : x.1.length = 48
 yes : x.2 = true → hasT R R.mats∧GoodC R R.mats x.1 ∧ ∀ b m,there R b m → ExR R R.mats ⟨b.id,m⟩ zp (sat x.1 (cel R ⟨b.id,m⟩))
 no : x.2 = false → ¬ hasT R R.mats
theorem ex_mem {R : Rm} (hr : okRm R) (hm : matsThere R R.mats) (hT : hasT R R.mats) {a b : Pk} (ha : a ∈ plcs R) (hb : b ∈ plcs R) : ExR R R.mats a b (rng R R.mats a b):=by
 obtain ⟨tx,htx⟩:=(hasT_iff hr hm (pidx_lt ha)).1 hT
 obtain ⟨ty,hty⟩:=(hasT_iff hr hm (pidx_lt hb)).1 hT
 exact (most_rng hr ha hb (most_some hr hm (pidx_lt hb) hty) (most_some hr hm (pidx_lt ha) htx)).rng
theorem fd_ex {R : Rm} (hr : okRm R) (hm : matsThere R R.mats) : ∃ x,Fd R x:=by
 by_cases hT : hasT R R.mats
 ·have hx : ∀ b m,there R b m → ExR R R.mats ⟨b.id,m⟩ zp (rng R R.mats ⟨b.id,m⟩ zp):=fun b m ht=>ex_mem hr hm hT (plcs_mem ht) (zp_mem R)
  have hx2 : ∀ b m,there R b m → (R.ages.getD (m - b.made).toNat ⟨0,0⟩).lo ≤ (rng R R.mats ⟨b.id,m⟩ zp).lo∧(rng R R.mats ⟨b.id,m⟩ zp).hi ≤ (R.ages.getD (m - b.made).toNat ⟨0,0⟩).hi∧(rng R R.mats ⟨b.id,m⟩ zp).lo ≤ (rng R R.mats ⟨b.id,m⟩ zp).hi:=fun b m ht=>by
   obtain ⟨z1,t1,e1⟩:=(hx b m ht).lo
   obtain ⟨z2,t2,e2⟩:=(hx b m ht).hi
   have a1:=t1.age b m ht
   have a2:=t2.age b m ht
   have a3:=(hx b m ht).all z2 t2
   rw [t1.zero] at e1
   rw [t2.zero] at e2 a3
   omega
  obtain ⟨l,hl,hat,hok⟩ : ∃ l : List Sp,l.length = 48∧(∀ b m,there R b m → sat l (cel R ⟨b.id,m⟩) = rng R R.mats ⟨b.id,m⟩ zp) ∧ ∀ k,0 ≤ (sat l k).lo∧(sat l k).lo ≤ (sat l k).hi∧(sat l k).hi ≤ 60 :=
   ⟨chartOf R (fun b m=>rng R R.mats ⟨b.id,m⟩ zp),chartOf_len _ _,fun b m ht=>chartOf_at hr ht,chartOf_ok (fun b m ht=>by
    have h1:=hx2 b m ht
    have h2:=hr.age ht
    omega)⟩
  refine ⟨(l,true),hl,fun _=>⟨hT,⟨hl,fun b m ht=>?_,fun z hz b m ht=>?_,hok⟩,fun b m ht=>?_⟩,fun h=>by cases h⟩
  ·show _ ≤ (sat l _).lo∧(sat l _).hi ≤ _∧(sat l _).lo ≤ (sat l _).hi
   rw [hat b m ht];exact hx2 b m ht
  ·show holds (sat l _) _
   rw [hat b m ht]
   have:=(hx b m ht).all z hz
   rw [hz.zero] at this
   unfold holds
   omega
  ·show ExR R R.mats _ zp (sat l _)
   rw [hat b m ht];exact hx b m ht
 ·exact ⟨(List.replicate 48 ⟨0,0⟩,false),by simp,(fun h=>by cases h),fun _=>hT⟩
theorem Fd.yes_of {R : Rm} {c l : List Sp} (hr : okRm R) (hm : matsThere R R.mats) (hf : FirstC R c) (h : ClosedT R R.mats c l) : Fd R (l,true) :=
 ⟨h.len,fun _=>⟨⟨_,h.fix.zlo hr hm (h.ages (hf.ages hr))⟩,h.good (hf.good hr),fun b m ht=>h.ex hr hm (hf.ages hr) hf.inn ht⟩,fun h=>by cases h⟩
theorem Fd.no_of {R : Rm} {c l : List Sp} (hf : FirstC R c) (hl : l.length = 48) (h : ∀ z,Tru R R.mats z → ¬ Inn R c z) : Fd R (l,false) :=
 ⟨hl,(fun h=>by cases h),fun _ ⟨z,hz⟩=>h z hz (hf.inn z hz)⟩
def eX (x : List Sp × Bool) : Nat:=2 * eLs x.1 + (if x.2 then 1 else 0)
theorem eX_inj (a b : List Sp × Bool) (h : eX a = eX b) : a = b:=by
 obtain ⟨a,p⟩:=a
 obtain ⟨b,q⟩:=b
 unfold eX at h
 dsimp only at h
 have h1 : p = q:=by cases p <;> cases q <;> simp_all <;> omega
 subst h1
 rw [eLs_inj a b (by omega)]
end Go.Proofs.Ytmfppdpkalelhaa
end
section
set_option linter.unusedVariables false
set_option linter.unusedSimpArgs false
namespace Go.Proofs.Ytmfppdpkalelhaa
open Go Go.Fw
set_option maxRecDepth 10000
theorem Fd.dec {R : Rm} {x : List Sp × Bool} (h : Fd R x) : x.2 = decide (hasT R R.mats):=by
 by_cases q : hasT R R.mats
 ·rw [decide_eq_true q]
  cases e : x.2
  ·exact absurd q (h.no e)
  ·rfl
 ·rw [decide_eq_false q]
  cases e : x.2
  ·rfl
  ·exact absurd (h.yes e).1 q
theorem Fd.len96 {R : Rm} {x : List Sp × Bool} (h : Fd R x) : (x.1.flatMap cSp).length = 96:=by rw [sp_len,h.len]
def tsFo : List TOp:=[⟨some 4,[],[],[]⟩,⟨some 5,[],[],[]⟩,⟨some 6,[1],[1],[]⟩,⟨some 7,[],[],[]⟩,⟨some 8,[3],[3],[]⟩,⟨some 9,[0,1,2,3,4],[0,2,4],[]⟩,⟨some 10,[0,1,2,3,4,5],[5],[]⟩,⟨some 11,[0,1,2,3,4,5],[5],[]⟩,⟨none,[0,1,2,3,4,5,6,7],[6],[10]⟩,⟨some 3,[0,1,2,3,4,5,6,7,8],[7],[]⟩,⟨none,[],[],[]⟩]
def valFo (b1 b2 : Nat) (R : Rm) (p : Pl) (dc : Nat → List Sp) (dx : Nat → List Sp × Bool) (k : Nat) (env : Env) : Value :=
 match k with
 | 0 => .agg (cRm R p).toArray
 | 1 => .pointer (some ⟨b1,4,none⟩)
 | 2 => .slice p.a3 R.mats.length p.c3
 | 3 => .agg (cRm R p).toArray
 | 4 => .agg ((dc (env 4).1).flatMap cSp).toArray
 | 5 => .tuple #[.agg ((dx (env 5).1).1.flatMap cSp).toArray,.bool (dx (env 5).1).2]
 | 6 => .agg ((dx (env 5).1).1.flatMap cSp).toArray
 | 7 => .bool ((dx (env 5).1).2)
 | 8=>undef
 | 9 => .bool ((dx (env 5).1).2)
 | _=>undef
def rowsFo (b1 b2 : Nat) (R : Rm) (p : Pl) (dc : Nat → List Sp) (dx : Nat → List Sp × Bool) (k : Nat) (env : Env) : List Row :=
 match k with
 | 8=>[⟨b2,0,(dx (env 5).1).1.flatMap cSp,some 104,96⟩]
 | 10=>[⟨b2,0,zRc.flatMap cSp,some 104,96⟩]
 | _=>[]
theorem locFo (b1 b2 : Nat) (R : Rm) (p : Pl) (dc : Nat → List Sp) (dx : Nat → List Sp × Bool) : ∀ k env i q9,i ≠ k → (tAt tsFo k).sup.contains i = false → valFo b1 b2 R p dc dx k (upd env i q9)=valFo b1 b2 R p dc dx k env∧rowsFo b1 b2 R p dc dx k (upd env i q9)=rowsFo b1 b2 R p dc dx k env:=by
 intro k env i q hk hs
 have hu : ∀ j,j ≠ i → upd env i q j = env j:=fun j hj=>by unfold upd;rw [if_neg hj]
 match k,hk,hs with
 | 0,_,_=>exact ⟨rfl,rfl⟩
 | 1,_,_=>exact ⟨rfl,rfl⟩
 | 2,_,_=>exact ⟨rfl,rfl⟩
 | 3,_,_=>exact ⟨rfl,rfl⟩
 | 4,hk,hs=>exact ⟨by simp only [valFo,hu 4 (fun e=>hk e.symm)],by simp only [rowsFo,hu 4 (fun e=>hk e.symm)]⟩
 | 5,hk,hs=>exact ⟨by simp only [valFo,hu 5 (fun e=>hk e.symm)],by simp only [rowsFo,hu 5 (fun e=>hk e.symm)]⟩
 | 6,hk,hs=>exact ⟨by simp only [valFo,hu 5 (by rintro rfl;cases hs)],by simp only [rowsFo,hu 5 (by rintro rfl;cases hs)]⟩
 | 7,hk,hs=>exact ⟨by simp only [valFo,hu 5 (by rintro rfl;cases hs)],by simp only [rowsFo,hu 5 (by rintro rfl;cases hs)]⟩
 | 8,hk,hs=>exact ⟨by simp only [valFo,hu 5 (by rintro rfl;cases hs)],by simp only [rowsFo,hu 5 (by rintro rfl;cases hs)]⟩
 | 9,hk,hs=>exact ⟨by simp only [valFo,hu 5 (by rintro rfl;cases hs)],by simp only [rowsFo,hu 5 (by rintro rfl;cases hs)]⟩
 | 10,_,_=>exact ⟨rfl,rfl⟩
 | _ + 11,_,_=>exact ⟨rfl,rfl⟩
set_option maxHeartbeats 4000000 in
theorem found_spec (R : Rm) (p : Pl) (H : List Row) (hr : okRm R) (hm : matsThere R R.mats) (hlm : R.mats.length ≤ 100) (hR : RmOk H R p) :
  Fc Try.prog 72 [.agg (cRm R p).toArray] H (fun v H' => ∃ x,Fd R x∧v = .tuple #[.agg (x.1.flatMap cSp).toArray,.bool x.2]∧H' = H):=by
 obtain ⟨dc,hdc1,hdc2⟩:=drawn eLs eLs_inj (FirstC R) (first_ex hr)
 obtain ⟨dx,hdx1,hdx2⟩:=drawn eX eX_inj (Fd R) (fd_ex hr hm)
 have hl96 : ∀ n,((dx n).1.flatMap cSp).length = 96:=fun n=>by rw [sp_len,(hdx1 n).len]
 have hfs : ∀ S,RmOk S R p → Fc Try.prog 117 [.agg (cRm R p).toArray] S (fun v H' => ∃ n,v = .agg ((dc n).flatMap cSp).toArray∧H' = S):=fun S hS=>(first_spec R p S hr hS).mono fun v H' ⟨l,hl,hv,hH⟩=>by
  obtain ⟨n,hn⟩:=hdc2 l hl
  exact ⟨n,by rw [hn];exact hv,hH⟩
 have hcs : ∀ n S,RmOk S R p → Fc Try.prog 80 [.agg (cRm R p).toArray,.slice p.a3 R.mats.length p.c3,.agg ((dc n).flatMap cSp).toArray] S (fun v H' => ∃ n,v = .tuple #[.agg ((dx n).1.flatMap cSp).toArray,.bool (dx n).2]∧H' = S):=fun n S hS=>(closed_spec R p R.mats p.a3 p.c3 (dc n) S hr hS hS.mats hlm hm (hdc1 _).len (hdc1 _).ok).mono fun v H' ⟨l,hH,h⟩=>by
  have hq : ∃ x,Fd R x∧v = .tuple #[.agg (x.1.flatMap cSp).toArray,.bool x.2]:=by
   rcases h with ⟨h1,hv⟩ | ⟨h1,h2,hv⟩
   ·exact ⟨(l,true),Fd.yes_of hr hm (hdc1 _) h1,hv⟩
   ·exact ⟨(l,false),Fd.no_of (hdc1 _) h1 h2,hv⟩
  obtain ⟨x,hx,hv⟩:=hq
  obtain ⟨n,hn⟩:=hdx2 x hx
  exact ⟨n,by rw [hn];exact hv,hH⟩
 refine Fc.mk (callable Try.call72) Try.func72 rfl Try.ntmps72 rfl ?_;dsimp only [fr]
 repeat' (first | (refine uP rfl ?_;(first | ((first | refine uN rfl ?_);(first | (refine uE (uA rfl rfl) rfl rfl ?_)|(refine Xg.st (StF.boxAgg rfl rfl) rfl rfl ?_;rintro _ _ ⟨bx,rfl,rfl⟩)|(refine Xg.st (StF.alloc rfl Try.zeroValue104 rfl) rfl rfl ?_;rintro _ _ ⟨bx,rfl,rfl⟩)))))|(refine uD rfl ?_;refine hK _ _ ?_;clear hK K) | refine uS rfl ?_ | refine uR rfl (fun K hK=>?_))
 rename_i b1
 generalize bx = b2
 have hRs : ∀ S : List Row,(∀ r ∈ ⟨b1,0,cRm R p,some 26,5⟩::H,r ∈ S) → RmOk S R p:=fun S hS=>hR.sub (fun r h=>hS r (List.mem_cons_of_mem _ h))
 refine X.regionOb tsFo [1,2] [(1,.pointer (some ⟨b1,0,none⟩)),(2,.pointer (some ⟨b2,0,none⟩))] (valFo b1 b2 R p dc dx) (rowsFo b1 b2 R p dc dx) (fun _=>(0,0)) (⟨b1,0,cRm R p,some 26,5⟩::H) rfl mixed (by repeat (first | exact uU _ | refine uV rfl ?_)) rfl (by kernel_rfl) (locFo b1 b2 R p dc dx) (qR _) ?_ ?_
 ·repeat' (first | exact AllF.done rfl | (refine AllF.step rfl ?_ ?_;·(first | fail | ((first | refine Ob.ng rfl ?_);(first | exact ObK.pure (fun env R hR=>by exact ⟨_,uA rfl rfl,rfl⟩) rfl (fun _=>rfl) | exact ObK.pure (fun env R hR=>by exact ⟨_,uF rfl rfl (te rfl) rfl (te rfl) (by decide),rfl⟩) rfl (fun _=>rfl) | exact ObK.pure (fun env R hR=>by exact ⟨_,uL rfl rfl (uO (te rfl) rfl (hR _ (qH _)) rfl),rfl⟩) rfl (fun _=>rfl) | exact ObK.pure (fun env R hR=>by exact ⟨_,uL rfl rfl (uW (te rfl) rfl (hR _ (qH _)) rfl),rfl⟩) rfl (fun _=>rfl)|(exact fun env S hS=>(OpF.call (uT rfl (Args.cons rfl Args.nil)) (hfs S (hRs S hS))).mono (fun v H' ⟨n,hv,hH⟩=>⟨(n,0),fun _=>hv,by rw [hH];exact List.Perm.refl _⟩))|(exact fun env S hS=>(OpF.call (uT rfl (Args.cons rfl (Args.cons rfl (Args.cons rfl Args.nil)))) (hcs (env 4).1 S (hRs S hS))).mono (fun v H' ⟨n,hv,hH⟩=>⟨(n,0),fun _=>hv,by rw [hH];exact List.Perm.refl _⟩))|(exact fun env S hS=>(StF.storeAll (i:=0) (vs:=(dx (env 5).1).1.flatMap cSp) (cs:=zRc.flatMap cSp) rfl rfl rfl (te rfl) rfl (hl96 _) (sp_one _) (by rw [hl96,sp_len];rfl)).op.mono (fun v H' ⟨hv,hH⟩=>⟨(0,0),fun h=>absurd rfl h,by rw [hH];exact List.Perm.refl _⟩))|(exact ObK.pure (fun env S hS=>⟨_,uX rfl rfl rfl,rfl⟩) rfl (fun _=>rfl)))))))
 intro env t ha2 hv;refine ⟨_,ha2.cons (hv 9 3 (Nat.le_of_ble_eq_true rfl) rfl),?_⟩;clear hv ha2
 show X _ _ _ [(3,.bool (dx (env 5).1).2),(1,.pointer (some ⟨b1,0,none⟩)),(2,.pointer (some ⟨b2,0,none⟩))] (⟨b2,0,(dx (env 5).1).1.flatMap cSp,some 104,96⟩::⟨b1,0,cRm R p,some 26,5⟩::H) _
 have hx:=hdx1 (env 5).1
 have hl:=hl96 (env 5).1
 generalize dx (env 5).1 = x at hx hl
 clear env
 repeat' (first | refine X.ret rfl ?_)
 exact ret_two (v := .agg (x.1.flatMap cSp).toArray) (by simp) Try.results72 ⟨_,rfl,uW (te rfl) rfl (qH _) hl⟩ rfl (H' := H) (by repeat (first | exact qR _ | apply qK | apply qC)) ⟨x,hx,rfl,rfl⟩
theorem true_spec (R : Rm) (p : Pl) (H : List Row) (hr : okRm R) (hm : matsThere R R.mats) (hlm : R.mats.length ≤ 100) (hR : RmOk H R p) :
  Fc Try.prog 54 [.agg (cRm R p).toArray] H (fun v H' => v = .bool (decide (hasT R R.mats))∧H' = H):=by
 refine Fc.mk (callable Try.call54) Try.func54 rfl Try.ntmps54 rfl ?_;dsimp only [fr]
 repeat' (first | (refine uP rfl ?_;(first | ((first | refine uN rfl ?_);(first | (refine uE (uL rfl rfl (uW (te rfl) rfl (qH _) rfl)) rfl rfl ?_)|(refine uC (uT rfl (by (repeat (first | exact Args.nil | refine Args.cons rfl ?_));done)) rfl rfl (found_spec R p _ hr hm hlm (hR.sub (fun _ h=>by repeat (first | exact h | apply qT)))) ?_;rintro _ _ ⟨x,hx,rfl,rfl⟩)|(refine uE (uX rfl rfl rfl) rfl rfl ?_)|(refine Xg.st0 (StF.storeAll (i:=0) (vs:=x.1.flatMap cSp) (cs:=zRc.flatMap cSp) rfl rfl rfl (te rfl) rfl hx.len96 (sp_one _) (by rw [hx.len96,sp_len];rfl)) rfl ?_;rintro _ _ ⟨rfl,rfl⟩;dsimp only [List.set])|(refine uE (uM rfl rfl) rfl rfl ?_)|(refine uE (uA rfl rfl) rfl rfl ?_)|(refine Xg.st (StF.boxAgg rfl rfl) rfl rfl ?_;rintro _ _ ⟨bx,rfl,rfl⟩)|(refine Xg.st (StF.alloc rfl Try.zeroValue104 rfl) rfl rfl ?_;rintro _ _ ⟨bx,rfl,rfl⟩)))))|(refine uD rfl ?_;refine hK _ _ ?_;clear hK K) | refine uS rfl ?_ | refine uR rfl (fun K hK=>?_) | refine X.ret rfl ?_)
 exact ret_one (v := .bool x.2) (by simp) Try.results54 rfl (H' := H) (by repeat (first | exact qR _ | apply qK | apply qC)) ⟨congrArg Value.bool hx.dec,rfl⟩
theorem rCan_spec (R : Rm) (p : Pl) (H : List Row) (hR : RmOk H R p) : Fc Try.prog 16 [.agg (cRm R p).toArray] H (fun v H' => v = canF R∧H' = H):=by
 unfold canF
 by_cases hok : roomOk R
 ·rw [if_pos hok]
  have hlm : R.mats.length ≤ 100:=by have:=hok.1.2.2.2.2.2.2;omega
  have hrs : ∀ r1,Fc Try.prog 46 [.agg (cRm R p).toArray] (r1::H) (fun v H' => v = .bool true∧H' = r1::H):=fun r1=>by
   have:=room_spec R p (r1::H) (hR.sub (fun _ h=>qT _ h))
   rwa [decide_eq_true hok] at this
  refine Fc.mk (callable Try.call16) Try.func16 rfl Try.ntmps16 rfl ?_;dsimp only [fr]
  repeat' (first | (refine uP rfl ?_;(first | ((first | refine uN rfl ?_);(first | (refine uE (uL rfl rfl (uW (te rfl) rfl (qH _) rfl)) rfl rfl ?_)|(refine uC (uT rfl (Args.cons rfl Args.nil)) rfl rfl (hrs _) ?_;rintro _ H9 ⟨rfl,hH9⟩;subst H9)|(refine uC (uT rfl (Args.cons rfl Args.nil)) rfl rfl (true_spec R p _ hok.ok hok.mats hlm (hR.sub (fun _ h=>by repeat (first | exact h | apply qT)))) ?_;rintro _ H9 ⟨rfl,hH9⟩;subst H9)|(refine uE (uA rfl rfl) rfl rfl ?_)|(refine uE (EvF.not rfl rfl) rfl rfl ?_)|(refine Xg.st (StF.boxAgg rfl rfl) rfl rfl ?_;rintro _ _ ⟨bx,rfl,rfl⟩)))))|(refine uD rfl ?_;refine hK _ _ ?_;clear hK K) | refine uS rfl ?_ | refine uR rfl (fun K hK=>?_) | refine X.skip rfl ?_ | refine X.ret rfl ?_ | (refine X.ite rfl rfl (fun hc=>?_);(first | (with_reducible refine Xb.caseB hc (fun h=>?_) (fun h=>?_))) <;> clear hc))
  all_goals try (exfalso;contradiction)
  exact ret_two (v := .bool (decide (hasT R R.mats))) (by simp) Try.results16 rfl rfl (H' := H) (by repeat (first | exact qR _ | apply qK | apply qC)) ⟨rfl,rfl⟩
 ·rw [if_neg hok]
  have hrs : ∀ r1,Fc Try.prog 46 [.agg (cRm R p).toArray] (r1::H) (fun v H' => v = .bool false∧H' = r1::H):=fun r1=>by
   have:=room_spec R p (r1::H) (hR.sub (fun _ h=>qT _ h))
   rwa [decide_eq_false hok] at this
  refine Fc.mk (callable Try.call16) Try.func16 rfl Try.ntmps16 rfl ?_;dsimp only [fr]
  repeat' (first | (refine uP rfl ?_;(first | ((first | refine uN rfl ?_);(first | (refine uE (uL rfl rfl (uW (te rfl) rfl (qH _) rfl)) rfl rfl ?_)|(refine uC (uT rfl (Args.cons rfl Args.nil)) rfl rfl (hrs _) ?_;rintro _ H9 ⟨rfl,hH9⟩;subst H9)|(refine uE (uA rfl rfl) rfl rfl ?_)|(refine uE (EvF.not rfl rfl) rfl rfl ?_)|(refine Xg.st (StF.boxAgg rfl rfl) rfl rfl ?_;rintro _ _ ⟨bx,rfl,rfl⟩)))))|(refine uD rfl ?_;refine hK _ _ ?_;clear hK K) | refine uS rfl ?_ | refine uR rfl (fun K hK=>?_) | refine X.skip rfl ?_ | refine X.ret rfl ?_ | (refine X.ite rfl rfl (fun hc=>?_);(first | (with_reducible refine Xb.caseB hc (fun h=>?_) (fun h=>?_))) <;> clear hc))
  all_goals try (exfalso;contradiction)
  exact ret_two (v := .bool false) (by simp) Try.results16 rfl rfl (H' := H) (by repeat (first | exact qR _ | apply qK | apply qC)) ⟨rfl,rfl⟩
end Go.Proofs.Ytmfppdpkalelhaa
end
section
set_option linter.unusedVariables false
set_option linter.unusedSimpArgs false
namespace Go.Proofs.Ytmfppdpkalelhaa
open Go Go.Fw
set_option maxRecDepth 10000
theorem rThere_spec (R : Rm) (p : Pl) (id m : Int) (H : List Row) (hR : RmOk H R p) (hm : 1 ≤ R.months∧R.months ≤ 12) (hi : 0 ≤ index R.boxes id) : Fc Try.prog 73 [.agg (cRm R p).toArray,.int .i64 (index R.boxes id),.int .i64 m] H (fun v H' => v = .bool (decide ((0 ≤ m∧m ≤ R.months - 1)∧(bxAt R.boxes id).made ≤ m))∧H' = H):=by
 have hlt:=index_lt R.boxes id
 have he:=index_get hi
 obtain ⟨a1,c1,a2,c2,a3,c3⟩:=p
 obtain ⟨b,off,_,rfl,_⟩:=hR.boxes.elem (i:=0) (by omega)
 have hbx : ∀ r,SlE (r::H) _ cBx 2 R.boxes:=fun r=>hR.boxes.sub (fun _ h=>List.mem_cons_of_mem _ h)
 refine Fc.mk (callable Try.call73) Try.func73 rfl Try.ntmps73 rfl ?_;dsimp only [fr]
 repeat' (first | (refine uP rfl ?_;(first | ((first | refine uN rfl ?_ | (refine Xo.g rfl rfl ?_;with_reducible refine Xw.tt ?_));(first | (refine uC (uT rfl (by (repeat (first | exact Args.nil | refine Args.cons rfl ?_));done)) rfl rfl (within_spec _ _ _ _) ?_;rintro _ H9 ⟨rfl,hH9⟩;subst H9)|(refine uE (uL rfl rfl (LoadV.el1 (hbx _) he (te rfl) rfl (fun _ hm=>hm) rfl)) rfl rfl ?_)|(refine uE (uM rfl rfl) rfl rfl ?_)|(refine uE (uA rfl rfl) rfl rfl ?_)|(refine uE (EvF.pickT rfl rfl rfl) rfl rfl ?_)|(refine uE (EvF.pickF rfl rfl rfl) rfl rfl ?_)|(refine uE (uQ rfl rfl rfl rfl) rfl rfl ?_)|(refine uE (EvF.sub64 rfl rfl rfl (by omega) (by omega)) rfl rfl ?_)|(refine uE (uF rfl rfl (te rfl) rfl (te rfl) (by decide)) rfl rfl ?_)|(refine uE (EvF.indexSlice rfl rfl rfl (te rfl) (te rfl) (by omega) (by omega)) rfl rfl ?_)|(refine uE (uL rfl rfl (uO (te rfl) rfl (qH _) rfl)) rfl rfl ?_)|(refine Xg.st (StF.boxAgg rfl rfl) rfl rfl ?_;rintro _ _ ⟨bx,rfl,rfl⟩)))|(refine Xo.g rfl rfl ?_;(first | (with_reducible refine Xw.ft rfl rfl ?_)|(with_reducible refine Xw.case (fun h=>?_) (fun h=>?_) <;> simp only [h,decide_true,decide_false,Bool.not_true,Bool.not_false,and_self,and_true,true_and,and_false,false_and])))))|(refine uD rfl ?_;refine hK _ _ ?_;clear hK K) | refine uS rfl ?_ | refine uR rfl (fun K hK=>?_) | refine X.ret rfl ?_)
 all_goals (refine ret_one (by simp) Try.results73 rfl (H' := H) (by (repeat (first | exact qR _ | apply qC));done) ?_;simp only [and_true,true_and])
 all_goals (congr 1;symm)
 all_goals first
  | exact decide_eq_false (fun q=>absurd q.1 (by assumption))
  | exact decide_eq_decide.2 ⟨fun q=>q.2,fun q=>⟨by assumption,q⟩⟩
  | (simp_all)
def okId (R : Rm) (i m : Int) : Prop:=(0 ≤ m∧m ≤ R.months - 1)∧(bxAt R.boxes i).made ≤ m
instance (R : Rm) (i m : Int) : Decidable (okId R i m):=by unfold okId;infer_instance
theorem inTime_iff {R : Rm} {l : List Int} {m : Int} (hr : okRm R) (ha : allThere R l) (hm : 0 ≤ m∧m ≤ R.months - 1) : inTime R l [m] ↔ ∀ i ∈ l,okId R i m:=by
 constructor
 ·intro h i hi
  refine ⟨hm,?_⟩
  have hx:=(index_ge R.boxes i).2 (ha i hi)
  refine Classical.byContradiction fun q=>(h m (List.mem_singleton.2 rfl)).2 ⟨bxAt R.boxes i,bxAt_mem hx,by omega,by rw [bxAt_id _ _ hx];exact hi⟩
 ·intro h q hq
  rw [List.mem_singleton] at hq
  subst hq
  refine ⟨hm,?_⟩
  rintro ⟨b,hb,h1,h2⟩
  obtain ⟨j,hj⟩:=box_at hb
  have h3:=(h b.id h2).2
  have hi0 : 0 ≤ index R.boxes b.id:=by rw [index_box hr.bx hj];omega
  have h4:=index_get hi0
  rw [index_box hr.bx hj] at h4
  have h5 : R.boxes[((j : Nat) : Int).toNat]? = some b:=hj
  rw [h5] at h4
  rw [← Option.some.inj h4] at h3
  omega
structure As (R : Rm) (e : Int) (l : List Sp) : Prop where
 hT : hasT R R.mats
 good : GoodC R R.mats l
 ex : ∀ b m,there R b m → ExR R R.mats ⟨b.id,m⟩ zp (sat l (cel R ⟨b.id,m⟩))
def tsAk : List TOp:=[⟨some 43,[],[],[]⟩,⟨some 44,[],[],[]⟩,⟨some 45,[],[],[]⟩,⟨some 46,[1,2],[1,2],[]⟩,⟨some 47,[],[],[]⟩,⟨some 48,[0,1,2,3,4],[0,3,4],[]⟩,⟨some 49,[0,1,2,3,4,5],[5],[]⟩]
def valAk (b3 b6 : Nat) (R : Rm) (p : Pl) (x m ix : Int) (w : Bool) (v1 v37 v38 v39 : Value) (k : Nat) (env : Env) : Value :=
 match k with
 | 0 => .agg (cRm R p).toArray
 | 1 => .agg (cRm R p).toArray
 | 2 => .int .i64 x
 | 3 => .int .i64 ix
 | 4 => .int .i64 m
 | 5 => .bool w
 | 6 => .bool (!w)
 | _=>undef
def rowsAk (b3 b6 : Nat) (R : Rm) (p : Pl) (x m ix : Int) (w : Bool) (v1 v37 v38 v39 : Value) (k : Nat) (env : Env) : List Row :=
 match k with
 | _=>[]
theorem locAk (b3 b6 : Nat) (R : Rm) (p : Pl) (x m ix : Int) (w : Bool) (v1 v37 v38 v39 : Value) : ∀ k env i q9,i ≠ k → (tAt tsAk k).sup.contains i = false → valAk b3 b6 R p x m ix w v1 v37 v38 v39 k (upd env i q9)=valAk b3 b6 R p x m ix w v1 v37 v38 v39 k env∧rowsAk b3 b6 R p x m ix w v1 v37 v38 v39 k (upd env i q9)=rowsAk b3 b6 R p x m ix w v1 v37 v38 v39 k env:=by
 intro k env i q hk hs
 have hu : ∀ j,j ≠ i → upd env i q j = env j:=fun j hj=>by unfold upd;rw [if_neg hj]
 match k,hk,hs with
 | 0,_,_=>exact ⟨rfl,rfl⟩
 | 1,_,_=>exact ⟨rfl,rfl⟩
 | 2,_,_=>exact ⟨rfl,rfl⟩
 | 3,_,_=>exact ⟨rfl,rfl⟩
 | 4,_,_=>exact ⟨rfl,rfl⟩
 | 5,_,_=>exact ⟨rfl,rfl⟩
 | 6,_,_=>exact ⟨rfl,rfl⟩
 | _ + 7,_,_=>exact ⟨rfl,rfl⟩
set_option maxHeartbeats 8000000 in
theorem rAsked_spec (R : Rm) (p : Pl) (l : List Int) (a : Option Addr) (cl : Nat) (m : Int) (H : List Row) (hR : RmOk H R p) (hl : SlE H a cI 1 l) (hll : l.length ≤ 1000000) :
  Fc Try.prog 57 [.agg (cRm R p).toArray,.slice a l.length cl,.int .i64 m] H (fun v H' => ∃ c,c.length = 48∧(openE R l [m] = 0 → As R 0 c)∧v = .tuple #[.agg (c.flatMap cSp).toArray,.int .i64 (openE R l [m])]∧H' = H):=by
 classical
 by_cases hok : roomOk R
 ·have hr:=hok.ok
  have hm12:=hr.m12
  have hm1:=hr.m1
  have hlm : R.mats.length ≤ 100:=by have:=hok.1.2.2.2.2.2.2;omega
  have hrs : ∀ r1 r2,Fc Try.prog 46 [.agg (cRm R p).toArray] (r1::r2::H) (fun v H' => v = .bool true∧H' = r1::r2::H):=fun r1 r2=>by
   have:=room_spec R p (r1::r2::H) (hR.sub (fun _ h=>qT _ (qT _ h)))
   rwa [decide_eq_true hok] at this
  refine Fc.mk (callable Try.call57) Try.func57 rfl Try.ntmps57 rfl ?_;dsimp only [fr]
  repeat' (first | (refine uP rfl ?_;(first | ((first | refine uN rfl ?_);(first | (refine uE (uL rfl rfl (uW (T:=26) (cs:=cRm R p) (te rfl) rfl (by repeat (first | exact qH _ | apply qT)) rfl)) rfl rfl ?_)|(refine uC (uT rfl (Args.cons rfl Args.nil)) rfl rfl (hrs _ _) ?_;rintro _ H9 ⟨rfl,hH9⟩;subst H9)|(refine uE (uM rfl rfl) rfl rfl ?_)|(refine uE (uA rfl rfl) rfl rfl ?_)|(refine uE (EvF.not rfl rfl) rfl rfl ?_)|(refine uE (EvF.lenSlice rfl rfl (te rfl)) rfl rfl ?_)|(refine Xg.st (StF.boxAgg rfl rfl) rfl rfl ?_;rintro _ _ ⟨bx,rfl,rfl⟩)|(refine Xg.st (StF.alloc rfl Try.zeroValue104 rfl) rfl rfl ?_;rintro _ _ ⟨bx,rfl,rfl⟩)))))|(refine uD rfl ?_;refine hK _ _ ?_;clear hK K) | refine uS rfl ?_ | refine uR rfl (fun K hK=>?_) | refine X.block rfl ?_ | refine X.skip rfl ?_ | (refine X.ite rfl rfl (fun hc=>?_);(first | (with_reducible refine Xb.caseB hc (fun h=>?_) (fun h=>?_))) <;> clear hc))
  ·exact absurd (by assumption : (!true)=true) (by decide)
  rename_i b3
  generalize bx = b6
  refine X.lp rfl (fun q F' H' => ∃ (i : Nat),q = l.length - i∧i ≤ l.length∧(∀ j x,j < i → l[j]? = some x → 0 ≤ index R.boxes x)∧H' = ⟨b6,0,zRc.flatMap cSp,some 104,96⟩::⟨b3,0,cRm R p,some 26,5⟩::H∧F' = [(1,.slice a l.length cl),(2,.int .i64 m),(3,.pointer (some ⟨b3,0,none⟩)),(6,.pointer (some ⟨b6,0,none⟩)),(7,.int .i64 0),(18,.slice a l.length cl),(19,.int .i64 l.length),(20,.int .i64 i)])
   l.length [(1,.slice a l.length cl),(2,.int .i64 m),(3,.pointer (some ⟨b3,0,none⟩)),(6,.pointer (some ⟨b6,0,none⟩)),(7,.int .i64 0),(18,.slice a l.length cl),(19,.int .i64 l.length),(20,.int .i64 (0 : Nat))] (⟨b6,0,zRc.flatMap cSp,some 104,96⟩::⟨b3,0,cRm R p,some 26,5⟩::H) (by repeat (first | exact uU _ | refine uV rfl ?_)) (qR _) ⟨0,by omega,by omega,fun j _ h=>absurd h (Nat.not_lt_zero _),rfl,rfl⟩ ?_
  rintro _ _ _ ⟨i,rfl,hi,hall,rfl,rfl⟩
  repeat' (first | (refine uP rfl ?_;(first | ((first | refine uN rfl ?_);(first | (refine uE (uM rfl rfl) rfl rfl ?_)|(refine uE (uQ rfl rfl rfl rfl) rfl rfl ?_)|(refine uE (EvF.sub64 rfl rfl rfl (by omega) (by omega)) rfl rfl ?_)|(refine uE (uF rfl rfl (te rfl) rfl (te rfl) (by decide)) rfl rfl ?_)|(refine uE (uL rfl rfl (uO (te rfl) rfl (qT _ (qH _)) rfl)) rfl rfl ?_)))))|(refine uD rfl ?_;refine hK _ _ ?_;clear hK K) | refine uS rfl ?_ | refine uR rfl (fun K hK=>?_) | refine X.block rfl ?_ | (refine X.brk rfl ?_;repeat (first | refine blockX_hit rfl ?_ | refine blockX_miss (by decide) ?_)) | refine X.skip rfl ?_ | (refine X.ite rfl rfl (fun hc=>?_);(first | (with_reducible refine Xb.case hc (fun h=>?_) (fun h=>?_))) <;> clear hc))
  ·obtain ⟨bl,ol,x,rfl,he⟩:=hl.elem (i:=i) (by omega)
   have hsub : ∀ r1 r2,SlE (r1::r2::H) (some ⟨bl,ol,none⟩) cI 1 l:=fun r1 r2=>hl.sub (fun _ h=>qT _ (qT _ h))
   repeat' (first | (refine uP rfl ?_;(first | ((first | refine uN rfl ?_);(first | (refine uE (uL rfl rfl (LoadV.el0 (hsub _ _) he (te rfl) rfl (fun _ hm=>hm) rfl)) rfl rfl ?_)|(refine uE (uL rfl rfl (uW (T:=26) (cs:=cRm R p) (te rfl) rfl (by repeat (first | exact qH _ | apply qT)) rfl)) rfl rfl ?_)|(refine uC (uT rfl (Args.cons rfl (Args.cons rfl Args.nil))) rfl rfl (index_spec R p x _ (hR.sub (fun _ h=>by repeat (first | exact h | apply qT)))) ?_;rintro _ H9 ⟨rfl,hH9⟩;subst H9)|(refine uE (EvF.buildArr (zs:=zRc.flatMap cSp) (cs:=zRc.flatMap cSp) rfl ArgsP.nil (te rfl) (te rfl) Try.zeroValue104 rfl) rfl rfl ?_)|(refine Xg.st0 (StF.storeAll (i:=0) (vs:=zRc.flatMap cSp) (cs:=zRc.flatMap cSp) rfl rfl rfl (te rfl) rfl rfl rfl rfl) rfl ?_;rintro _ _ ⟨rfl,rfl⟩;dsimp only [List.set])|(refine uE (uM rfl rfl) rfl rfl ?_)|(refine uE (uA rfl rfl) rfl rfl ?_)|(refine uE (uQ rfl rfl rfl rfl) rfl rfl ?_)|(refine uE (EvF.add64 rfl rfl rfl (by omega) (by omega)) rfl rfl ?_)|(refine uE (EvF.indexSlice rfl rfl rfl (te rfl) (te rfl) (by omega) (by omega)) rfl rfl ?_)))))|(refine uD rfl ?_;refine hK _ _ ?_;clear hK K) | refine uS rfl ?_ | refine uR rfl (fun K hK=>?_) | refine X.skip rfl ?_ | refine X.ret rfl ?_ | (refine X.ite rfl rfl (fun hc=>?_);(first | (with_reducible refine Xb.case hc (fun h=>?_) (fun h=>?_))) <;> clear hc))
   ·have h6 : openE R l [m] = 6:=by
     unfold openE
     rw [if_pos hok,if_neg (fun q=>by have:=(index_ge R.boxes x).2 (q x (List.mem_of_getElem? he));omega)]
    exact ret_two (v := .agg (zRc.flatMap cSp).toArray) (by simp) Try.results57 ⟨_,rfl,uW (te rfl) rfl (qH _) rfl⟩ rfl (H' := H) (by repeat (first | exact qR _ | apply qK | apply qC)) ⟨zRc,rfl,(fun h=>absurd h (by rw [h6];decide)),by rw [h6],rfl⟩
   ·exact ⟨_,[(1,.slice (some ⟨bl,ol,none⟩) l.length cl),(2,.int .i64 m),(3,.pointer (some ⟨b3,0,none⟩)),(6,.pointer (some ⟨b6,0,none⟩)),(7,.int .i64 0),(18,.slice (some ⟨bl,ol,none⟩) l.length cl),(19,.int .i64 l.length),(20,.int .i64 (i + 1 : Nat))],⟨b6,0,zRc.flatMap cSp,some 104,96⟩::⟨b3,0,cRm R p,some 26,5⟩::H,(by repeat (first | exact uU _ | refine uV rfl ?_)),(by repeat (first | exact qR _ | apply qK | apply qC)),⟨i + 1,rfl,by omega,fun j y hj hy=>by
     by_cases e : j < i
     ·exact hall j y e hy
     ·rw [show j = i by omega,he] at hy
      cases hy
      omega,rfl,rfl⟩,by omega⟩
  ·have hal : allThere R l:=fun x hx=>by
    obtain ⟨j,hj,ex⟩:=List.mem_iff_getElem.1 hx
    exact (index_ge R.boxes x).1 (hall j x (by omega) (by rw [List.getElem?_eq_getElem hj,ex]))
   repeat' (first | (refine uP rfl ?_;(first | ((first | refine uN rfl ?_);(first | (refine uC (uT rfl (Args.cons rfl (Args.cons rfl (Args.cons rfl Args.nil)))) rfl rfl (within_spec _ _ _ _) ?_;rintro _ H9 ⟨rfl,hH9⟩;subst H9)|(refine uE (EvF.buildArr (zs:=zRc.flatMap cSp) (cs:=zRc.flatMap cSp) rfl ArgsP.nil (te rfl) (te rfl) Try.zeroValue104 rfl) rfl rfl ?_)|(refine Xg.st0 (StF.storeAll (i:=0) (vs:=zRc.flatMap cSp) (cs:=zRc.flatMap cSp) rfl rfl rfl (te rfl) rfl rfl rfl rfl) rfl ?_;rintro _ _ ⟨rfl,rfl⟩;dsimp only [List.set])|(refine uE (uM rfl rfl) rfl rfl ?_)|(refine uE (uA rfl rfl) rfl rfl ?_)|(refine uE (EvF.not rfl rfl) rfl rfl ?_)|(refine uE (EvF.lenSlice rfl rfl (te rfl)) rfl rfl ?_)))))|(refine uD rfl ?_;refine hK _ _ ?_;clear hK K) | refine uS rfl ?_ | refine uR rfl (fun K hK=>?_) | refine X.block rfl ?_ | refine X.skip rfl ?_ | refine X.ret rfl ?_ | (refine X.ite rfl rfl (fun hc=>?_);(first | (with_reducible refine Xb.caseN hc (fun h=>?_) (fun h=>?_))) <;> clear hc))
   ·have h11 : openE R l [m] = 11:=by
     unfold openE
     rw [if_pos hok,if_pos hal,if_neg (fun q=>absurd (q m (List.mem_singleton.2 rfl)).1 (by simp_all))]
    exact ret_two (v := .agg (zRc.flatMap cSp).toArray) (by simp) Try.results57 ⟨_,rfl,uW (te rfl) rfl (qH _) rfl⟩ rfl (H' := H) (by repeat (first | exact qR _ | apply qK | apply qC)) ⟨zRc,rfl,(fun h=>absurd h (by rw [h11];decide)),by rw [h11],rfl⟩
   ·have hw : 0 ≤ m∧m ≤ R.months - 1:=by simp_all
    have hit:=inTime_iff hr hal hw
    refine X.lp rfl (fun q F' H' => ∃ (i : Nat),q = l.length - i∧i ≤ l.length∧(∀ j x,j < i → l[j]? = some x → okId R x m)∧H' = ⟨b6,0,zRc.flatMap cSp,some 104,96⟩::⟨b3,0,cRm R p,some 26,5⟩::H∧F' = [(1,.slice a l.length cl),(2,.int .i64 m),(3,.pointer (some ⟨b3,0,none⟩)),(6,.pointer (some ⟨b6,0,none⟩)),(7,.int .i64 0),(37,.slice a l.length cl),(38,.int .i64 l.length),(39,.int .i64 i)])
     l.length [(1,.slice a l.length cl),(2,.int .i64 m),(3,.pointer (some ⟨b3,0,none⟩)),(6,.pointer (some ⟨b6,0,none⟩)),(7,.int .i64 0),(37,.slice a l.length cl),(38,.int .i64 l.length),(39,.int .i64 (0 : Nat))] (⟨b6,0,zRc.flatMap cSp,some 104,96⟩::⟨b3,0,cRm R p,some 26,5⟩::H) (by repeat (first | exact uU _ | refine uV rfl ?_)) (qR _) ⟨0,by omega,by omega,fun j _ h=>absurd h (Nat.not_lt_zero _),rfl,rfl⟩ ?_
    rintro _ _ _ ⟨k,rfl,hk,hok2,rfl,rfl⟩
    repeat' (first | (refine uP rfl ?_;(first | ((first | refine uN rfl ?_);(first | (refine uE (uQ rfl rfl rfl rfl) rfl rfl ?_)|(refine uE (uL rfl rfl (uW (te rfl) rfl (qT _ (qH _)) rfl)) rfl rfl ?_)))))|(refine uD rfl ?_;refine hK _ _ ?_;clear hK K) | refine uS rfl ?_ | refine uR rfl (fun K hK=>?_) | refine X.block rfl ?_ | (refine X.brk rfl ?_;repeat (first | refine blockX_hit rfl ?_ | refine blockX_miss (by decide) ?_)) | refine X.skip rfl ?_ | (refine X.ite rfl rfl (fun hc=>?_);(first | (with_reducible refine Xb.case hc (fun h=>?_) (fun h=>?_))) <;> clear hc))
    ·obtain ⟨bl,ol,x,rfl,he⟩:=hl.elem (i:=k) (by omega)
     have hsub : ∀ r1 r2,SlE (r1::r2::H) (some ⟨bl,ol,none⟩) cI 1 l:=fun r1 r2=>hl.sub (fun _ h=>qT _ (qT _ h))
     repeat' (first | (refine uP rfl ?_;(first | ((first | refine uN rfl ?_);(first | (refine uE (uL rfl rfl (LoadV.el0 (hsub _ _) he (te rfl) rfl (fun _ hm=>hm) rfl)) rfl rfl ?_)|(refine uE (uA rfl rfl) rfl rfl ?_)|(refine uE (EvF.indexSlice rfl rfl rfl (te rfl) (te rfl) (by omega) (by omega)) rfl rfl ?_)))))|(refine uD rfl ?_;refine hK _ _ ?_;clear hK K) | refine uS rfl ?_)
     have hx0:=(index_ge R.boxes x).2 (hal x (List.mem_of_getElem? he))
     have hRs : ∀ S : List Row,(∀ r ∈ ⟨b6,0,zRc.flatMap cSp,some 104,96⟩::⟨b3,0,cRm R p,some 26,5⟩::H,r ∈ S) → RmOk S R p:=fun S hS=>hR.sub (fun r h=>hS r (List.mem_append_right [_,_] h))
     obtain ⟨w,hww⟩ : ∃ w,w = decide (okId R x m):=⟨_,rfl⟩
     have hth : ∀ S,RmOk S R p → Fc Try.prog 73 [.agg (cRm R p).toArray,.int .i64 (index R.boxes x),.int .i64 m] S (fun v H' => v = .bool w∧H' = S):=fun S h=>by
      have:=rThere_spec R p x m S h ⟨hm1,hm12⟩ hx0
      rw [hww,show decide (okId R x m)=decide ((0 ≤ m∧m ≤ R.months - 1)∧(bxAt R.boxes x).made ≤ m) from decide_eq_decide.2 Iff.rfl]
      exact this
     refine X.regionOb tsAk [1,2,3,6,7,11,37,38,39] [(1,(.slice (some ⟨bl,ol,none⟩) l.length cl)),(2,.int .i64 m),(3,.pointer (some ⟨b3,0,none⟩)),(6,.pointer (some ⟨b6,0,none⟩)),(7,.int .i64 0),(11,.int .i64 x),(37,(.slice (some ⟨bl,ol,none⟩) l.length cl)),(38,(.int .i64 l.length)),(39,(.int .i64 k))] (valAk b3 b6 R p x m (index R.boxes x) w (.slice (some ⟨bl,ol,none⟩) l.length cl) (.slice (some ⟨bl,ol,none⟩) l.length cl) (.int .i64 l.length) (.int .i64 k)) (rowsAk b3 b6 R p x m (index R.boxes x) w (.slice (some ⟨bl,ol,none⟩) l.length cl) (.slice (some ⟨bl,ol,none⟩) l.length cl) (.int .i64 l.length) (.int .i64 k)) (fun _=>(0,0)) (⟨b6,0,zRc.flatMap cSp,some 104,96⟩::⟨b3,0,cRm R p,some 26,5⟩::H) rfl mixed (by repeat (first | exact uU _ | refine uV rfl ?_)) rfl (by kernel_rfl) (locAk b3 b6 R p x m (index R.boxes x) w (.slice (some ⟨bl,ol,none⟩) l.length cl) (.slice (some ⟨bl,ol,none⟩) l.length cl) (.int .i64 l.length) (.int .i64 k)) (qR _) ?_ ?_
     ·repeat' (first | exact AllF.done rfl | (refine AllF.step rfl ?_ ?_;·(first | fail | ((first | refine Ob.ng rfl ?_);(first | exact ObK.pure (fun env R hR=>by exact ⟨_,uM rfl rfl,rfl⟩) rfl (fun _=>rfl) | exact ObK.pure (fun env R hR=>by exact ⟨_,EvF.not rfl rfl,rfl⟩) rfl (fun _=>rfl) | exact ObK.pure (fun env R hR=>by exact ⟨_,uL rfl rfl (uW (te rfl) rfl (hR _ (qT _ (qH _))) rfl),rfl⟩) rfl (fun _=>rfl)|(exact fun env S hS=>OpF.callV (Z:=[]) (uT rfl (Args.cons rfl (Args.cons rfl Args.nil))) (index_spec R p x _ (hRs _ hS)) rfl rfl)|(exact fun env S hS=>OpF.callV (Z:=[]) (uT rfl (Args.cons rfl (Args.cons rfl (Args.cons rfl Args.nil)))) (hth _ (hRs _ hS)) rfl rfl))))))
     intro env t ha2 hv;refine ⟨_,ha2.cons (hv 6 49 (Nat.le_of_ble_eq_true rfl) rfl),?_⟩;clear hv ha2
     show X _ _ _ [(49,.bool !w),(1,.slice (some ⟨bl,ol,none⟩) l.length cl),(2,.int .i64 m),(3,.pointer (some ⟨b3,0,none⟩)),(6,.pointer (some ⟨b6,0,none⟩)),(7,.int .i64 0),(11,.int .i64 x),(37,.slice (some ⟨bl,ol,none⟩) l.length cl),(38,.int .i64 l.length),(39,.int .i64 k)] (⟨b6,0,zRc.flatMap cSp,some 104,96⟩::⟨b3,0,cRm R p,some 26,5⟩::H) _
     clear env
     cases w with
     | false =>
      have h11 : openE R l [m] = 11:=by
       unfold openE
       rw [if_pos hok,if_pos hal,if_neg (fun q=>absurd (hit.1 q x (List.mem_of_getElem? he)) (of_decide_eq_false hww.symm))]
      repeat' (first | (refine uP rfl ?_;(first | ((first | refine uN rfl ?_);(first | (refine uE (EvF.buildArr (zs:=zRc.flatMap cSp) (cs:=zRc.flatMap cSp) rfl ArgsP.nil (te rfl) (te rfl) Try.zeroValue104 rfl) rfl rfl ?_)|(refine Xg.st0 (StF.storeAll (i:=0) (vs:=zRc.flatMap cSp) (cs:=zRc.flatMap cSp) rfl rfl rfl (te rfl) rfl rfl rfl rfl) rfl ?_;rintro _ _ ⟨rfl,rfl⟩;dsimp only [List.set])|(refine uE (uM rfl rfl) rfl rfl ?_)|(refine uE (uA rfl rfl) rfl rfl ?_)|(refine uE (EvF.add64 rfl rfl rfl (by omega) (by omega)) rfl rfl ?_)))))|(refine uD rfl ?_;refine hK _ _ ?_;clear hK K) | refine uS rfl ?_ | refine uR rfl (fun K hK=>?_) | refine X.skip rfl ?_ | refine X.ret rfl ?_ | (refine X.ite rfl rfl (fun hc=>?_);(first | (with_reducible refine Xb.caseB hc (fun h=>?_) (fun h=>?_))) <;> clear hc))
      all_goals try (exfalso;contradiction)
      exact ret_two (v := .agg (zRc.flatMap cSp).toArray) (by simp) Try.results57 ⟨_,rfl,uW (te rfl) rfl (qH _) rfl⟩ rfl (H' := H) (by repeat (first | exact qR _ | apply qK | apply qC)) ⟨zRc,rfl,(fun h=>absurd h (by rw [h11];decide)),by rw [h11],rfl⟩
     | true =>
      have hx1:=of_decide_eq_true hww.symm
      repeat' (first | (refine uP rfl ?_;(first | ((first | refine uN rfl ?_);(first | (refine uE (uM rfl rfl) rfl rfl ?_)|(refine uE (EvF.add64 rfl rfl rfl (by omega) (by omega)) rfl rfl ?_)))))|(refine uD rfl ?_;refine hK _ _ ?_;clear hK K) | refine uS rfl ?_ | refine uR rfl (fun K hK=>?_) | refine X.skip rfl ?_ | (refine X.ite rfl rfl (fun hc=>?_);(first | (with_reducible refine Xb.caseB hc (fun h=>?_) (fun h=>?_))) <;> clear hc))
      all_goals try (exfalso;contradiction)
      exact ⟨_,[(1,.slice (some ⟨bl,ol,none⟩) l.length cl),(2,.int .i64 m),(3,.pointer (some ⟨b3,0,none⟩)),(6,.pointer (some ⟨b6,0,none⟩)),(7,.int .i64 0),(37,.slice (some ⟨bl,ol,none⟩) l.length cl),(38,.int .i64 l.length),(39,.int .i64 (k + 1 : Nat))],⟨b6,0,zRc.flatMap cSp,some 104,96⟩::⟨b3,0,cRm R p,some 26,5⟩::H,(by repeat (first | exact uU _ | refine uV rfl ?_)),(by repeat (first | exact qR _ | apply qK | apply qC)),⟨k + 1,rfl,by omega,fun j y hj hy=>by
       by_cases e : j < k
       ·exact hok2 j y e hy
       ·rw [show j = k by omega,he] at hy
        cases hy
        exact hx1,rfl,rfl⟩,by omega⟩
    ·have hit2 : inTime R l [m]:=hit.2 (fun x hx=>by
      obtain ⟨j,hj,ex⟩:=List.mem_iff_getElem.1 hx
      exact hok2 j x (by omega) (by rw [List.getElem?_eq_getElem hj,ex]))
     have hE : openE R l [m] = if hasT R R.mats then 0 else 8:=by unfold openE;rw [if_pos hok,if_pos hal,if_pos hit2]
     repeat' (first | (refine uP rfl ?_;(first | ((first | refine uN rfl ?_);(first | (refine uC (uT rfl (by (repeat (first | exact Args.nil | refine Args.cons rfl ?_));done)) rfl rfl (found_spec R p _ hr hok.mats hlm (hR.sub (fun _ h=>by repeat (first | exact h | apply qT)))) ?_;rintro _ _ ⟨c,hc,rfl,rfl⟩)|(refine uE (uX rfl rfl rfl) rfl rfl ?_)|(refine Xg.st0 (StF.storeAll (i:=0) (vs:=c.1.flatMap cSp) (cs:=zRc.flatMap cSp) rfl rfl rfl (te rfl) rfl hc.len96 (sp_one _) (by rw [hc.len96,sp_len];rfl)) rfl ?_;rintro _ _ ⟨rfl,rfl⟩;dsimp only [List.set])|(refine uE (uL rfl rfl (uW (T:=104) (cs:=c.1.flatMap cSp) (te rfl) rfl (qH _) hc.len96)) rfl rfl ?_)|(refine Xg.st0 (StF.storeAll (i:=1) (vs:=c.1.flatMap cSp) (cs:=zRc.flatMap cSp) rfl rfl rfl (te rfl) rfl hc.len96 (sp_one _) (by rw [hc.len96,sp_len];rfl)) rfl ?_;rintro _ _ ⟨rfl,rfl⟩;dsimp only [List.set])|(refine uE (uM rfl rfl) rfl rfl ?_)|(refine uE (uA rfl rfl) rfl rfl ?_)|(refine uE (EvF.not rfl rfl) rfl rfl ?_)|(refine Xg.st (StF.alloc rfl Try.zeroValue104 rfl) rfl rfl ?_;rintro _ _ ⟨bx,rfl,rfl⟩)))))|(refine uD rfl ?_;refine hK _ _ ?_;clear hK K) | refine uS rfl ?_ | refine uR rfl (fun K hK=>?_) | refine X.skip rfl ?_ | refine X.ret rfl ?_ | (refine X.ite rfl rfl (fun hc=>?_);(first | (with_reducible refine Xb.caseB hc (fun h=>?_) (fun h=>?_))) <;> clear hc))
     ·have hn : ¬ hasT R R.mats:=hc.no (by simpa using (by assumption : (!c.2)=true))
      rw [if_neg hn] at hE
      exact ret_two (v := .agg (c.1.flatMap cSp).toArray) (by simp) Try.results57 ⟨_,rfl,uW (te rfl) rfl (qT _ (qH _)) hc.len96⟩ rfl (H' := H) (by repeat (first | exact qR _ | apply qK | apply qC)) ⟨c.1,hc.len,(fun q=>absurd q (by rw [hE];decide)),by rw [hE],rfl⟩
     ·obtain ⟨y1,y2,y3⟩:=hc.yes (by simpa using (by assumption : (!c.2)=false))
      rw [if_pos y1] at hE
      exact ret_two (v := .agg (c.1.flatMap cSp).toArray) (by simp) Try.results57 ⟨_,rfl,uW (te rfl) rfl (qT _ (qH _)) hc.len96⟩ rfl (H' := H) (by repeat (first | exact qR _ | apply qK | apply qC)) ⟨c.1,hc.len,(fun _=>⟨y1,y2,y3⟩),by rw [hE],rfl⟩
 ·have h10 : openE R l [m] = 10:=by unfold openE;rw [if_neg hok]
  have hrs : ∀ r1 r2,Fc Try.prog 46 [.agg (cRm R p).toArray] (r1::r2::H) (fun v H' => v = .bool false∧H' = r1::r2::H):=fun r1 r2=>by
   have:=room_spec R p (r1::r2::H) (hR.sub (fun _ h=>qT _ (qT _ h)))
   rwa [decide_eq_false hok] at this
  refine Fc.mk (callable Try.call57) Try.func57 rfl Try.ntmps57 rfl ?_;dsimp only [fr]
  repeat' (first | (refine uP rfl ?_;(first | ((first | refine uN rfl ?_);(first | (refine uE (uL rfl rfl (uW (T:=26) (cs:=cRm R p) (te rfl) rfl (by repeat (first | exact qH _ | apply qT)) rfl)) rfl rfl ?_)|(refine uC (uT rfl (Args.cons rfl Args.nil)) rfl rfl (hrs _ _) ?_;rintro _ H9 ⟨rfl,hH9⟩;subst H9)|(refine uE (EvF.buildArr (zs:=zRc.flatMap cSp) (cs:=zRc.flatMap cSp) rfl ArgsP.nil (te rfl) (te rfl) Try.zeroValue104 rfl) rfl rfl ?_)|(refine Xg.st0 (StF.storeAll (i:=0) (vs:=zRc.flatMap cSp) (cs:=zRc.flatMap cSp) rfl rfl rfl (te rfl) rfl rfl rfl rfl) rfl ?_;rintro _ _ ⟨rfl,rfl⟩;dsimp only [List.set])|(refine uE (uM rfl rfl) rfl rfl ?_)|(refine uE (uA rfl rfl) rfl rfl ?_)|(refine uE (EvF.not rfl rfl) rfl rfl ?_)|(refine uE (EvF.lenSlice rfl rfl (te rfl)) rfl rfl ?_)|(refine Xg.st (StF.boxAgg rfl rfl) rfl rfl ?_;rintro _ _ ⟨bx,rfl,rfl⟩)|(refine Xg.st (StF.alloc rfl Try.zeroValue104 rfl) rfl rfl ?_;rintro _ _ ⟨bx,rfl,rfl⟩)))))|(refine uD rfl ?_;refine hK _ _ ?_;clear hK K) | refine uS rfl ?_ | refine uR rfl (fun K hK=>?_) | refine X.block rfl ?_ | refine X.skip rfl ?_ | refine X.ret rfl ?_ | (refine X.ite rfl rfl (fun hc=>?_);(first | (with_reducible refine Xb.caseB hc (fun h=>?_) (fun h=>?_))) <;> clear hc))
  all_goals try (exfalso;contradiction)
  exact ret_two (v := .agg (zRc.flatMap cSp).toArray) (by simp) Try.results57 ⟨_,rfl,uW (te rfl) rfl (qH _) rfl⟩ rfl (H' := H) (by repeat (first | exact qR _ | apply qK | apply qC)) ⟨zRc,rfl,(fun h=>absurd h (by rw [h10];decide)),by rw [h10],rfl⟩
end Go.Proofs.Ytmfppdpkalelhaa
end
section
set_option linter.unusedVariables false
set_option linter.unusedSimpArgs false
namespace Go.Proofs.Ytmfppdpkalelhaa
open Go Go.Fw
set_option maxRecDepth 10000
theorem sp_len96 {l : List Sp} (h : l.length = 48) : (l.flatMap cSp).length = 96:=by rw [sp_len,h]
theorem there_ix {R : Rm} (hr : okRm R) {l : List Int} {a m : Int} (h : openE R l [m] = 0) (ha : a ∈ l) : ∃ (b : Bx) (ia : Nat),there R b m∧b.id = a∧R.boxes[ia]? = some b∧index R.boxes a = ia∧ia < R.boxes.length∧0 ≤ m∧m ≤ 11∧cel R ⟨a,m⟩ = ia * 12 + m.toNat:=by
 obtain ⟨b,ht,rfl⟩:=there_of h ha (List.mem_singleton.2 rfl)
 obtain ⟨ia,hia⟩:=box_at ht.1
 have h1:=there_bd hr ht
 exact ⟨b,ia,ht,rfl,hia,index_box hr.bx hia,(List.getElem?_eq_some_iff.1 hia).1,h1.1,h1.2,cel_box hr.bx hia m⟩
set_option maxHeartbeats 4000000 in
theorem rYellow_spec (R : Rm) (p : Pl) (a m : Int) (H : List Row) (hR : RmOk H R p) : Fc Try.prog 18 [.agg (cRm R p).toArray,.int .i64 a,.int .i64 m] H (fun v H' => v = .tuple #[.agg (cSp (yelF R a m).1).toArray,.int .i64 (yelF R a m).2]∧H' = H):=by
 obtain ⟨e,he⟩ : ∃ e,openE R [a] [m] = e:=⟨_,rfl⟩
 have has : ∀ (H' : List Row) (b1 : Nat),RmOk H' R p → ⟨b1,0,[.int .i64 a],some 3,1 * 1⟩ ∈ H' → Fc Try.prog 57 [.agg (cRm R p).toArray,.slice (some ⟨b1,0,none⟩) 1 1,.int .i64 m] H' (fun v H'' => ∃ c,c.length = 48∧(e = 0 → As R 0 c)∧v = .tuple #[.agg (c.flatMap cSp).toArray,.int .i64 e]∧H'' = H'):=fun H' b1 q1 q2=>by
  have:=rAsked_spec R p [a] (some ⟨b1,0,none⟩) 1 m H' q1 (SlE.ofRow (l:=[a]) q2 (fun _ _=>rfl)) (Nat.le_of_ble_eq_true rfl)
  rw [he] at this
  exact this
 by_cases h0 : e = 0
 ·subst h0
  obtain ⟨hok,_,_,hT⟩:=openE_ok he
  have hr:=hok.ok
  have hb4:=hr.b4
  obtain ⟨b,ia,ht,hba,hia,hix,hil,hm0,hm1,hce⟩:=there_ix hr he (List.mem_singleton.2 rfl)
  have hy : yelF R a m = (rng R R.mats ⟨a,m⟩ zp,0):=by unfold yelF;rw [if_pos he]
  have hixs:=fun H' hH' => index_spec R p a H' hH'
  rw [hix] at hixs
  rw [hy]
  refine Fc.mk (callable Try.call18) Try.func18 rfl Try.ntmps18 rfl ?_;dsimp only [fr]
  repeat' (first | (refine uP rfl ?_;(first | ((first | refine uN rfl ?_);(first | (refine Xg.st (StF.buildOne (v0 := .int .i64 a) rfl el55 rfl rfl rfl (by decide) (by decide)) rfl rfl ?_;rintro _ _ ⟨b1,rfl,rfl⟩)|(refine uE (uL rfl rfl (uW (T:=26) (cs:=cRm R p) (te rfl) rfl (by repeat (first | exact qH _ | apply qT)) rfl)) rfl rfl ?_)|(refine uC (uT rfl (by (repeat (first | exact Args.nil | refine Args.cons rfl ?_));done)) rfl rfl (has _ b1 (hR.sub (fun _ h=>by repeat (first | exact h | apply qT))) (qH _)) ?_;rintro _ _ ⟨c,hc,hA,rfl,rfl⟩)|(refine uE (uX rfl rfl rfl) rfl rfl ?_)|(refine Xg.st (StF.alloc rfl Try.zeroValue104 rfl) rfl rfl ?_;rintro _ _ ⟨b8,rfl,rfl⟩)|(refine Xg.st0 (StF.storeAll (i:=0) (vs:=c.flatMap cSp) (cs:=zRc.flatMap cSp) rfl rfl rfl (te rfl) rfl (sp_len96 hc) (sp_one _) (by rw [sp_len96 hc,sp_len];rfl)) rfl ?_;rintro _ _ ⟨rfl,rfl⟩;dsimp only [List.set])|(refine uC (uT rfl (Args.cons rfl (Args.cons rfl Args.nil))) rfl rfl (hixs _ (hR.sub (fun _ h=>by repeat (first | exact h | apply qT)))) ?_;rintro _ H9 ⟨rfl,hH9⟩;subst H9)|(refine uE (EvF.indexArray (i:=(ia : Int)) (off:=0) (b:=b8) (T:=104) (e:=102) (len:=4) rfl rfl rfl (te rfl) (te rfl) (by omega) (by omega)) rfl rfl ?_)|(refine uE (EvF.indexArray (i:=m) (off:=0 + ia * 24) (b:=b8) (T:=102) (e:=35) (len:=12) rfl rfl rfl (te rfl) (te rfl) (by omega) (by omega)) rfl rfl ?_)|(refine uE (uL rfl rfl (LoadV.ownAgg (te rfl) rfl (qH _) (sp_at (l:=c) (k:=ia * 12 + m.toNat) (j:=0 + ia * 24 + m.toNat * 2) (by omega) (by omega)) rfl)) rfl rfl ?_)|(refine uE (uM rfl rfl) rfl rfl ?_)|(refine uE (uA rfl rfl) rfl rfl ?_)|(refine uE (uQ rfl rfl rfl rfl) rfl rfl ?_)|(refine Xg.st (StF.boxAgg rfl rfl) rfl rfl ?_;rintro _ _ ⟨bx,rfl,rfl⟩)|(refine Xg.st (StF.alloc rfl Try.zeroValue35 rfl) rfl rfl ?_;rintro _ _ ⟨bx,rfl,rfl⟩)|(refine Xg.st0 (StF.storeAll (i:=2) rfl rfl rfl (te rfl) rfl rfl rfl rfl) rfl ?_;rintro _ _ ⟨rfl,rfl⟩;dsimp only [List.set])))))|(refine uD rfl ?_;refine hK _ _ ?_;clear hK K) | refine uS rfl ?_ | refine uR rfl (fun K hK=>?_) | refine X.skip rfl ?_ | refine X.ret rfl ?_ | (refine X.ite rfl rfl (fun hc=>?_);(first | (with_reducible refine Xb.caseN hc (fun h=>?_) (fun h=>?_))) <;> clear hc))
  all_goals try (exfalso;omega)
  have hx:=(hA rfl).ex b m ht
  rw [hba,hce] at hx
  refine ret_two (v := .agg (cSp (sat c (ia * 12 + m.toNat))).toArray) (by simp) Try.results18 ⟨_,rfl,uW (te rfl) rfl (by repeat (first | exact qH _ | apply qT)) rfl⟩ rfl (H' := H) (by repeat (first | exact qR _ | apply qK | apply qC)) ⟨?_,rfl⟩
  rw [rng_eq hx]
 ·have hy : yelF R a m = (⟨0,0⟩,e):=by unfold yelF;rw [if_neg (by rw [he];exact h0),he]
  rw [hy]
  refine Fc.mk (callable Try.call18) Try.func18 rfl Try.ntmps18 rfl ?_;dsimp only [fr]
  repeat' (first | (refine uP rfl ?_;(first | ((first | refine uN rfl ?_);(first | (refine Xg.st (StF.buildOne (v0 := .int .i64 a) rfl el55 rfl rfl rfl (by decide) (by decide)) rfl rfl ?_;rintro _ _ ⟨b1,rfl,rfl⟩)|(refine uE (uL rfl rfl (uW (T:=26) (cs:=cRm R p) (te rfl) rfl (by repeat (first | exact qH _ | apply qT)) rfl)) rfl rfl ?_)|(refine uC (uT rfl (by (repeat (first | exact Args.nil | refine Args.cons rfl ?_));done)) rfl rfl (has _ b1 (hR.sub (fun _ h=>by repeat (first | exact h | apply qT))) (qH _)) ?_;rintro _ _ ⟨c,hc,hA,rfl,rfl⟩)|(refine uE (uX rfl rfl rfl) rfl rfl ?_)|(refine Xg.st (StF.alloc rfl Try.zeroValue104 rfl) rfl rfl ?_;rintro _ _ ⟨b8,rfl,rfl⟩)|(refine Xg.st0 (StF.storeAll (i:=0) (vs:=c.flatMap cSp) (cs:=zRc.flatMap cSp) rfl rfl rfl (te rfl) rfl (sp_len96 hc) (sp_one _) (by rw [sp_len96 hc,sp_len];rfl)) rfl ?_;rintro _ _ ⟨rfl,rfl⟩;dsimp only [List.set])|(refine uE (EvF.build (cs:=cSp ⟨0,0⟩) rfl ArgsP.nil (te rfl) (Places.cons (te rfl) (Places.cons (te rfl) Places.nil)) Try.zeroValue35 rfl) rfl rfl ?_)|(refine uE (uM rfl rfl) rfl rfl ?_)|(refine uE (uA rfl rfl) rfl rfl ?_)|(refine uE (uQ rfl rfl rfl rfl) rfl rfl ?_)|(refine Xg.st (StF.boxAgg rfl rfl) rfl rfl ?_;rintro _ _ ⟨bx,rfl,rfl⟩)|(refine Xg.st (StF.alloc rfl Try.zeroValue35 rfl) rfl rfl ?_;rintro _ _ ⟨bx,rfl,rfl⟩)|(refine Xg.st0 (StF.storeAll (i:=2) rfl rfl rfl (te rfl) rfl rfl rfl rfl) rfl ?_;rintro _ _ ⟨rfl,rfl⟩;dsimp only [List.set])))))|(refine uD rfl ?_;refine hK _ _ ?_;clear hK K) | refine uS rfl ?_ | refine uR rfl (fun K hK=>?_) | refine X.skip rfl ?_ | refine X.ret rfl ?_ | (refine X.ite rfl rfl (fun hc=>?_);(first | (with_reducible refine Xb.caseN hc (fun h=>?_) (fun h=>?_))) <;> clear hc))
  all_goals try (exfalso;simp_all;done)
  exact ret_two (v := .agg (cSp ⟨0,0⟩).toArray) (by simp) Try.results18 ⟨_,rfl,uW (te rfl) rfl (by repeat (first | exact qH _ | apply qT)) rfl⟩ rfl (H' := H) (by repeat (first | exact qR _ | apply qK | apply qC)) ⟨rfl,rfl⟩
end Go.Proofs.Ytmfppdpkalelhaa
end
section
set_option linter.unusedVariables false
set_option linter.unusedSimpArgs false
namespace Go.Proofs.Ytmfppdpkalelhaa
open Go Go.Fw
set_option maxRecDepth 10000
def tsDr : List TOp:=[⟨some 52,[],[],[]⟩,⟨some 53,[],[],[]⟩,⟨some 54,[0],[0],[]⟩,⟨some 55,[0,1,2],[2,1],[]⟩,⟨some 56,[0,1,2,3],[3],[]⟩,⟨some 57,[0,1,2,3,4],[4],[]⟩,⟨some 58,[],[],[]⟩,⟨some 59,[0,1,2,3,4,5,6],[5,6],[]⟩,⟨some 60,[],[],[]⟩,⟨some 61,[],[],[]⟩,⟨some 62,[8],[8],[]⟩,⟨some 63,[8,9,10],[10,9],[]⟩,⟨some 64,[8,9,10,11],[11],[]⟩,⟨some 65,[8,9,10,11,12],[12],[]⟩,⟨some 66,[],[],[]⟩,⟨some 67,[8,9,10,11,12,13,14],[13,14],[]⟩,⟨some 68,[0,1,2,3,4,5,6,7,8,9,10,11,12,13,14,15],[7,15],[]⟩,⟨some 17,[],[],[]⟩,⟨none,[0,1,2,3,4,5,6,7,8,9,10,11,12,13,14,15,16,17],[17,16],[17]⟩]
def valDr (b5 b6 b10 b11 b14 b15 ii kk : Nat) (m v : Int) (s : Sp) (g : Bool) (k : Nat) (env : Env) : Value :=
 match k with
 | 0 => .int .i64 (ii : Nat)
 | 1 => .int .i64 m
 | 2 => .pointer (some ⟨b15,0 + ii * 24,none⟩)
 | 3 => .pointer (some ⟨b15,0 + ii * 24 + m.toNat * 2,none⟩)
 | 4 => .pointer (some ⟨b15,0 + ii * 24 + m.toNat * 2,none⟩)
 | 5 => .int .i64 s.lo
 | 6 => .int .i64 v
 | 7 => .int .i64 (s.lo - v)
 | 8 => .int .i64 (ii : Nat)
 | 9 => .int .i64 m
 | 10 => .pointer (some ⟨b15,0 + ii * 24,none⟩)
 | 11 => .pointer (some ⟨b15,0 + ii * 24 + m.toNat * 2,none⟩)
 | 12 => .pointer (some ⟨b15,0 + ii * 24 + m.toNat * 2 + 1,none⟩)
 | 13 => .int .i64 s.hi
 | 14 => .int .i64 v
 | 15 => .int .i64 (s.hi - v)
 | 16 => .agg (cSp ⟨s.lo - v,s.hi - v⟩).toArray
 | 17 => .pointer (some ⟨(env 17).1,0,none⟩)
 | 18=>undef
 | _=>undef
def rowsDr (b5 b6 b10 b11 b14 b15 ii kk : Nat) (m v : Int) (s : Sp) (g : Bool) (k : Nat) (env : Env) : List Row :=
 match k with
 | 17=>[⟨(env 17).1,0,cSp ⟨0,0⟩,some 35,2⟩]
 | 18=>[⟨(env 17).1,0,cSp ⟨s.lo - v,s.hi - v⟩,some 35,2⟩]
 | _=>[]
theorem locDr (b5 b6 b10 b11 b14 b15 ii kk : Nat) (m v : Int) (s : Sp) (g : Bool) : ∀ k env i q9,i ≠ k → (tAt tsDr k).sup.contains i = false → valDr b5 b6 b10 b11 b14 b15 ii kk m v s g k (upd env i q9)=valDr b5 b6 b10 b11 b14 b15 ii kk m v s g k env∧rowsDr b5 b6 b10 b11 b14 b15 ii kk m v s g k (upd env i q9)=rowsDr b5 b6 b10 b11 b14 b15 ii kk m v s g k env:=by
 intro k env i q hk hs
 have hu : ∀ j,j ≠ i → upd env i q j = env j:=fun j hj=>by unfold upd;rw [if_neg hj]
 match k,hk,hs with
 | 0,_,_=>exact ⟨rfl,rfl⟩
 | 1,_,_=>exact ⟨rfl,rfl⟩
 | 2,_,_=>exact ⟨rfl,rfl⟩
 | 3,_,_=>exact ⟨rfl,rfl⟩
 | 4,_,_=>exact ⟨rfl,rfl⟩
 | 5,_,_=>exact ⟨rfl,rfl⟩
 | 6,_,_=>exact ⟨rfl,rfl⟩
 | 7,_,_=>exact ⟨rfl,rfl⟩
 | 8,_,_=>exact ⟨rfl,rfl⟩
 | 9,_,_=>exact ⟨rfl,rfl⟩
 | 10,_,_=>exact ⟨rfl,rfl⟩
 | 11,_,_=>exact ⟨rfl,rfl⟩
 | 12,_,_=>exact ⟨rfl,rfl⟩
 | 13,_,_=>exact ⟨rfl,rfl⟩
 | 14,_,_=>exact ⟨rfl,rfl⟩
 | 15,_,_=>exact ⟨rfl,rfl⟩
 | 16,_,_=>exact ⟨rfl,rfl⟩
 | 17,hk,hs=>exact ⟨by simp only [valDr,hu 17 (fun e=>hk e.symm)],by simp only [rowsDr,hu 17 (fun e=>hk e.symm)]⟩
 | 18,hk,hs=>exact ⟨by simp only [valDr,hu 17 (by rintro rfl;cases hs)],by simp only [rowsDr,hu 17 (by rintro rfl;cases hs)]⟩
 | _ + 19,_,_=>exact ⟨rfl,rfl⟩
/-- a pinned chart, closed -/
structure Pn (R : Rm) (c : List Sp) (x : List Sp × Bool) : Prop where
 len : x.1.length = 48
 yes : x.2 = true → ClosedT R R.mats c x.1
 no : x.2 = false → ∀ z,Tru R R.mats z → ¬ Inn R c z
set_option maxHeartbeats 16000000 in
theorem rdiffer_spec (R : Rm) (p : Pl) (c : List Sp) (a b : Bx) (i k : Nat) (m : Int) (H : List Row) (hr : okRm R) (hR : RmOk H R p) (hm : matsThere R R.mats) (hlm : R.mats.length ≤ 100) (hc : c.length = 48) (hA : As R 0 c) (hta : there R a m) (htb : there R b m) (hi : R.boxes[i]? = some a) (hk : R.boxes[k]? = some b) :
  Fc Try.prog 60 [.agg (cRm R p).toArray,.agg (c.flatMap cSp).toArray,.int .i64 i,.int .i64 k,.int .i64 m] H (fun v H' => v = .agg (cSp (rng R R.mats ⟨a.id,m⟩ ⟨b.id,m⟩)).toArray∧H' = H):=by
 have hb4:=hr.b4
 have hm0:=there_bd hr hta
 have hil:=(List.getElem?_eq_some_iff.1 hi).1
 have hkl:=(List.getElem?_eq_some_iff.1 hk).1
 have ca : cel R ⟨a.id,m⟩ = i * 12 + m.toNat:=cel_box hr.bx hi m
 have cb : cel R ⟨b.id,m⟩ = k * 12 + m.toNat:=cel_box hr.bx hk m
 have hcl : (c.flatMap cSp).length = 96:=sp_len96 hc
 obtain ⟨_,hlo,hhi⟩:=sp_cells c (k * 12 + m.toNat) (by omega)
 obtain ⟨t,ht⟩ : ∃ t,t = sat c (k * 12 + m.toNat):=⟨_,rfl⟩
 rw [← ht,show (k * 12 + m.toNat) * 2 = 0 + k * 24 + m.toNat * 2 by omega] at hlo hhi
 have htk:=hA.good.ok (k * 12 + m.toNat)
 rw [← ht] at htk
 have hpin : ∀ v : Int,splice (c.flatMap cSp) (0 + k * 24 + m.toNat * 2) (cSp ⟨v,v⟩) = (pin c (k * 12 + m.toNat) v).flatMap cSp:=fun v=>by
  rw [show 0 + k * 24 + m.toNat * 2 = (k * 12 + m.toNat) * 2 by omega]
  exact sp_splice c (k * 12 + m.toNat) ⟨v,v⟩ (by omega)
 have hpl : ∀ v : Int,((pin c (k * 12 + m.toNat) v).flatMap cSp).length = 96:=fun v=>sp_len96 (by unfold pin;rw [List.length_set];exact hc)
 have hcs : ∀ (v : Int) S,t.lo ≤ v → v ≤ t.hi → RmOk S R p → Fc Try.prog 80 [.agg (cRm R p).toArray,.slice p.a3 R.mats.length p.c3,.agg ((pin c (k * 12 + m.toNat) v).flatMap cSp).toArray] S (fun u H' => ∃ x,Pn R (pin c (k * 12 + m.toNat) v) x∧u = .tuple #[.agg (x.1.flatMap cSp).toArray,.bool x.2]∧H' = S):=fun v S h1 h2 hS=>by
  obtain ⟨p1,p2,_⟩:=pin_ok hA.good (k:=k * 12 + m.toNat) (v:=v) (by omega) (by rw [← ht];exact ⟨h1,h2⟩)
  refine (closed_spec R p R.mats p.a3 p.c3 (pin c (k * 12 + m.toNat) v) S hr hS hS.mats hlm hm p1 p2).mono fun u H' ⟨l,hH,h⟩=>?_
  rcases h with ⟨h1,hv⟩ | ⟨h1,h2,hv⟩
  ·exact ⟨(l,true),⟨h1.len,fun _=>h1,(fun h=>by cases h)⟩,hv,hH⟩
  ·exact ⟨(l,false),⟨h1,(fun h=>by cases h),fun _=>h2⟩,hv,hH⟩
 refine Fc.mk (callable Try.call60) Try.func60 rfl Try.ntmps60 rfl ?_;dsimp only [fr]
 repeat' (first | (refine uP rfl ?_;(first | ((first | refine uN rfl ?_);(first | (refine uE (EvF.indexArray (i:=(k : Int)) (off:=0) (T:=104) (e:=102) (len:=4) rfl rfl rfl (te rfl) (te rfl) (by omega) (by omega)) rfl rfl ?_)|(refine uE (EvF.indexArray (i:=m) (off:=0 + k * 24) (T:=102) (e:=35) (len:=12) rfl rfl rfl (te rfl) (te rfl) (by omega) (by omega)) rfl rfl ?_)|(refine uE (uL rfl rfl (uO (te rfl) rfl (by repeat (first | exact qH _ | apply qT)) hlo)) rfl rfl ?_)|(refine uE (uM rfl rfl) rfl rfl ?_)|(refine uE (uA rfl rfl) rfl rfl ?_)|(refine uE (uF rfl rfl (te rfl) rfl (te rfl) (by decide)) rfl rfl ?_)|(refine Xg.st (StF.boxAgg rfl rfl) rfl rfl ?_;rintro _ _ ⟨bx,rfl,rfl⟩)|(refine Xg.st (StF.alloc rfl Try.zeroValue35 rfl) rfl rfl ?_;rintro _ _ ⟨bx,rfl,rfl⟩)))))|(refine uD rfl ?_;refine hK _ _ ?_;clear hK K) | refine uS rfl ?_ | refine uR rfl (fun K hK=>?_) | refine X.block rfl ?_)
 rename_i b5 b6 b10
 generalize bx = b11
 rw [hcl]
 refine X.lp rfl (fun q F' H' => ∃ (v : Int) (out : Sp) (any : Bool),q = (t.hi + 1 - v).toNat∧t.lo ≤ v∧v ≤ t.hi + 1∧Acc R R.mats ⟨a.id,m⟩ ⟨b.id,m⟩ t.lo v out any∧H' = ⟨b11,0,cSp out,some 35,2⟩::⟨b10,0,cSp ⟨0,0⟩,some 35,2⟩::⟨b6,0,c.flatMap cSp,some 104,96⟩::⟨b5,0,cRm R p,some 26,5⟩::H∧F' = [(2,.int .i64 i),(3,.int .i64 k),(4,.int .i64 m),(5,.pointer (some ⟨b5,0,none⟩)),(6,.pointer (some ⟨b6,0,none⟩)),(10,.pointer (some ⟨b10,0,none⟩)),(11,.pointer (some ⟨b11,0,none⟩)),(12,.bool any),(13,.int .i64 v)])
  (t.hi + 1 - t.lo).toNat [(2,.int .i64 i),(3,.int .i64 k),(4,.int .i64 m),(5,.pointer (some ⟨b5,0,none⟩)),(6,.pointer (some ⟨b6,0,none⟩)),(10,.pointer (some ⟨b10,0,none⟩)),(11,.pointer (some ⟨b11,0,none⟩)),(12,.bool false),(13,.int .i64 t.lo)] (⟨b11,0,cSp ⟨0,0⟩,some 35,2⟩::⟨b10,0,cSp ⟨0,0⟩,some 35,2⟩::⟨b6,0,c.flatMap cSp,some 104,96⟩::⟨b5,0,cRm R p,some 26,5⟩::H) (by repeat (first | exact uU _ | refine uV rfl ?_)) (qR _) ⟨t.lo,⟨0,0⟩,false,rfl,by omega,by omega,Acc.zero _ _ _ _ _ _,rfl,rfl⟩ ?_
 rintro _ _ _ ⟨v,out,any,rfl,hv1,hv2,hAc,rfl,rfl⟩
 repeat' (first | (refine uP rfl ?_;(first | ((first | refine uN rfl ?_);(first | (refine uE (EvF.indexArray (i:=(k : Int)) (off:=0) (T:=104) (e:=102) (len:=4) rfl rfl rfl (te rfl) (te rfl) (by omega) (by omega)) rfl rfl ?_)|(refine uE (EvF.indexArray (i:=m) (off:=0 + k * 24) (T:=102) (e:=35) (len:=12) rfl rfl rfl (te rfl) (te rfl) (by omega) (by omega)) rfl rfl ?_)|(refine uE (uL rfl rfl (uO (te rfl) rfl (by repeat (first | exact qH _ | apply qT)) hhi)) rfl rfl ?_)|(refine uE (uL rfl rfl (uW (T:=104) (cs:=c.flatMap cSp) (te rfl) rfl (by repeat (first | exact qH _ | apply qT)) hcl)) rfl rfl ?_)|(refine uE (uL rfl rfl (uW (T:=26) (cs:=cRm R p) (te rfl) rfl (by repeat (first | exact qH _ | apply qT)) rfl)) rfl rfl ?_)|(refine Xg.st (StF.alloc rfl Try.zeroValue104 rfl) rfl rfl ?_;rintro _ _ ⟨b14,rfl,rfl⟩)|(refine Xg.st0 (StF.storeAll (i:=0) (vs:=c.flatMap cSp) (cs:=zRc.flatMap cSp) rfl rfl rfl (te rfl) rfl hcl (sp_one _) (by rw [hcl,sp_len];rfl)) rfl ?_;rintro _ _ ⟨rfl,rfl⟩;dsimp only [List.set])|(refine uE (EvF.build (cs:=cSp ⟨v,v⟩) rfl (ArgsP.cons rfl (ArgsP.cons rfl ArgsP.nil)) (te rfl) (Places.cons (te rfl) (Places.cons (te rfl) Places.nil)) Try.zeroValue35 rfl) rfl rfl ?_)|(refine Xg.st0 (StF.storeAt (q:=0) (j:=0 + k * 24 + m.toNat * 2) (vs:=cSp ⟨v,v⟩) (cs:=c.flatMap cSp) rfl rfl rfl (te rfl) rfl rfl rfl (by rw [hcl];show 0 + k * 24 + m.toNat * 2 + 2 ≤ 96;omega)) rfl ?_;rintro _ _ ⟨rfl,rfl⟩;dsimp only [List.set];rw [hpin v])|(refine uE (uL rfl rfl (uW (T:=104) (cs:=(pin c (k * 12 + m.toNat) v).flatMap cSp) (te rfl) rfl (by repeat (first | exact qH _ | apply qT)) (hpl v))) rfl rfl ?_)|(refine uC (uT rfl (by (repeat (first | exact Args.nil | refine Args.cons rfl ?_));done)) rfl rfl (hcs v _ hv1 (by omega) (hR.sub (fun _ h=>by repeat (first | exact h | apply qT)))) ?_;rintro _ _ ⟨x,hx,rfl,rfl⟩)|(refine uE (uX rfl rfl rfl) rfl rfl ?_)|(refine Xg.st0 (StF.storeAll (i:=0) (vs:=x.1.flatMap cSp) (cs:=zRc.flatMap cSp) rfl rfl rfl (te rfl) rfl (sp_len96 hx.len) (sp_one _) (by rw [sp_len96 hx.len,sp_len];rfl)) rfl ?_;rintro _ _ ⟨rfl,rfl⟩;dsimp only [List.set])|(refine uE (uM rfl rfl) rfl rfl ?_)|(refine uE (uA rfl rfl) rfl rfl ?_)|(refine uE (uQ rfl rfl rfl rfl) rfl rfl ?_)|(refine uE (EvF.add64 rfl rfl rfl (by omega) (by omega)) rfl rfl ?_)|(refine uE (EvF.not rfl rfl) rfl rfl ?_)|(refine uE (uF rfl rfl (te rfl) rfl (te rfl) (by decide)) rfl rfl ?_)|(refine uE (uL rfl rfl (uO (te rfl) rfl (qT _ (qT _ (qT _ (qT _ (qH _))))) rfl)) rfl rfl ?_)|(refine uE (uL rfl rfl (uW (te rfl) rfl (qH _) rfl)) rfl rfl ?_)|(refine Xg.st0 (StF.storeAll (i:=1) rfl rfl rfl (te rfl) rfl rfl rfl rfl) rfl ?_;rintro _ _ ⟨rfl,rfl⟩;dsimp only [List.set])))))|(refine uD rfl ?_;refine hK _ _ ?_;clear hK K) | refine uS rfl ?_ | refine uR rfl (fun K hK=>?_) | refine X.block rfl ?_ | (refine X.brk rfl ?_;repeat (first | refine blockX_hit rfl ?_ | refine blockX_miss (by decide) ?_)) | refine X.skip rfl ?_ | refine X.ret rfl ?_ | (refine X.ite rfl rfl (fun hc=>?_);(first | (with_reducible refine Xb.case hc (fun h=>?_) (fun h=>?_))|(with_reducible refine Xb.caseB hc (fun h=>?_) (fun h=>?_))) <;> clear hc))
 ·rename_i hv3 bp
  exact ⟨_,_,⟨b11,0,cSp out,some 35,2⟩::⟨b10,0,cSp ⟨0,0⟩,some 35,2⟩::⟨b6,0,c.flatMap cSp,some 104,96⟩::⟨b5,0,cRm R p,some 26,5⟩::H,(by repeat (first | exact uU _ | refine uV rfl ?_)),(by repeat (first | exact qR _ | apply qK | apply qC)),⟨v + 1,out,any,rfl,by omega,by omega,hAc.skip (fun z hz he=>hx.no (by simpa using h) z hz (by rw [← cb];exact pin_inn hr hA.good htb hz he)),rfl,rfl⟩,by omega⟩
 ·rename_i hv3 bp
  generalize b14 = b15
  have hxl:=hx.len
  obtain ⟨s,hs⟩ : ∃ s,s = sat x.1 (i * 12 + m.toNat):=⟨_,rfl⟩
  obtain ⟨_,hslo,hshi⟩:=sp_cells x.1 (i * 12 + m.toNat) (by omega)
  rw [← hs,show (i * 12 + m.toNat) * 2 = 0 + i * 24 + m.toNat * 2 by omega] at hslo hshi
  have hX:=hx.yes (by simpa using h)
  have hsok:=And.intro (hX.sub (i * 12 + m.toNat)) (hX.full (i * 12 + m.toNat))
  rw [← hs] at hsok
  have hpo:=(pin_ok hA.good (k:=k * 12 + m.toNat) (v:=v) (by omega) (by rw [← ht];exact ⟨hv1,hv3⟩)).2.1 (i * 12 + m.toNat)
  have hsb : 0 ≤ s.lo∧s.lo ≤ s.hi∧s.hi ≤ 60:=by obtain ⟨q1,q2⟩:=hsok;omega
  have hX2:=hX
  rw [← cb] at hX2
  obtain ⟨e1,e2,e3⟩:=pin_closed hr hm hA.good hta htb (by rw [cb, ← ht];exact ⟨hv1,hv3⟩) hX2
  rw [ca, ← hs] at e1 e2 e3
  have hadd:=hAc.add (s:=⟨s.lo - v,s.hi - v⟩) e1 e2 e3
  refine X.regionOb tsDr [2,3,4,5,6,10,11,12,13,14,15] [(2,.int .i64 (i : Nat)),(3,.int .i64 (k : Nat)),(4,.int .i64 m),(5,.pointer (some ⟨b5,0,none⟩)),(6,.pointer (some ⟨b6,0,none⟩)),(10,.pointer (some ⟨b10,0,none⟩)),(11,.pointer (some ⟨b11,0,none⟩)),(12,.bool any),(13,.int .i64 v),(14,.pointer (some ⟨bp,0,none⟩)),(15,.pointer (some ⟨b15,0,none⟩))] (valDr b5 b6 b10 b11 bp b15 i k m v s any) (rowsDr b5 b6 b10 b11 bp b15 i k m v s any) (fun _=>(0,0)) (⟨b15,0,x.1.flatMap cSp,some 104,96⟩::⟨bp,0,(pin c (k * 12 + m.toNat) v).flatMap cSp,some 104,96⟩::⟨b11,0,cSp out,some 35,2⟩::⟨b10,0,cSp ⟨0,0⟩,some 35,2⟩::⟨b6,0,c.flatMap cSp,some 104,96⟩::⟨b5,0,cRm R p,some 26,5⟩::H) rfl mixed (by repeat (first | exact uU _ | refine uV rfl ?_)) rfl (by kernel_rfl) (locDr b5 b6 b10 b11 bp b15 i k m v s any) (qR _) ?_ ?_
  ·repeat' (first | exact AllF.done rfl | (refine AllF.step rfl ?_ ?_;·(first | fail | ((first | refine Ob.ng rfl ?_);(first | exact ObK.pure (fun env R hR=>by exact ⟨_,uM rfl rfl,rfl⟩) rfl (fun _=>rfl) | exact ObK.pure (fun env R hR=>by exact ⟨_,uF rfl rfl (te rfl) rfl (te rfl) (by decide),rfl⟩) rfl (fun _=>rfl)|((refine ObK.pure (fun env S hS=>⟨.pointer (some ⟨b15,0 + i * 24,none⟩),?_,rfl⟩) rfl (fun _=>rfl);exact EvF.indexArray (i:=(i : Int)) (off:=0) (b:=b15) (T:=104) (e:=102) (len:=4) rfl rfl rfl (te rfl) (te rfl) (by omega) (by omega)))|((refine ObK.pure (fun env S hS=>⟨.pointer (some ⟨b15,0 + i * 24 + m.toNat * 2,none⟩),?_,rfl⟩) rfl (fun _=>rfl);exact EvF.indexArray (i:=m) (off:=0 + i * 24) (b:=b15) (T:=102) (e:=35) (len:=12) rfl rfl rfl (te rfl) (te rfl) (by omega) (by omega)))|(exact ObK.pure (fun env S hS=>⟨_,uL rfl rfl (uO (te rfl) rfl (hS _ (qH _)) hslo),rfl⟩) rfl (fun _=>rfl))|(exact ObK.pure (fun env S hS=>⟨_,uL rfl rfl (uO (te rfl) rfl (hS _ (qH _)) hshi),rfl⟩) rfl (fun _=>rfl))|(exact ObK.pure (fun env S hS=>⟨_,EvF.build (cs:=cSp ⟨s.lo - v,s.hi - v⟩) rfl (ArgsP.cons rfl (ArgsP.cons rfl ArgsP.nil)) (te rfl) (Places.cons (te rfl) (Places.cons (te rfl) Places.nil)) Try.zeroValue35 rfl,rfl⟩) rfl (fun _=>rfl))|(exact fun env S hS=>(StF.alloc rfl Try.zeroValue35 rfl).op.mono (fun v H' ⟨b,hv,hH⟩=>⟨(b,0),fun _=>hv,by rw [hH];exact List.Perm.refl _⟩))|(exact fun env S hS=>(StF.storeAll (i:=0) (vs:=cSp ⟨s.lo - v,s.hi - v⟩) (cs:=cSp ⟨0,0⟩) rfl rfl rfl (te rfl) rfl rfl rfl rfl).op.mono (fun v H' ⟨hv,hH⟩=>⟨(0,0),fun h=>absurd rfl h,by rw [hH];exact List.Perm.refl _⟩))|(exact ObK.pure (fun env S hS=>⟨_,EvF.sub64 rfl rfl rfl (by omega) (by omega),rfl⟩) rfl (fun _=>rfl)))))))
  intro env t ha2 hv;refine ⟨_,ha2.cons (hv 17 17 (Nat.le_of_ble_eq_true rfl) rfl),?_⟩;clear hv ha2
  show X _ _ _ [(17,.pointer (some ⟨(env 17).1,0,none⟩)),(2,.int .i64 i),(3,.int .i64 k),(4,.int .i64 m),(5,.pointer (some ⟨b5,0,none⟩)),(6,.pointer (some ⟨b6,0,none⟩)),(10,.pointer (some ⟨b10,0,none⟩)),(11,.pointer (some ⟨b11,0,none⟩)),(12,.bool any),(13,.int .i64 v),(14,.pointer (some ⟨bp,0,none⟩)),(15,.pointer (some ⟨b15,0,none⟩))] (⟨(env 17).1,0,cSp ⟨s.lo - v,s.hi - v⟩,some 35,2⟩::⟨b15,0,x.1.flatMap cSp,some 104,96⟩::⟨bp,0,(pin c (k * 12 + m.toNat) v).flatMap cSp,some 104,96⟩::⟨b11,0,cSp out,some 35,2⟩::⟨b10,0,cSp ⟨0,0⟩,some 35,2⟩::⟨b6,0,c.flatMap cSp,some 104,96⟩::⟨b5,0,cRm R p,some 26,5⟩::H) _
  generalize (env 17).1 = b17
  clear env
  cases any with
  | false =>
   repeat' (first | (refine uP rfl ?_;(first | ((first | refine uN rfl ?_);(first | (refine uE (uM rfl rfl) rfl rfl ?_)|(refine uE (uA rfl rfl) rfl rfl ?_)|(refine uE (EvF.add64 rfl rfl rfl (by omega) (by omega)) rfl rfl ?_)|(refine uE (uL rfl rfl (uW (te rfl) rfl (qH _) rfl)) rfl rfl ?_)|(refine Xg.st0 (StF.storeAll (i:=3) rfl rfl rfl (te rfl) rfl rfl rfl rfl) rfl ?_;rintro _ _ ⟨rfl,rfl⟩;dsimp only [List.set])))))|(refine uD rfl ?_;refine hK _ _ ?_;clear hK K) | refine uS rfl ?_ | refine uR rfl (fun K hK=>?_) | refine X.skip rfl ?_ | (refine X.ite rfl rfl (fun hc=>?_);(first | (with_reducible refine Xb.f hc ?_)) <;> clear hc))
   all_goals try (exfalso;contradiction)
   exact ⟨_,_,⟨b11,0,cSp ⟨s.lo - v,s.hi - v⟩,some 35,2⟩::⟨b10,0,cSp ⟨0,0⟩,some 35,2⟩::⟨b6,0,c.flatMap cSp,some 104,96⟩::⟨b5,0,cRm R p,some 26,5⟩::H,(by repeat (first | exact uU _ | refine uV rfl ?_)),(by repeat (first | exact qR _ | apply qK | apply qC)),⟨v + 1,_,true,rfl,by omega,by omega,by simpa using hadd,rfl,rfl⟩,by omega⟩
  | true =>
   repeat' (first | (refine uP rfl ?_;(first | ((first | refine uN rfl ?_);(first | (refine uE (EvF.min64 rfl rfl rfl) rfl rfl ?_)|(refine uE (EvF.max64 rfl rfl rfl) rfl rfl ?_)|(refine uE (EvF.build (cs:=cSp ⟨min (s.lo - v) out.lo,max (s.hi - v) out.hi⟩) rfl (ArgsP.cons rfl (ArgsP.cons rfl ArgsP.nil)) (te rfl) (Places.cons (te rfl) (Places.cons (te rfl) Places.nil)) Try.zeroValue35 rfl) rfl rfl ?_)|(refine uE (uM rfl rfl) rfl rfl ?_)|(refine uE (uA rfl rfl) rfl rfl ?_)|(refine uE (EvF.add64 rfl rfl rfl (by omega) (by omega)) rfl rfl ?_)|(refine uE (uF rfl rfl (te rfl) rfl (te rfl) (by decide)) rfl rfl ?_)|(refine uE (uL rfl rfl (uO (te rfl) rfl (qH _) rfl)) rfl rfl ?_)|(refine uE (uL rfl rfl (uO (te rfl) rfl (qT _ (qT _ (qT _ (qH _)))) rfl)) rfl rfl ?_)|(refine uE (uL rfl rfl (uW (te rfl) rfl (qH _) rfl)) rfl rfl ?_)|(refine Xg.st0 (StF.storeAll (i:=0) rfl rfl rfl (te rfl) rfl rfl rfl rfl) rfl ?_;rintro _ _ ⟨rfl,rfl⟩;dsimp only [List.set])|(refine Xg.st0 (StF.storeAll (i:=3) rfl rfl rfl (te rfl) rfl rfl rfl rfl) rfl ?_;rintro _ _ ⟨rfl,rfl⟩;dsimp only [List.set])))))|(refine uD rfl ?_;refine hK _ _ ?_;clear hK K) | refine uS rfl ?_ | refine uR rfl (fun K hK=>?_)|(refine X.ite rfl rfl (fun hc=>?_);(first | (with_reducible refine Xb.t hc ?_)) <;> clear hc))
   all_goals try (exfalso;contradiction)
   exact ⟨_,_,⟨b11,0,cSp ⟨min (s.lo - v) out.lo,max (s.hi - v) out.hi⟩,some 35,2⟩::⟨b10,0,cSp ⟨0,0⟩,some 35,2⟩::⟨b6,0,c.flatMap cSp,some 104,96⟩::⟨b5,0,cRm R p,some 26,5⟩::H,(by repeat (first | exact uU _ | refine uV rfl ?_)),(by repeat (first | exact qR _ | apply qK | apply qC)),⟨v + 1,_,true,rfl,by omega,by omega,by simpa using hadd,rfl,rfl⟩,by omega⟩
 ·have hex:=hAc.ex hA.hT (fun z hz=>by
   have:=hA.good.inn z hz b m htb
   rw [cb, ← ht] at this
   unfold holds at this
   omega)
  refine ret_one (v := .agg (cSp out).toArray) (by simp) Try.results60 ⟨_,rfl,uW (te rfl) rfl (by repeat (first | exact qH _ | apply qT)) rfl⟩ (H' := H) (by repeat (first | exact qR _ | apply qK | apply qC)) ⟨?_,rfl⟩
  rw [rng_eq hex]
end Go.Proofs.Ytmfppdpkalelhaa
end
section
set_option linter.unusedVariables false
set_option linter.unusedSimpArgs false
namespace Go.Proofs.Ytmfppdpkalelhaa
open Go Go.Fw
set_option maxRecDepth 10000
def tsDh : List TOp:=[⟨some 29,[],[],[]⟩,⟨some 30,[],[],[]⟩,⟨some 31,[],[],[]⟩,⟨some 32,[],[],[]⟩,⟨some 33,[2,3],[2,3],[]⟩,⟨some 34,[],[],[]⟩,⟨some 35,[],[],[]⟩,⟨some 36,[2,3,4,5,6],[5,6],[]⟩,⟨some 37,[],[],[]⟩,⟨some 38,[0,1,2,3,4,5,6,7,8],[0,1,4,7,8],[]⟩,⟨none,[0,1,2,3,4,5,6,7,8,9],[9],[12]⟩,⟨some 9,[0,1,2,3,4,5,6,7,8,9,10],[],[]⟩,⟨none,[],[],[]⟩]
def valDh (b4 b8 b10 ia ib : Nat) (R : Rm) (p : Pl) (c : List Sp) (x y m : Int) (s : Sp) (k : Nat) (env : Env) : Value :=
 match k with
 | 0 => .agg (cRm R p).toArray
 | 1 => .agg (c.flatMap cSp).toArray
 | 2 => .agg (cRm R p).toArray
 | 3 => .int .i64 x
 | 4 => .int .i64 (ia : Nat)
 | 5 => .agg (cRm R p).toArray
 | 6 => .int .i64 y
 | 7 => .int .i64 (ib : Nat)
 | 8 => .int .i64 m
 | 9 => .agg (cSp s).toArray
 | 10=>undef
 | 11 => .int .i64 0
 | _=>undef
def rowsDh (b4 b8 b10 ia ib : Nat) (R : Rm) (p : Pl) (c : List Sp) (x y m : Int) (s : Sp) (k : Nat) (env : Env) : List Row :=
 match k with
 | 10=>[⟨b8,0,cSp s,some 35,2⟩]
 | 12=>[⟨b8,0,cSp ⟨0,0⟩,some 35,2⟩]
 | _=>[]
theorem locDh (b4 b8 b10 ia ib : Nat) (R : Rm) (p : Pl) (c : List Sp) (x y m : Int) (s : Sp) : ∀ k env i q9,i ≠ k → (tAt tsDh k).sup.contains i = false → valDh b4 b8 b10 ia ib R p c x y m s k (upd env i q9)=valDh b4 b8 b10 ia ib R p c x y m s k env∧rowsDh b4 b8 b10 ia ib R p c x y m s k (upd env i q9)=rowsDh b4 b8 b10 ia ib R p c x y m s k env:=by
 intro k env i q hk hs
 have hu : ∀ j,j ≠ i → upd env i q j = env j:=fun j hj=>by unfold upd;rw [if_neg hj]
 match k,hk,hs with
 | 0,_,_=>exact ⟨rfl,rfl⟩
 | 1,_,_=>exact ⟨rfl,rfl⟩
 | 2,_,_=>exact ⟨rfl,rfl⟩
 | 3,_,_=>exact ⟨rfl,rfl⟩
 | 4,_,_=>exact ⟨rfl,rfl⟩
 | 5,_,_=>exact ⟨rfl,rfl⟩
 | 6,_,_=>exact ⟨rfl,rfl⟩
 | 7,_,_=>exact ⟨rfl,rfl⟩
 | 8,_,_=>exact ⟨rfl,rfl⟩
 | 9,_,_=>exact ⟨rfl,rfl⟩
 | 10,_,_=>exact ⟨rfl,rfl⟩
 | 11,_,_=>exact ⟨rfl,rfl⟩
 | 12,_,_=>exact ⟨rfl,rfl⟩
 | _ + 13,_,_=>exact ⟨rfl,rfl⟩
set_option maxHeartbeats 4000000 in
theorem rDiffer_spec (R : Rm) (p : Pl) (a b m : Int) (H : List Row) (hR : RmOk H R p) : Fc Try.prog 20 [.agg (cRm R p).toArray,.int .i64 a,.int .i64 b,.int .i64 m] H (fun v H' => v = .tuple #[.agg (cSp (difF R a b m).1).toArray,.int .i64 (difF R a b m).2]∧H' = H):=by
 obtain ⟨e,he⟩ : ∃ e,openE R [a,b] [m] = e:=⟨_,rfl⟩
 have has : ∀ (H' : List Row) (b1 : Nat),RmOk H' R p → ⟨b1,0,[.int .i64 a,.int .i64 b],some 3,2 * 1⟩ ∈ H' → Fc Try.prog 57 [.agg (cRm R p).toArray,.slice (some ⟨b1,0,none⟩) 2 2,.int .i64 m] H' (fun v H'' => ∃ c,c.length = 48∧(e = 0 → As R 0 c)∧v = .tuple #[.agg (c.flatMap cSp).toArray,.int .i64 e]∧H'' = H'):=fun H' b1 q1 q2=>by
  have:=rAsked_spec R p [a,b] (some ⟨b1,0,none⟩) 2 m H' q1 (SlE.ofRow (l:=[a,b]) q2 (fun _ _=>rfl)) (Nat.le_of_ble_eq_true rfl)
  rw [he] at this
  exact this
 by_cases h0 : e = 0
 ·subst h0
  obtain ⟨hok,_,_,hT⟩:=openE_ok he
  have hr:=hok.ok
  have hb4:=hr.b4
  have hlm : R.mats.length ≤ 100:=by have:=hok.1.2.2.2.2.2.2;omega
  obtain ⟨xa,ia,hta,rfl,hia,hixa,hila,hm0,hm1,hca⟩:=there_ix hr he (show a ∈ [a,b] from List.mem_cons_self)
  obtain ⟨xb,ib,htb,rfl,hib,hixb,hilb,_,_,hcb⟩:=there_ix hr he (show b ∈ [xa.id,b] from List.mem_cons_of_mem _ List.mem_cons_self)
  have hixsa:=fun H' hH' => index_spec R p xa.id H' hH'
  have hixsb:=fun H' hH' => index_spec R p xb.id H' hH'
  rw [hixa] at hixsa
  rw [hixb] at hixsb
  obtain ⟨r,hr9⟩ : ∃ r,r = difF R xa.id xb.id m:=⟨_,rfl⟩
  rw [← hr9]
  unfold difF at hr9
  rw [if_pos he] at hr9
  refine Fc.mk (callable Try.call20) Try.func20 rfl Try.ntmps20 rfl ?_;dsimp only [fr]
  repeat' (first | (refine uP rfl ?_;(first | ((first | refine uN rfl ?_);(first | (refine Xg.st (StF.buildTwo rfl el55 rfl rfl rfl rfl rfl rfl (by decide) (by decide)) rfl rfl ?_;rintro _ _ ⟨b1,rfl,rfl⟩)|(refine uE (uL rfl rfl (uW (T:=26) (cs:=cRm R p) (te rfl) rfl (by repeat (first | exact qH _ | apply qT)) rfl)) rfl rfl ?_)|(refine uC (uT rfl (by (repeat (first | exact Args.nil | refine Args.cons rfl ?_));done)) rfl rfl (has _ b1 (hR.sub (fun _ h=>by repeat (first | exact h | apply qT))) (qH _)) ?_;rintro _ _ ⟨c,hc,hA,rfl,rfl⟩)|(refine uE (uX rfl rfl rfl) rfl rfl ?_)|(refine Xg.st (StF.alloc rfl Try.zeroValue104 rfl) rfl rfl ?_;rintro _ _ ⟨b10,rfl,rfl⟩)|(refine Xg.st0 (StF.storeAll (i:=0) (vs:=c.flatMap cSp) (cs:=zRc.flatMap cSp) rfl rfl rfl (te rfl) rfl (sp_len96 hc) (sp_one _) (by rw [sp_len96 hc,sp_len];rfl)) rfl ?_;rintro _ _ ⟨rfl,rfl⟩;dsimp only [List.set])|(refine uE (EvF.build (cs:=cSp ⟨0,0⟩) rfl ArgsP.nil (te rfl) (Places.cons (te rfl) (Places.cons (te rfl) Places.nil)) Try.zeroValue35 rfl) rfl rfl ?_)|(refine uE (uM rfl rfl) rfl rfl ?_)|(refine uE (uA rfl rfl) rfl rfl ?_)|(refine uE (uQ rfl rfl rfl rfl) rfl rfl ?_)|(refine Xg.st (StF.boxAgg rfl rfl) rfl rfl ?_;rintro _ _ ⟨bx,rfl,rfl⟩)|(refine Xg.st (StF.alloc rfl Try.zeroValue35 rfl) rfl rfl ?_;rintro _ _ ⟨bx,rfl,rfl⟩)|(refine Xg.st0 (StF.storeAll (i:=2) rfl rfl rfl (te rfl) rfl rfl rfl rfl) rfl ?_;rintro _ _ ⟨rfl,rfl⟩;dsimp only [List.set])))))|(refine uD rfl ?_;refine hK _ _ ?_;clear hK K) | refine uS rfl ?_ | refine uR rfl (fun K hK=>?_) | refine X.skip rfl ?_ | refine X.ret rfl ?_ | (refine X.ite rfl rfl (fun hc=>?_);(first | (with_reducible refine Xb.case hc (fun h=>?_) (fun h=>?_))|(with_reducible refine Xb.caseN hc (fun h=>?_) (fun h=>?_))) <;> clear hc))
  all_goals try (exfalso;omega)
  ·rw [if_pos (by assumption)] at hr9
   subst hr9
   exact ret_two (v := .agg (cSp ⟨0,0⟩).toArray) (by simp) Try.results20 ⟨_,rfl,uW (te rfl) rfl (by repeat (first | exact qH _ | apply qT)) rfl⟩ rfl (H' := H) (by repeat (first | exact qR _ | apply qK | apply qC)) ⟨rfl,rfl⟩
  ·rw [if_neg (by assumption)] at hr9
   subst hr9
   rename_i b4 h9
   generalize bx = b8
   refine X.weakR (H' := ⟨b10,0,c.flatMap cSp,some 104,96⟩::⟨b8,0,cSp ⟨0,0⟩,some 35,2⟩::⟨b4,0,cRm R p,some 26,5⟩::H) (qK _ (qC _ (qR _))) ?_
   refine X.permH (H' := ⟨b8,0,cSp ⟨0,0⟩,some 35,2⟩::⟨b10,0,c.flatMap cSp,some 104,96⟩::⟨b4,0,cRm R p,some 26,5⟩::H) (List.Perm.swap _ _ _) ?_
   have hcl:=sp_len96 hc
   have hRs : ∀ S : List Row,(∀ r ∈ ⟨b10,0,c.flatMap cSp,some 104,96⟩::⟨b4,0,cRm R p,some 26,5⟩::H,r ∈ S) → RmOk S R p:=fun S hS=>hR.sub (fun r h=>hS r (List.mem_append_right [_,_] h))
   obtain ⟨s,hs⟩ : ∃ s,s = rng R R.mats ⟨xa.id,m⟩ ⟨xb.id,m⟩:=⟨_,rfl⟩
   have hds:=fun S hS=>rdiffer_spec R p c xa xb ia ib m S hr hS hok.mats hlm hc (hA rfl) hta htb hia hib
   rw [← hs] at hds ⊢
   refine X.regionOb tsDh [1,2,3,4,8,10] [(1,.int .i64 xa.id),(2,.int .i64 xb.id),(3,.int .i64 m),(4,.pointer (some ⟨b4,0,none⟩)),(8,.pointer (some ⟨b8,0,none⟩)),(10,.pointer (some ⟨b10,0,none⟩))] (valDh b4 b8 b10 ia ib R p c xa.id xb.id m s) (rowsDh b4 b8 b10 ia ib R p c xa.id xb.id m s) (fun _=>(0,0)) (⟨b10,0,c.flatMap cSp,some 104,96⟩::⟨b4,0,cRm R p,some 26,5⟩::H) rfl mixed (by repeat (first | exact uU _ | refine uV rfl ?_)) rfl (by kernel_rfl) (locDh b4 b8 b10 ia ib R p c xa.id xb.id m s) (qR _) ?_ ?_
   ·repeat' (first | exact AllF.done rfl | (refine AllF.step rfl ?_ ?_;·(first | fail | ((first | refine Ob.ng rfl ?_);(first | exact ObK.pure (fun env R hR=>by exact ⟨_,uM rfl rfl,rfl⟩) rfl (fun _=>rfl) | exact ObK.pure (fun env R hR=>by exact ⟨_,uA rfl rfl,rfl⟩) rfl (fun _=>rfl) | exact ObK.pure (fun env R hR=>by exact ⟨_,uL rfl rfl (uW (te rfl) rfl (hR _ (qT _ (qH _))) rfl),rfl⟩) rfl (fun _=>rfl)|(exact ObK.pure (fun env S hS=>⟨_,uL rfl rfl (uW (T:=104) (cs:=c.flatMap cSp) (te rfl) rfl (hS _ (qH _)) hcl),rfl⟩) rfl (fun _=>rfl))|(exact fun env S hS=>OpF.callV (Z:=[]) (uT rfl (Args.cons rfl (Args.cons rfl Args.nil))) (hixsa _ (hRs _ hS)) rfl rfl)|(exact fun env S hS=>OpF.callV (Z:=[]) (uT rfl (Args.cons rfl (Args.cons rfl Args.nil))) (hixsb _ (hRs _ hS)) rfl rfl)|(exact fun env S hS=>OpF.callV (Z:=[]) (uT rfl (Args.cons rfl (Args.cons rfl (Args.cons rfl (Args.cons rfl (Args.cons rfl Args.nil)))))) (hds _ (hRs _ hS)) rfl rfl)|(exact fun env S hS=>(StF.storeAll (i:=0) (vs:=cSp s) (cs:=cSp ⟨0,0⟩) rfl rfl rfl (te rfl) rfl rfl rfl rfl).op.mono (fun v H' ⟨hv,hH⟩=>⟨(0,0),fun h=>absurd rfl h,by rw [hH];exact List.Perm.refl _⟩)))))))
   intro env t ha2 hv;refine ⟨_,ha2.cons (hv 11 9 (Nat.le_of_ble_eq_true rfl) rfl),?_⟩;clear hv ha2
   show X _ _ _ [(9,.int .i64 0),(1,.int .i64 xa.id),(2,.int .i64 xb.id),(3,.int .i64 m),(4,.pointer (some ⟨b4,0,none⟩)),(8,.pointer (some ⟨b8,0,none⟩)),(10,.pointer (some ⟨b10,0,none⟩))] (⟨b8,0,cSp s,some 35,2⟩::⟨b10,0,c.flatMap cSp,some 104,96⟩::⟨b4,0,cRm R p,some 26,5⟩::H) _
   clear env
   repeat' (first | refine X.ret rfl ?_)
   exact ret_two (v := .agg (cSp s).toArray) (by simp) Try.results20 ⟨_,rfl,uW (te rfl) rfl (qH _) rfl⟩ rfl (H' := H) (by repeat (first | exact qR _ | apply qK | apply qC)) ⟨rfl,rfl⟩
 ·have hy : difF R a b m = (⟨0,0⟩,e):=by unfold difF;rw [if_neg (by rw [he];exact h0),he]
  rw [hy]
  refine Fc.mk (callable Try.call20) Try.func20 rfl Try.ntmps20 rfl ?_;dsimp only [fr]
  repeat' (first | (refine uP rfl ?_;(first | ((first | refine uN rfl ?_);(first | (refine Xg.st (StF.buildTwo rfl el55 rfl rfl rfl rfl rfl rfl (by decide) (by decide)) rfl rfl ?_;rintro _ _ ⟨b1,rfl,rfl⟩)|(refine uE (uL rfl rfl (uW (T:=26) (cs:=cRm R p) (te rfl) rfl (by repeat (first | exact qH _ | apply qT)) rfl)) rfl rfl ?_)|(refine uC (uT rfl (by (repeat (first | exact Args.nil | refine Args.cons rfl ?_));done)) rfl rfl (has _ b1 (hR.sub (fun _ h=>by repeat (first | exact h | apply qT))) (qH _)) ?_;rintro _ _ ⟨c,hc,hA,rfl,rfl⟩)|(refine uE (uX rfl rfl rfl) rfl rfl ?_)|(refine Xg.st (StF.alloc rfl Try.zeroValue104 rfl) rfl rfl ?_;rintro _ _ ⟨b8,rfl,rfl⟩)|(refine Xg.st0 (StF.storeAll (i:=0) (vs:=c.flatMap cSp) (cs:=zRc.flatMap cSp) rfl rfl rfl (te rfl) rfl (sp_len96 hc) (sp_one _) (by rw [sp_len96 hc,sp_len];rfl)) rfl ?_;rintro _ _ ⟨rfl,rfl⟩;dsimp only [List.set])|(refine uE (EvF.build (cs:=cSp ⟨0,0⟩) rfl ArgsP.nil (te rfl) (Places.cons (te rfl) (Places.cons (te rfl) Places.nil)) Try.zeroValue35 rfl) rfl rfl ?_)|(refine uE (uM rfl rfl) rfl rfl ?_)|(refine uE (uA rfl rfl) rfl rfl ?_)|(refine uE (uQ rfl rfl rfl rfl) rfl rfl ?_)|(refine Xg.st (StF.boxAgg rfl rfl) rfl rfl ?_;rintro _ _ ⟨bx,rfl,rfl⟩)|(refine Xg.st (StF.alloc rfl Try.zeroValue35 rfl) rfl rfl ?_;rintro _ _ ⟨bx,rfl,rfl⟩)|(refine Xg.st0 (StF.storeAll (i:=2) rfl rfl rfl (te rfl) rfl rfl rfl rfl) rfl ?_;rintro _ _ ⟨rfl,rfl⟩;dsimp only [List.set])))))|(refine uD rfl ?_;refine hK _ _ ?_;clear hK K)|(refine XQ.op rfl ?_;(first | ((first | refine Yo.ng rfl ?_);(first | (refine Yg.ev (uL rfl rfl (uW (T:=26) (cs:=cRm R p) (te rfl) rfl (by repeat (first | exact qH _ | apply qT)) rfl)) rfl rfl ?_))))) | refine uS rfl ?_ | refine uR rfl (fun K hK=>?_) | refine X.regionD rfl mixed (by kernel_rfl) (fun K hK=>?_) | refine X.skip rfl ?_ | refine X.ret rfl ?_ | (refine X.ite rfl rfl (fun hc=>?_);(first | (with_reducible refine Xb.case hc (fun h=>?_) (fun h=>?_))|(with_reducible refine Xb.caseN hc (fun h=>?_) (fun h=>?_))) <;> clear hc))
  all_goals try (exfalso;simp_all;done)
  exact ret_two (v := .agg (cSp ⟨0,0⟩).toArray) (by simp) Try.results20 ⟨_,rfl,uW (te rfl) rfl (by repeat (first | exact qH _ | apply qT)) rfl⟩ rfl (H' := H) (by repeat (first | exact qR _ | apply qK | apply qC)) ⟨rfl,rfl⟩
end Go.Proofs.Ytmfppdpkalelhaa
end
section
set_option linter.unusedVariables false
set_option linter.unusedSimpArgs false
namespace Go.Proofs.Ytmfppdpkalelhaa
open Go Go.Fw
set_option maxRecDepth 10000
def knb (so no : Bool) : Int:=if no then (if so then 1 else 0) else 2
theorem lKnown_spec (so no : Bool) (H : List Row) : Fc Try.prog 64 [.bool so,.bool no] H (fun v H' => v = .int .u8 (knb so no)∧H' = H):=by
 cases so <;> cases no
 all_goals (refine Fc.mk (callable Try.call64) Try.func64 rfl Try.ntmps64 rfl ?_;dsimp only [fr])
 all_goals (repeat' (first | (refine uP rfl ?_;(first | ((first | refine uN rfl ?_);(first | (refine uE (uM rfl rfl) rfl rfl ?_)|(refine uE (uA rfl rfl) rfl rfl ?_)|(refine uE (uQ rfl rfl rfl rfl) rfl rfl ?_)|(refine uE (EvF.not rfl rfl) rfl rfl ?_)|(refine uE (uF rfl rfl (te rfl) rfl (te rfl) (by decide)) rfl rfl ?_)|(refine uE (uL rfl rfl (uO (te rfl) rfl (qH _) rfl)) rfl rfl ?_)|(refine Xg.st (StF.boxAgg rfl rfl) rfl rfl ?_;rintro _ _ ⟨bx,rfl,rfl⟩)))))|(refine uD rfl ?_;refine hK _ _ ?_;clear hK K) | refine uS rfl ?_ | refine uR rfl (fun K hK=>?_) | refine X.block rfl ?_ | refine X.skip rfl ?_ | refine X.ret rfl ?_ | (refine X.ite rfl rfl (fun hc=>?_);(first | (with_reducible refine Xb.case hc (fun h=>?_) (fun h=>?_))|(with_reducible refine Xb.caseB hc (fun h=>?_) (fun h=>?_))) <;> clear hc)))
 all_goals try (exfalso;contradiction)
 all_goals (refine ret_one (by simp) Try.results64 rfl (H' := H) (by repeat (first | exact qR _ | apply qK | apply qC)) ⟨rfl,rfl⟩)
def toldF (s : Sp) (n : Int) : Int:=if n ≤ s.lo then 2 else if n ≤ s.hi then 1 else 0
theorem knb_told (s : Sp) (n : Int) : knb (decide (n ≤ s.hi)) (decide (s.lo < n)) = toldF s n:=by
 unfold knb toldF
 by_cases h : n ≤ s.lo
 ·rw [if_pos h,decide_eq_false (by omega)];rfl
 ·rw [if_neg h,decide_eq_true (show s.lo < n by omega)]
  simp
def knP (y : Sp × Int) (n : Int) : Int × Int:=if y.2 = 0 then (toldF y.1 n,0) else (0,y.2)
theorem told_spec (s : Sp) (n : Int) (H : List Row) : Fc Try.prog 65 [.agg (cSp s).toArray,.int .i64 n] H (fun v H' => v = .int .u8 (toldF s n)∧H' = H):=by
 obtain ⟨t,ht⟩ : ∃ t,t = toldF s n:=⟨_,rfl⟩
 rw [← ht]
 unfold toldF at ht
 refine Fc.mk (callable Try.call65) Try.func65 rfl Try.ntmps65 rfl ?_;dsimp only [fr]
 repeat' (first | (refine uP rfl ?_;(first | ((first | refine uN rfl ?_);(first | (refine uE (uM rfl rfl) rfl rfl ?_)|(refine uE (uA rfl rfl) rfl rfl ?_)|(refine uE (uQ rfl rfl rfl rfl) rfl rfl ?_)|(refine uE (EvF.not rfl rfl) rfl rfl ?_)|(refine uE (uF rfl rfl (te rfl) rfl (te rfl) (by decide)) rfl rfl ?_)|(refine uE (uL rfl rfl (uO (te rfl) rfl (qH _) rfl)) rfl rfl ?_)|(refine Xg.st (StF.boxAgg rfl rfl) rfl rfl ?_;rintro _ _ ⟨bx,rfl,rfl⟩)))))|(refine uD rfl ?_;refine hK _ _ ?_;clear hK K) | refine uS rfl ?_ | refine uR rfl (fun K hK=>?_) | refine X.block rfl ?_ | refine X.skip rfl ?_ | refine X.ret rfl ?_ | (refine X.ite rfl rfl (fun hc=>?_);(first | (with_reducible refine Xb.case hc (fun h=>?_) (fun h=>?_))|(with_reducible refine Xb.caseB hc (fun h=>?_) (fun h=>?_))) <;> clear hc))
 all_goals (first | rw [if_pos (by omega)] at ht | (rw [if_neg (by omega)] at ht;first | rw [if_pos (by omega)] at ht | rw [if_neg (by omega)] at ht))
 all_goals subst ht
 all_goals (refine ret_one (by simp) Try.results65 rfl (H' := H) (by repeat (first | exact qR _ | apply qK | apply qC)) ⟨rfl,rfl⟩)
set_option maxHeartbeats 4000000 in
theorem kKnown_spec (R : Rm) (p : Pl) (a m n : Int) (H : List Row) (hR : RmOk H R p) (h2 : R.boxes.length ≤ 1000000) : Fc Try.prog 24 [.agg (cRm R p).toArray,.int .i64 a,.int .i64 m,.int .i64 n] H (fun v H' => v = .tuple #[.int .u8 (knP (yelF R a m) n).1,.int .i64 (knP (yelF R a m) n).2]∧H' = H):=by
 obtain ⟨⟨ys,ye⟩,hy⟩ : ∃ y,y = yelF R a m:=⟨_,rfl⟩
 have kyel:=fun p' H' (h : RmOk H' R p')=>kYellow_spec R p' a m H' h h2
 rw [← hy] at kyel ⊢
 clear hy
 refine Fc.mk (callable Try.call24) Try.func24 rfl Try.ntmps24 rfl ?_;dsimp only [fr]
 repeat' (first | (refine uP rfl ?_;(first | ((first | refine uN rfl ?_);(first | (refine uE (uL rfl rfl (uW (T:=26) (cs:=cRm R p) (te rfl) rfl (by repeat (first | exact qH _ | apply qT)) rfl)) rfl rfl ?_)|(refine uC (uT rfl (by (repeat (first | exact Args.nil | refine Args.cons rfl ?_));done)) rfl rfl (kyel _ _ (hR.sub (fun _ h=>by repeat (first | exact h | apply qT)))) ?_;rintro _ H9 ⟨rfl,hH9⟩;subst H9)|(refine uC (uT rfl (by (repeat (first | exact Args.nil | refine Args.cons rfl ?_));done)) rfl rfl (lKnown_spec _ _ _) ?_;rintro _ H9 ⟨rfl,hH9⟩;subst H9)|(refine uE (uX rfl rfl rfl) rfl rfl ?_)|(refine uE (uM rfl rfl) rfl rfl ?_)|(refine uE (uA rfl rfl) rfl rfl ?_)|(refine uE (uQ rfl rfl rfl rfl) rfl rfl ?_)|(refine uE (uF rfl rfl (te rfl) rfl (te rfl) (by decide)) rfl rfl ?_)|(refine uE (uL rfl rfl (uO (te rfl) rfl (qH _) rfl)) rfl rfl ?_)|(refine Xg.st (StF.boxAgg rfl rfl) rfl rfl ?_;rintro _ _ ⟨bx,rfl,rfl⟩)|(refine Xg.st (StF.alloc rfl Try.zeroValue35 rfl) rfl rfl ?_;rintro _ _ ⟨bx,rfl,rfl⟩)|(refine Xg.st0 (StF.storeAll (i:=0) rfl rfl rfl (te rfl) rfl rfl rfl rfl) rfl ?_;rintro _ _ ⟨rfl,rfl⟩;dsimp only [List.set])))))|(refine uD rfl ?_;refine hK _ _ ?_;clear hK K) | refine uS rfl ?_ | refine uR rfl (fun K hK=>?_) | refine X.skip rfl ?_ | refine X.ret rfl ?_ | (refine X.ite rfl rfl (fun hc=>?_);(first | (with_reducible refine Xb.caseN hc (fun h=>?_) (fun h=>?_))) <;> clear hc))
 ·refine ret_two (by simp) Try.results24 rfl rfl (H' := H) (by repeat (first | exact qR _ | apply qK | apply qC)) ⟨?_,rfl⟩
  unfold knP
  rw [if_neg (by assumption)]
 ·refine ret_two (by simp) Try.results24 rfl rfl (H' := H) (by repeat (first | exact qR _ | apply qK | apply qC)) ⟨?_,rfl⟩
  unfold knP
  rw [if_pos (by assumption), ← knb_told]
set_option maxHeartbeats 4000000 in
theorem kOrder_spec (R : Rm) (p : Pl) (a b m : Int) (H : List Row) (hR : RmOk H R p) (h2 : R.boxes.length ≤ 1000000) : Fc Try.prog 26 [.agg (cRm R p).toArray,.int .i64 a,.int .i64 b,.int .i64 m] H (fun v H' => v = .tuple #[.int .u8 (knP (difF R a b m) 0).1,.int .i64 (knP (difF R a b m) 0).2]∧H' = H):=by
 obtain ⟨⟨ys,ye⟩,hy⟩ : ∃ y,y = difF R a b m:=⟨_,rfl⟩
 have kyel:=fun p' H' (h : RmOk H' R p')=>kDiffer_spec R p' a b m H' h h2
 rw [← hy] at kyel ⊢
 clear hy
 refine Fc.mk (callable Try.call26) Try.func26 rfl Try.ntmps26 rfl ?_;dsimp only [fr]
 repeat' (first | (refine uP rfl ?_;(first | ((first | refine uN rfl ?_);(first | (refine uE (uL rfl rfl (uW (T:=26) (cs:=cRm R p) (te rfl) rfl (by repeat (first | exact qH _ | apply qT)) rfl)) rfl rfl ?_)|(refine uC (uT rfl (by (repeat (first | exact Args.nil | refine Args.cons rfl ?_));done)) rfl rfl (kyel _ _ (hR.sub (fun _ h=>by repeat (first | exact h | apply qT)))) ?_;rintro _ H9 ⟨rfl,hH9⟩;subst H9)|(refine uC (uT rfl (by (repeat (first | exact Args.nil | refine Args.cons rfl ?_));done)) rfl rfl (lKnown_spec _ _ _) ?_;rintro _ H9 ⟨rfl,hH9⟩;subst H9)|(refine uE (uX rfl rfl rfl) rfl rfl ?_)|(refine uE (uM rfl rfl) rfl rfl ?_)|(refine uE (uA rfl rfl) rfl rfl ?_)|(refine uE (uQ rfl rfl rfl rfl) rfl rfl ?_)|(refine uE (uF rfl rfl (te rfl) rfl (te rfl) (by decide)) rfl rfl ?_)|(refine uE (uL rfl rfl (uO (te rfl) rfl (qH _) rfl)) rfl rfl ?_)|(refine Xg.st (StF.boxAgg rfl rfl) rfl rfl ?_;rintro _ _ ⟨bx,rfl,rfl⟩)|(refine Xg.st (StF.alloc rfl Try.zeroValue35 rfl) rfl rfl ?_;rintro _ _ ⟨bx,rfl,rfl⟩)|(refine Xg.st0 (StF.storeAll (i:=0) rfl rfl rfl (te rfl) rfl rfl rfl rfl) rfl ?_;rintro _ _ ⟨rfl,rfl⟩;dsimp only [List.set])))))|(refine uD rfl ?_;refine hK _ _ ?_;clear hK K) | refine uS rfl ?_ | refine uR rfl (fun K hK=>?_) | refine X.skip rfl ?_ | refine X.ret rfl ?_ | (refine X.ite rfl rfl (fun hc=>?_);(first | (with_reducible refine Xb.caseN hc (fun h=>?_) (fun h=>?_))) <;> clear hc))
 ·refine ret_two (by simp) Try.results26 rfl rfl (H' := H) (by repeat (first | exact qR _ | apply qK | apply qC)) ⟨?_,rfl⟩
  unfold knP
  rw [if_neg (by assumption)]
 ·refine ret_two (by simp) Try.results26 rfl rfl (H' := H) (by repeat (first | exact qR _ | apply qK | apply qC)) ⟨?_,rfl⟩
  unfold knP
  rw [if_pos (by assumption), ← knb_told]
set_option maxHeartbeats 4000000 in
theorem rKnown_spec (R : Rm) (p : Pl) (a m n : Int) (H : List Row) (hR : RmOk H R p) : Fc Try.prog 25 [.agg (cRm R p).toArray,.int .i64 a,.int .i64 m,.int .i64 n] H (fun v H' => v = .tuple #[.int .u8 (knP (yelF R a m) n).1,.int .i64 (knP (yelF R a m) n).2]∧H' = H):=by
 obtain ⟨⟨ys,ye⟩,hy⟩ : ∃ y,y = yelF R a m:=⟨_,rfl⟩
 have kyel:=fun p' H' (h : RmOk H' R p')=>rYellow_spec R p' a m H' h
 rw [← hy] at kyel ⊢
 clear hy
 refine Fc.mk (callable Try.call25) Try.func25 rfl Try.ntmps25 rfl ?_;dsimp only [fr]
 repeat' (first | (refine uP rfl ?_;(first | ((first | refine uN rfl ?_);(first | (refine uE (uL rfl rfl (uW (T:=26) (cs:=cRm R p) (te rfl) rfl (by repeat (first | exact qH _ | apply qT)) rfl)) rfl rfl ?_)|(refine uC (uT rfl (by (repeat (first | exact Args.nil | refine Args.cons rfl ?_));done)) rfl rfl (kyel _ _ (hR.sub (fun _ h=>by repeat (first | exact h | apply qT)))) ?_;rintro _ H9 ⟨rfl,hH9⟩;subst H9)|(refine uC (uT rfl (by (repeat (first | exact Args.nil | refine Args.cons rfl ?_));done)) rfl rfl (told_spec ys n _) ?_;rintro _ H9 ⟨rfl,hH9⟩;subst H9)|(refine uE (uX rfl rfl rfl) rfl rfl ?_)|(refine uE (uM rfl rfl) rfl rfl ?_)|(refine uE (uA rfl rfl) rfl rfl ?_)|(refine uE (uQ rfl rfl rfl rfl) rfl rfl ?_)|(refine uE (uL rfl rfl (uW (te rfl) rfl (qH _) rfl)) rfl rfl ?_)|(refine Xg.st (StF.boxAgg rfl rfl) rfl rfl ?_;rintro _ _ ⟨bx,rfl,rfl⟩)|(refine Xg.st (StF.alloc rfl Try.zeroValue35 rfl) rfl rfl ?_;rintro _ _ ⟨bx,rfl,rfl⟩)|(refine Xg.st0 (StF.storeAll (i:=0) rfl rfl rfl (te rfl) rfl rfl rfl rfl) rfl ?_;rintro _ _ ⟨rfl,rfl⟩;dsimp only [List.set])))))|(refine uD rfl ?_;refine hK _ _ ?_;clear hK K) | refine uS rfl ?_ | refine uR rfl (fun K hK=>?_) | refine X.skip rfl ?_ | refine X.ret rfl ?_ | (refine X.ite rfl rfl (fun hc=>?_);(first | (with_reducible refine Xb.caseN hc (fun h=>?_) (fun h=>?_))) <;> clear hc))
 ·refine ret_two (by simp) Try.results25 rfl rfl (H' := H) (by repeat (first | exact qR _ | apply qK | apply qC)) ⟨?_,rfl⟩
  unfold knP
  rw [if_neg (by assumption)]
 ·refine ret_two (by simp) Try.results25 rfl rfl (H' := H) (by repeat (first | exact qR _ | apply qK | apply qC)) ⟨?_,rfl⟩
  unfold knP
  rw [if_pos (by assumption)]
set_option maxHeartbeats 4000000 in
theorem rOrder_spec (R : Rm) (p : Pl) (a b m : Int) (H : List Row) (hR : RmOk H R p) : Fc Try.prog 27 [.agg (cRm R p).toArray,.int .i64 a,.int .i64 b,.int .i64 m] H (fun v H' => v = .tuple #[.int .u8 (knP (difF R a b m) 0).1,.int .i64 (knP (difF R a b m) 0).2]∧H' = H):=by
 obtain ⟨⟨ys,ye⟩,hy⟩ : ∃ y,y = difF R a b m:=⟨_,rfl⟩
 have kyel:=fun p' H' (h : RmOk H' R p')=>rDiffer_spec R p' a b m H' h
 rw [← hy] at kyel ⊢
 clear hy
 refine Fc.mk (callable Try.call27) Try.func27 rfl Try.ntmps27 rfl ?_;dsimp only [fr]
 repeat' (first | (refine uP rfl ?_;(first | ((first | refine uN rfl ?_);(first | (refine uE (uL rfl rfl (uW (T:=26) (cs:=cRm R p) (te rfl) rfl (by repeat (first | exact qH _ | apply qT)) rfl)) rfl rfl ?_)|(refine uC (uT rfl (by (repeat (first | exact Args.nil | refine Args.cons rfl ?_));done)) rfl rfl (kyel _ _ (hR.sub (fun _ h=>by repeat (first | exact h | apply qT)))) ?_;rintro _ H9 ⟨rfl,hH9⟩;subst H9)|(refine uC (uT rfl (by (repeat (first | exact Args.nil | refine Args.cons rfl ?_));done)) rfl rfl (told_spec ys 0 _) ?_;rintro _ H9 ⟨rfl,hH9⟩;subst H9)|(refine uE (uX rfl rfl rfl) rfl rfl ?_)|(refine uE (uM rfl rfl) rfl rfl ?_)|(refine uE (uA rfl rfl) rfl rfl ?_)|(refine uE (uQ rfl rfl rfl rfl) rfl rfl ?_)|(refine uE (uL rfl rfl (uW (te rfl) rfl (qH _) rfl)) rfl rfl ?_)|(refine Xg.st (StF.boxAgg rfl rfl) rfl rfl ?_;rintro _ _ ⟨bx,rfl,rfl⟩)|(refine Xg.st (StF.alloc rfl Try.zeroValue35 rfl) rfl rfl ?_;rintro _ _ ⟨bx,rfl,rfl⟩)|(refine Xg.st0 (StF.storeAll (i:=0) rfl rfl rfl (te rfl) rfl rfl rfl rfl) rfl ?_;rintro _ _ ⟨rfl,rfl⟩;dsimp only [List.set])))))|(refine uD rfl ?_;refine hK _ _ ?_;clear hK K) | refine uS rfl ?_ | refine uR rfl (fun K hK=>?_) | refine X.skip rfl ?_ | refine X.ret rfl ?_ | (refine X.ite rfl rfl (fun hc=>?_);(first | (with_reducible refine Xb.caseN hc (fun h=>?_) (fun h=>?_))) <;> clear hc))
 ·refine ret_two (by simp) Try.results27 rfl rfl (H' := H) (by repeat (first | exact qR _ | apply qK | apply qC)) ⟨?_,rfl⟩
  unfold knP
  rw [if_neg (by assumption)]
 ·refine ret_two (by simp) Try.results27 rfl rfl (H' := H) (by repeat (first | exact qR _ | apply qK | apply qC)) ⟨?_,rfl⟩
  unfold knP
  rw [if_pos (by assumption)]
end Go.Proofs.Ytmfppdpkalelhaa
end
section
set_option linter.unusedVariables false
set_option linter.unusedSimpArgs false
namespace Go.Proofs.Ytmfppdpkalelhaa
open Go Go.Fw
set_option maxRecDepth 10000
def fstM (P : Nat → Bool) : Nat → Nat → Option Nat
 | _,0=>none
 | k,n + 1=>if P k then some k else fstM P (k + 1) n
theorem fstM_skip (P : Nat → Bool) : ∀ (n k j : Nat),(∀ i,k ≤ i → i < k + j → P i = false) → fstM P k (j + n)=fstM P (k + j) n
 | n,k,0,_=>by rw [Nat.zero_add];rfl
 | n,k,j + 1,h=>by
  rw [show j + 1 + n = (j + n) + 1 by omega]
  unfold fstM
  rw [h k (Nat.le_refl _) (by omega)]
  simp only [Bool.false_eq_true,if_false]
  rw [fstM_skip P n (k + 1) j (fun i h1 h2=>h i (by omega) (by omega)),show k + 1 + j = k + (j + 1) by omega]
  cases n <;> rfl
theorem fstM_hit {P : Nat → Bool} {k n : Nat} (h : P k = true) (hn : 0 < n) : fstM P k n = some k:=by
 cases n with
 | zero=>omega
 | succ n=>unfold fstM;rw [h];rfl
theorem fstM_no {P : Nat → Bool} {k n : Nat} (h : P k = false) (hn : 0 < n) : fstM P k n = fstM P (k + 1) (n - 1):=by
 cases n with
 | zero=>omega
 | succ n =>
  conv=>lhs;unfold fstM
  rw [h];simp
open Classical in
noncomputable def sinP (R : Rm) (a : Int) (f : Sp → Bool) (k : Nat) : Bool:=decide (∃ b,there R b k∧b.id = a) && f (rng R R.mats ⟨a,k⟩ zp)
def sinO : Option Nat → Int × Int
 | some k=>(k,0)
 | none=>(0,6)
noncomputable def sinF (R : Rm) (a : Int) (f : Sp → Bool) : Int × Int:=if openE R [a] [] = 0 then sinO (fstM (sinP R a f) 0 R.months.toNat) else (0,openE R [a] [])
def sinS (sure : Bool) (n : Int) (s : Sp) : Bool:=decide (n ≤ if sure then s.lo else s.hi)
theorem openE0 (R : Rm) (a : Int) : openE R [a] [] = if roomOk R then (if 0 ≤ index R.boxes a then (if hasT R R.mats then 0 else 8) else 6) else 10:=by
 unfold openE
 have h1 : inTime R [a] []:=fun m hm=>absurd hm List.not_mem_nil
 have h2 : allThere R [a] ↔ 0 ≤ index R.boxes a:=by
  rw [index_ge]
  exact ⟨fun h=>h a (List.mem_singleton.2 rfl),fun h x hx=>by rw [List.mem_singleton.1 hx];exact h⟩
 rw [if_pos h1]
 by_cases q : 0 ≤ index R.boxes a
 ·rw [if_pos (h2.2 q),if_pos q]
 ·rw [if_neg (fun x=>q (h2.1 x)),if_neg q]
end Go.Proofs.Ytmfppdpkalelhaa
end
section
set_option linter.unusedVariables false
set_option linter.unusedSimpArgs false
namespace Go.Proofs.Ytmfppdpkalelhaa
open Go Go.Fw
set_option maxRecDepth 10000
set_option maxHeartbeats 8000000 in
theorem rsince_spec (R : Rm) (p : Pl) (a n : Int) (sure : Bool) (H : List Row) (hR : RmOk H R p) : Fc Try.prog 68 [.agg (cRm R p).toArray,.int .i64 a,.int .i64 n,.bool sure] H (fun v H' => v = .tuple #[.int .i64 (sinF R a (sinS sure n)).1,.int .i64 (sinF R a (sinS sure n)).2]∧H' = H):=by
 classical
 have hE:=openE0 R a
 by_cases hok : roomOk R
 ·rw [if_pos hok] at hE
  have hr:=hok.ok
  have hm12:=hr.m12
  have hm1:=hr.m1
  have hlm : R.mats.length ≤ 100:=by have:=hok.1.2.2.2.2.2.2;omega
  have hrs : ∀ r1,Fc Try.prog 46 [.agg (cRm R p).toArray] (r1::H) (fun v H' => v = .bool true∧H' = r1::H):=fun r1=>by
   have:=room_spec R p (r1::H) (hR.sub (fun _ h=>qT _ h))
   rwa [decide_eq_true hok] at this
  have hixs:=fun H' hH' => index_spec R p a H' hH'
  by_cases h6 : 0 ≤ index R.boxes a
  ·rw [if_pos h6] at hE
   have hlt:=index_lt R.boxes a
   have hbm:=bxAt_mem h6
   have hbi:=bxAt_id R.boxes a h6
   have hbg:=index_get h6
   obtain ⟨b,hb⟩ : ∃ b,b = bxAt R.boxes a:=⟨_,rfl⟩
   obtain ⟨ia,hia⟩ : ∃ ia : Nat,index R.boxes a = ia:=⟨(index R.boxes a).toNat,by omega⟩
   rw [← hb] at hbm hbi hbg
   rw [hia] at hbg hixs
   have hbg : R.boxes[ia]? = some b:=hbg
   have hil:=(List.getElem?_eq_some_iff.1 hbg).1
   have hb4:=hr.b4
   have hbx:=okBoxes_mem _ _ _ hr.bx b hbm
   have hbs : ∀ r1 r2,SlE (r1::r2::H) p.a2 cBx 2 R.boxes:=fun r1 r2=>hR.boxes.sub (fun _ h=>qT _ (qT _ h))
   obtain ⟨q1,q2,q3,q4,q5,q6⟩:=p
   obtain ⟨bb,off,_,rfl,_⟩:=hR.boxes.elem (i:=0) (by omega)
   refine Fc.mk (callable Try.call68) Try.func68 rfl Try.ntmps68 rfl ?_;dsimp only [fr]
   repeat' (first | (refine uP rfl ?_;(first | ((first | refine uN rfl ?_);(first | (refine uE (uL rfl rfl (uW (T:=26) (cs:=cRm R _) (te rfl) rfl (by repeat (first | exact qH _ | apply qT)) rfl)) rfl rfl ?_)|(refine uC (uT rfl (Args.cons rfl Args.nil)) rfl rfl (hrs _) ?_;rintro _ H9 ⟨rfl,hH9⟩;subst H9)|(refine uC (uT rfl (Args.cons rfl (Args.cons rfl Args.nil))) rfl rfl (hixs _ (hR.sub (fun _ h=>by repeat (first | exact h | apply qT)))) ?_;rintro _ H9 ⟨rfl,hH9⟩;subst H9)|(refine uC (uT rfl (by (repeat (first | exact Args.nil | refine Args.cons rfl ?_));done)) rfl rfl (found_spec R _ _ hr hok.mats hlm (hR.sub (fun _ h=>by repeat (first | exact h | apply qT)))) ?_;rintro _ _ ⟨x,hx,rfl,rfl⟩)|(refine uE (uX rfl rfl rfl) rfl rfl ?_)|(refine Xg.st0 (StF.storeAll (i:=0) (vs:=x.1.flatMap cSp) (cs:=zRc.flatMap cSp) rfl rfl rfl (te rfl) rfl hx.len96 (sp_one _) (by rw [hx.len96,sp_len];rfl)) rfl ?_;rintro _ _ ⟨rfl,rfl⟩;dsimp only [List.set])|(refine uE (uL rfl rfl (LoadV.el1 (hbs _ _) hbg (te rfl) rfl (fun _ hm=>hm) rfl)) rfl rfl ?_)|(refine uE (uM rfl rfl) rfl rfl ?_)|(refine uE (uA rfl rfl) rfl rfl ?_)|(refine uE (uQ rfl rfl rfl rfl) rfl rfl ?_)|(refine uE (EvF.not rfl rfl) rfl rfl ?_)|(refine uE (uF rfl rfl (te rfl) rfl (te rfl) (by decide)) rfl rfl ?_)|(refine uE (EvF.indexSlice rfl rfl rfl (te rfl) (te rfl) (by omega) (by omega)) rfl rfl ?_)|(refine uE (uL rfl rfl (uO (te rfl) rfl (qT _ (qH _)) rfl)) rfl rfl ?_)|(refine Xg.st (StF.boxAgg rfl rfl) rfl rfl ?_;rintro _ _ ⟨bx,rfl,rfl⟩)|(refine Xg.st (StF.alloc rfl Try.zeroValue104 rfl) rfl rfl ?_;rintro _ _ ⟨bx,rfl,rfl⟩)))))|(refine uD rfl ?_;refine hK _ _ ?_;clear hK K) | refine uS rfl ?_ | refine uR rfl (fun K hK=>?_) | refine X.block rfl ?_ | refine X.skip rfl ?_ | refine X.ret rfl ?_ | (refine X.ite rfl rfl (fun hc=>?_);(first | (with_reducible refine Xb.case hc (fun h=>?_) (fun h=>?_))|(with_reducible refine Xb.caseB hc (fun h=>?_) (fun h=>?_))) <;> clear hc))
   ·exact absurd (by assumption : (!true)=true) (by decide)
   ·exfalso;omega
   ·have hn : ¬ hasT R R.mats:=hx.no (by simpa using (by assumption : (!x.2)=true))
    rw [if_neg hn] at hE
    refine ret_two (by simp) Try.results68 rfl rfl (H' := H) (by repeat (first | exact qR _ | apply qK | apply qC)) ⟨?_,rfl⟩
    unfold sinF
    rw [hE]
    rfl
   ·obtain ⟨y1,y2,y3⟩:=hx.yes (by simpa using (by assumption : (!x.2)=false))
    rw [if_pos y1] at hE
    obtain ⟨P,hP⟩ : ∃ P,P = sinP R a (sinS sure n):=⟨_,rfl⟩
    obtain ⟨r,hr9⟩ : ∃ r,r = fstM P 0 R.months.toNat:=⟨_,rfl⟩
    have hF : sinF R a (sinS sure n)=sinO r:=by unfold sinF;rw [if_pos hE,hr9,hP]
    rw [hF]
    obtain ⟨m0,hm0⟩ : ∃ m0 : Nat,(m0 : Int)=b.made:=⟨b.made.toNat,by omega⟩
    have hPno : ∀ k : Nat,(k : Int)<b.made → P k = false:=fun k hk=>by
     rw [hP];unfold sinP
     rw [decide_eq_false (fun ⟨c,h1,h2⟩=>by
      obtain ⟨j,hj⟩:=box_at h1.1
      have e1:=index_box hr.bx hj
      rw [h2,hia] at e1
      have e2 : ia = j:=by omega
      subst e2
      rw [hbg] at hj
      cases hj
      have:=h1.2.1
      omega)]
     rfl
    have hPat : ∀ k : Nat,b.made ≤ k → (k : Int)<R.months → P k = sinS sure n (sat x.1 (ia * 12 + k)):=fun k h1 h2=>by
     have ht : there R b k:=⟨hbm,h1,by omega⟩
     have hx2:=y3 b k ht
     rw [cel_box hr.bx hbg,show (k : Int).toNat = k from rfl,hbi] at hx2
     rw [hP];unfold sinP
     rw [decide_eq_true ⟨b,ht,hbi⟩,rng_eq hx2]
     rfl
    have hst : fstM P m0 (R.months.toNat - m0)=r:=by
     rw [hr9,show R.months.toNat = m0 + (R.months.toNat - m0) by omega,fstM_skip P _ 0 m0 (fun i _ h=>hPno i (by omega))]
     rw [show m0 + (R.months.toNat - m0) - m0 = R.months.toNat - m0 by omega,Nat.zero_add]
    rename_i b4 _ _
    generalize bx = b11
    clear hP hr9
    refine X.lp rfl (fun q F' H' => ∃ (m : Nat),q = R.months.toNat - m∧(m : Int)≤R.months∧b.made ≤ m∧fstM P m (R.months.toNat - m)=r∧H' = ⟨b11,0,x.1.flatMap cSp,some 104,96⟩::⟨b4,0,cRm R ⟨q1,q2,some ⟨bb,off,none⟩,q4,q5,q6⟩,some 26,5⟩::H∧F' = [(2,.int .i64 n),(3,.bool sure),(4,.pointer (some ⟨b4,0,none⟩)),(8,.int .i64 0),(9,.int .i64 0),(10,.int .i64 ia),(11,.pointer (some ⟨b11,0,none⟩)),(13,.int .i64 m)])
     (R.months.toNat - m0) [(2,.int .i64 n),(3,.bool sure),(4,.pointer (some ⟨b4,0,none⟩)),(8,.int .i64 0),(9,.int .i64 0),(10,.int .i64 ia),(11,.pointer (some ⟨b11,0,none⟩)),(13,.int .i64 m0)] (⟨b11,0,x.1.flatMap cSp,some 104,96⟩::⟨b4,0,cRm R ⟨q1,q2,some ⟨bb,off,none⟩,q4,q5,q6⟩,some 26,5⟩::H) (by rw [hm0];exact (by repeat (first | exact uU _ | refine uV rfl ?_))) (qR _) ⟨m0,rfl,by omega,by omega,hst,rfl,rfl⟩ ?_
    rintro _ _ _ ⟨m,rfl,hm2,hm3,hf,rfl,rfl⟩
    have hxl:=hx.len
    have hok2:=y2.ok (ia * 12 + m)
    have hsat:=sp_at (l:=x.1) (k:=ia * 12 + m) (j:=0 + ia * 24 + m * 2)
    by_cases hlt2 : (m : Int)<R.months
    ·have hPm:=hPat m hm3 hlt2
     have hsat:=hsat (by omega) (by omega)
     obtain ⟨s,hs⟩ : ∃ s,s = sat x.1 (ia * 12 + m):=⟨_,rfl⟩
     rw [← hs] at hPm hsat hok2
     obtain ⟨t,ht⟩ : ∃ t,t = toldF s n:=⟨_,rfl⟩
     have htold:=fun S=>told_spec s n S
     rw [← ht] at htold
     have hcase : (t = 2∧n ≤ s.lo)∨(t = 1 ∧ ¬ n ≤ s.lo∧n ≤ s.hi)∨(t = 0 ∧ ¬ n ≤ s.lo ∧ ¬ n ≤ s.hi):=by
      rw [ht];unfold toldF
      split
      ·exact .inl ⟨rfl,by assumption⟩
      ·split
       ·exact .inr (.inl ⟨rfl,by assumption,by assumption⟩)
       ·exact .inr (.inr ⟨rfl,by assumption,by assumption⟩)
     clear ht
     unfold sinS at hPm
     rcases hcase with ⟨rfl,g1⟩ | ⟨rfl,g1,g2⟩ | ⟨rfl,g1,g2⟩ <;> cases sure
     all_goals simp only [if_true,if_false,Bool.false_eq_true] at hPm
     all_goals try rw [decide_eq_true (by omega)] at hPm
     all_goals try rw [decide_eq_false (by omega)] at hPm
     all_goals (repeat' (first | (refine uP rfl ?_;(first | ((first | refine uN rfl ?_ | (refine Xo.g rfl rfl ?_;with_reducible refine Xw.tt ?_)|(refine Xo.g rfl rfl ?_;with_reducible refine Xw.ff ?_));(first | (refine uE (uQ (b:=true) rfl rfl rfl (congrArg some (decide_eq_true (by omega)))) rfl rfl ?_)|(refine uE (uQ (b:=false) rfl rfl rfl (congrArg some (decide_eq_false (by omega)))) rfl rfl ?_)|(refine uC (uT rfl (Args.cons rfl (Args.cons rfl Args.nil))) rfl rfl (htold _) ?_;rintro _ H9 ⟨rfl,hH9⟩;subst H9)|(refine uE (EvF.indexArray (i:=(ia : Int)) (off:=0) (T:=104) (e:=102) (len:=4) rfl rfl rfl (te rfl) (te rfl) (by omega) (by omega)) rfl rfl ?_)|(refine uE (EvF.indexArray (i:=(m : Int)) (off:=0 + ia * 24) (T:=102) (e:=35) (len:=12) rfl rfl rfl (te rfl) (te rfl) (by omega) (by omega)) rfl rfl ?_)|(refine uE (uL rfl rfl (LoadV.ownAgg (te rfl) rfl (qH _) hsat rfl)) rfl rfl ?_)|(refine uE (uM rfl rfl) rfl rfl ?_)|(refine uE (uA rfl rfl) rfl rfl ?_)|(refine uE (EvF.pickT rfl rfl rfl) rfl rfl ?_)|(refine uE (EvF.pickF rfl rfl rfl) rfl rfl ?_)|(refine uE (EvF.add64 rfl rfl rfl (by omega) (by omega)) rfl rfl ?_)|(refine uE (EvF.not rfl rfl) rfl rfl ?_)|(refine uE (uF rfl rfl (te rfl) rfl (te rfl) (by decide)) rfl rfl ?_)|(refine uE (uL rfl rfl (uO (te rfl) rfl (qT _ (qH _)) rfl)) rfl rfl ?_)))|(refine Xo.g rfl rfl ?_;(first | (with_reducible refine Xw.tf rfl rfl ?_)|(with_reducible refine Xw.ft rfl rfl ?_)))|(refine Xo.sk rfl rfl rfl rfl ?_)))|(refine uD rfl ?_;refine hK _ _ ?_;clear hK K) | refine uS rfl ?_ | refine uR rfl (fun K hK=>?_) | refine X.block rfl ?_ | refine X.skip rfl ?_ | refine X.ret rfl ?_ | (refine X.ite rfl rfl (fun hc=>?_);(first | (with_reducible refine Xb.t hc ?_)|(with_reducible refine Xb.f hc ?_)|(with_reducible refine Xb.caseB hc (fun h=>?_) (fun h=>?_))) <;> clear hc)))
     all_goals try (exfalso;contradiction)
     all_goals first
      | (refine ret_two (by simp) Try.results68 rfl rfl (H' := H) (by repeat (first | exact qR _ | apply qK | apply qC)) ⟨?_,rfl⟩;rw [← hf,fstM_hit hPm (by omega)];rfl)
      | (have hno:=fstM_no (n:=R.months.toNat - m) hPm (by omega);rw [Nat.sub_sub] at hno;exact ⟨_,_,⟨b11,0,x.1.flatMap cSp,some 104,96⟩::⟨b4,0,cRm R ⟨q1,q2,some ⟨bb,off,none⟩,q4,q5,q6⟩,some 26,5⟩::H,(by repeat (first | exact uU _ | refine uV rfl ?_)),(by repeat (first | exact qR _ | apply qK | apply qC)),⟨m + 1,rfl,by omega,by omega,by rw [← hf,hno],rfl,rfl⟩,by omega⟩)
    ·have e0 : R.months.toNat - m = 0:=by omega
     rw [e0] at hf
     repeat' (first | (refine uP rfl ?_;(first | ((first | refine uN rfl ?_);(first | (refine uE (uQ (b:=false) rfl rfl rfl (congrArg some (decide_eq_false (by omega)))) rfl rfl ?_)|(refine uE (uM rfl rfl) rfl rfl ?_)|(refine uE (uA rfl rfl) rfl rfl ?_)|(refine uE (uF rfl rfl (te rfl) rfl (te rfl) (by decide)) rfl rfl ?_)|(refine uE (uL rfl rfl (uO (te rfl) rfl (qT _ (qH _)) rfl)) rfl rfl ?_)))))|(refine uD rfl ?_;refine hK _ _ ?_;clear hK K) | refine uS rfl ?_ | refine uR rfl (fun K hK=>?_)|(refine X.brk rfl ?_;repeat (first | refine blockX_hit rfl ?_ | refine blockX_miss (by decide) ?_)) | refine X.ret rfl ?_ | (refine X.ite rfl rfl (fun hc=>?_);(first | (with_reducible refine Xb.f hc ?_)) <;> clear hc))
     all_goals try (exfalso;contradiction)
     refine ret_two (by simp) Try.results68 rfl rfl (H' := H) (by repeat (first | exact qR _ | apply qK | apply qC)) ⟨?_,rfl⟩
     rw [← hf]
     rfl
  ·rw [if_neg h6] at hE
   have hneg : index R.boxes a < 0:=by omega
   refine Fc.mk (callable Try.call68) Try.func68 rfl Try.ntmps68 rfl ?_;dsimp only [fr]
   repeat' (first | (refine uP rfl ?_;(first | ((first | refine uN rfl ?_);(first | (refine uE (uL rfl rfl (uW (T:=26) (cs:=cRm R _) (te rfl) rfl (by repeat (first | exact qH _ | apply qT)) rfl)) rfl rfl ?_)|(refine uC (uT rfl (Args.cons rfl Args.nil)) rfl rfl (hrs _) ?_;rintro _ H9 ⟨rfl,hH9⟩;subst H9)|(refine uC (uT rfl (Args.cons rfl (Args.cons rfl Args.nil))) rfl rfl (hixs _ (hR.sub (fun _ h=>by repeat (first | exact h | apply qT)))) ?_;rintro _ H9 ⟨rfl,hH9⟩;subst H9)|(refine uE (uQ (b:=true) rfl rfl rfl (congrArg some (decide_eq_true hneg))) rfl rfl ?_)|(refine uE (uM rfl rfl) rfl rfl ?_)|(refine uE (uA rfl rfl) rfl rfl ?_)|(refine uE (EvF.not rfl rfl) rfl rfl ?_)|(refine Xg.st (StF.boxAgg rfl rfl) rfl rfl ?_;rintro _ _ ⟨bx,rfl,rfl⟩)))))|(refine uD rfl ?_;refine hK _ _ ?_;clear hK K) | refine uS rfl ?_ | refine uR rfl (fun K hK=>?_) | refine X.skip rfl ?_ | refine X.ret rfl ?_ | (refine X.ite rfl rfl (fun hc=>?_);(first | (with_reducible refine Xb.t hc ?_)|(with_reducible refine Xb.caseB hc (fun h=>?_) (fun h=>?_))) <;> clear hc))
   all_goals try (exfalso;contradiction)
   refine ret_two (by simp) Try.results68 rfl rfl (H' := H) (by repeat (first | exact qR _ | apply qK | apply qC)) ⟨?_,rfl⟩
   unfold sinF
   rw [hE]
   rfl
 ·rw [if_neg hok] at hE
  have hrs : ∀ r1,Fc Try.prog 46 [.agg (cRm R p).toArray] (r1::H) (fun v H' => v = .bool false∧H' = r1::H):=fun r1=>by
   have:=room_spec R p (r1::H) (hR.sub (fun _ h=>qT _ h))
   rwa [decide_eq_false hok] at this
  refine Fc.mk (callable Try.call68) Try.func68 rfl Try.ntmps68 rfl ?_;dsimp only [fr]
  repeat' (first | (refine uP rfl ?_;(first | ((first | refine uN rfl ?_);(first | (refine uE (uL rfl rfl (uW (T:=26) (cs:=cRm R _) (te rfl) rfl (by repeat (first | exact qH _ | apply qT)) rfl)) rfl rfl ?_)|(refine uC (uT rfl (Args.cons rfl Args.nil)) rfl rfl (hrs _) ?_;rintro _ H9 ⟨rfl,hH9⟩;subst H9)|(refine uE (uM rfl rfl) rfl rfl ?_)|(refine uE (uA rfl rfl) rfl rfl ?_)|(refine uE (EvF.not rfl rfl) rfl rfl ?_)|(refine Xg.st (StF.boxAgg rfl rfl) rfl rfl ?_;rintro _ _ ⟨bx,rfl,rfl⟩)))))|(refine uD rfl ?_;refine hK _ _ ?_;clear hK K) | refine uS rfl ?_ | refine uR rfl (fun K hK=>?_) | refine X.skip rfl ?_ | refine X.ret rfl ?_ | (refine X.ite rfl rfl (fun hc=>?_);(first | (with_reducible refine Xb.caseB hc (fun h=>?_) (fun h=>?_))) <;> clear hc))
  all_goals try (exfalso;contradiction)
  refine ret_two (by simp) Try.results68 rfl rfl (H' := H) (by repeat (first | exact qR _ | apply qK | apply qC)) ⟨?_,rfl⟩
  unfold sinF
  rw [hE]
  rfl
end Go.Proofs.Ytmfppdpkalelhaa
end
section
set_option linter.unusedVariables false
set_option linter.unusedSimpArgs false
namespace Go.Proofs.Ytmfppdpkalelhaa
open Go Go.Fw
set_option maxRecDepth 10000
theorem perhaps1_spec (s : Sp) (n : Int) (b : Nat) (ow : Option Kd) (cap : Nat) (H : List Row) (hm : ⟨b,0,[.int .i64 n],ow,cap⟩ ∈ H) : Fc Try.prog 67 ([.agg (cSp s).toArray]++[.pointer (some ⟨b,0,none⟩)]) H (fun v H' => v = .bool (sinS false n s)∧H' = H):=by
 show Fc Try.prog 67 [.agg (cSp s).toArray,.pointer (some ⟨b,0,none⟩)] H _
 refine Fc.mk (callable Try.call67) Try.func67 rfl Try.ntmps67 rfl ?_;dsimp only [fr]
 repeat' (first | (refine uP rfl ?_;(first | ((first | refine uN rfl ?_);(first | (refine uE (uL rfl rfl (uO (te rfl) rfl (qT _ hm) rfl)) rfl rfl ?_)|(refine uE (uA rfl rfl) rfl rfl ?_)|(refine uE (uQ rfl rfl rfl rfl) rfl rfl ?_)|(refine uE (uF rfl rfl (te rfl) rfl (te rfl) (by decide)) rfl rfl ?_)|(refine uE (uL rfl rfl (uO (te rfl) rfl (qH _) rfl)) rfl rfl ?_)|(refine Xg.st (StF.boxAgg rfl rfl) rfl rfl ?_;rintro _ _ ⟨bx,rfl,rfl⟩)))))|(refine uD rfl ?_;refine hK _ _ ?_;clear hK K) | refine uS rfl ?_ | refine uR rfl (fun K hK=>?_) | refine X.ret rfl ?_)
 exact ret_one (v := .bool (sinS false n s)) (by simp) Try.results67 rfl (H' := H) (by repeat (first | exact qR _ | apply qK | apply qC)) ⟨rfl,rfl⟩
theorem surely1_spec (s : Sp) (n : Int) (b : Nat) (ow : Option Kd) (cap : Nat) (H : List Row) (hm : ⟨b,0,[.int .i64 n],ow,cap⟩ ∈ H) : Fc Try.prog 69 ([.agg (cSp s).toArray]++[.pointer (some ⟨b,0,none⟩)]) H (fun v H' => v = .bool (sinS true n s)∧H' = H):=by
 show Fc Try.prog 69 [.agg (cSp s).toArray,.pointer (some ⟨b,0,none⟩)] H _
 refine Fc.mk (callable Try.call69) Try.func69 rfl Try.ntmps69 rfl ?_;dsimp only [fr]
 repeat' (first | (refine uP rfl ?_;(first | ((first | refine uN rfl ?_);(first | (refine uE (uL rfl rfl (uO (te rfl) rfl (qT _ hm) rfl)) rfl rfl ?_)|(refine uE (uA rfl rfl) rfl rfl ?_)|(refine uE (uQ rfl rfl rfl rfl) rfl rfl ?_)|(refine uE (uF rfl rfl (te rfl) rfl (te rfl) (by decide)) rfl rfl ?_)|(refine uE (uL rfl rfl (uO (te rfl) rfl (qH _) rfl)) rfl rfl ?_)|(refine Xg.st (StF.boxAgg rfl rfl) rfl rfl ?_;rintro _ _ ⟨bx,rfl,rfl⟩)))))|(refine uD rfl ?_;refine hK _ _ ?_;clear hK K) | refine uS rfl ?_ | refine uR rfl (fun K hK=>?_) | refine X.ret rfl ?_)
 exact ret_one (v := .bool (sinS true n s)) (by simp) Try.results69 rfl (H' := H) (by repeat (first | exact qR _ | apply qK | apply qC)) ⟨rfl,rfl⟩
def firV : Option Nat → Int
 | some k=>k
 | none=>0
set_option maxHeartbeats 4000000 in
theorem kfirst_spec (R : Rm) (p : Pl) (a : Option Addr) (c : Nat) (x : Int) (g : Nat) (cap : List Value) (f : Sp → Bool) (H : List Row) (hr : okRm R) (hm : matsThere R R.mats) (hC : CtOk H R p a) (hla : R.ages.length ≤ 1000) (hlm : R.mats.length ≤ 1000) (hpc : (plcs R).length ≤ c) (hT : hasT R R.mats) (hx : ∃ b ∈ R.boxes,b.id = x)
  (hf : ∀ s H',(∀ r ∈ H,r ∈ H') → Fc Try.prog g ([.agg (cSp s).toArray]++cap) H' (fun v H'' => v = .bool (f s)∧H'' = H')) :
  Fc Try.prog 70 [.agg (cCt R p a c).toArray,.int .i64 x,.func (.func g) #[] cap.toArray] H (fun v H' => v = .tuple #[.int .i64 (firV (fstM (sinP R x f) 0 R.months.toNat)),.bool (fstM (sinP R x f) 0 R.months.toNat).isSome]∧H' = H):=by
 have hm12:=hr.m12
 have hm1:=hr.m1
 obtain ⟨b0,hb0,rfl⟩:=hx
 have hb0x:=okBoxes_mem _ _ _ hr.bx b0 hb0
 obtain ⟨P,hP⟩ : ∃ P,P = sinP R b0.id f:=⟨_,rfl⟩
 obtain ⟨r,hr9⟩ : ∃ r,r = fstM P 0 R.months.toNat:=⟨_,rfl⟩
 have hin : ∀ m : Nat,(⟨b0.id,m⟩ : Pk) ∈ plcs R → P m = f (rng R R.mats ⟨b0.id,m⟩ zp):=fun m h=>by
  classical
  rw [hP];unfold sinP
  rw [decide_eq_true]
  ·rfl
  ·rcases mem_plcs h with h | ⟨b,h1,h2⟩
   ·have : b0.id = 0:=congrArg Pk.box h
    omega
   ·exact ⟨b,h1,h2.symm⟩
 have hout : ∀ m : Nat,(⟨b0.id,m⟩ : Pk) ∉ plcs R → P m = false:=fun m h=>by
  classical
  rw [hP];unfold sinP
  rw [decide_eq_false]
  ·rfl
  ·rintro ⟨b,h1,h2⟩
   exact h (by rw [← h2];exact plcs_mem h1)
 rw [← hP, ← hr9]
 clear hP
 refine Fc.mk (callable Try.call70) Try.func70 rfl Try.ntmps70 rfl ?_;dsimp only [fr]
 repeat' (first | (refine uP rfl ?_;(first | ((first | refine uN rfl ?_);(first | (refine uE (uM rfl rfl) rfl rfl ?_)|(refine uE (uA rfl rfl) rfl rfl ?_)|(refine uE (uF rfl rfl (te rfl) rfl (te rfl) (by decide)) rfl rfl ?_)|(refine uE (uL rfl rfl (uO (te rfl) rfl (qH _) rfl)) rfl rfl ?_)|(refine Xg.st (StF.boxAgg rfl rfl) rfl rfl ?_;rintro _ _ ⟨bx,rfl,rfl⟩)))))|(refine uD rfl ?_;refine hK _ _ ?_;clear hK K) | refine uS rfl ?_ | refine uR rfl (fun K hK=>?_) | refine X.block rfl ?_)
 refine X.lp rfl (fun q F' H' => ∃ (m : Nat),q = R.months.toNat - m∧(m : Int)≤R.months∧fstM P m (R.months.toNat - m)=r∧H' = ⟨bx,0,cCt R p a c,some 93,6⟩::H∧F' = [(1,.int .i64 b0.id),(2,.func (.func g) #[] cap.toArray),(3,.pointer (some ⟨bx,0,none⟩)),(11,.int .i64 R.months),(12,.int .i64 m)])
  R.months.toNat [(1,.int .i64 b0.id),(2,.func (.func g) #[] cap.toArray),(3,.pointer (some ⟨bx,0,none⟩)),(11,.int .i64 R.months),(12,.int .i64 (0 : Nat))] (⟨bx,0,cCt R p a c,some 93,6⟩::H) (by repeat (first | exact uU _ | refine uV rfl ?_)) (qR _) ⟨0,rfl,by omega,by rw [hr9];rfl,rfl,rfl⟩ ?_
 rintro _ _ _ ⟨m,rfl,hm2,hfm,rfl,rfl⟩
 by_cases hlt : (m : Int)<R.months
 ·by_cases hp : (⟨b0.id,m⟩ : Pk) ∈ plcs R
  ·have hPm:=hin m hp
   have hat:=fun H' hH' => at_spec R p a c b0.id m H' hr hH'
   rw [show atZ R ⟨b0.id,m⟩ = ((pidx R ⟨b0.id,m⟩ : Nat) : Int) by unfold atZ;rw [if_pos hp]] at hat
   have hye:=fun H' hC' => yellow_spec R p a c ⟨b0.id,m⟩ H' hr hm hC' hla hlm hpc hp hT
   obtain ⟨s,hs⟩ : ∃ s,s = rng R R.mats ⟨b0.id,m⟩ zp:=⟨_,rfl⟩
   rw [← hs] at hPm hye
   obtain ⟨w,hw⟩ : ∃ w,w = f s:=⟨_,rfl⟩
   have hfs:=hf s
   rw [← hw] at hfs hPm
   cases w with
   | true =>
    repeat' (first | (refine uP rfl ?_;(first | ((first | refine uN rfl ?_ | (refine Xo.g rfl rfl ?_;with_reducible refine Xw.tt ?_));(first | (refine uE (uQ (b:=true) rfl rfl rfl (congrArg some (decide_eq_true (by omega)))) rfl rfl ?_)|(refine uE (uL rfl rfl (uW (T:=93) (cs:=cCt R p a c) (te rfl) rfl (by repeat (first | exact qH _ | apply qT)) rfl)) rfl rfl ?_)|(refine uC (uT rfl (Args.cons rfl (Args.cons rfl (Args.cons rfl Args.nil)))) rfl rfl (hat _ (hC.sub (fun _ h=>by repeat (first | exact h | apply qT)))) ?_;rintro _ H9 ⟨rfl,hH9⟩;subst H9)|(refine uE (EvF.build (cs:=cPk ⟨b0.id,m⟩) rfl (ArgsP.cons rfl (ArgsP.cons rfl ArgsP.nil)) (te rfl) (Places.cons (te rfl) (Places.cons (te rfl) Places.nil)) Try.zeroValue101 rfl) rfl rfl ?_)|(refine uC (uT rfl (Args.cons rfl (Args.cons rfl Args.nil))) rfl rfl (hye _ (hC.sub (fun _ h=>by repeat (first | exact h | apply qT)))) ?_;rintro _ H9 ⟨rfl,hH9⟩;subst H9)|(refine uC (EnF.dyn0 rfl rfl (by (repeat (first | exact Args.nil | refine Args.cons rfl ?_));done)) rfl rfl (hfs _ (fun _ h=>by repeat (first | exact h | apply qT))) ?_;rintro _ H9 ⟨rfl,hH9⟩;subst H9)|(refine uE (uM rfl rfl) rfl rfl ?_)|(refine uE (uA rfl rfl) rfl rfl ?_)|(refine uE (EvF.pickT rfl rfl rfl) rfl rfl ?_)))))|(refine uD rfl ?_;refine hK _ _ ?_;clear hK K) | refine uS rfl ?_ | refine uR rfl (fun K hK=>?_) | refine X.block rfl ?_ | refine X.skip rfl ?_ | refine X.ret rfl ?_ | (refine X.ite rfl rfl (fun hc=>?_);(first | (with_reducible refine Xb.t hc ?_)) <;> clear hc))
    all_goals try (exfalso;contradiction)
    refine ret_two (by simp) Try.results70 rfl rfl (H' := H) (by repeat (first | exact qR _ | apply qK | apply qC)) ⟨?_,rfl⟩
    rw [← hfm,fstM_hit hPm (by omega)]
    rfl
   | false =>
    repeat' (first | (refine uP rfl ?_;(first | ((first | refine uN rfl ?_ | (refine Xo.g rfl rfl ?_;with_reducible refine Xw.tt ?_));(first | (refine uE (uQ (b:=true) rfl rfl rfl (congrArg some (decide_eq_true (by omega)))) rfl rfl ?_)|(refine uE (uL rfl rfl (uW (T:=93) (cs:=cCt R p a c) (te rfl) rfl (by repeat (first | exact qH _ | apply qT)) rfl)) rfl rfl ?_)|(refine uC (uT rfl (Args.cons rfl (Args.cons rfl (Args.cons rfl Args.nil)))) rfl rfl (hat _ (hC.sub (fun _ h=>by repeat (first | exact h | apply qT)))) ?_;rintro _ H9 ⟨rfl,hH9⟩;subst H9)|(refine uE (EvF.build (cs:=cPk ⟨b0.id,m⟩) rfl (ArgsP.cons rfl (ArgsP.cons rfl ArgsP.nil)) (te rfl) (Places.cons (te rfl) (Places.cons (te rfl) Places.nil)) Try.zeroValue101 rfl) rfl rfl ?_)|(refine uC (uT rfl (Args.cons rfl (Args.cons rfl Args.nil))) rfl rfl (hye _ (hC.sub (fun _ h=>by repeat (first | exact h | apply qT)))) ?_;rintro _ H9 ⟨rfl,hH9⟩;subst H9)|(refine uC (EnF.dyn0 rfl rfl (by (repeat (first | exact Args.nil | refine Args.cons rfl ?_));done)) rfl rfl (hfs _ (fun _ h=>by repeat (first | exact h | apply qT))) ?_;rintro _ H9 ⟨rfl,hH9⟩;subst H9)|(refine uE (uM rfl rfl) rfl rfl ?_)|(refine uE (uA rfl rfl) rfl rfl ?_)|(refine uE (EvF.pickT rfl rfl rfl) rfl rfl ?_)|(refine uE (EvF.add64 rfl rfl rfl (by omega) (by omega)) rfl rfl ?_)))))|(refine uD rfl ?_;refine hK _ _ ?_;clear hK K) | refine uS rfl ?_ | refine uR rfl (fun K hK=>?_) | refine X.block rfl ?_ | refine X.skip rfl ?_ | (refine X.ite rfl rfl (fun hc=>?_);(first | (with_reducible refine Xb.t hc ?_)|(with_reducible refine Xb.f hc ?_)) <;> clear hc))
    all_goals try (exfalso;contradiction)
    have hno:=fstM_no (n:=R.months.toNat - m) hPm (by omega)
    rw [Nat.sub_sub] at hno
    exact ⟨_,_,⟨bx,0,cCt R p a c,some 93,6⟩::H,(by repeat (first | exact uU _ | refine uV rfl ?_)),(by repeat (first | exact qR _ | apply qK | apply qC)),⟨m + 1,rfl,by omega,by rw [← hfm,hno],rfl,rfl⟩,by omega⟩
  ·have hPm:=hout m hp
   have hat:=fun H' hH' => at_spec R p a c b0.id m H' hr hH'
   rw [show atZ R ⟨b0.id,m⟩ = -1 by unfold atZ;rw [if_neg hp]] at hat
   repeat' (first | (refine uP rfl ?_;(first | ((first | refine uN rfl ?_);(first | (refine uE (uQ (b:=true) rfl rfl rfl (congrArg some (decide_eq_true (by omega)))) rfl rfl ?_)|(refine uE (uQ (b:=false) rfl rfl rfl (congrArg some (decide_eq_false (by omega)))) rfl rfl ?_)|(refine uE (uL rfl rfl (uW (T:=93) (cs:=cCt R p a c) (te rfl) rfl (by repeat (first | exact qH _ | apply qT)) rfl)) rfl rfl ?_)|(refine uC (uT rfl (Args.cons rfl (Args.cons rfl (Args.cons rfl Args.nil)))) rfl rfl (hat _ (hC.sub (fun _ h=>by repeat (first | exact h | apply qT)))) ?_;rintro _ H9 ⟨rfl,hH9⟩;subst H9)|(refine uE (uM rfl rfl) rfl rfl ?_)|(refine uE (uA rfl rfl) rfl rfl ?_)|(refine uE (EvF.pickF rfl rfl rfl) rfl rfl ?_)|(refine uE (EvF.add64 rfl rfl rfl (by omega) (by omega)) rfl rfl ?_)))|(refine Xo.g rfl rfl ?_;(first | (with_reducible refine Xw.ft rfl rfl ?_)))))|(refine uD rfl ?_;refine hK _ _ ?_;clear hK K) | refine uS rfl ?_ | refine uR rfl (fun K hK=>?_) | refine X.block rfl ?_ | refine X.skip rfl ?_ | (refine X.ite rfl rfl (fun hc=>?_);(first | (with_reducible refine Xb.t hc ?_)|(with_reducible refine Xb.f hc ?_)) <;> clear hc))
   all_goals try (exfalso;contradiction)
   have hno:=fstM_no (n:=R.months.toNat - m) hPm (by omega)
   rw [Nat.sub_sub] at hno
   exact ⟨_,_,⟨bx,0,cCt R p a c,some 93,6⟩::H,(by repeat (first | exact uU _ | refine uV rfl ?_)),(by repeat (first | exact qR _ | apply qK | apply qC)),⟨m + 1,rfl,by omega,by rw [← hfm,hno],rfl,rfl⟩,by omega⟩
 ·have e0 : R.months.toNat - m = 0:=by omega
  rw [e0] at hfm
  repeat' (first | (refine uP rfl ?_;(first | ((first | refine uN rfl ?_);(first | (refine uE (uQ (b:=false) rfl rfl rfl (congrArg some (decide_eq_false (by omega)))) rfl rfl ?_)|(refine uE (uA rfl rfl) rfl rfl ?_)))))|(refine uD rfl ?_;refine hK _ _ ?_;clear hK K) | refine uS rfl ?_ | refine uR rfl (fun K hK=>?_)|(refine X.brk rfl ?_;repeat (first | refine blockX_hit rfl ?_ | refine blockX_miss (by decide) ?_)) | refine X.ret rfl ?_ | (refine X.ite rfl rfl (fun hc=>?_);(first | (with_reducible refine Xb.f hc ?_)) <;> clear hc))
  all_goals try (exfalso;contradiction)
  refine ret_two (by simp) Try.results70 rfl rfl (H' := H) (by repeat (first | exact qR _ | apply qK | apply qC)) ⟨?_,rfl⟩
  rw [← hfm]
  rfl
theorem sinO_firV (r : Option Nat) : sinO r = (firV r,if r.isSome then 0 else 6):=by cases r <;> rfl
theorem told0_spec (c : List Value) (e l : Int) (gv : Value) (h : e ≠ 0) (hc : c.length = 6) (H : List Row) : Fc Try.prog 115 [.agg c.toArray,.int .i64 e,gv,.int .i64 l] H (fun v H' => v = .tuple #[.int .i64 0,.int .i64 e]∧H' = H):=by
 refine Fc.mk (callable Try.call115) Try.func115 rfl Try.ntmps115 rfl ?_;dsimp only [fr]
 repeat' (first | (refine uP rfl ?_;(first | ((first | refine uN rfl ?_);(first | (refine uE (uQ (b:=true) rfl rfl rfl (congrArg some (nd_t (by omega)))) rfl rfl ?_)|(refine uE (uM rfl rfl) rfl rfl ?_)|(refine uE (uA rfl rfl) rfl rfl ?_)|(refine Xg.st (StF.boxAgg rfl rfl) rfl rfl ?_;rintro _ _ ⟨bx,rfl,rfl⟩)))))|(refine uD rfl ?_;refine hK _ _ ?_;clear hK K) | refine uS rfl ?_ | refine uR rfl (fun K hK=>?_) | refine X.ret rfl ?_ | (refine X.ite rfl rfl (fun hc=>?_);(first | (with_reducible refine Xb.t hc ?_)) <;> clear hc))
 all_goals try (exfalso;contradiction)
 exact ret_two (by simp) Try.results115 rfl rfl (H' := H) (by (repeat (first | exact qR _ | apply qC));done) ⟨rfl,rfl⟩
theorem told1_spec (c : List Value) (g : Nat) (cap : List Value) (y l : Int) (w : Bool) (hc : c.length = 6) (H : List Row) (hf : ∀ b,Fc Try.prog g ([.agg c.toArray]++cap) (b::H) (fun v H' => v = .tuple #[.int .i64 y,.bool w]∧H' = b::H)) (hz : w = false → y = 0) : Fc Try.prog 115 [.agg c.toArray,.int .i64 0,.func (.func g) #[] cap.toArray,.int .i64 l] H (fun v H' => v = .tuple #[.int .i64 y,.int .i64 (if w then 0 else l)]∧H' = H):=by
 cases w with
 | false =>
  obtain rfl:=hz rfl
  refine Fc.mk (callable Try.call115) Try.func115 rfl Try.ntmps115 rfl ?_;dsimp only [fr]
  repeat' (first | (refine uP rfl ?_;(first | ((first | refine uN rfl ?_);(first | (refine uE (uQ (b:=false) rfl rfl rfl (congrArg some (nd_f (by omega)))) rfl rfl ?_)|(refine uE (uL rfl rfl (uW (cs:=c) (te rfl) rfl (qH _) hc)) rfl rfl ?_)|(refine uC (EnF.dyn0 rfl rfl (by (repeat (first | exact Args.nil | refine Args.cons rfl ?_));done)) rfl rfl (hf _) ?_;rintro _ H9 ⟨rfl,hH9⟩;subst H9)|(refine uE (uM rfl rfl) rfl rfl ?_)|(refine uE (uA rfl rfl) rfl rfl ?_)|(refine uE (EvF.not rfl rfl) rfl rfl ?_)|(refine uE (uX rfl rfl rfl) rfl rfl ?_)|(refine Xg.st (StF.boxAgg rfl rfl) rfl rfl ?_;rintro _ _ ⟨bx,rfl,rfl⟩)))))|(refine uD rfl ?_;refine hK _ _ ?_;clear hK K) | refine uS rfl ?_ | refine uR rfl (fun K hK=>?_) | refine X.skip rfl ?_ | refine X.ret rfl ?_ | (refine X.ite rfl rfl (fun hc=>?_);(first | (with_reducible refine Xb.f hc ?_)|(with_reducible refine Xb.caseB hc (fun h=>?_) (fun h=>?_))) <;> clear hc))
  all_goals try (exfalso;contradiction)
  exact ret_two (by simp) Try.results115 rfl rfl (H' := H) (by (repeat (first | exact qR _ | apply qC));done) ⟨rfl,rfl⟩
 | true =>
  refine Fc.mk (callable Try.call115) Try.func115 rfl Try.ntmps115 rfl ?_;dsimp only [fr]
  repeat' (first | (refine uP rfl ?_;(first | ((first | refine uN rfl ?_);(first | (refine uE (uQ (b:=false) rfl rfl rfl (congrArg some (nd_f (by omega)))) rfl rfl ?_)|(refine uE (uL rfl rfl (uW (cs:=c) (te rfl) rfl (qH _) hc)) rfl rfl ?_)|(refine uC (EnF.dyn0 rfl rfl (by (repeat (first | exact Args.nil | refine Args.cons rfl ?_));done)) rfl rfl (hf _) ?_;rintro _ H9 ⟨rfl,hH9⟩;subst H9)|(refine uE (uM rfl rfl) rfl rfl ?_)|(refine uE (uA rfl rfl) rfl rfl ?_)|(refine uE (EvF.not rfl rfl) rfl rfl ?_)|(refine uE (uX rfl rfl rfl) rfl rfl ?_)|(refine Xg.st (StF.boxAgg rfl rfl) rfl rfl ?_;rintro _ _ ⟨bx,rfl,rfl⟩)))))|(refine uD rfl ?_;refine hK _ _ ?_;clear hK K) | refine uS rfl ?_ | refine uR rfl (fun K hK=>?_) | refine X.skip rfl ?_ | refine X.ret rfl ?_ | (refine X.ite rfl rfl (fun hc=>?_);(first | (with_reducible refine Xb.f hc ?_)|(with_reducible refine Xb.caseB hc (fun h=>?_) (fun h=>?_))) <;> clear hc))
  all_goals try (exfalso;contradiction)
  exact ret_two (by simp) Try.results115 rfl rfl (H' := H) (by (repeat (first | exact qR _ | apply qC));done) ⟨rfl,rfl⟩
set_option maxHeartbeats 4000000 in
theorem since1_spec (c : List Value) (x y : Int) (w : Bool) (gv : Value) (b4 b5 : Nat) (o4 o5 : Option Kd) (k4 k5 : Nat) (hc : c.length = 6) (H : List Row) (h4 : ⟨b4,0,[.int .i64 x],o4,k4⟩ ∈ H) (h5 : ⟨b5,0,[gv],o5,k5⟩ ∈ H) (hf : ∀ b,Fc Try.prog 70 [.agg c.toArray,.int .i64 x,gv] (b::H) (fun v H' => v = .tuple #[.int .i64 y,.bool w]∧H' = b::H)) : Fc Try.prog 116 ([.agg c.toArray]++[.pointer (some ⟨b4,0,none⟩),.pointer (some ⟨b5,0,none⟩)]) H (fun v H' => v = .tuple #[.int .i64 y,.bool w]∧H' = H):=by
 show Fc Try.prog 116 [.agg c.toArray,.pointer (some ⟨b4,0,none⟩),.pointer (some ⟨b5,0,none⟩)] H _
 refine Fc.mk (callable Try.call116) Try.func116 rfl Try.ntmps116 rfl ?_;dsimp only [fr]
 repeat' (first | (refine uP rfl ?_;(first | ((first | refine uN rfl ?_);(first | (refine uE (uL rfl rfl (uW (cs:=c) (te rfl) rfl (qH _) hc)) rfl rfl ?_)|(refine uE (uL rfl rfl (uO (te rfl) rfl (qT _ h4) rfl)) rfl rfl ?_)|(refine uE (uL rfl rfl (uO (te rfl) rfl (qT _ h5) rfl)) rfl rfl ?_)|(refine uC (uT rfl (Args.cons rfl (Args.cons rfl (Args.cons rfl Args.nil)))) rfl rfl (hf _) ?_;rintro _ H9 ⟨rfl,hH9⟩;subst H9)|(refine uE (uX rfl rfl rfl) rfl rfl ?_)|(refine uE (uA rfl rfl) rfl rfl ?_)|(refine Xg.st (StF.boxAgg rfl rfl) rfl rfl ?_;rintro _ _ ⟨bx,rfl,rfl⟩)))))|(refine uD rfl ?_;refine hK _ _ ?_;clear hK K) | refine uS rfl ?_ | refine uR rfl (fun K hK=>?_) | refine X.ret rfl ?_)
 exact ret_two (by simp) Try.results116 rfl rfl (H' := H) (by (repeat (first | exact qR _ | apply qC));done) ⟨rfl,rfl⟩
set_option maxHeartbeats 4000000 in
theorem ksince_spec (R : Rm) (p : Pl) (x : Int) (g : Nat) (cap : List Value) (f : Sp → Bool) (H : List Row) (hR : RmOk H R p) (h2 : R.boxes.length ≤ 1000000)
  (hf : ∀ s H',(∀ r ∈ H,r ∈ H') → Fc Try.prog g ([.agg (cSp s).toArray]++cap) H' (fun v H'' => v = .bool (f s)∧H'' = H')) :
  Fc Try.prog 66 [.agg (cRm R p).toArray,.int .i64 x,.func (.func g) #[] cap.toArray] H (fun v H' => v = .tuple #[.int .i64 (sinF R x f).1,.int .i64 (sinF R x f).2]∧H' = H):=by
 obtain ⟨e,he⟩ : ∃ e,openE R [x] [] = e:=⟨_,rfl⟩
 have hbt : ∀ (H' : List Row) (b1 : Nat),⟨b1,0,[.int .i64 x],some 3,1 * 1⟩ ∈ H' → BtOk H' ⟨[x],some ⟨b1,0,none⟩,1,[],none,0⟩:=fun H' b1 q1=>⟨SlE.ofRow (l:=[x]) q1 (fun _ _=>rfl),sleNil,Nat.le_of_ble_eq_true rfl,Nat.le_of_ble_eq_true rfl⟩
 by_cases h0 : e = 0
 ·subst h0
  obtain ⟨hok,hall,_,hT⟩:=openE_ok he
  have hx:=hall x (List.mem_singleton.2 rfl)
  have hF : sinF R x f = sinO (fstM (sinP R x f) 0 R.months.toNat):=by unfold sinF;rw [if_pos he]
  rw [hF]
  have hfi:=fun H' b k hC hk (hs : ∀ r ∈ H,r ∈ H')=>kfirst_spec R p (some ⟨b,0,none⟩) k x g cap f H' hok.ok hok.mats hC hok.lens.ages hok.lens.mats hk hT hx (fun s H'' hs' => hf s H'' (fun r h=>hs' r (hs r h)))
  obtain ⟨r,hr9⟩ : ∃ r,r = fstM (sinP R x f) 0 R.months.toNat:=⟨_,rfl⟩
  rw [← hr9] at hfi ⊢
  clear hr9 hF
  rw [sinO_firV]
  obtain ⟨v,hv⟩ : ∃ v,v = firV r:=⟨_,rfl⟩
  obtain ⟨w,hw⟩ : ∃ w,w = r.isSome:=⟨_,rfl⟩
  have hz : w = false → v = 0:=fun h=>by
   rw [hw] at h
   cases r with
   | none=>rw [hv];rfl
   | some k=>cases h
  rw [← hv, ← hw] at hfi ⊢
  clear hv hw
  refine Fc.mk (callable Try.call66) Try.func66 rfl Try.ntmps66 rfl ?_;dsimp only [fr]
  repeat' (first | (refine uP rfl ?_;(first | ((first | refine uN rfl ?_);(first | (refine Xg.st (StF.buildOne (v0 := .int .i64 x) rfl el55 rfl rfl rfl (by decide) (by decide)) rfl rfl ?_;rintro _ _ ⟨b1,rfl,rfl⟩)|(refine uE (EvF.build (cs:=cBt ⟨[x],some ⟨b1,0,none⟩,1,[],none,0⟩) rfl (ArgsP.cons rfl ArgsP.nil) (te rfl) (Places.cons (te rfl) (Places.cons (te rfl) Places.nil)) Try.zeroValue98 rfl) rfl rfl ?_)|(refine uC (uT rfl (by (repeat (first | exact Args.nil | refine Args.cons rfl ?_));done)) rfl rfl (openY (hR.sub (fun _ h=>by repeat (first | exact h | apply qT))) (hbt _ b1 (qH _)) h2 he) ?_;rintro _ _ ⟨b,k,hbk,rfl,rfl⟩)|(refine Xg.st (StF.alloc rfl Try.zeroValue93 rfl) rfl rfl ?_;rintro _ _ ⟨b8,rfl,rfl⟩)|(refine Xg.st0 (StF.storeAll (i:=0) (vs:=cCt R p (some ⟨b,0,none⟩) k) rfl rfl rfl (te rfl) rfl rfl rfl rfl) rfl ?_;rintro _ _ ⟨rfl,rfl⟩;dsimp only [List.set])|(refine uE (uL rfl rfl (uW (T:=93) (cs:=cCt R p (some ⟨b,0,none⟩) k) (te rfl) rfl (qH _) rfl)) rfl rfl ?_)|(refine uE (EvF.makeFunc (fl:=[]) rfl Args.nil (Args.cons rfl (Args.cons rfl Args.nil))) rfl rfl ?_)|(refine uC (uT rfl (Args.cons rfl (Args.cons rfl (Args.cons rfl (Args.cons rfl Args.nil))))) rfl rfl (told1_spec (cCt R p (some ⟨b,0,none⟩) k) 116 _ v 6 w rfl _ (fun r=>since1_spec (cCt R p (some ⟨b,0,none⟩) k) x v w _ _ _ _ _ _ _ rfl _ (by repeat (first | exact qH _ | apply qT)) (by repeat (first | exact qH _ | apply qT)) (fun r2=>hfi _ b k ⟨hR.sub (fun _ h=>by repeat (first | exact h | apply qT)),SlE.ofRow (l:=plcs R) (by repeat (first | exact qH _ | apply qT)) (fun _ _=>rfl)⟩ hbk (fun _ h=>by repeat (first | exact h | apply qT)))) hz) ?_;rintro _ _ ⟨rfl,rfl⟩)|(refine uE (uX rfl rfl rfl) rfl rfl ?_)|(refine uE (uM rfl rfl) rfl rfl ?_)|(refine uE (uA rfl rfl) rfl rfl ?_)|(refine uE (uL rfl rfl (uO (te rfl) rfl (qT _ (qH _)) rfl)) rfl rfl ?_)|(refine uE (uL rfl rfl (uW (te rfl) rfl (qT _ (qT _ (qH _))) rfl)) rfl rfl ?_)|(refine Xg.st (StF.boxAgg rfl rfl) rfl rfl ?_;rintro _ _ ⟨bx,rfl,rfl⟩)|(refine Xg.st (StF.boxOne rfl rfl rfl) rfl rfl ?_;rintro _ _ ⟨bx,rfl,rfl⟩)))))|(refine uD rfl ?_;refine hK _ _ ?_;clear hK K) | refine uS rfl ?_ | refine uR rfl (fun K hK=>?_) | refine X.ret rfl ?_)
  exact ret_two (by simp) Try.results66 rfl rfl (H' := H) (by (repeat (first | exact qR _ | apply qC));done) ⟨rfl,rfl⟩
 ·have hF : sinF R x f = (0,e):=by unfold sinF;rw [if_neg (by rw [he];exact h0),he]
  rw [hF]
  refine Fc.mk (callable Try.call66) Try.func66 rfl Try.ntmps66 rfl ?_;dsimp only [fr]
  repeat' (first | (refine uP rfl ?_;(first | ((first | refine uN rfl ?_);(first | (refine Xg.st (StF.buildOne (v0 := .int .i64 x) rfl el55 rfl rfl rfl (by decide) (by decide)) rfl rfl ?_;rintro _ _ ⟨b1,rfl,rfl⟩)|(refine uE (EvF.build (cs:=cBt ⟨[x],some ⟨b1,0,none⟩,1,[],none,0⟩) rfl (ArgsP.cons rfl ArgsP.nil) (te rfl) (Places.cons (te rfl) (Places.cons (te rfl) Places.nil)) Try.zeroValue98 rfl) rfl rfl ?_)|(refine uC (uT rfl (Args.cons rfl (Args.cons rfl Args.nil))) rfl rfl (openN (hR.sub (fun _ h=>by repeat (first | exact h | apply qT))) (hbt _ b1 (qH _)) h2 he h0) ?_;rintro _ H9 ⟨rfl,hH9⟩;subst H9)|(refine Xg.st (StF.alloc rfl Try.zeroValue93 rfl) rfl rfl ?_;rintro _ _ ⟨b8,rfl,rfl⟩)|(refine Xg.st0 (StF.storeAll (i:=0) (vs:=zCt) rfl rfl rfl (te rfl) rfl rfl rfl rfl) rfl ?_;rintro _ _ ⟨rfl,rfl⟩;dsimp only [List.set])|(refine uE (uL rfl rfl (uW (T:=93) (cs:=zCt) (te rfl) rfl (qH _) rfl)) rfl rfl ?_)|(refine uE (EvF.makeFunc (fl:=[]) rfl Args.nil (Args.cons rfl (Args.cons rfl Args.nil))) rfl rfl ?_)|(refine uC (uT rfl (Args.cons rfl (Args.cons rfl (Args.cons rfl (Args.cons rfl Args.nil))))) rfl rfl (told0_spec zCt e 6 _ h0 rfl _) ?_;rintro _ _ ⟨rfl,rfl⟩)|(refine uE (uX rfl rfl rfl) rfl rfl ?_)|(refine uE (uM rfl rfl) rfl rfl ?_)|(refine uE (uA rfl rfl) rfl rfl ?_)|(refine uE (uL rfl rfl (uO (te rfl) rfl (qT _ (qH _)) rfl)) rfl rfl ?_)|(refine uE (uL rfl rfl (uW (te rfl) rfl (qT _ (qT _ (qH _))) rfl)) rfl rfl ?_)|(refine Xg.st (StF.boxAgg rfl rfl) rfl rfl ?_;rintro _ _ ⟨bx,rfl,rfl⟩)|(refine Xg.st (StF.boxOne rfl rfl rfl) rfl rfl ?_;rintro _ _ ⟨bx,rfl,rfl⟩)))))|(refine uD rfl ?_;refine hK _ _ ?_;clear hK K) | refine uS rfl ?_ | refine uR rfl (fun K hK=>?_) | refine X.ret rfl ?_)
  all_goals try (exfalso;omega)
  exact ret_two (by simp) Try.results66 rfl rfl (H' := H) (by (repeat (first | exact qR _ | apply qC));done) ⟨rfl,rfl⟩
set_option maxHeartbeats 4000000 in
theorem kPerhaps_spec (R : Rm) (p : Pl) (x n : Int) (H : List Row) (hR : RmOk H R p) (h2 : R.boxes.length ≤ 1000000) : Fc Try.prog 28 [.agg (cRm R p).toArray,.int .i64 x,.int .i64 n] H (fun v H' => v = .tuple #[.int .i64 (sinF R x (sinS false n)).1,.int .i64 (sinF R x (sinS false n)).2]∧H' = H):=by
 have hks:=fun b H' hR' hm=>ksince_spec R p x 67 [.pointer (some ⟨b,0,none⟩)] (sinS false n) H' hR' h2 (fun s H'' hs=>perhaps1_spec s n b (some 3) 1 H'' (hs _ hm))
 obtain ⟨⟨y1,y2⟩,hy⟩ : ∃ y,y = sinF R x (sinS false n):=⟨_,rfl⟩
 rw [← hy] at hks ⊢
 clear hy
 refine Fc.mk (callable Try.call28) Try.func28 rfl Try.ntmps28 rfl ?_;dsimp only [fr]
 repeat' (first | (refine uP rfl ?_;(first | ((first | refine uN rfl ?_);(first | (refine uE (EvF.makeFunc (fl:=[]) rfl Args.nil (Args.cons rfl Args.nil)) rfl rfl ?_)|(refine uC (uT rfl (Args.cons rfl (Args.cons rfl (Args.cons rfl Args.nil)))) rfl rfl (hks _ _ (hR.sub (fun _ h=>by repeat (first | exact h | apply qT))) (qH _)) ?_;rintro _ H9 ⟨rfl,hH9⟩;subst H9)|(refine uE (uX rfl rfl rfl) rfl rfl ?_)|(refine uE (uM rfl rfl) rfl rfl ?_)|(refine uE (uA rfl rfl) rfl rfl ?_)|(refine uE (uL rfl rfl (uW (te rfl) rfl (qT _ (qH _)) rfl)) rfl rfl ?_)|(refine Xg.st (StF.boxAgg rfl rfl) rfl rfl ?_;rintro _ _ ⟨bx,rfl,rfl⟩)|(refine Xg.st (StF.boxOne rfl rfl rfl) rfl rfl ?_;rintro _ _ ⟨bx,rfl,rfl⟩)))))|(refine uD rfl ?_;refine hK _ _ ?_;clear hK K) | refine uS rfl ?_ | refine uR rfl (fun K hK=>?_) | refine X.ret rfl ?_)
 exact ret_two (by simp) Try.results28 rfl rfl (H' := H) (by repeat (first | exact qR _ | apply qK | apply qC)) ⟨rfl,rfl⟩
set_option maxHeartbeats 4000000 in
theorem rPerhaps_spec (R : Rm) (p : Pl) (x n : Int) (H : List Row) (hR : RmOk H R p) : Fc Try.prog 29 [.agg (cRm R p).toArray,.int .i64 x,.int .i64 n] H (fun v H' => v = .tuple #[.int .i64 (sinF R x (sinS false n)).1,.int .i64 (sinF R x (sinS false n)).2]∧H' = H):=by
 have hks:=fun H' hR' => rsince_spec R p x n false H' hR'
 obtain ⟨⟨y1,y2⟩,hy⟩ : ∃ y,y = sinF R x (sinS false n):=⟨_,rfl⟩
 rw [← hy] at hks ⊢
 clear hy
 refine Fc.mk (callable Try.call29) Try.func29 rfl Try.ntmps29 rfl ?_;dsimp only [fr]
 repeat' (first | (refine uP rfl ?_;(first | ((first | refine uN rfl ?_);(first | (refine uE (uL rfl rfl (uW (T:=26) (cs:=cRm R p) (te rfl) rfl (qH _) rfl)) rfl rfl ?_)|(refine uC (uT rfl (by (repeat (first | exact Args.nil | refine Args.cons rfl ?_));done)) rfl rfl (hks _ (hR.sub (fun _ h=>by repeat (first | exact h | apply qT)))) ?_;rintro _ H9 ⟨rfl,hH9⟩;subst H9)|(refine uE (uX rfl rfl rfl) rfl rfl ?_)|(refine uE (uM rfl rfl) rfl rfl ?_)|(refine uE (uA rfl rfl) rfl rfl ?_)|(refine Xg.st (StF.boxAgg rfl rfl) rfl rfl ?_;rintro _ _ ⟨bx,rfl,rfl⟩)))))|(refine uD rfl ?_;refine hK _ _ ?_;clear hK K) | refine uS rfl ?_ | refine uR rfl (fun K hK=>?_) | refine X.ret rfl ?_)
 exact ret_two (by simp) Try.results29 rfl rfl (H' := H) (by repeat (first | exact qR _ | apply qK | apply qC)) ⟨rfl,rfl⟩
set_option maxHeartbeats 4000000 in
theorem kSurely_spec (R : Rm) (p : Pl) (x n : Int) (H : List Row) (hR : RmOk H R p) (h2 : R.boxes.length ≤ 1000000) : Fc Try.prog 30 [.agg (cRm R p).toArray,.int .i64 x,.int .i64 n] H (fun v H' => v = .tuple #[.int .i64 (sinF R x (sinS true n)).1,.int .i64 (sinF R x (sinS true n)).2]∧H' = H):=by
 have hks:=fun b H' hR' hm=>ksince_spec R p x 69 [.pointer (some ⟨b,0,none⟩)] (sinS true n) H' hR' h2 (fun s H'' hs=>surely1_spec s n b (some 3) 1 H'' (hs _ hm))
 obtain ⟨⟨y1,y2⟩,hy⟩ : ∃ y,y = sinF R x (sinS true n):=⟨_,rfl⟩
 rw [← hy] at hks ⊢
 clear hy
 refine Fc.mk (callable Try.call30) Try.func30 rfl Try.ntmps30 rfl ?_;dsimp only [fr]
 repeat' (first | (refine uP rfl ?_;(first | ((first | refine uN rfl ?_);(first | (refine uE (EvF.makeFunc (fl:=[]) rfl Args.nil (Args.cons rfl Args.nil)) rfl rfl ?_)|(refine uC (uT rfl (Args.cons rfl (Args.cons rfl (Args.cons rfl Args.nil)))) rfl rfl (hks _ _ (hR.sub (fun _ h=>by repeat (first | exact h | apply qT))) (qH _)) ?_;rintro _ H9 ⟨rfl,hH9⟩;subst H9)|(refine uE (uX rfl rfl rfl) rfl rfl ?_)|(refine uE (uM rfl rfl) rfl rfl ?_)|(refine uE (uA rfl rfl) rfl rfl ?_)|(refine uE (uL rfl rfl (uW (te rfl) rfl (qT _ (qH _)) rfl)) rfl rfl ?_)|(refine Xg.st (StF.boxAgg rfl rfl) rfl rfl ?_;rintro _ _ ⟨bx,rfl,rfl⟩)|(refine Xg.st (StF.boxOne rfl rfl rfl) rfl rfl ?_;rintro _ _ ⟨bx,rfl,rfl⟩)))))|(refine uD rfl ?_;refine hK _ _ ?_;clear hK K) | refine uS rfl ?_ | refine uR rfl (fun K hK=>?_) | refine X.ret rfl ?_)
 exact ret_two (by simp) Try.results30 rfl rfl (H' := H) (by repeat (first | exact qR _ | apply qK | apply qC)) ⟨rfl,rfl⟩
set_option maxHeartbeats 4000000 in
theorem rSurely_spec (R : Rm) (p : Pl) (x n : Int) (H : List Row) (hR : RmOk H R p) : Fc Try.prog 31 [.agg (cRm R p).toArray,.int .i64 x,.int .i64 n] H (fun v H' => v = .tuple #[.int .i64 (sinF R x (sinS true n)).1,.int .i64 (sinF R x (sinS true n)).2]∧H' = H):=by
 have hks:=fun H' hR' => rsince_spec R p x n true H' hR'
 obtain ⟨⟨y1,y2⟩,hy⟩ : ∃ y,y = sinF R x (sinS true n):=⟨_,rfl⟩
 rw [← hy] at hks ⊢
 clear hy
 refine Fc.mk (callable Try.call31) Try.func31 rfl Try.ntmps31 rfl ?_;dsimp only [fr]
 repeat' (first | (refine uP rfl ?_;(first | ((first | refine uN rfl ?_);(first | (refine uE (uL rfl rfl (uW (T:=26) (cs:=cRm R p) (te rfl) rfl (qH _) rfl)) rfl rfl ?_)|(refine uC (uT rfl (by (repeat (first | exact Args.nil | refine Args.cons rfl ?_));done)) rfl rfl (hks _ (hR.sub (fun _ h=>by repeat (first | exact h | apply qT)))) ?_;rintro _ H9 ⟨rfl,hH9⟩;subst H9)|(refine uE (uX rfl rfl rfl) rfl rfl ?_)|(refine uE (uM rfl rfl) rfl rfl ?_)|(refine uE (uA rfl rfl) rfl rfl ?_)|(refine Xg.st (StF.boxAgg rfl rfl) rfl rfl ?_;rintro _ _ ⟨bx,rfl,rfl⟩)))))|(refine uD rfl ?_;refine hK _ _ ?_;clear hK K) | refine uS rfl ?_ | refine uR rfl (fun K hK=>?_) | refine X.ret rfl ?_)
 exact ret_two (by simp) Try.results31 rfl rfl (H' := H) (by repeat (first | exact qR _ | apply qK | apply qC)) ⟨rfl,rfl⟩
end Go.Proofs.Ytmfppdpkalelhaa
end
section
set_option linter.unusedVariables false
set_option linter.unusedSimpArgs false
namespace Go.Fw
open Go
theorem EvF.eqSf {P : Program} {n : Nat} {H : List Row} {F : FS} {o : Oper} {T T' : TypeId} {x y : Operand} {k : IntKind} {p : Int} (h : o.op = .binOp .eql T x y T') (hx : evF F x = some (.int k p)) (hy : evF F y = some (.int k p)) : EvF P n H F o (.bool true):=by
 have:=uQ (P:=P) (n:=n) (H:=H) h hx hy rfl
 rwa [decide_eq_true rfl] at this
theorem EvF.eqSfB {P : Program} {n : Nat} {H : List Row} {F : FS} {o : Oper} {T T' : TypeId} {x y : Operand} {p : Bool} (h : o.op = .binOp .eql T x y T') (hx : evF F x = some (.bool p)) (hy : evF F y = some (.bool p)) (hu : P.underlying T = some .bool) : EvF P n H F o (.bool true):=by
 have:=EvF.cmpB (P:=P) (n:=n) (H:=H) h hx hy hu rfl
 rwa [beq_self_eq_true] at this
end Go.Fw
namespace Go.Proofs.Ytmfppdpkalelhaa
open Go Go.Fw
set_option maxRecDepth 10000
theorem sameR_self (R : Rm) (p q : Pl) (H : List Row) (hR : RmOk H R p) (hS : RmOk H R q) : Fc Try.prog 23 [.agg (cRm R p).toArray,.agg (cRm R q).toArray] H (fun v H' => v = .bool true∧H' = H) :=
 (same_spec R R p q H hR hS).mono (fun v H' ⟨h1,h2⟩=>⟨by rw [h1,decide_eq_true rfl],h2⟩)
theorem eqSp_sf (e : Sp) (w : World) : (Op.equalIn 10000 35 (.agg (cSp e).toArray) (.agg (cSp e).toArray)).run Try.prog w = .ok true w:=by
 rw [eqSp 9998,decide_eq_true rfl]
noncomputable def chkF (R : Rm) : Int:=if roomOk R then 0 else 10
theorem kCheck2_spec (R : Rm) (p : Pl) (H : List Row) (hR : RmOk H R p) : Fc Try.prog 21 [.agg (cRm R p).toArray] H (fun v H' => v = .int .i64 (chkF R)∧H' = H):=by
 refine (check_spec R p H hR).mono fun v H' ⟨h,h2⟩=>⟨?_,h2⟩
 unfold chkF
 rcases h with ⟨h,e⟩ | ⟨h,e⟩
 ·rw [if_pos h];exact e
 ·rw [if_neg h];exact e
theorem rCheck_spec (R : Rm) (p : Pl) (H : List Row) (hR : RmOk H R p) : Fc Try.prog 22 [.agg (cRm R p).toArray] H (fun v H' => v = .int .i64 (chkF R)∧H' = H):=by
 have hR2 : ∀ r1,RmOk (r1::H) R p:=fun r1=>hR.sub (fun _ h=>qT _ h)
 unfold chkF
 by_cases hok : roomOk R
 ·rw [if_pos hok]
  have hrs : ∀ r1,Fc Try.prog 46 [.agg (cRm R p).toArray] (r1::H) (fun v H' => v = .bool true∧H' = r1::H):=fun r1=>by
   have:=room_spec R p (r1::H) (hR2 r1)
   rwa [decide_eq_true hok] at this
  refine Fc.mk (callable Try.call22) Try.func22 rfl Try.ntmps22 rfl ?_;dsimp only [fr]
  repeat' (first | (refine uP rfl ?_;(first | ((first | refine uN rfl ?_);(first | (refine uE (uL rfl rfl (uW (te rfl) rfl (qH _) rfl)) rfl rfl ?_)|(refine uC (uT rfl (Args.cons rfl Args.nil)) rfl rfl (hrs _) ?_;rintro _ H9 ⟨rfl,hH9⟩;subst H9)|(refine uE (uA rfl rfl) rfl rfl ?_)|(refine uE (EvF.not rfl rfl) rfl rfl ?_)|(refine Xg.st (StF.boxAgg rfl rfl) rfl rfl ?_;rintro _ _ ⟨bx,rfl,rfl⟩)))))|(refine uD rfl ?_;refine hK _ _ ?_;clear hK K) | refine uS rfl ?_ | refine uR rfl (fun K hK=>?_) | refine X.skip rfl ?_ | refine X.ret rfl ?_ | (refine X.ite rfl rfl (fun hc=>?_);(first | (with_reducible refine Xb.caseB hc (fun h=>?_) (fun h=>?_))) <;> clear hc))
  all_goals try (exfalso;contradiction)
  exact ret_one (v := .int .i64 0) (by simp) Try.results22 rfl (H' := H) (by repeat (first | exact qR _ | apply qK | apply qC)) ⟨rfl,rfl⟩
 ·rw [if_neg hok]
  have hrs : ∀ r1,Fc Try.prog 46 [.agg (cRm R p).toArray] (r1::H) (fun v H' => v = .bool false∧H' = r1::H):=fun r1=>by
   have:=room_spec R p (r1::H) (hR2 r1)
   rwa [decide_eq_false hok] at this
  refine Fc.mk (callable Try.call22) Try.func22 rfl Try.ntmps22 rfl ?_;dsimp only [fr]
  repeat' (first | (refine uP rfl ?_;(first | ((first | refine uN rfl ?_);(first | (refine uE (uL rfl rfl (uW (te rfl) rfl (qH _) rfl)) rfl rfl ?_)|(refine uC (uT rfl (Args.cons rfl Args.nil)) rfl rfl (hrs _) ?_;rintro _ H9 ⟨rfl,hH9⟩;subst H9)|(refine uE (uA rfl rfl) rfl rfl ?_)|(refine uE (EvF.not rfl rfl) rfl rfl ?_)|(refine Xg.st (StF.boxAgg rfl rfl) rfl rfl ?_;rintro _ _ ⟨bx,rfl,rfl⟩)))))|(refine uD rfl ?_;refine hK _ _ ?_;clear hK K) | refine uS rfl ?_ | refine uR rfl (fun K hK=>?_) | refine X.skip rfl ?_ | refine X.ret rfl ?_ | (refine X.ite rfl rfl (fun hc=>?_);(first | (with_reducible refine Xb.caseB hc (fun h=>?_) (fun h=>?_))) <;> clear hc))
  all_goals try (exfalso;contradiction)
  exact ret_one (v := .int .i64 10) (by simp) Try.results22 rfl (H' := H) (by repeat (first | exact qR _ | apply qK | apply qC)) ⟨rfl,rfl⟩
theorem canF_tup (R : Rm) : ∃ (b : Bool) (e : Int),canF R = .tuple #[.bool b,.int .i64 e]:=by
 unfold canF
 split
 ·exact ⟨_,_,rfl⟩
 ·exact ⟨_,_,rfl⟩
set_option maxHeartbeats 8000000 in
theorem boxTells_spec (R : Rm) (p : Pl) (a b m : Int) (H : List Row) (hR : RmOk H R p) :
  Fc Try.prog 3 [.agg (cRm R p).toArray,.int .i64 a,.int .i64 b,.int .i64 m] H (fun v _=>v = .bool true):=by
 by_cases hg : great R
 ·have hgr:=great_spec R p
  simp only [decide_eq_true hg] at hgr
  refine Fc.mk (callable Try.call3) Try.func3 rfl Try.ntmps3 rfl ?_;dsimp only [fr]
  repeat' (first | (refine uP rfl ?_;(first | ((first | refine uN rfl ?_);(first | (refine uC (uT rfl (Args.cons rfl Args.nil)) rfl rfl (hgr _) ?_;rintro _ H9 ⟨rfl,hH9⟩;subst H9)|(refine uE (uA rfl rfl) rfl rfl ?_)|(refine uE (uL rfl rfl (uW (te rfl) rfl (qH _) rfl)) rfl rfl ?_)|(refine Xg.st (StF.boxAgg rfl rfl) rfl rfl ?_;rintro _ _ ⟨bx,rfl,rfl⟩)))))|(refine uD rfl ?_;refine hK _ _ ?_;clear hK K) | refine uS rfl ?_ | refine uR rfl (fun K hK=>?_) | refine X.ret rfl ?_ | (refine X.ite rfl rfl (fun hc=>?_);(first | (with_reducible refine Xb.t hc ?_)) <;> clear hc))
  all_goals try (exfalso;contradiction)
  exact ret_one (by simp) Try.results3 rfl (H' := _) (qR _) rfl
 ·have hgr:=great_spec R p
  simp only [decide_eq_false hg] at hgr
  have h1 : R.ages.length ≤ 1000000:=by unfold great at hg;omega
  have h2 : R.boxes.length ≤ 1000000:=by unfold great at hg;omega
  have h3 : R.mats.length ≤ 1000000:=by unfold great at hg;omega
  obtain ⟨cb,ce,hcan⟩:=canF_tup R
  obtain ⟨⟨ys,ye⟩,hy⟩ : ∃ y,y = yelF R a m:=⟨_,rfl⟩
  obtain ⟨⟨ds,de⟩,hd⟩ : ∃ y,y = difF R a b m:=⟨_,rfl⟩
  have kcan:=fun p' H' (h : RmOk H' R p')=>kCan_spec R p' H' h
  have rcan:=fun p' H' (h : RmOk H' R p')=>rCan_spec R p' H' h
  have kyel:=fun p' H' (h : RmOk H' R p')=>kYellow_spec R p' a m H' h h2
  have ryel:=fun p' H' (h : RmOk H' R p')=>rYellow_spec R p' a m H' h
  have kdif:=fun p' H' (h : RmOk H' R p')=>kDiffer_spec R p' a b m H' h h2
  have rdif:=fun p' H' (h : RmOk H' R p')=>rDiffer_spec R p' a b m H' h
  rw [hcan] at kcan rcan
  rw [← hy] at kyel ryel
  rw [← hd] at kdif rdif
  clear hcan hy hd
  refine Fc.mk (callable Try.call3) Try.func3 rfl Try.ntmps3 rfl ?_;dsimp only [fr]
  repeat' (first | (refine uP rfl ?_;(first | ((first | refine uN rfl ?_);(first | (refine uC (uT rfl (Args.cons rfl Args.nil)) rfl rfl (hgr _) ?_;rintro _ H9 ⟨rfl,hH9⟩;subst H9)|(refine uC (uT rfl (by (repeat (first | exact Args.nil | refine Args.cons rfl ?_));done)) rfl rfl (twin_spec R p _ (hR.sub (fun _ h=>by repeat (first | exact h | apply qT))) h1 h2 h3) ?_;rintro _ _ ⟨t1,k1,t2,k2,t3,k3,rfl,rfl⟩)|(refine uE (uA rfl rfl) rfl rfl ?_)|(refine uE (uL rfl rfl (uW (te rfl) rfl (qH _) rfl)) rfl rfl ?_)|(refine Xg.st (StF.boxAgg rfl rfl) rfl rfl ?_;rintro _ _ ⟨bx,rfl,rfl⟩)|(refine Xg.st (StF.alloc rfl Try.zeroValue26 rfl) rfl rfl ?_;rintro _ _ ⟨bx,rfl,rfl⟩)|(refine Xg.st0 (StF.storeAll (i:=0) rfl rfl rfl (te rfl) rfl rfl rfl rfl) rfl ?_;rintro _ _ ⟨rfl,rfl⟩;dsimp only [List.set])))))|(refine uD rfl ?_;refine hK _ _ ?_;clear hK K) | refine uS rfl ?_ | refine uR rfl (fun K hK=>?_) | refine X.skip rfl ?_ | (refine X.ite rfl rfl (fun hc=>?_);(first | (with_reducible refine Xb.f hc ?_)) <;> clear hc))
  all_goals try (exfalso;contradiction)
  have hT : ∀ H',(⟨t1,0,R.ages.flatMap cSp,some 35,k1 * 2⟩ : Row) ∈ H' → (⟨t2,0,R.boxes.flatMap cBx,some 81,k2 * 2⟩ : Row) ∈ H' → (⟨t3,0,R.mats.flatMap cMt,some 111,k3 * 6⟩ : Row) ∈ H' → RmOk H' R ⟨some ⟨t1,0,none⟩,k1,some ⟨t2,0,none⟩,k2,some ⟨t3,0,none⟩,k3⟩ :=
   fun H' m1 m2 m3=>⟨SlE.ofRow m1 (fun _ _=>rfl),SlE.ofRow m2 (fun _ _=>rfl),SlE.ofRow m3 (fun _ _=>rfl),by omega,by omega,by omega⟩
  obtain ⟨po,hpo⟩ : ∃ po,po = (⟨some ⟨t1,0,none⟩,k1,some ⟨t2,0,none⟩,k2,some ⟨t3,0,none⟩,k3⟩ : Pl):=⟨_,rfl⟩
  rw [← hpo] at hT ⊢
  clear hpo
  repeat' (first | (refine uP rfl ?_;(first | ((first | refine uN rfl ?_);(first | (refine uE (uX rfl rfl rfl) rfl rfl ?_)|(refine uE (uL rfl rfl (uW (T:=26) (cs:=cRm R po) (te rfl) rfl (by repeat (first | exact qH _ | apply qT)) rfl)) rfl rfl ?_)|(refine uE (uL rfl rfl (uW (T:=26) (cs:=cRm R p) (te rfl) rfl (by repeat (first | exact qH _ | apply qT)) rfl)) rfl rfl ?_)|(refine uC (uT rfl (by (repeat (first | exact Args.nil | refine Args.cons rfl ?_));done)) rfl rfl (kcan _ _ (hT _ (by repeat (first | exact qH _ | apply qT)) (by repeat (first | exact qH _ | apply qT)) (by repeat (first | exact qH _ | apply qT)))) ?_;rintro _ H9 ⟨rfl,hH9⟩;subst H9)|(refine uC (uT rfl (by (repeat (first | exact Args.nil | refine Args.cons rfl ?_));done)) rfl rfl (rcan p _ (hR.sub (fun _ h=>by repeat (first | exact h | apply qT)))) ?_;rintro _ H9 ⟨rfl,hH9⟩;subst H9)|(refine uC (uT rfl (by (repeat (first | exact Args.nil | refine Args.cons rfl ?_));done)) rfl rfl (kyel _ _ (hT _ (by repeat (first | exact qH _ | apply qT)) (by repeat (first | exact qH _ | apply qT)) (by repeat (first | exact qH _ | apply qT)))) ?_;rintro _ H9 ⟨rfl,hH9⟩;subst H9)|(refine uC (uT rfl (by (repeat (first | exact Args.nil | refine Args.cons rfl ?_));done)) rfl rfl (ryel p _ (hR.sub (fun _ h=>by repeat (first | exact h | apply qT)))) ?_;rintro _ H9 ⟨rfl,hH9⟩;subst H9)|(refine uC (uT rfl (by (repeat (first | exact Args.nil | refine Args.cons rfl ?_));done)) rfl rfl (kdif _ _ (hT _ (by repeat (first | exact qH _ | apply qT)) (by repeat (first | exact qH _ | apply qT)) (by repeat (first | exact qH _ | apply qT)))) ?_;rintro _ H9 ⟨rfl,hH9⟩;subst H9)|(refine uC (uT rfl (by (repeat (first | exact Args.nil | refine Args.cons rfl ?_));done)) rfl rfl (rdif p _ (hR.sub (fun _ h=>by repeat (first | exact h | apply qT)))) ?_;rintro _ H9 ⟨rfl,hH9⟩;subst H9)|(refine uE (uM rfl rfl) rfl rfl ?_)|(refine uE (uA rfl rfl) rfl rfl ?_)|(refine Xg.st (StF.alloc rfl Try.zeroValue35 rfl) rfl rfl ?_;rintro _ _ ⟨bx,rfl,rfl⟩)|(refine Xg.st0 (StF.storeAll (i:=0) rfl rfl rfl (te rfl) rfl rfl rfl rfl) rfl ?_;rintro _ _ ⟨rfl,rfl⟩;dsimp only [List.set])))))|(refine uD rfl ?_;refine hK _ _ ?_;clear hK K)|(refine XQ.op rfl ?_;(first | ((first | refine Yo.ng rfl ?_ | (refine Yo.g rfl rfl ?_;with_reducible refine Yw.tt ?_));(first | (refine Yg.ev (EvF.eqSf rfl rfl rfl) rfl rfl ?_)|(refine Yg.ev (EvF.eqSfB rfl rfl rfl (by kernel_rfl)) rfl rfl ?_)|(refine Yg.ev (EvF.eqSt (r:=true) (b:=true) rfl rfl rfl (by kernel_rfl) (fun w=>eqSp_sf _ w) rfl) rfl rfl ?_)|(refine Yg.ev (uL rfl rfl (uW (T:=26) (cs:=cRm R po) (te rfl) rfl (by repeat (first | exact qH _ | apply qT)) rfl)) rfl rfl ?_)|(refine Yg.ev (uL rfl rfl (uW (T:=26) (cs:=cRm R p) (te rfl) rfl (by repeat (first | exact qH _ | apply qT)) rfl)) rfl rfl ?_)|(refine Yg.ev (uL rfl rfl (uW (T:=35) (cs:=cSp ys) (te rfl) rfl (by repeat (first | exact qH _ | apply qT)) rfl)) rfl rfl ?_)|(refine Yg.ev (uL rfl rfl (uW (T:=35) (cs:=cSp ds) (te rfl) rfl (by repeat (first | exact qH _ | apply qT)) rfl)) rfl rfl ?_)|(refine Yg.call (uT rfl (by (repeat (first | exact Args.nil | refine Args.cons rfl ?_));done)) rfl rfl (kCheck2_spec R po _ (hT _ (by repeat (first | exact qH _ | apply qT)) (by repeat (first | exact qH _ | apply qT)) (by repeat (first | exact qH _ | apply qT)))) ?_)|(refine Yg.call (uT rfl (by (repeat (first | exact Args.nil | refine Args.cons rfl ?_));done)) rfl rfl (rCheck_spec R p _ (hR.sub (fun _ h=>by repeat (first | exact h | apply qT)))) ?_)|(refine Yg.call (uT rfl (by (repeat (first | exact Args.nil | refine Args.cons rfl ?_));done)) rfl rfl (sameR_self R po p _ (hT _ (by repeat (first | exact qH _ | apply qT)) (by repeat (first | exact qH _ | apply qT)) (by repeat (first | exact qH _ | apply qT))) (hR.sub (fun _ h=>by repeat (first | exact h | apply qT)))) ?_)|(refine Yg.ev (uM rfl rfl) rfl rfl ?_)|(refine Yg.ev (uA rfl rfl) rfl rfl ?_)|(refine Yg.ev (EvF.pickT rfl rfl rfl) rfl rfl ?_)))))|(refine XQ.done rfl ?_;refine hK _ ?_;clear hK K) | refine uS rfl ?_ | refine uR rfl (fun K hK=>?_) | refine X.regionD rfl mixed (by kernel_rfl) (fun K hK=>?_) | refine X.ret rfl ?_)
  exact ret_one (by simp) Try.results3 rfl (H' := _) (qR _) rfl
end Go.Proofs.Ytmfppdpkalelhaa
end
section
set_option linter.unusedVariables false
namespace Go.Proofs.Ytmfppdpkalelhaa
open Go Go.Fw Go.ChangeShapes Go.WideShapes
set_option maxRecDepth 10000
instance : Inhabited Sp:=⟨⟨0,0⟩⟩
instance : Inhabited Bx:=⟨⟨0,0⟩⟩
instance : Inhabited Mt:=⟨⟨0,0,0,0,0,0⟩⟩
def w64 (n : Int) : Prop:=(Lit.int .i64 n).wf = true
section
variable {H : Type} {enc : TypeId × Value → H} {w : World} {base : Nat} {spare : Nat → Bool} {held : Bool} {fuel : Nat} {cs : List Value} {x : DataW H × List MemPlace}
theorem open_i (h : DataW.trod enc Try.prog w base spare held fuel 3 cs = some x) : ∃ q : Int,cs = cI q∧w64 q:=trod_i (te rfl) h
theorem open_sp (h : DataW.trod enc Try.prog w base spare held fuel 35 cs = some x) : ∃ q : Sp,cs = cSp q∧(w64 q.lo∧w64 q.hi):=by
 obtain ⟨hl,hf⟩:=trod_st (te rfl) h
 obtain ⟨n0,y0,h0⟩:=hf 0 0 3 _ rfl (te rfl)
 obtain ⟨n1,y1,h1⟩:=hf 1 1 3 _ rfl (te rfl)
 match cs,hl with
 | [a,b],_ =>
  obtain ⟨lo,e0,w0⟩:=open_i h0
  obtain ⟨hi,e1,w1⟩:=open_i h1
  simp [cI] at e0 e1
  subst e0 e1
  exact ⟨⟨lo,hi⟩,rfl,w0,w1⟩
theorem open_bx (h : DataW.trod enc Try.prog w base spare held fuel 81 cs = some x) : ∃ q : Bx,cs = cBx q∧(w64 q.id∧w64 q.made):=by
 obtain ⟨hl,hf⟩:=trod_st (te rfl) h
 obtain ⟨n0,y0,h0⟩:=hf 0 0 3 _ rfl (te rfl)
 obtain ⟨n1,y1,h1⟩:=hf 1 1 3 _ rfl (te rfl)
 match cs,hl with
 | [a,b],_ =>
  obtain ⟨lo,e0,w0⟩:=open_i h0
  obtain ⟨hi,e1,w1⟩:=open_i h1
  simp [cI] at e0 e1
  subst e0 e1
  exact ⟨⟨lo,hi⟩,rfl,w0,w1⟩
theorem open_mt (h : DataW.trod enc Try.prog w base spare held fuel 111 cs = some x) : ∃ q : Mt,cs = cMt q∧(w64 q.number∧w64 q.month∧w64 q.a∧w64 q.b∧w64 q.lo∧w64 q.hi):=by
 obtain ⟨hl,hf⟩:=trod_st (te rfl) h
 obtain ⟨n0,y0,h0⟩:=hf 0 0 3 _ rfl (te rfl)
 obtain ⟨n1,y1,h1⟩:=hf 1 1 3 _ rfl (te rfl)
 obtain ⟨n2,y2,h2⟩:=hf 2 2 3 _ rfl (te rfl)
 obtain ⟨n3,y3,h3⟩:=hf 3 3 3 _ rfl (te rfl)
 obtain ⟨n4,y4,h4⟩:=hf 4 4 35 _ rfl (te rfl)
 match cs,hl with
 | [a,b,c,d,e,f],_ =>
  obtain ⟨q0,e0,w0⟩:=open_i h0
  obtain ⟨q1,e1,w1⟩:=open_i h1
  obtain ⟨q2,e2,w2⟩:=open_i h2
  obtain ⟨q3,e3,w3⟩:=open_i h3
  obtain ⟨q4,e4,w4⟩:=open_sp h4
  simp [cI,cSp] at e0 e1 e2 e3 e4
  obtain ⟨e4,e5⟩:=e4
  subst e0 e1 e2 e3 e4 e5
  exact ⟨⟨q0,q1,q2,q3,q4.lo,q4.hi⟩,rfl,w0,w1,w2,w3,w4.1,w4.2⟩
end
structure InRm (w : World) (R : Rm) (p : Pl) : Prop where
 ages : InSl w p.a1 cSp 2 R.ages
 boxes : InSl w p.a2 cBx 2 R.boxes
 mats : InSl w p.a3 cMt 6 R.mats
 mo : w64 R.months
 st : w64 R.step
 k1 : R.ages.length ≤ p.c1
 k2 : R.boxes.length ≤ p.c2
 k3 : R.mats.length ≤ p.c3
def rowsRm (R : Rm) (p : Pl) : List Row:=rowsOf p.a1 cSp R.ages++(rowsOf p.a2 cBx R.boxes++rowsOf p.a3 cMt R.mats)
theorem InRm.rm {w : World} {R : Rm} {p : Pl} {H : List Row} (h : InRm w R p) (hs : ∀ r ∈ rowsRm R p,r ∈ H) : RmOk H R p where
 ages:=h.ages.sl fun r hr=>hs r (List.mem_append_left _ hr)
 boxes:=h.boxes.sl fun r hr=>hs r (List.mem_append_right _ (List.mem_append_left _ hr))
 mats:=h.mats.sl fun r hr=>hs r (List.mem_append_right _ (List.mem_append_right _ hr))
 l1:=by have:=h.ages.2.1;unfold maxLen at this;omega
 l2:=by have:=h.boxes.2.1;unfold maxLen at this;omega
 l3:=by have:=h.mats.2.1;unfold maxLen at this;omega
theorem InRm.ok {w : World} {R : Rm} {p : Pl} {B : Nat} (h : InRm w R p) : ∀ r ∈ rowsRm R p,r.own = none∧r.ok B w:=by
 intro r hr
 rcases List.mem_append.1 hr with hr | hr
 ·exact h.ages.ok r hr
 ·rcases List.mem_append.1 hr with hr | hr
  ·exact h.boxes.ok r hr
  ·exact h.mats.ok r hr
section
variable {H : Type} {enc : TypeId × Value → H} {w : World} {base : Nat} {spare : Nat → Bool} {held : Bool} {v : Value} {d : DataW H} {p : List MemPlace} {r : Reach} {b0 : Nat}
theorem open_room (hv : Value.okWide Try.prog w r b0 26 v) (h : DataW.Trod enc Try.prog w base spare held 26 v d p) : ∃ R pl,v = .agg (cRm R pl).toArray∧InRm w R pl:=by
 obtain ⟨fa,hu,_⟩:=ti_struct (te (T:=26) rfl)
 obtain ⟨⟨cs⟩,rfl,_⟩:=okWide_struct hu hv
 obtain ⟨fuel,hf⟩:=h
 obtain ⟨hl,hf⟩:=trod_st (te rfl) hf
 obtain ⟨n0,y0,h0⟩:=hf 0 0 3 _ rfl (te rfl)
 obtain ⟨n1,y1,h1⟩:=hf 1 1 3 _ rfl (te rfl)
 obtain ⟨n2,y2,h2⟩:=hf 2 2 22 _ rfl (te rfl)
 obtain ⟨n3,y3,h3⟩:=hf 3 3 23 _ rfl (te rfl)
 obtain ⟨n4,y4,h4⟩:=hf 4 4 24 _ rfl (te rfl)
 match cs,hl with
 | [a,b,c,d,e],_ =>
  obtain ⟨q0,e0,w0⟩:=open_i h0
  obtain ⟨q1,e1,w1⟩:=open_i h1
  simp [cI,Value.cells] at e0 e1
  obtain ⟨l2,a2,c2,e2,i2,_,k2⟩:=open_sl (te rfl) (te rfl) rfl (by decide) (fun _ _ _=>open_sp) (fun _=>rfl) h2
  obtain ⟨l3,a3,c3,e3,i3,_,k3⟩:=open_sl (te rfl) (te rfl) rfl (by decide) (fun _ _ _=>open_bx) (fun _=>rfl) h3
  obtain ⟨l4,a4,c4,e4,i4,_,k4⟩:=open_sl (te rfl) (te rfl) rfl (by decide) (fun _ _ _=>open_mt) (fun _=>rfl) h4
  subst e0 e1 e2 e3 e4
  exact ⟨⟨q0,q1,l2,l3,l4⟩,⟨a2,c2,a3,c3,a4,c4⟩,rfl,i2,i3,i4,w0,w1,k2,k3,k4⟩
end
end Go.Proofs.Ytmfppdpkalelhaa
end
section
set_option linter.unusedVariables false
namespace Go.Proofs.Ytmfppdpkalelhaa
open Go Go.Fw Go.ChangeShapes Go.WideShapes Go.ChangeAt Go.RowKit
set_option linter.unusedVariables false
set_option maxRecDepth 100000
theorem ownK : ownKnob Try.prog.godebug = none:=by kernel_rfl
theorem laidO : laidOutB Try.prog = true:=by kernel_rfl
theorem open_in {w : World} {r : Reach} {b0 : Nat} {v : Value} (hv : Value.okWide Try.prog w r b0 3 v) : ∃ q : Int,v = .int .i64 q:=okWide_int Try.underlying3 hv
theorem boxTells_run (R : Rm) (p : Pl) (a b m : Int) (w : World) (hR : InRm w R p) :
  Calls Try.prog 3 #[.agg (cRm R p).toArray,.int .i64 a,.int .i64 b,.int .i64 m] w fun e w' => e = .returned (.bool true)∧Below w.heap.size w w' :=
 Fc.calls (H:=rowsRm R p) (boxTells_spec R p a b m _ (hR.rm (fun _ h=>h))) (fun r hr=>hR.ok r hr)
theorem lifted (os : Os) (started : os.Started) (H : Type) (enc : TypeId × Value → H) :
  ReturnsInHanded {} Try.checked os 3 .any (Rows.boxTellsSpec.pre6 enc Try.prog Try.f3 Rows.boxTellsRow.domain false) (Rows.boxTellsSpec.post enc Try.prog Try.f3 false true false false):=by
 refine returnsInHanded_of_change (C:=Try.checked) ownK started (by kernel_rfl) Try.func3
  (ChangeSpec.witness6 (enc:=enc) (C:=Try.checked) false ⟨#[], #[.agg (cRm ⟨0,0,[],[],[]⟩ ⟨none,0,none,0,none,0⟩).toArray,.int .i64 0,.int .i64 0,.int .i64 0],[]⟩ 8 (by kernel_rfl) (by kernel_rfl) (by kernel_rfl) (by kernel_rfl)) ?_
 intro W base args ds gs before hval0 hW hcnd _
 have hval : ∀ (j : Nat) t v,Try.f3.params[j]? = some t → args[j]? = some v → Value.okWide Try.prog W .any base t v:=hval0
 have hW' := hW
 obtain ⟨p,q,hA0,hV,rfl,hfz,hnd⟩:=hW
 have hA : DataW.TrodAll enc Try.prog W 0 (fun _=>true) true Try.f3.params.toList args.toList ds p:=hA0
 rw [Try.params3] at hA hval
 obtain ⟨v0,vs0,d0,ds0,p0,q0,hargs,rfl,rfl,h0,r0⟩:=trodAll_cons hA
 obtain ⟨v1,vs1,d1,ds1,p1,q1,rfl,rfl,rfl,h1,r1⟩:=trodAll_cons r0
 obtain ⟨v2,vs2,d2,ds2,p2,q2,rfl,rfl,rfl,h2,r2⟩:=trodAll_cons r1
 obtain ⟨v3,vs3,d3,ds3,p3,q3,rfl,rfl,rfl,h3,r3⟩:=trodAll_cons r2
 obtain ⟨rfl,rfl,rfl⟩:=trodAll_nil r3
 obtain rfl : args = #[v0,v1,v2,v3]:=by cases args;simp_all
 obtain ⟨rfl,rfl⟩:=trodVars_none hV
 have lt : ∀ {t v d ps},DataW.Trod enc Try.prog W 0 (fun _=>true) true t v d ps → ∀ x ∈ ps,x.block < W.heap.size:=fun h=>by obtain ⟨m,hm⟩:=h;exact DataW.trod_lt m _ _ _ hm
 obtain ⟨R,pl,rfl,hR⟩:=open_room (hval 0 _ v0 rfl rfl) h0
 obtain ⟨a,rfl⟩:=open_in (hval 1 _ v1 rfl rfl)
 obtain ⟨b,rfl⟩:=open_in (hval 2 _ v2 rfl rfl)
 obtain ⟨m,rfl⟩:=open_in (hval 3 _ v3 rfl rfl)
 clear hA0 hval0
 refine (boxTells_run R pl a b m W hR).mono fun e W' ⟨he,bel⟩=>?_
 subst he
 exact ⟨_,rfl,_,_,_,[],_,[],hW',trodAll_mk1 (shut_bool Try.underlying4 _),(trodAll_cons_mk (Below.trod laidO (by kernel_rfl) (of_decide_eq_true (by kernel_rfl)) h0 bel (lt h0)) (trodAll_cons_mk (Below.trod laidO (by kernel_rfl) (of_decide_eq_true (by kernel_rfl)) h1 bel (lt h1)) (trodAll_cons_mk (Below.trod laidO (by kernel_rfl) (of_decide_eq_true (by kernel_rfl)) h2 bel (lt h2)) (trodAll_cons_mk (Below.trod laidO (by kernel_rfl) (of_decide_eq_true (by kernel_rfl)) h3 bel (lt h3)) trodAll_mk0)))),rfl,bel.frame _,fun h=>by cases h⟩
theorem over : Rows.boxTellsRow.holds Try.pinned (OpenSpec.ofChange Rows.boxTellsSpec) :=
 OpenClaim.holds_of_wide 3 Try.f3 rfl rfl rfl rfl rfl rfl rfl ⟨rfl,rfl,rfl,rfl,rfl⟩ rfl rfl rfl rfl rfl (by kernel_rfl) Try.func3 (by kernel_rfl)
  (of_decide_eq_true (by kernel_rfl)) (by unfold Func.isWrapper;first | (rw [if_pos (by decide +kernel)];kernel_rfl)|(rw [if_neg (by decide +kernel)];exact ⟨rfl,rfl⟩))
  (fun os started H enc _=>lifted os started H enc)
end Go.Proofs.Ytmfppdpkalelhaa
end
