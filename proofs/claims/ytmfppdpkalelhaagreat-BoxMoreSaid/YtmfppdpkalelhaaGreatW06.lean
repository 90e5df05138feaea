/- Own work: contracts of functions, from rows of what is known of the memory; contracts of functions, from rows of what is known of the memory; contracts of functions, from rows of what is known of the memory; contracts of functions, from rows of what is known of the memory; contracts of functions, from rows of what is known of the memory; contracts of functions, from rows of what is known of the memory; contracts of functions, from rows of what is known of the memory; contracts of functions, from rows of what is known of the memory; contracts of functions, from rows of what is known of the memory; contracts of functions, from rows of what is known of the memory; contracts of functions, from rows of what is known of the memory; contracts of functions, from rows of what is known of the memory; contract -/
import Derived.Test.YtmfppdpkalelhaaGreatW05
section
set_option linter.unusedVariables false
set_option linter.unusedSimpArgs false
namespace Go.Proofs.YtmfppdpkalelhaaGreat
open Go Go.Fw
set_option maxRecDepth 10000
theorem inj2 : ∀ (a b m n : Nat),2 ^ a * (2 * m + 1)=2 ^ b * (2 * n + 1) → a = b∧m = n
 | 0,0,m,n,h=>by simp only [Nat.pow_zero,Nat.one_mul] at h;exact ⟨rfl,by omega⟩
 | 0,b + 1,m,n,h=>by
  rw [Nat.pow_succ,Nat.mul_comm (2 ^ b) 2,Nat.mul_assoc] at h
  simp only [Nat.pow_zero,Nat.one_mul] at h
  omega
 | a + 1,0,m,n,h=>by
  rw [Nat.pow_succ,Nat.mul_comm (2 ^ a) 2,Nat.mul_assoc] at h
  simp only [Nat.pow_zero,Nat.one_mul] at h
  omega
 | a + 1,b + 1,m,n,h=>by
  rw [Nat.pow_succ,Nat.mul_comm (2 ^ a) 2,Nat.mul_assoc,Nat.pow_succ,Nat.mul_comm (2 ^ b) 2,Nat.mul_assoc] at h
  obtain ⟨h1,h2⟩:=inj2 a b m n (by omega)
  exact ⟨by omega,h2⟩
def eI (i : Int) : Nat:=if 0 ≤ i then 2 * i.toNat else 2 * (-i).toNat + 1
theorem eI_inj {i j : Int} (h : eI i = eI j) : i = j:=by unfold eI at h;split at h <;> split at h <;> omega
def eSp (s : Sp) : Nat:=2 ^ eI s.lo * (2 * eI s.hi + 1)
theorem eSp_inj {s t : Sp} (h : eSp s = eSp t) : s = t:=by
 obtain ⟨h1,h2⟩:=inj2 _ _ _ _ h
 cases s;cases t
 have:=eI_inj h1
 have:=eI_inj h2
 simp_all
def eLs : List Sp → Nat
 | []=>0
 | s::l=>2 ^ eSp s * (2 * eLs l + 1)
theorem eLs_inj : ∀ (l r : List Sp),eLs l = eLs r → l = r
 | [],[],_=>rfl
 | [],s::r,h=>by
  have : 0 < 2 ^ eSp s:=Nat.pow_pos (by omega)
  have : 0 < 2 ^ eSp s * (2 * eLs r + 1):=Nat.mul_pos this (by omega)
  unfold eLs at h;omega
 | s::l,[],h=>by
  have : 0 < 2 ^ eSp s:=Nat.pow_pos (by omega)
  have : 0 < 2 ^ eSp s * (2 * eLs l + 1):=Nat.mul_pos this (by omega)
  unfold eLs at h;omega
 | s::l,t::r,h=>by
  obtain ⟨h1,h2⟩:=inj2 _ _ _ _ h
  rw [eSp_inj h1,eLs_inj l r h2]
theorem drawn {α : Type} (e : α → Nat) (inj : ∀ a b,e a = e b → a = b) (Φ : α → Prop) (h : ∃ a,Φ a) : ∃ d : Nat → α,(∀ n,Φ (d n)) ∧ ∀ a,Φ a → ∃ n,d n = a:=by
 classical
 obtain ⟨a0,h0⟩:=h
 refine ⟨fun n=>if q : ∃ a,Φ a∧e a = n then q.choose else a0,fun n=>?_,fun a ha=>⟨e a,?_⟩⟩
 ·dsimp only
  split
  ·rename_i q;exact q.choose_spec.1
  ·exact h0
 ·have q : ∃ b,Φ b∧e b = e a:=⟨a,ha,rfl⟩
  dsimp only
  rw [dif_pos q]
  exact inj _ _ q.choose_spec.2
open Classical in
noncomputable def chartOf (R : Rm) (f : Bx → Int → Sp) : List Sp:=(List.range 48).map (fun k=>if h : ∃ q : Bx × Int,there R q.1 q.2∧cel R ⟨q.1.id,q.2⟩ = k then f h.choose.1 h.choose.2 else ⟨0,0⟩)
theorem chartOf_len (R : Rm) (f : Bx → Int → Sp) : (chartOf R f).length = 48:=by unfold chartOf;simp
theorem chartOf_get {R : Rm} {f : Bx → Int → Sp} {k : Nat} (h : k < 48) : ∃ s,sat (chartOf R f) k = s∧((∃ b m,there R b m∧cel R ⟨b.id,m⟩ = k∧s = f b m)∨s = ⟨0,0⟩):=by
 refine ⟨_,rfl,?_⟩
 unfold sat chartOf
 rw [List.getD_eq_getElem?_getD,List.getElem?_map,List.getElem?_range h]
 simp only [Option.map_some,Option.getD_some]
 split
 ·rename_i q;exact .inl ⟨_,_,q.choose_spec.1,q.choose_spec.2,rfl⟩
 ·exact .inr rfl
theorem chartOf_at {R : Rm} (hr : okRm R) {f : Bx → Int → Sp} {b : Bx} {m : Int} (ht : there R b m) : sat (chartOf R f) (cel R ⟨b.id,m⟩) = f b m:=by
 unfold sat chartOf
 rw [List.getD_eq_getElem?_getD,List.getElem?_map,List.getElem?_range (cel_lt hr ht)]
 simp only [Option.map_some,Option.getD_some]
 have q : ∃ q : Bx × Int,there R q.1 q.2∧cel R ⟨q.1.id,q.2⟩ = cel R ⟨b.id,m⟩:=⟨(b,m),ht,rfl⟩
 rw [dif_pos q]
 obtain ⟨h1,h2⟩:=cel_inj hr q.choose_spec.1 ht q.choose_spec.2
 rw [h1,h2]
theorem chartOf_ok {R : Rm} {f : Bx → Int → Sp} (h : ∀ b m,there R b m → 0 ≤ (f b m).lo∧(f b m).lo ≤ (f b m).hi∧(f b m).hi ≤ 60) (k : Nat) : 0 ≤ (sat (chartOf R f) k).lo∧(sat (chartOf R f) k).lo ≤ (sat (chartOf R f) k).hi∧(sat (chartOf R f) k).hi ≤ 60:=by
 by_cases hk : k < 48
 ·obtain ⟨s,h1,h2⟩:=chartOf_get (R:=R) (f:=f) hk
  rw [h1]
  rcases h2 with ⟨b,m,ht,_,rfl⟩ | rfl
  ·exact h b m ht
  ·exact ⟨by decide,by decide,by decide⟩
 ·have : sat (chartOf R f) k = ⟨0,0⟩:=by
   unfold sat
   rw [List.getD_eq_getElem?_getD,List.getElem?_eq_none (by rw [chartOf_len];omega)]
   rfl
  rw [this]
  exact ⟨by decide,by decide,by decide⟩
theorem first_ex {R : Rm} (hr : okRm R) : ∃ l,FirstC R l:=⟨chartOf R (fun b m=>R.ages.getD (m - b.made).toNat ⟨0,0⟩),chartOf_len _ _,fun b m ht=>chartOf_at hr ht,chartOf_ok (fun b m ht=>hr.age ht)⟩
/-- what is known by all matches -/
structure Fd (R : Rm) (x : List Sp × Bool) : Prop where
 len : x.1.length = 48
 yes : x.2 = true → hasT R R.mats∧GoodC R R.mats x.1 ∧ ∀ b m,there R b m → ExR R R.mats ⟨b.id,m⟩ zp (sat x.1 (cel R ⟨b.id,m⟩))
 no : x.2 = false → ¬ hasT R R.mats
theorem ex_mem {R : Rm} (hr : okRm R) (hm : matsThere R R.mats) (hT : hasT R R.mats) {a b : Pk} (ha : a ∈ plcs R) (hb : b ∈ plcs R) : ExR R R.mats a b (rng R R.mats a b):=by
 obtain ⟨tx,htx⟩:=(hasT_iff hr hm (pidx_lt ha)).1 hT
 obtain ⟨ty,hty⟩:=(hasT_iff hr hm (pidx_lt hb)).1 hT
 exact (most_rng hr ha hb (most_some hr hm (pidx_lt hb) hty) (most_some hr hm (pidx_lt ha) htx)).rng
theorem fd_ex {R : Rm} (hr : okRm R) (hm : matsThere R R.mats) : ∃ x,Fd R x:=by
 by_cases hT : hasT R R.mats
 ·have hx : ∀ b m,there R b m → ExR R R.mats ⟨b.id,m⟩ zp (rng R R.mats ⟨b.id,m⟩ zp):=fun b m ht=>ex_mem hr hm hT (plcs_mem ht) (zp_mem R)
  have hx2 : ∀ b m,there R b m → (R.ages.getD (m - b.made).toNat ⟨0,0⟩).lo ≤ (rng R R.mats ⟨b.id,m⟩ zp).lo∧(rng R R.mats ⟨b.id,m⟩ zp).hi ≤ (R.ages.getD (m - b.made).toNat ⟨0,0⟩).hi∧(rng R R.mats ⟨b.id,m⟩ zp).lo ≤ (rng R R.mats ⟨b.id,m⟩ zp).hi:=fun b m ht=>by
   obtain ⟨z1,t1,e1⟩:=(hx b m ht).lo
   obtain ⟨z2,t2,e2⟩:=(hx b m ht).hi
   have a1:=t1.age b m ht
   have a2:=t2.age b m ht
   have a3:=(hx b m ht).all z2 t2
   rw [t1.zero] at e1
   rw [t2.zero] at e2 a3
   omega
  obtain ⟨l,hl,hat,hok⟩ : ∃ l : List Sp,l.length = 48∧(∀ b m,there R b m → sat l (cel R ⟨b.id,m⟩) = rng R R.mats ⟨b.id,m⟩ zp) ∧ ∀ k,0 ≤ (sat l k).lo∧(sat l k).lo ≤ (sat l k).hi∧(sat l k).hi ≤ 60 :=
   ⟨chartOf R (fun b m=>rng R R.mats ⟨b.id,m⟩ zp),chartOf_len _ _,fun b m ht=>chartOf_at hr ht,chartOf_ok (fun b m ht=>by
    have h1:=hx2 b m ht
    have h2:=hr.age ht
    omega)⟩
  refine ⟨(l,true),hl,fun _=>⟨hT,⟨hl,fun b m ht=>?_,fun z hz b m ht=>?_,hok⟩,fun b m ht=>?_⟩,fun h=>by cases h⟩
  ·show _ ≤ (sat l _).lo∧(sat l _).hi ≤ _∧(sat l _).lo ≤ (sat l _).hi
   rw [hat b m ht];exact hx2 b m ht
  ·show holds (sat l _) _
   rw [hat b m ht]
   have:=(hx b m ht).all z hz
   rw [hz.zero] at this
   unfold holds
   omega
  ·show ExR R R.mats _ zp (sat l _)
   rw [hat b m ht];exact hx b m ht
 ·exact ⟨(List.replicate 48 ⟨0,0⟩,false),by simp,(fun h=>by cases h),fun _=>hT⟩
theorem Fd.yes_of {R : Rm} {c l : List Sp} (hr : okRm R) (hm : matsThere R R.mats) (hf : FirstC R c) (h : ClosedT R R.mats c l) : Fd R (l,true) :=
 ⟨h.len,fun _=>⟨⟨_,h.fix.zlo hr hm (h.ages (hf.ages hr))⟩,h.good (hf.good hr),fun b m ht=>h.ex hr hm (hf.ages hr) hf.inn ht⟩,fun h=>by cases h⟩
theorem Fd.no_of {R : Rm} {c l : List Sp} (hf : FirstC R c) (hl : l.length = 48) (h : ∀ z,Tru R R.mats z → ¬ Inn R c z) : Fd R (l,false) :=
 ⟨hl,(fun h=>by cases h),fun _ ⟨z,hz⟩=>h z hz (hf.inn z hz)⟩
def eX (x : List Sp × Bool) : Nat:=2 * eLs x.1 + (if x.2 then 1 else 0)
theorem eX_inj (a b : List Sp × Bool) (h : eX a = eX b) : a = b:=by
 obtain ⟨a,p⟩:=a
 obtain ⟨b,q⟩:=b
 unfold eX at h
 dsimp only at h
 have h1 : p = q:=by cases p <;> cases q <;> simp_all <;> omega
 subst h1
 rw [eLs_inj a b (by omega)]
end Go.Proofs.YtmfppdpkalelhaaGreat
end
section
set_option linter.unusedVariables false
set_option linter.unusedSimpArgs false
namespace Go.Proofs.YtmfppdpkalelhaaGreat
open Go Go.Fw
set_option maxRecDepth 10000
theorem Fd.dec {R : Rm} {x : List Sp × Bool} (h : Fd R x) : x.2 = decide (hasT R R.mats):=by
 by_cases q : hasT R R.mats
 ·rw [decide_eq_true q]
  cases e : x.2
  ·exact absurd q (h.no e)
  ·rfl
 ·rw [decide_eq_false q]
  cases e : x.2
  ·rfl
  ·exact absurd (h.yes e).1 q
theorem Fd.len96 {R : Rm} {x : List Sp × Bool} (h : Fd R x) : (x.1.flatMap cSp).length = 96:=by rw [sp_len,h.len]
def tsFo : List TOp:=[⟨some 4,[],[],[]⟩,⟨some 5,[],[],[]⟩,⟨some 6,[1],[1],[]⟩,⟨some 7,[],[],[]⟩,⟨some 8,[3],[3],[]⟩,⟨some 9,[0,1,2,3,4],[0,2,4],[]⟩,⟨some 10,[0,1,2,3,4,5],[5],[]⟩,⟨some 11,[0,1,2,3,4,5],[5],[]⟩,⟨none,[0,1,2,3,4,5,6,7],[6],[10]⟩,⟨some 3,[0,1,2,3,4,5,6,7,8],[7],[]⟩,⟨none,[],[],[]⟩]
def valFo (b1 b2 : Nat) (R : Rm) (p : Pl) (dc : Nat → List Sp) (dx : Nat → List Sp × Bool) (k : Nat) (env : Env) : Value :=
 match k with
 | 0 => .agg (cRm R p).toArray
 | 1 => .pointer (some ⟨b1,4,none⟩)
 | 2 => .slice p.a3 R.mats.length p.c3
 | 3 => .agg (cRm R p).toArray
 | 4 => .agg ((dc (env 4).1).flatMap cSp).toArray
 | 5 => .tuple #[.agg ((dx (env 5).1).1.flatMap cSp).toArray,.bool (dx (env 5).1).2]
 | 6 => .agg ((dx (env 5).1).1.flatMap cSp).toArray
 | 7 => .bool ((dx (env 5).1).2)
 | 8=>undef
 | 9 => .bool ((dx (env 5).1).2)
 | _=>undef
def rowsFo (b1 b2 : Nat) (R : Rm) (p : Pl) (dc : Nat → List Sp) (dx : Nat → List Sp × Bool) (k : Nat) (env : Env) : List Row :=
 match k with
 | 8=>[⟨b2,0,(dx (env 5).1).1.flatMap cSp,some 149,96⟩]
 | 10=>[⟨b2,0,zRc.flatMap cSp,some 149,96⟩]
 | _=>[]
theorem locFo (b1 b2 : Nat) (R : Rm) (p : Pl) (dc : Nat → List Sp) (dx : Nat → List Sp × Bool) : ∀ k env i q9,i ≠ k → (tAt tsFo k).sup.contains i = false → valFo b1 b2 R p dc dx k (upd env i q9)=valFo b1 b2 R p dc dx k env∧rowsFo b1 b2 R p dc dx k (upd env i q9)=rowsFo b1 b2 R p dc dx k env:=by
 intro k env i q hk hs
 have hu : ∀ j,j ≠ i → upd env i q j = env j:=fun j hj=>by unfold upd;rw [if_neg hj]
 match k,hk,hs with
 | 0,_,_=>exact ⟨rfl,rfl⟩
 | 1,_,_=>exact ⟨rfl,rfl⟩
 | 2,_,_=>exact ⟨rfl,rfl⟩
 | 3,_,_=>exact ⟨rfl,rfl⟩
 | 4,hk,hs=>exact ⟨by simp only [valFo,hu 4 (fun e=>hk e.symm)],by simp only [rowsFo,hu 4 (fun e=>hk e.symm)]⟩
 | 5,hk,hs=>exact ⟨by simp only [valFo,hu 5 (fun e=>hk e.symm)],by simp only [rowsFo,hu 5 (fun e=>hk e.symm)]⟩
 | 6,hk,hs=>exact ⟨by simp only [valFo,hu 5 (by rintro rfl;cases hs)],by simp only [rowsFo,hu 5 (by rintro rfl;cases hs)]⟩
 | 7,hk,hs=>exact ⟨by simp only [valFo,hu 5 (by rintro rfl;cases hs)],by simp only [rowsFo,hu 5 (by rintro rfl;cases hs)]⟩
 | 8,hk,hs=>exact ⟨by simp only [valFo,hu 5 (by rintro rfl;cases hs)],by simp only [rowsFo,hu 5 (by rintro rfl;cases hs)]⟩
 | 9,hk,hs=>exact ⟨by simp only [valFo,hu 5 (by rintro rfl;cases hs)],by simp only [rowsFo,hu 5 (by rintro rfl;cases hs)]⟩
 | 10,_,_=>exact ⟨rfl,rfl⟩
 | _ + 11,_,_=>exact ⟨rfl,rfl⟩
set_option maxHeartbeats 4000000 in
theorem found_spec (R : Rm) (p : Pl) (H : List Row) (hr : okRm R) (hm : matsThere R R.mats) (hlm : R.mats.length ≤ 100) (hR : RmOk H R p) :
  Fc Tryz.prog 109 [.agg (cRm R p).toArray] H (fun v H' => ∃ x,Fd R x∧v = .tuple #[.agg (x.1.flatMap cSp).toArray,.bool x.2]∧H' = H):=by
 obtain ⟨dc,hdc1,hdc2⟩:=drawn eLs eLs_inj (FirstC R) (first_ex hr)
 obtain ⟨dx,hdx1,hdx2⟩:=drawn eX eX_inj (Fd R) (fd_ex hr hm)
 have hl96 : ∀ n,((dx n).1.flatMap cSp).length = 96:=fun n=>by rw [sp_len,(hdx1 n).len]
 have hfs : ∀ S,RmOk S R p → Fc Tryz.prog 125 [.agg (cRm R p).toArray] S (fun v H' => ∃ n,v = .agg ((dc n).flatMap cSp).toArray∧H' = S):=fun S hS=>(first_spec R p S hr hS).mono fun v H' ⟨l,hl,hv,hH⟩=>by
  obtain ⟨n,hn⟩:=hdc2 l hl
  exact ⟨n,by rw [hn];exact hv,hH⟩
 have hcs : ∀ n S,RmOk S R p → Fc Tryz.prog 124 [.agg (cRm R p).toArray,.slice p.a3 R.mats.length p.c3,.agg ((dc n).flatMap cSp).toArray] S (fun v H' => ∃ n,v = .tuple #[.agg ((dx n).1.flatMap cSp).toArray,.bool (dx n).2]∧H' = S):=fun n S hS=>(closed_spec R p R.mats p.a3 p.c3 (dc n) S hr hS hS.mats hlm hm (hdc1 _).len (hdc1 _).ok).mono fun v H' ⟨l,hH,h⟩=>by
  have hq : ∃ x,Fd R x∧v = .tuple #[.agg (x.1.flatMap cSp).toArray,.bool x.2]:=by
   rcases h with ⟨h1,hv⟩ | ⟨h1,h2,hv⟩
   ·exact ⟨(l,true),Fd.yes_of hr hm (hdc1 _) h1,hv⟩
   ·exact ⟨(l,false),Fd.no_of (hdc1 _) h1 h2,hv⟩
  obtain ⟨x,hx,hv⟩:=hq
  obtain ⟨n,hn⟩:=hdx2 x hx
  exact ⟨n,by rw [hn];exact hv,hH⟩
 refine Fc.mk (callable Tryz.call109) Tryz.func109 rfl Tryz.ntmps109 rfl ?_;dsimp only [fr]
 repeat' (first | (refine uP rfl ?_;(first | ((first | refine uN rfl ?_);(first | (refine uE (uA rfl rfl) rfl rfl ?_)|(refine Xg.st (StF.boxAgg rfl rfl) rfl rfl ?_;rintro _ _ ⟨bx,rfl,rfl⟩)|(refine Xg.st (StF.alloc rfl Tryz.zeroValue149 rfl) rfl rfl ?_;rintro _ _ ⟨bx,rfl,rfl⟩)))))|(refine uD rfl ?_;refine hK _ _ ?_;clear hK K) | refine uS rfl ?_ | refine uR rfl (fun K hK=>?_))
 rename_i b1
 generalize bx = b2
 have hRs : ∀ S : List Row,(∀ r ∈ ⟨b1,0,cRm R p,some 32,5⟩::H,r ∈ S) → RmOk S R p:=fun S hS=>hR.sub (fun r h=>hS r (List.mem_cons_of_mem _ h))
 refine X.regionOb tsFo [1,2] [(1,.pointer (some ⟨b1,0,none⟩)),(2,.pointer (some ⟨b2,0,none⟩))] (valFo b1 b2 R p dc dx) (rowsFo b1 b2 R p dc dx) (fun _=>(0,0)) (⟨b1,0,cRm R p,some 32,5⟩::H) rfl mixed (by repeat (first | exact uU _ | refine uV rfl ?_)) rfl (by kernel_rfl) (locFo b1 b2 R p dc dx) (qR _) ?_ ?_
 ·repeat' (first | exact AllF.done rfl | (refine AllF.step rfl ?_ ?_;·(first | fail | ((first | refine Ob.ng rfl ?_);(first | exact ObK.pure (fun env R hR=>by exact ⟨_,uA rfl rfl,rfl⟩) rfl (fun _=>rfl) | exact ObK.pure (fun env R hR=>by exact ⟨_,uF rfl rfl (te rfl) rfl (te rfl) (by decide),rfl⟩) rfl (fun _=>rfl) | exact ObK.pure (fun env R hR=>by exact ⟨_,uL rfl rfl (uO (te rfl) rfl (hR _ (qH _)) rfl),rfl⟩) rfl (fun _=>rfl) | exact ObK.pure (fun env R hR=>by exact ⟨_,uL rfl rfl (uW (te rfl) rfl (hR _ (qH _)) rfl),rfl⟩) rfl (fun _=>rfl)|(exact fun env S hS=>(OpF.call (uT rfl (Args.cons rfl Args.nil)) (hfs S (hRs S hS))).mono (fun v H' ⟨n,hv,hH⟩=>⟨(n,0),fun _=>hv,by rw [hH];exact List.Perm.refl _⟩))|(exact fun env S hS=>(OpF.call (uT rfl (Args.cons rfl (Args.cons rfl (Args.cons rfl Args.nil)))) (hcs (env 4).1 S (hRs S hS))).mono (fun v H' ⟨n,hv,hH⟩=>⟨(n,0),fun _=>hv,by rw [hH];exact List.Perm.refl _⟩))|(exact fun env S hS=>(StF.storeAll (i:=0) (vs:=(dx (env 5).1).1.flatMap cSp) (cs:=zRc.flatMap cSp) rfl rfl rfl (te rfl) rfl (hl96 _) (sp_one _) (by rw [hl96,sp_len];rfl)).op.mono (fun v H' ⟨hv,hH⟩=>⟨(0,0),fun h=>absurd rfl h,by rw [hH];exact List.Perm.refl _⟩))|(exact ObK.pure (fun env S hS=>⟨_,uX rfl rfl rfl,rfl⟩) rfl (fun _=>rfl)))))))
 intro env t ha2 hv;refine ⟨_,ha2.cons (hv 9 3 (Nat.le_of_ble_eq_true rfl) rfl),?_⟩;clear hv ha2
 show X _ _ _ [(3,.bool (dx (env 5).1).2),(1,.pointer (some ⟨b1,0,none⟩)),(2,.pointer (some ⟨b2,0,none⟩))] (⟨b2,0,(dx (env 5).1).1.flatMap cSp,some 149,96⟩::⟨b1,0,cRm R p,some 32,5⟩::H) _
 have hx:=hdx1 (env 5).1
 have hl:=hl96 (env 5).1
 generalize dx (env 5).1 = x at hx hl
 clear env
 repeat' (first | refine X.ret rfl ?_)
 exact ret_two (v := .agg (x.1.flatMap cSp).toArray) (by simp) Tryz.results109 ⟨_,rfl,uW (te rfl) rfl (qH _) hl⟩ rfl (H' := H) (by repeat (first | exact qR _ | apply qK | apply qC)) ⟨x,hx,rfl,rfl⟩
theorem true_spec (R : Rm) (p : Pl) (H : List Row) (hr : okRm R) (hm : matsThere R R.mats) (hlm : R.mats.length ≤ 100) (hR : RmOk H R p) :
  Fc Tryz.prog 71 [.agg (cRm R p).toArray] H (fun v H' => v = .bool (decide (hasT R R.mats))∧H' = H):=by
 refine Fc.mk (callable Tryz.call71) Tryz.func71 rfl Tryz.ntmps71 rfl ?_;dsimp only [fr]
 repeat' (first | (refine uP rfl ?_;(first | ((first | refine uN rfl ?_);(first | (refine uE (uL rfl rfl (uW (te rfl) rfl (qH _) rfl)) rfl rfl ?_)|(refine uC (uT rfl (by (repeat (first | exact Args.nil | refine Args.cons rfl ?_));done)) rfl rfl (found_spec R p _ hr hm hlm (hR.sub (fun _ h=>by repeat (first | exact h | apply qT)))) ?_;rintro _ _ ⟨x,hx,rfl,rfl⟩)|(refine uE (uX rfl rfl rfl) rfl rfl ?_)|(refine Xg.st0 (StF.storeAll (i:=0) (vs:=x.1.flatMap cSp) (cs:=zRc.flatMap cSp) rfl rfl rfl (te rfl) rfl hx.len96 (sp_one _) (by rw [hx.len96,sp_len];rfl)) rfl ?_;rintro _ _ ⟨rfl,rfl⟩;dsimp only [List.set])|(refine uE (uM rfl rfl) rfl rfl ?_)|(refine uE (uA rfl rfl) rfl rfl ?_)|(refine Xg.st (StF.boxAgg rfl rfl) rfl rfl ?_;rintro _ _ ⟨bx,rfl,rfl⟩)|(refine Xg.st (StF.alloc rfl Tryz.zeroValue149 rfl) rfl rfl ?_;rintro _ _ ⟨bx,rfl,rfl⟩)))))|(refine uD rfl ?_;refine hK _ _ ?_;clear hK K) | refine uS rfl ?_ | refine uR rfl (fun K hK=>?_) | refine X.ret rfl ?_)
 exact ret_one (v := .bool x.2) (by simp) Tryz.results71 rfl (H' := H) (by repeat (first | exact qR _ | apply qK | apply qC)) ⟨congrArg Value.bool hx.dec,rfl⟩
end Go.Proofs.YtmfppdpkalelhaaGreat
end
section
set_option linter.unusedVariables false
set_option linter.unusedSimpArgs false
namespace Go.Proofs.YtmfppdpkalelhaaGreat
open Go Go.Fw
set_option maxRecDepth 10000
def knb (so no : Bool) : Int:=if no then (if so then 1 else 0) else 2
theorem lKnown_spec (so no : Bool) (H : List Row) : Fc Tryz.prog 45 [.bool so,.bool no] H (fun v H' => v = .int .u8 (knb so no)∧H' = H):=by
 cases so <;> cases no
 all_goals (refine Fc.mk (callable Tryz.call45) Tryz.func45 rfl Tryz.ntmps45 rfl ?_;dsimp only [fr])
 all_goals (repeat' (first | (refine uP rfl ?_;(first | ((first | refine uN rfl ?_);(first | (refine uE (uM rfl rfl) rfl rfl ?_)|(refine uE (uA rfl rfl) rfl rfl ?_)|(refine uE (EvF.not rfl rfl) rfl rfl ?_)))))|(refine uD rfl ?_;refine hK _ _ ?_;clear hK K) | refine uS rfl ?_ | refine uR rfl (fun K hK=>?_) | refine X.block rfl ?_ | refine X.skip rfl ?_ | refine X.ret rfl ?_ | (refine X.ite rfl rfl (fun hc=>?_);(first | (with_reducible refine Xb.caseB hc (fun h=>?_) (fun h=>?_))) <;> clear hc)))
 all_goals try (exfalso;contradiction)
 all_goals (refine ret_one (by simp) Tryz.results45 rfl (H' := H) (by repeat (first | exact qR _ | apply qK | apply qC)) ⟨rfl,rfl⟩)
def toldF (s : Sp) (n : Int) : Int:=if n ≤ s.lo then 2 else if n ≤ s.hi then 1 else 0
theorem knb_told (s : Sp) (n : Int) : knb (decide (n ≤ s.hi)) (decide (s.lo < n)) = toldF s n:=by
 unfold knb toldF
 by_cases h : n ≤ s.lo
 ·rw [if_pos h,decide_eq_false (by omega)];rfl
 ·rw [if_neg h,decide_eq_true (show s.lo < n by omega)]
  simp
def knP (y : Sp × Int) (n : Int) : Int × Int:=if y.2 = 0 then (toldF y.1 n,0) else (0,y.2)
set_option maxHeartbeats 4000000 in
theorem kKnown_spec (R : Rm) (p : Pl) (a m n : Int) (H : List Row) (hR : RmOk H R p) (h2 : R.boxes.length ≤ 1000000) : Fc Tryz.prog 12 [.agg (cRm R p).toArray,.int .i64 a,.int .i64 m,.int .i64 n] H (fun v H' => v = .tuple #[.int .u8 (knP (yelF R a m) n).1,.int .i64 (knP (yelF R a m) n).2]∧H' = H):=by
 obtain ⟨⟨ys,ye⟩,hy⟩ : ∃ y,y = yelF R a m:=⟨_,rfl⟩
 have kyel:=fun p' H' (h : RmOk H' R p')=>kYellow_spec R p' a m H' h h2
 rw [← hy] at kyel ⊢
 clear hy
 refine Fc.mk (callable Tryz.call12) Tryz.func12 rfl Tryz.ntmps12 rfl ?_;dsimp only [fr]
 repeat' (first | (refine uP rfl ?_;(first | ((first | refine uN rfl ?_);(first | (refine uE (uL rfl rfl (uW (T:=32) (cs:=cRm R p) (te rfl) rfl (by repeat (first | exact qH _ | apply qT)) rfl)) rfl rfl ?_)|(refine uC (uT rfl (by (repeat (first | exact Args.nil | refine Args.cons rfl ?_));done)) rfl rfl (kyel _ _ (hR.sub (fun _ h=>by repeat (first | exact h | apply qT)))) ?_;rintro _ H9 ⟨rfl,hH9⟩;subst H9)|(refine uC (uT rfl (by (repeat (first | exact Args.nil | refine Args.cons rfl ?_));done)) rfl rfl (lKnown_spec _ _ _) ?_;rintro _ H9 ⟨rfl,hH9⟩;subst H9)|(refine uE (uX rfl rfl rfl) rfl rfl ?_)|(refine uE (uM rfl rfl) rfl rfl ?_)|(refine uE (uA rfl rfl) rfl rfl ?_)|(refine uE (uQ rfl rfl rfl rfl) rfl rfl ?_)|(refine uE (uF rfl rfl (te rfl) rfl (te rfl) (by decide)) rfl rfl ?_)|(refine uE (uL rfl rfl (uO (te rfl) rfl (qH _) rfl)) rfl rfl ?_)|(refine Xg.st (StF.boxAgg rfl rfl) rfl rfl ?_;rintro _ _ ⟨bx,rfl,rfl⟩)|(refine Xg.st (StF.alloc rfl Tryz.zeroValue24 rfl) rfl rfl ?_;rintro _ _ ⟨bx,rfl,rfl⟩)|(refine Xg.st0 (StF.storeAll (i:=0) rfl rfl rfl (te rfl) rfl rfl rfl rfl) rfl ?_;rintro _ _ ⟨rfl,rfl⟩;dsimp only [List.set])))))|(refine uD rfl ?_;refine hK _ _ ?_;clear hK K) | refine uS rfl ?_ | refine uR rfl (fun K hK=>?_) | refine X.skip rfl ?_ | refine X.ret rfl ?_ | (refine X.ite rfl rfl (fun hc=>?_);(first | (with_reducible refine Xb.caseN hc (fun h=>?_) (fun h=>?_))) <;> clear hc))
 ·refine ret_two (by simp) Tryz.results12 rfl rfl (H' := H) (by repeat (first | exact qR _ | apply qK | apply qC)) ⟨?_,rfl⟩
  unfold knP
  rw [if_neg (by assumption)]
 ·refine ret_two (by simp) Tryz.results12 rfl rfl (H' := H) (by repeat (first | exact qR _ | apply qK | apply qC)) ⟨?_,rfl⟩
  unfold knP
  rw [if_pos (by assumption), ← knb_told]
set_option maxHeartbeats 4000000 in
theorem kOrder_spec (R : Rm) (p : Pl) (a b m : Int) (H : List Row) (hR : RmOk H R p) (h2 : R.boxes.length ≤ 1000000) : Fc Tryz.prog 14 [.agg (cRm R p).toArray,.int .i64 a,.int .i64 b,.int .i64 m] H (fun v H' => v = .tuple #[.int .u8 (knP (difF R a b m) 0).1,.int .i64 (knP (difF R a b m) 0).2]∧H' = H):=by
 obtain ⟨⟨ys,ye⟩,hy⟩ : ∃ y,y = difF R a b m:=⟨_,rfl⟩
 have kyel:=fun p' H' (h : RmOk H' R p')=>kDiffer_spec R p' a b m H' h h2
 rw [← hy] at kyel ⊢
 clear hy
 refine Fc.mk (callable Tryz.call14) Tryz.func14 rfl Tryz.ntmps14 rfl ?_;dsimp only [fr]
 repeat' (first | (refine uP rfl ?_;(first | ((first | refine uN rfl ?_);(first | (refine uE (uL rfl rfl (uW (T:=32) (cs:=cRm R p) (te rfl) rfl (by repeat (first | exact qH _ | apply qT)) rfl)) rfl rfl ?_)|(refine uC (uT rfl (by (repeat (first | exact Args.nil | refine Args.cons rfl ?_));done)) rfl rfl (kyel _ _ (hR.sub (fun _ h=>by repeat (first | exact h | apply qT)))) ?_;rintro _ H9 ⟨rfl,hH9⟩;subst H9)|(refine uC (uT rfl (by (repeat (first | exact Args.nil | refine Args.cons rfl ?_));done)) rfl rfl (lKnown_spec _ _ _) ?_;rintro _ H9 ⟨rfl,hH9⟩;subst H9)|(refine uE (uX rfl rfl rfl) rfl rfl ?_)|(refine uE (uM rfl rfl) rfl rfl ?_)|(refine uE (uA rfl rfl) rfl rfl ?_)|(refine uE (uQ rfl rfl rfl rfl) rfl rfl ?_)|(refine uE (uF rfl rfl (te rfl) rfl (te rfl) (by decide)) rfl rfl ?_)|(refine uE (uL rfl rfl (uO (te rfl) rfl (qH _) rfl)) rfl rfl ?_)|(refine Xg.st (StF.boxAgg rfl rfl) rfl rfl ?_;rintro _ _ ⟨bx,rfl,rfl⟩)|(refine Xg.st (StF.alloc rfl Tryz.zeroValue24 rfl) rfl rfl ?_;rintro _ _ ⟨bx,rfl,rfl⟩)|(refine Xg.st0 (StF.storeAll (i:=0) rfl rfl rfl (te rfl) rfl rfl rfl rfl) rfl ?_;rintro _ _ ⟨rfl,rfl⟩;dsimp only [List.set])))))|(refine uD rfl ?_;refine hK _ _ ?_;clear hK K) | refine uS rfl ?_ | refine uR rfl (fun K hK=>?_) | refine X.skip rfl ?_ | refine X.ret rfl ?_ | (refine X.ite rfl rfl (fun hc=>?_);(first | (with_reducible refine Xb.caseN hc (fun h=>?_) (fun h=>?_))) <;> clear hc))
 ·refine ret_two (by simp) Tryz.results14 rfl rfl (H' := H) (by repeat (first | exact qR _ | apply qK | apply qC)) ⟨?_,rfl⟩
  unfold knP
  rw [if_neg (by assumption)]
 ·refine ret_two (by simp) Tryz.results14 rfl rfl (H' := H) (by repeat (first | exact qR _ | apply qK | apply qC)) ⟨?_,rfl⟩
  unfold knP
  rw [if_pos (by assumption), ← knb_told]
end Go.Proofs.YtmfppdpkalelhaaGreat
end
section
set_option linter.unusedVariables false
set_option linter.unusedSimpArgs false
namespace Go.Proofs.YtmfppdpkalelhaaGreat
open Go Go.Fw
set_option maxRecDepth 10000
def fstM (P : Nat → Bool) : Nat → Nat → Option Nat
 | _,0=>none
 | k,n + 1=>if P k then some k else fstM P (k + 1) n
theorem fstM_hit {P : Nat → Bool} {k n : Nat} (h : P k = true) (hn : 0 < n) : fstM P k n = some k:=by
 cases n with
 | zero=>omega
 | succ n=>unfold fstM;rw [h];rfl
theorem fstM_no {P : Nat → Bool} {k n : Nat} (h : P k = false) (hn : 0 < n) : fstM P k n = fstM P (k + 1) (n - 1):=by
 cases n with
 | zero=>omega
 | succ n =>
  conv=>lhs;unfold fstM
  rw [h];simp
open Classical in
noncomputable def sinP (R : Rm) (a : Int) (f : Sp → Bool) (k : Nat) : Bool:=decide (∃ b,there R b k∧b.id = a) && f (rng R R.mats ⟨a,k⟩ zp)
def sinO : Option Nat → Int × Int
 | some k=>(k,0)
 | none=>(0,6)
noncomputable def sinF (R : Rm) (a : Int) (f : Sp → Bool) : Int × Int:=if openE R [a] [] = 0 then sinO (fstM (sinP R a f) 0 R.months.toNat) else (0,openE R [a] [])
def sinS (sure : Bool) (n : Int) (s : Sp) : Bool:=decide (n ≤ if sure then s.lo else s.hi)
end Go.Proofs.YtmfppdpkalelhaaGreat
end
section
set_option linter.unusedVariables false
set_option linter.unusedSimpArgs false
namespace Go.Proofs.YtmfppdpkalelhaaGreat
open Go Go.Fw
set_option maxRecDepth 10000
theorem Tru.mono {R : Rm} {M M' : List Mt} {z : Pk → Int} (h : Tru R M z) (hs : ∀ x ∈ M',x ∈ M) : Tru R M' z:=⟨h.zero,h.age,h.step,fun x hx=>h.mat x (hs x hx)⟩
theorem hasT.mono {R : Rm} {M M' : List Mt} (h : hasT R M) (hs : ∀ x ∈ M',x ∈ M) : hasT R M' := ⟨_,h.choose_spec.mono hs⟩
def thI (R : Rm) (m : Int) : List Int:=(R.boxes.filter (fun b=>decide (b.made ≤ m))).map (·.id)
theorem mem_thI {R : Rm} {m i : Int} (h : m ≤ R.months - 1) : i ∈ thI R m ↔ ∃ b,there R b m∧b.id = i:=by
 unfold thI
 constructor
 ·intro q
  obtain ⟨b,hb,rfl⟩:=List.mem_map.1 q
  have:=List.mem_filter.1 hb
  exact ⟨b,⟨this.1,of_decide_eq_true this.2,h⟩,rfl⟩
 ·rintro ⟨b,hb,rfl⟩
  exact List.mem_map.2 ⟨b,List.mem_filter.2 ⟨hb.1,decide_eq_true hb.2.1⟩,rfl⟩
noncomputable def stale (R : Rm) (m a : Int) : Bool:=(thI R m).any (fun b=>decide (0 < (rng R R.mats ⟨a,m⟩ ⟨b,m⟩).lo))
noncomputable def freL (R : Rm) (m : Int) : List Int:=(thI R m).filter (fun a => !stale R m a)
noncomputable def freF (R : Rm) (m : Int) : List Int × Int:=if openE R [] [m] = 0 then (freL R m,0) else ([],openE R [] [m])
def askI (w : Int → Int → Int) (x : Int) : List Int → Int × Int × Int → Int × Int × Int
 | [],acc=>acc
 | y::t,acc=>askI w x t (if acc.2.2 < w x y then (x,y,w x y) else acc)
def askO (w : Int → Int → Int) : List Int → Int × Int × Int → Int × Int × Int
 | [],acc=>acc
 | x::t,acc=>askO w t (askI w x t acc)
noncomputable def wid2 (R : Rm) (m a b : Int) : Int:=(rng R R.mats ⟨a,m⟩ ⟨b,m⟩).hi - (rng R R.mats ⟨a,m⟩ ⟨b,m⟩).lo
noncomputable def askF (R : Rm) (m : Int) : (Int × Int × Int) × Int:=if openE R [] [m] = 0 then (if (thI R m).length < 2 then ((0,0,0),6) else (askO (wid2 R m) (thI R m) (0,0, -1),0)) else ((0,0,0),openE R [] [m])
def dueS (L : Nat → List Int) : Nat → Nat → Int × List Int × Int
 | _,0=>(0,[],6)
 | k,q + 1=>if (L k).length = 0 then dueS L (k + 1) q else (k,L k,0)
noncomputable def dueL (R : Rm) (n : Int) (k : Nat) : List Int:=(R.boxes.filter (fun b=>decide (b.made ≤ (k : Int)) && decide (n < (rng R R.mats ⟨b.id,k⟩ zp).hi))).map (·.id)
def dueP (n : Int) (s : Sp) : Bool:=decide (n < s.hi)
noncomputable def lateL (R : Rm) (n : Int) (l : List Bx) (k : Nat) : List Int:=(l.filter (fun b=>decide (fstM (sinP R b.id (dueP n)) 0 R.months.toNat = some k))).map (·.id)
noncomputable def dueF (R : Rm) (n : Int) : Int × List Int × Int:=if openE R [] [] = 0 then dueS (dueL R n) 0 R.months.toNat else (0,[],openE R [] [])
theorem fstM_iff (P : Nat → Bool) : ∀ (q k j : Nat),fstM P k q = some j ↔ (k ≤ j∧j < k + q∧P j = true ∧ ∀ i,k ≤ i → i < j → P i = false)
 | 0,k,j=>by unfold fstM;simp;omega
 | q + 1,k,j=>by
  unfold fstM
  by_cases h : P k = true
  ·rw [if_pos h]
   constructor
   ·intro e;cases e;exact ⟨Nat.le_refl _,by omega,h,fun i h1 h2=>by omega⟩
   ·rintro ⟨h1,h2,h3,h4⟩
    by_cases e : k = j
    ·rw [e]
    ·have:=h4 k (Nat.le_refl _) (by omega);rw [h] at this;cases this
  ·rw [if_neg h,fstM_iff P q (k + 1) j]
   have hf : P k = false:=Bool.eq_false_iff.2 h
   constructor
   ·rintro ⟨h1,h2,h3,h4⟩
    refine ⟨by omega,by omega,h3,fun i g1 g2=>?_⟩
    by_cases e : i = k
    ·rw [e];exact hf
    ·exact h4 i (by omega) g2
   ·rintro ⟨h1,h2,h3,h4⟩
    refine ⟨?_,by omega,h3,fun i g1 g2=>h4 i (by omega) g2⟩
    by_cases e : k = j
    ·subst e;rw [hf] at h3;cases h3
    ·omega
theorem sinP_box {R : Rm} {f : Sp → Bool} {b : Bx} (hr : okRm R) (hb : b ∈ R.boxes) {k : Nat} (hk : (k : Int)<R.months) : sinP R b.id f k = (decide (b.made ≤ (k : Int)) && f (rng R R.mats ⟨b.id,k⟩ zp)):=by
 classical
 unfold sinP
 by_cases h : b.made ≤ (k : Int)
 ·rw [decide_eq_true h,decide_eq_true ⟨b,⟨hb,h,by omega⟩,rfl⟩]
 ·rw [decide_eq_false h,decide_eq_false]
  rintro ⟨c,hc,e⟩
  have:=rises_inj_bx hr.bx c hc.1 b hb e
  subst this
  exact h hc.2.1
theorem late_due {R : Rm} (hr : okRm R) (n : Int) : ∀ (q k : Nat),k + q = R.months.toNat → (∀ i,i < k → dueL R n i = []) → dueS (lateL R n R.boxes) k q = dueS (dueL R n) k q
 | 0,_,_,_=>rfl
 | q + 1,k,hk,h=>by
  have hkk : lateL R n R.boxes k = dueL R n k:=by
   unfold lateL dueL
   congr 1
   refine List.filter_congr fun b hb=>?_
   have hs:=sinP_box (f:=dueP n) hr hb (k:=k) (by omega)
   by_cases e : sinP R b.id (dueP n) k = true
   ·rw [decide_eq_true ((fstM_iff _ _ _ _).2 ⟨Nat.zero_le _,by omega,e,fun i _ hi=>?_⟩)]
    ·rw [← e,hs];rfl
    ·have h1:=h i hi
     unfold dueL at h1
     have h2:=List.map_eq_nil_iff.1 h1
     have h3:=List.filter_eq_nil_iff.1 h2 b hb
     rw [sinP_box hr hb (by omega)]
     exact Bool.eq_false_iff.2 h3
   ·rw [decide_eq_false (fun q' => e ((fstM_iff _ _ _ _).1 q').2.2.1)]
    have e' := Bool.eq_false_iff.2 e
    rw [← e',hs];rfl
  unfold dueS
  rw [hkk]
  split
  ·rename_i h0
   refine late_due hr n q (k + 1) (by omega) (fun i hi=>?_)
   by_cases e : i = k
   ·rw [e];exact List.length_eq_zero_iff.1 h0
   ·exact h i (by omega)
  ·rfl
theorem agesOf_month {R : Rm} {b : Bx} (hr : okRm R) (hb : b ∈ R.boxes) {m : Int} (hm : m ≤ R.months - 1) : ((agesOf R b).filter (fun p=>decide (p.month = m))).map (·.box)=if b.made ≤ m then [b.id] else []:=by
 have hn : ∀ (n : Nat),(((List.range n).map (fun (a : Nat)=>(⟨b.id,b.made + a⟩ : Pk))).filter (fun p=>decide (p.month = m))).map (·.box)=if b.made ≤ m∧m < b.made + n then [b.id] else []:=by
  intro n
  induction n with
  | zero=>rw [if_neg (by omega)];rfl
  | succ n ih =>
   rw [List.range_succ,List.map_append,List.filter_append,List.map_append,ih]
   simp only [List.map_cons,List.map_nil]
   by_cases e : b.made + (n : Int)=m
   ·rw [if_neg (by omega),if_pos (by omega),List.filter_cons_of_pos (by simpa using e)]
    rfl
   ·rw [List.filter_cons_of_neg (by simpa using e)]
    by_cases g : b.made ≤ m∧m < b.made + n
    ·rw [if_pos g,if_pos (by omega)];rfl
    ·rw [if_neg g,if_neg (by omega)];rfl
 unfold agesOf
 rw [hn]
 have:=okBoxes_mem _ _ _ hr.bx b hb
 unfold nAge
 by_cases e : b.made ≤ m
 ·rw [if_pos (by omega),if_pos e]
 ·rw [if_neg (by omega),if_neg e]
/-- the places behind the first one that are of a month -/
theorem plcs_month {R : Rm} (hr : okRm R) {m : Int} (hm : m ≤ R.months - 1) : (((plcs R).drop 1).filter (fun p=>decide (p.month = m))).map (·.box)=thI R m:=by
 have hg : ∀ (l : List Bx),(∀ b ∈ l,b ∈ R.boxes) → ((l.flatMap (agesOf R)).filter (fun p=>decide (p.month = m))).map (·.box)=(l.filter (fun b=>decide (b.made ≤ m))).map (·.id):=by
  intro l
  induction l with
  | nil=>intro _;rfl
  | cons b l ih =>
   intro h
   rw [List.flatMap_cons,List.filter_append,List.map_append,ih (fun c hc=>h c (List.mem_cons_of_mem _ hc)),agesOf_month hr (h b List.mem_cons_self) hm]
   by_cases e : b.made ≤ m
   ·rw [if_pos e,List.filter_cons_of_pos (by simpa using e)];rfl
   ·rw [if_neg e,List.filter_cons_of_neg (by simpa using e)];rfl
 exact hg R.boxes (fun _ h=>h)
end Go.Proofs.YtmfppdpkalelhaaGreat
end
section
set_option linter.unusedVariables false
set_option linter.unusedSimpArgs false
namespace Go.Proofs.YtmfppdpkalelhaaGreat
open Go Go.Fw
set_option maxRecDepth 10000
def lonG {α : Type} (ok : List α → Bool) : List α → Nat → List α → Option (List α)
 | [],0,acc=>if ok acc = true then some acc else none
 | [],_ + 1,_=>none
 | _::_,0,acc=>if ok acc = true then some acc else none
 | x::t,m + 1,acc=>match lonG ok t m (acc++[x]) with
  | some r=>some r
  | none=>lonG ok t (m + 1) acc
theorem lonG_zero {α : Type} (ok : List α → Bool) (t acc : List α) : lonG ok t 0 acc = if ok acc = true then some acc else none:=by cases t <;> rfl
theorem lonG_short {α : Type} (ok : List α → Bool) : ∀ (t : List α) (m : Nat) (acc : List α),t.length < m → lonG ok t m acc = none
 | [],0,_,h=>by simp at h
 | [],_ + 1,_,_=>rfl
 | _::_,0,_,h=>by simp at h
 | x::t,m + 1,acc,h=>by
  simp only [List.length_cons] at h
  simp only [lonG]
  rw [lonG_short ok t m _ (by omega),lonG_short ok t (m + 1) _ (by omega)]
def fewG {α : Type} (ok : List α → Bool) (l : List α) : Nat → Nat → Option (List α)
 | 0,_=>none
 | k + 1,n=>match lonG ok l n [] with
  | some r=>some r
  | none=>fewG ok l k (n + 1)
theorem fewG_beyond {α : Type} (ok : List α → Bool) (l : List α) : ∀ k n,l.length < n → fewG ok l k n = none
 | 0,_,_=>rfl
 | k + 1,n,h=>by simp only [fewG];rw [lonG_short ok l n [] h,fewG_beyond ok l k (n + 1) (by omega)]
theorem fewG_more {α : Type} (ok : List α → Bool) (l : List α) : ∀ k k' n,k ≤ k' → l.length < n + k → fewG ok l k' n = fewG ok l k n
 | 0,k',n,_,h=>by rw [fewG_beyond ok l k' n (by omega)];rfl
 | k + 1,0,n,h1,_=>by omega
 | k + 1,k' + 1,n,h1,h=>by
  simp only [fewG]
  split
  ·rfl
  ·exact fewG_more ok l k k' (n + 1) (by omega) (by omega)
theorem fewG_min {α : Type} (ok : List α → Bool) (l : List α) (most : Nat) : fewG ok l (min most l.length + 1) 0 = fewG ok l (most + 1) 0:=by
 by_cases h : most ≤ l.length
 ·rw [Nat.min_eq_left h]
 ·exact (fewG_more ok l _ _ 0 (by omega) (by omega)).symm
def inM (M : List Mt) (l : List Int) : List Mt:=M.filter (fun x=>decide (x.number ∈ l))
def outM (M : List Mt) (l : List Int) : List Mt:=M.filter (fun x => !decide (x.number ∈ l))
open Classical in
noncomputable def prvM (R : Rm) (q : Pk) (s : Sp) (M : List Mt) : Bool:=decide (rng R M q zp = s)
noncomputable def prvN (R : Rm) (q : Pk) (s : Sp) (l : List Int) : Bool:=prvM R q s (inM R.mats l)
noncomputable def okW (R : Rm) (l : List Int) : Bool:=decide (hasT R (outM R.mats l))
noncomputable def whyL (R : Rm) (q : Pk) : List Int:=(fewG (prvN R q (rng R R.mats q zp)) (R.mats.map (·.number)) (R.mats.length + 1) 0).getD []
noncomputable def whyF (R : Rm) (a m : Int) : List Int × Int:=if openE R [a] [m] = 0 then (whyL R ⟨a,m⟩,0) else ([],openE R [a] [m])
noncomputable def rstL (R : Rm) (q : Pk) (M : List Mt) : List Int:=(M.filter (fun x => !prvM R q (rng R R.mats q zp) (outM R.mats [x.number]))).map (·.number)
noncomputable def rstF (R : Rm) (a m : Int) : List Int × Int:=if openE R [a] [m] = 0 then (rstL R ⟨a,m⟩ R.mats,0) else ([],openE R [a] [m])
open Classical in
noncomputable def wrgF (R : Rm) : List Int × Int:=if roomOk R then (match fewG (okW R) (R.mats.map (·.number)) 4 0 with
 | some r=>(r,0)
 | none=>([],4)) else ([],10)
end Go.Proofs.YtmfppdpkalelhaaGreat
end
section
set_option linter.unusedVariables false
set_option linter.unusedSimpArgs false
namespace Go.Proofs.YtmfppdpkalelhaaGreat
open Go Go.Fw
set_option maxRecDepth 10000
def ts71 : List TOp:=[⟨some 24,[],[],[]⟩,⟨some 25,[],[],[]⟩,⟨some 26,[],[],[]⟩,⟨some 27,[1,2],[1,2],[]⟩,⟨some 28,[1,2,3],[3],[]⟩,⟨some 29,[1,2,3,4],[4],[]⟩,⟨some 30,[0,1,2,3,4,5],[0,5],[9]⟩,⟨none,[0,1,2,3,4,5,6],[6],[8]⟩,⟨none,[],[],[]⟩,⟨none,[],[],[]⟩]
def rd71 (k : Nat) : List Nat:=match k with
 | 0=>[8]
 | 6=>[5]
 | _=>[]
def TrvI (l : List Int) (out : Value) (Z : List Row) : Prop:=(l = []∧out = .slice none 0 0∧Z = []) ∨ ∃ b q,out = .slice (some ⟨b,0,none⟩) l.length q∧Z = [⟨b,0,l.flatMap cI,some 3,q * 1⟩]
theorem TrvI.sl {l : List Int} {out : Value} {Z H : List Row} (h : TrvI l out Z) : ∃ a c,out = .slice a l.length c∧SlE (Z++H) a cI 1 l:=by
 rcases h with ⟨rfl,rfl,rfl⟩ | ⟨b,q,rfl,rfl⟩
 ·exact ⟨none,0,rfl,sleNil⟩
 ·exact ⟨_,_,rfl,SlE.ofRow (qH _) (fun _ _=>rfl)⟩
def val71I (out : Value) (lb lo n c : Nat) (ll : Nat) (i : Nat) (e : Int) (k : Nat) (env : Env) : Value :=
 match k with
 | 0=>out
 | 1 => .slice (some ⟨lb,lo,none⟩) ll c
 | 2 => .int .i64 i
 | 3 => .pointer (some ⟨lb,lo + i * 1,none⟩)
 | 4 => .int .i64 e
 | 5 => .slice (some ⟨(env 5).1,0,none⟩) 1 1
 | 6 => .slice (some ⟨(env 6).1,0,none⟩) (n + 1) (env 6).2
 | _=>undef
def rows71I (bt : Nat) (out : Value) (Z : List Row) (acc : List Int) (e : Int) (k : Nat) (env : Env) : List Row :=
 match k with
 | 5=>[⟨(env 5).1,0,cI e,some 3,1 * 1⟩]
 | 6=>[⟨(env 6).1,0,acc.flatMap cI++cI e,some 3,(env 6).2 * 1⟩]
 | 7=>[⟨bt,0,[.slice (some ⟨(env 6).1,0,none⟩) (acc.length + 1) (env 6).2],some 38,1⟩]
 | 8=>[⟨bt,0,[out],some 38,1⟩]
 | 9=>Z
 | _=>[]
theorem loc71I (bt : Nat) (out : Value) (Z : List Row) (acc : List Int) (lb lo c ll j : Nat) (e : Int) : ∀ k env i q9,i ≠ k → (tAt ts71 k).sup.contains i = false → val71I out lb lo acc.length c ll j e k (upd env i q9)=val71I out lb lo acc.length c ll j e k env∧rows71I bt out Z acc e k (upd env i q9)=rows71I bt out Z acc e k env:=by
 intro k env i q hk hs
 have hu : ∀ j,j ≠ i → upd env i q j = env j:=fun j hj=>by unfold upd;rw [if_neg hj]
 match k,hk,hs with
 | 0,_,_=>exact ⟨rfl,rfl⟩
 | 1,_,_=>exact ⟨rfl,rfl⟩
 | 2,_,_=>exact ⟨rfl,rfl⟩
 | 3,_,_=>exact ⟨rfl,rfl⟩
 | 4,_,_=>exact ⟨rfl,rfl⟩
 | 5,hk,hs=>exact ⟨by simp only [val71I,hu 5 (fun e=>hk e.symm)],by simp only [rows71I,hu 5 (fun e=>hk e.symm)]⟩
 | 6,hk,hs=>exact ⟨by simp only [val71I,hu 6 (fun e=>hk e.symm)],by simp only [rows71I,hu 6 (fun e=>hk e.symm)]⟩
 | 7,hk,hs=>exact ⟨by simp only [val71I,hu 6 (by rintro rfl;cases hs)],by simp only [rows71I,hu 6 (by rintro rfl;cases hs)]⟩
 | 8,_,_=>exact ⟨rfl,rfl⟩
 | 9,_,_=>exact ⟨rfl,rfl⟩
 | _ + 10,_,_=>exact ⟨rfl,rfl⟩
set_option maxHeartbeats 8000000 in
theorem longer_specI (ok : List Int → Bool) (l : List Int) (a : Option Addr) (c g : Nat) (cap : List Value) (bt br bl bg : Nat) (w1 w2 w3 : Option Kd) (k1 k2 k3 : Nat) (H0 : List Row) (hl : SlE H0 a cI 1 l) (hb : l.length ≤ 1000000)
  (mr : ⟨br,0,[.func (.func g) #[] cap.toArray],w1,k1⟩ ∈ H0) (ml : ⟨bl,0,[.slice a l.length c],w2,k2⟩ ∈ H0) (mg : ⟨bg,0,[.func (.func 86) #[] #[.pointer (some ⟨br,0,none⟩),.pointer (some ⟨bt,0,none⟩),.pointer (some ⟨bl,0,none⟩),.pointer (some ⟨bg,0,none⟩)]],w3,k3⟩ ∈ H0)
  (hr : ∀ acc a' c' H',(∀ r ∈ H0,r ∈ H') → SlE H' a' cI 1 acc → acc.length ≤ 1000000 → Fc Tryz.prog g ([.slice a' acc.length c']++cap) H' (fun v H'' => v = .bool (ok acc)∧H'' = H')) :
  ∀ (m f0 : Nat) (mi fi : Int) (acc : List Int) (out : Value) (Z : List Row),mi = m → fi = f0 → f0 ≤ l.length → acc.length + m ≤ 1000000 → TrvI acc out Z →
  Fc Tryz.prog 86 ([.int .i64 fi,.int .i64 mi]++[.pointer (some ⟨br,0,none⟩),.pointer (some ⟨bt,0,none⟩),.pointer (some ⟨bl,0,none⟩),.pointer (some ⟨bg,0,none⟩)]) (⟨bt,0,[out],some 38,1⟩::(Z++H0))
   (fun v H' => ∃ out' Z',((∃ r,lonG ok (l.drop f0) m acc = some r∧v = .bool true∧TrvI r out' Z')∨(lonG ok (l.drop f0) m acc = none∧v = .bool false∧TrvI acc out' Z'))∧H' = ⟨bt,0,[out'],some 38,1⟩::(Z'++H0)):=by
 intro m
 induction m with
 | zero =>
  intro f0 mi fi acc out Z hmi hfi hfr hacc hT
  subst hmi
  obtain ⟨a',c',rfl,hs⟩:=hT.sl (H:=H0)
  show Fc Tryz.prog 86 [.int .i64 fi,.int .i64 ((0 : Nat) : Int),.pointer (some ⟨br,0,none⟩),.pointer (some ⟨bt,0,none⟩),.pointer (some ⟨bl,0,none⟩),.pointer (some ⟨bg,0,none⟩)] _ _
  refine Fc.mk (callable Tryz.call86) Tryz.func86 rfl Tryz.ntmps86 rfl ?_;dsimp only [fr]
  repeat' (first | (refine uP rfl ?_;(first | ((first | refine uN rfl ?_);(first | (refine uE (uL rfl rfl (uO (te rfl) rfl (qT _ (List.mem_append_right _ mr)) rfl)) rfl rfl ?_)|(refine uC (EnF.dyn0 rfl rfl (by (repeat (first | exact Args.nil | refine Args.cons rfl ?_));done)) rfl rfl (hr acc a' c' _ (fun _ h=>qT _ (List.mem_append_right _ h)) (hs.sub (fun _ h=>qT _ h)) (by omega)) ?_;rintro _ H9 ⟨rfl,hH9⟩;subst H9)|(refine uE (uM rfl rfl) rfl rfl ?_)|(refine uE (uA rfl rfl) rfl rfl ?_)|(refine uE (uQ rfl rfl rfl rfl) rfl rfl ?_)|(refine uE (uL rfl rfl (uO (te rfl) rfl (qH _) rfl)) rfl rfl ?_)))))|(refine uD rfl ?_;refine hK _ _ ?_;clear hK K) | refine uS rfl ?_ | refine uR rfl (fun K hK=>?_) | refine X.block rfl ?_ | refine X.skip rfl ?_ | refine X.ret rfl ?_ | (refine X.ite rfl rfl (fun hc=>?_);(first | (with_reducible refine Xb.case hc (fun h=>?_) (fun h=>?_))) <;> clear hc))
  ·refine ret_one (by simp) Tryz.results86 rfl (H' := _) (qR _) ⟨_,Z,?_,rfl⟩
   rw [lonG_zero]
   by_cases hk : ok acc = true
   ·exact .inl ⟨acc,by rw [if_pos hk],by rw [hk],hT⟩
   ·exact .inr ⟨by rw [if_neg hk],by rw [Bool.eq_false_iff.2 hk],hT⟩
  ·exfalso;omega
 | succ m ih =>
  intro f0 mi fi acc out Z hmi hfi hfr hacc hT
  subst hfi
  show Fc Tryz.prog 86 [.int .i64 (f0 : Int),.int .i64 mi,.pointer (some ⟨br,0,none⟩),.pointer (some ⟨bt,0,none⟩),.pointer (some ⟨bl,0,none⟩),.pointer (some ⟨bg,0,none⟩)] _ _
  refine Fc.mk (callable Tryz.call86) Tryz.func86 rfl Tryz.ntmps86 rfl ?_;dsimp only [fr]
  repeat' (first | (refine uP rfl ?_;(first | ((first | refine uN rfl ?_);(first | (refine uE (uM rfl rfl) rfl rfl ?_)|(refine uE (uA rfl rfl) rfl rfl ?_)|(refine uE (uQ rfl rfl rfl rfl) rfl rfl ?_)))))|(refine uD rfl ?_;refine hK _ _ ?_;clear hK K) | refine uS rfl ?_ | refine uR rfl (fun K hK=>?_) | refine X.block rfl ?_ | refine X.skip rfl ?_ | (refine X.ite rfl rfl (fun hc=>?_);(first | (with_reducible refine Xb.case hc (fun h=>?_) (fun h=>?_))) <;> clear hc))
  ·exfalso;omega
  refine X.lp rfl (fun q F' H' => ∃ (i : Nat) (out : Value) (Z : List Row),q = l.length + 1 - i∧i ≤ l.length∧TrvI acc out Z∧lonG ok (l.drop f0) (m + 1) acc = lonG ok (l.drop i) (m + 1) acc∧⟨bt,0,[out],some 38,1⟩::(Z++H0)=H' ∧
    F' = [(1,.int .i64 mi),(2,.pointer (some ⟨br,0,none⟩)),(3,.pointer (some ⟨bt,0,none⟩)),(4,.pointer (some ⟨bl,0,none⟩)),(5,.pointer (some ⟨bg,0,none⟩)),(9,.int .i64 i)])
   (l.length + 1 - f0) [(1,.int .i64 mi),(2,.pointer (some ⟨br,0,none⟩)),(3,.pointer (some ⟨bt,0,none⟩)),(4,.pointer (some ⟨bl,0,none⟩)),(5,.pointer (some ⟨bg,0,none⟩)),(9,.int .i64 f0)] _ (by repeat (first | exact uU _ | refine uV rfl ?_)) (qR _) ⟨f0,out,Z,rfl,hfr,hT,rfl,rfl,rfl⟩ ?_
  clear hT
  rintro _ _ H2 ⟨i,out,Z,rfl,hi,hT,hlon,hH,rfl⟩
  subst hH
  repeat' (first | (refine uP rfl ?_;(first | ((first | refine uN rfl ?_);(first | (refine uE (uL rfl rfl (uO (te rfl) rfl (qT _ (List.mem_append_right _ ml)) rfl)) rfl rfl ?_)|(refine uE (uM rfl rfl) rfl rfl ?_)|(refine uE (uA rfl rfl) rfl rfl ?_)|(refine uE (uQ rfl rfl rfl rfl) rfl rfl ?_)|(refine uE (EvF.add64 rfl rfl rfl (by omega) (by omega)) rfl rfl ?_)|(refine uE (EvF.lenSlice rfl rfl (te rfl)) rfl rfl ?_)))))|(refine uD rfl ?_;refine hK _ _ ?_;clear hK K) | refine uS rfl ?_ | refine uR rfl (fun K hK=>?_) | refine X.block rfl ?_ | (refine X.brk rfl ?_;repeat (first | refine blockX_hit rfl ?_ | refine blockX_miss (by decide) ?_)) | refine X.skip rfl ?_ | refine X.ret rfl ?_ | (refine X.ite rfl rfl (fun hc=>?_);(first | (with_reducible refine Xb.case hc (fun h=>?_) (fun h=>?_))) <;> clear hc))
  ·obtain ⟨lb,lo,e,rfl,he⟩:=hl.elem (i:=i) (by omega)
   have hil:=(List.getElem?_eq_some_iff.1 he).1
   have hle : (acc++[e]).length = acc.length + 1:=by rw [List.length_append];rfl
   have hfm : acc.flatMap cI++cI e = (acc++[e]).flatMap cI:=by rw [List.flatMap_append,List.flatMap_singleton]
   have hal : (acc.flatMap cI).length = acc.length * 1:=lenI acc
   refine X.regionRd ts71 rd71 [3,4,9,1,2,5] [(3,.pointer (some ⟨bt,0,none⟩)),(4,.pointer (some ⟨bl,0,none⟩)),(9,.int .i64 i),(1,.int .i64 mi),(2,.pointer (some ⟨br,0,none⟩)),(5,.pointer (some ⟨bg,0,none⟩))]
    (val71I out lb lo acc.length c l.length i e) (rows71I bt out Z acc e) (fun _=>(0,0)) H0 rfl mixed (by repeat (first | exact uU _ | refine uV rfl ?_)) rfl (by kernel_rfl) (by kernel_rfl) (loc71I bt out Z acc lb lo c l.length i e) (by show List.Sublist ((⟨bt,0,[out],some 38,1⟩::(Z++[]))++H0) _;rw [List.append_nil];exact qR _) ?_ ?_
   ·repeat' (first | exact AllF.done rfl | (refine AllF.step rfl ?_ ?_;·(first | exact (Ob.ng rfl (ObK.pure (fun env R hR=>by exact ⟨_,uM rfl rfl,rfl⟩) rfl (fun _=>rfl))).toR | (refine ObR.ng rfl ?_;(first | (exact fun env S hS hrd=>(StF.ofEv (uL rfl rfl (uO (te rfl) rfl (hrd 8 (qH _) _ (qH _)) rfl))).op.mono (fun v H' ⟨hv,hH⟩=>⟨(0,0),fun _=>hv,by rw [hH];exact List.Perm.refl _⟩))|(exact fun env S hS hrd=>(StF.ofEv (uL rfl rfl (uO (te rfl) rfl (hS _ ml) rfl))).op.mono (fun v H' ⟨hv,hH⟩=>⟨(0,0),fun _=>hv,by rw [hH];exact List.Perm.refl _⟩))|((refine fun env S hS hrd=>(StF.ofEv (v := .pointer (some ⟨lb,lo + i * 1,none⟩)) ?_).op.mono (fun v H' ⟨hv,hH⟩=>⟨(0,0),fun _=>hv,by rw [hH];exact List.Perm.refl _⟩);refine EvF.indexSlice (T:=38) (e:=3) (i:=(i : Int)) (off:=lo) (b:=lb) (len:=l.length) (ti:=⟨.int .i64,1,8⟩) rfl rfl rfl (te rfl) (te rfl) ?_ ?_ <;> omega))|(exact fun env S hS hrd=>(StF.ofEv (v := .int .i64 e) (uL rfl rfl (LoadV.el0 (n:=i) hl he (te rfl) rfl (fun _ h=>hS _ h) rfl))).op.mono (fun v H' ⟨hv,hH⟩=>⟨(0,0),fun _=>hv,by rw [hH];exact List.Perm.refl _⟩))|(exact fun env S hS hrd=>(StF.buildOne (v0 := .int .i64 e) rfl el55 rfl rfl rfl (by decide) (by decide)).op.mono (fun v H' ⟨b,hv,hH⟩=>⟨(b,0),fun _=>hv,by rw [hH];exact List.Perm.refl _⟩))|(exact fun env S hS hrd=>(StF.storeOne (i:=0) rfl rfl rfl rfl (te rfl) rfl rfl (Nat.le_of_ble_eq_true rfl)).op.mono (fun v H' ⟨hv,hH⟩=>⟨(0,0),fun h=>absurd rfl h,by rw [hH];exact List.Perm.refl _⟩))|((rcases hT with ⟨rfl,rfl,rfl⟩ | ⟨b,q,rfl,rfl⟩ <;> first | exact fun env S hS hrd=>(StF.appendNew rfl el55 rfl rfl (by decide) rfl (Rd.own (hrd 5 (qH _) _ (qH _))) (by decide)).op.mono (fun v H' ⟨b,c,hv,hH⟩=>⟨(b,c),fun _=>hv,by rw [hH];exact List.Perm.refl _⟩) | exact fun env S hS hrd=>(StF.appendOwn (i:=0) rfl el55 rfl rfl rfl hal rfl (Rd.own (qT _ (hrd 5 (qH _) _ (qH _)))) rfl (by omega)).op.mono (fun v H' ⟨b,c,hv,hH⟩=>⟨(b,c),fun _=>hv,by rw [hH];exact List.Perm.refl _⟩))))))))
   ·intro env t ha hv
    refine ⟨_,ha,?_⟩
    show X _ _ _ _ (⟨(env 5).1,0,cI e,some 3,1 * 1⟩::⟨(env 6).1,0,acc.flatMap cI++cI e,some 3,(env 6).2 * 1⟩::⟨bt,0,[.slice (some ⟨(env 6).1,0,none⟩) (acc.length + 1) (env 6).2],some 38,1⟩::H0) _
    rw [hfm]
    refine X.weakR (List.sublist_cons_self _ _) ?_
    refine X.permH (H' := ⟨bt,0,[.slice (some ⟨(env 6).1,0,none⟩) (acc.length + 1) (env 6).2],some 38,1⟩::⟨(env 6).1,0,(acc++[e]).flatMap cI,some 3,(env 6).2 * 1⟩::H0) (List.Perm.swap _ _ _) ?_
    clear hT
    repeat' (first | (refine uP rfl ?_;(first | ((first | refine uN rfl ?_);(first | (refine uE (uL rfl rfl (uO (te rfl) rfl (qT _ (qT _ mg)) rfl)) rfl rfl ?_)|(refine uC (EnF.dyn0 rfl rfl (by (repeat (first | exact Args.nil | refine Args.cons rfl ?_));done)) rfl rfl (ih (i + 1) _ _ (acc++[e]) _ [⟨(env 6).1,0,(acc++[e]).flatMap cI,some 3,(env 6).2 * 1⟩] (by omega) (by omega) (by omega) (by omega) (.inr ⟨_,_,by rw [hle],rfl⟩)) ?_;rintro _ _ ⟨out',Z',(⟨r,hlr,rfl,hT'⟩ | ⟨hln,rfl,⟨h0,_,_⟩ | ⟨b',q',rfl,rfl⟩⟩),rfl⟩;rotate_left;·exact absurd h0 (by simp))|(refine uE (uM rfl rfl) rfl rfl ?_)|(refine uE (uA rfl rfl) rfl rfl ?_)|(refine uE (EvF.add64 rfl rfl rfl (by omega) (by omega)) rfl rfl ?_)|(refine uE (EvF.sub64 rfl rfl rfl (by omega) (by omega)) rfl rfl ?_)|(refine uE (EvF.lenSlice rfl rfl (te rfl)) rfl rfl ?_)|(refine uE (uL rfl rfl (uO (te rfl) rfl (qH _) rfl)) rfl rfl ?_)))))|(refine uD rfl ?_;refine hK _ _ ?_;clear hK K) | refine uS rfl ?_ | refine uR rfl (fun K hK=>?_) | refine X.skip rfl ?_ | refine X.ret rfl ?_ | (refine X.ite rfl rfl (fun hc=>?_);(first | (with_reducible refine Xb.t hc ?_)|(with_reducible refine Xb.f hc ?_)) <;> clear hc))
    ·refine XO.reveal (q:=1) rfl (fun rest hrest=>?_)
     have hcap : (acc++[e]).length ≤ q' := by
      rw [List.length_append,lenI] at hrest
      omega
     refine XO.forget (q:=1) (cs:=acc.flatMap cI) (cs' := cI e++rest) (by show some (⟨b',0,(acc++[e]).flatMap cI++rest,some 3,q' * 1⟩ : Row)=_;rw [← hfm,List.append_assoc];rfl) ?_
     dsimp only [List.set,List.cons_append,List.nil_append]
     repeat' (first | (refine uP rfl ?_;(first | ((first | refine uN rfl ?_);(first | (refine uE (EvF.sliceTo (hh:=acc.length) rfl rfl (te rfl) (te rfl) (congrArg (fun z=>some (Value.int .i64 z)) (by omega : (((acc++[e]).length : Nat) : Int) - 1 = (acc.length : Int))) (by omega)) rfl rfl ?_)|(refine uE (uM rfl rfl) rfl rfl ?_)|(refine uE (uA rfl rfl) rfl rfl ?_)|(refine uE (EvF.add64 rfl rfl rfl (by omega) (by omega)) rfl rfl ?_)|(refine Xg.st0 (StF.storeOne (i:=0) rfl rfl rfl rfl (te rfl) rfl rfl (Nat.le_of_ble_eq_true rfl)) rfl ?_;rintro _ _ ⟨rfl,rfl⟩;dsimp only [List.set])))))|(refine uD rfl ?_;refine hK _ _ ?_;clear hK K) | refine uR rfl (fun K hK=>?_))
     refine ⟨_,_,_,(by repeat (first | exact uU _ | refine uV rfl ?_)),qR _,⟨i + 1,_,[⟨b',0,acc.flatMap cI,some 3,q' * 1⟩],rfl,by omega,.inr ⟨b',q',rfl,rfl⟩,?_,rfl,rfl⟩,by omega⟩
     rw [hlon,drop_cons he]
     simp only [lonG,hln]
    ·refine ret_one (by simp) Tryz.results86 rfl (H' := _) (qR _) ⟨out',Z',.inl ⟨r,?_,rfl,hT'⟩,rfl⟩
     rw [hlon,drop_cons he]
     simp only [lonG,hlr]
  ·refine ret_one (by simp) Tryz.results86 rfl (H' := _) (qR _) ⟨out,Z,.inr ⟨?_,rfl,hT⟩,rfl⟩
   rw [hlon]
   exact lonG_short ok _ _ _ (by rw [List.length_drop];omega)
set_option maxHeartbeats 8000000 in
theorem fewest_specI (ok : List Int → Bool) (l : List Int) (a : Option Addr) (c most g : Nat) (cap : List Value) (H : List Row) (hl : SlE H a cI 1 l) (hb : l.length ≤ 1000000) (hm : most ≤ 1000)
  (hr : ∀ acc a' c' H',(∀ r ∈ H,r ∈ H') → SlE H' a' cI 1 acc → acc.length ≤ 1000000 → Fc Tryz.prog g ([.slice a' acc.length c']++cap) H' (fun v H'' => v = .bool (ok acc)∧H'' = H')) :
  Fc Tryz.prog 53 [.slice a l.length c,.int .i64 (most : Nat),.func (.func g) #[] cap.toArray] H
   (fun v H' => ∃ out Z,TrvI ((fewG ok l (min most l.length + 1) 0).getD []) out Z∧v = .tuple #[out,.bool (fewG ok l (min most l.length + 1) 0).isSome]∧H' = Z++H):=by
 refine Fc.mk (callable Tryz.call53) Tryz.func53 rfl Tryz.ntmps53 rfl ?_;dsimp only [fr]
 repeat' (first | (refine uP rfl ?_;(first | ((first | refine uN rfl ?_);(first | (refine uE (EvF.makeFunc (fl:=[]) rfl Args.nil (Args.cons rfl (Args.cons rfl (Args.cons rfl (Args.cons rfl Args.nil))))) rfl rfl ?_)|(refine uE (uM rfl rfl) rfl rfl ?_)|(refine uE (uA rfl rfl) rfl rfl ?_)|(refine uE (EvF.add64 rfl rfl rfl (by omega) (by omega)) rfl rfl ?_)|(refine uE (EvF.lenSlice rfl rfl (te rfl)) rfl rfl ?_)|(refine uE (uL rfl rfl (uO (te rfl) rfl (qT _ (qT _ (qT _ (qH _)))) rfl)) rfl rfl ?_)|(refine uE (EvF.min64 rfl rfl rfl) rfl rfl ?_)|(refine Xg.st (StF.boxOne rfl rfl rfl) rfl rfl ?_;rintro _ _ ⟨bx,rfl,rfl⟩)|(refine Xg.st (StF.alloc rfl Tryz.zeroValue38 rfl) rfl rfl ?_;rintro _ _ ⟨bx,rfl,rfl⟩)|(refine Xg.st (StF.alloc rfl Tryz.zeroValue130 rfl) rfl rfl ?_;rintro _ _ ⟨bx,rfl,rfl⟩)|(refine Xg.st0 (StF.storeOne (i:=0) rfl rfl rfl rfl (te rfl) rfl rfl (Nat.le_of_ble_eq_true rfl)) rfl ?_;rintro _ _ ⟨rfl,rfl⟩;dsimp only [List.set])))))|(refine uD rfl ?_;refine hK _ _ ?_;clear hK K) | refine uS rfl ?_ | refine uR rfl (fun K hK=>?_) | refine X.block rfl ?_)
 rename_i bl br bt;rename Nat=>bg
 refine X.permH (List.Perm.swap _ _ _) ?_
 have hlg:=longer_specI ok l a c g cap bt br bl bg (some 102) (some 38) (some 130) 1 1 1 (⟨bg,0,[.func (.func 86) #[] #[.pointer (some ⟨br,0,none⟩),.pointer (some ⟨bt,0,none⟩),.pointer (some ⟨bl,0,none⟩),.pointer (some ⟨bg,0,none⟩)]],some 130,1⟩::⟨br,0,[.func (.func g) #[] cap.toArray],some 102,1⟩::⟨bl,0,[.slice a l.length c],some 38,1⟩::H)
  (hl.sub (fun _ h=>qT _ (qT _ (qT _ h)))) hb (qT _ (qH _)) (qT _ (qT _ (qH _))) (qH _) (fun acc a' c' H' hs=>hr acc a' c' H' (fun r h=>hs r (qT _ (qT _ (qT _ h)))))
 refine X.lp rfl (fun q F' H' => ∃ (k : Nat) (out : Value) (Z : List Row),q = min most l.length + 1 - k∧k ≤ min most l.length + 1∧TrvI [] out Z∧fewG ok l (min most l.length + 1) 0 = fewG ok l (min most l.length + 1 - k) k ∧
   ⟨bt,0,[out],some 38,1⟩::(Z++(⟨bg,0,[.func (.func 86) #[] #[.pointer (some ⟨br,0,none⟩),.pointer (some ⟨bt,0,none⟩),.pointer (some ⟨bl,0,none⟩),.pointer (some ⟨bg,0,none⟩)]],some 130,1⟩::⟨br,0,[.func (.func g) #[] cap.toArray],some 102,1⟩::⟨bl,0,[.slice a l.length c],some 38,1⟩::H)) = H' ∧
   F' = [(8,.pointer (some ⟨bt,0,none⟩)),(9,.pointer (some ⟨bg,0,none⟩)),(16,.int .i64 (min (most : Int) (l.length : Int) + 1)),(17,.int .i64 k)])
  (min most l.length + 1) [(8,.pointer (some ⟨bt,0,none⟩)),(9,.pointer (some ⟨bg,0,none⟩)),(16,.int .i64 (min (most : Int) (l.length : Int) + 1)),(17,.int .i64 (0 : Nat))] _ (by repeat (first | exact uU _ | refine uV rfl ?_)) (qR _) ⟨0,_,[],rfl,by omega,.inl ⟨rfl,rfl,rfl⟩,rfl,rfl,rfl⟩ ?_
 rintro _ _ H2 ⟨k,out,Z,rfl,hk,hT,hf,hH,rfl⟩
 subst hH
 repeat' (first | (refine uP rfl ?_;(first | ((first | refine uN rfl ?_);(first | (refine uE (uL rfl rfl (uO (te rfl) rfl (qT _ (List.mem_append_right _ (qH _))) rfl)) rfl rfl ?_)|(refine uC (EnF.dyn0 rfl rfl (by (repeat (first | exact Args.nil | refine Args.cons rfl ?_));done)) rfl rfl (hlg k 0 _ _ [] out Z rfl rfl (by omega) (by simp only [List.length_nil];omega) hT) ?_;rintro _ _ ⟨out',Z',(⟨r,hlr,rfl,hT'⟩ | ⟨hln,rfl,hT'⟩),rfl⟩)|(refine uE (uM rfl rfl) rfl rfl ?_)|(refine uE (uA rfl rfl) rfl rfl ?_)|(refine uE (uQ rfl rfl rfl rfl) rfl rfl ?_)|(refine uE (EvF.add64 rfl rfl rfl (by omega) (by omega)) rfl rfl ?_)|(refine uE (uL rfl rfl (uO (te rfl) rfl (qH _) rfl)) rfl rfl ?_)))))|(refine uD rfl ?_;refine hK _ _ ?_;clear hK K) | refine uS rfl ?_ | refine uR rfl (fun K hK=>?_) | refine X.block rfl ?_ | (refine X.brk rfl ?_;repeat (first | refine blockX_hit rfl ?_ | refine blockX_miss (by decide) ?_)) | refine X.skip rfl ?_ | refine X.ret rfl ?_ | (refine X.ite rfl rfl (fun hc=>?_);(first | (with_reducible refine Xb.t hc ?_)|(with_reducible refine Xb.f hc ?_)|(with_reducible refine Xb.case hc (fun h=>?_) (fun h=>?_))) <;> clear hc))
 ·obtain ⟨j,hj⟩ : ∃ j,min most l.length + 1 - k = j + 1:=⟨min most l.length - k,by omega⟩
  rw [List.drop_zero] at hlr
  have hfr : fewG ok l (min most l.length + 1) 0 = some r:=by rw [hf,hj];simp only [fewG,hlr]
  rw [hfr]
  exact ret_two (by simp) Tryz.results53 rfl rfl (H' := Z'++H) (qC _ (List.Sublist.append (qR _) (qC _ (qC _ (List.sublist_cons_self _ _))))) ⟨out',Z',hT',rfl,rfl⟩
 ·obtain ⟨j,hj⟩ : ∃ j,min most l.length + 1 - k = j + 1:=⟨min most l.length - k,by omega⟩
  rw [List.drop_zero] at hln
  refine ⟨_,_,_,(by repeat (first | exact uU _ | refine uV rfl ?_)),qR _,⟨k + 1,out',Z',rfl,by omega,hT',?_,rfl,rfl⟩,by omega⟩
  rw [hf,hj,show min most l.length + 1 - (k + 1)=j by omega]
  simp only [fewG,hln]
 ·have hk' : min most l.length + 1 - k = 0:=by omega
  have hfn : fewG ok l (min most l.length + 1) 0 = none:=by rw [hf,hk'];rfl
  rw [hfn]
  exact ret_two (by simp) Tryz.results53 rfl rfl (H' := H) (qC _ ((qC _ (qC _ (List.sublist_cons_self _ _))).trans (List.sublist_append_right _ _))) ⟨_,[],.inl ⟨rfl,rfl,rfl⟩,rfl,rfl⟩
end Go.Proofs.YtmfppdpkalelhaaGreat
end
section
set_option linter.unusedVariables false
set_option linter.unusedSimpArgs false
namespace Go.Proofs.YtmfppdpkalelhaaGreat
open Go Go.Fw
set_option maxRecDepth 10000
set_option maxHeartbeats 8000000 in
theorem longer_specJ (ok : List Int → Bool) (l : List Int) (a : Option Addr) (c g : Nat) (fst cap : List Value) (bt br bl bg : Nat) (w1 w2 w3 : Option Kd) (k1 k2 k3 : Nat) (H0 : List Row) (hl : SlE H0 a cI 1 l) (hb : l.length ≤ 1000000)
  (mr : ⟨br,0,[.func (.func g) fst.toArray cap.toArray],w1,k1⟩ ∈ H0) (ml : ⟨bl,0,[.slice a l.length c],w2,k2⟩ ∈ H0) (mg : ⟨bg,0,[.func (.func 86) #[] #[.pointer (some ⟨br,0,none⟩),.pointer (some ⟨bt,0,none⟩),.pointer (some ⟨bl,0,none⟩),.pointer (some ⟨bg,0,none⟩)]],w3,k3⟩ ∈ H0)
  (hr : ∀ acc a' c' H',(∀ r ∈ H0,r ∈ H') → SlE H' a' cI 1 acc → acc.length ≤ 1000000 → Fc Tryz.prog g (fst++[.slice a' acc.length c']++cap) H' (fun v H'' => v = .bool (ok acc)∧H'' = H')) :
  ∀ (m f0 : Nat) (mi fi : Int) (acc : List Int) (out : Value) (Z : List Row),mi = m → fi = f0 → f0 ≤ l.length → acc.length + m ≤ 1000000 → TrvI acc out Z →
  Fc Tryz.prog 86 ([.int .i64 fi,.int .i64 mi]++[.pointer (some ⟨br,0,none⟩),.pointer (some ⟨bt,0,none⟩),.pointer (some ⟨bl,0,none⟩),.pointer (some ⟨bg,0,none⟩)]) (⟨bt,0,[out],some 38,1⟩::(Z++H0))
   (fun v H' => ∃ out' Z',((∃ r,lonG ok (l.drop f0) m acc = some r∧v = .bool true∧TrvI r out' Z')∨(lonG ok (l.drop f0) m acc = none∧v = .bool false∧TrvI acc out' Z'))∧H' = ⟨bt,0,[out'],some 38,1⟩::(Z'++H0)):=by
 intro m
 induction m with
 | zero =>
  intro f0 mi fi acc out Z hmi hfi hfr hacc hT
  subst hmi
  obtain ⟨a',c',rfl,hs⟩:=hT.sl (H:=H0)
  show Fc Tryz.prog 86 [.int .i64 fi,.int .i64 ((0 : Nat) : Int),.pointer (some ⟨br,0,none⟩),.pointer (some ⟨bt,0,none⟩),.pointer (some ⟨bl,0,none⟩),.pointer (some ⟨bg,0,none⟩)] _ _
  refine Fc.mk (callable Tryz.call86) Tryz.func86 rfl Tryz.ntmps86 rfl ?_;dsimp only [fr]
  repeat' (first | (refine uP rfl ?_;(first | ((first | refine uN rfl ?_);(first | (refine uE (uL rfl rfl (uO (te rfl) rfl (qT _ (List.mem_append_right _ mr)) rfl)) rfl rfl ?_)|(refine uC (EnF.dyn (first:=fst) rfl rfl (Args.cons rfl Args.nil)) rfl rfl (hr acc a' c' _ (fun _ h=>qT _ (List.mem_append_right _ h)) (hs.sub (fun _ h=>qT _ h)) (by omega)) ?_;rintro _ H9 ⟨rfl,hH9⟩;subst H9)|(refine uE (uM rfl rfl) rfl rfl ?_)|(refine uE (uA rfl rfl) rfl rfl ?_)|(refine uE (uQ rfl rfl rfl rfl) rfl rfl ?_)|(refine uE (uL rfl rfl (uO (te rfl) rfl (qH _) rfl)) rfl rfl ?_)))))|(refine uD rfl ?_;refine hK _ _ ?_;clear hK K) | refine uS rfl ?_ | refine uR rfl (fun K hK=>?_) | refine X.block rfl ?_ | refine X.skip rfl ?_ | refine X.ret rfl ?_ | (refine X.ite rfl rfl (fun hc=>?_);(first | (with_reducible refine Xb.case hc (fun h=>?_) (fun h=>?_))) <;> clear hc))
  ·refine ret_one (by simp) Tryz.results86 rfl (H' := _) (qR _) ⟨_,Z,?_,rfl⟩
   rw [lonG_zero]
   by_cases hk : ok acc = true
   ·exact .inl ⟨acc,by rw [if_pos hk],by rw [hk],hT⟩
   ·exact .inr ⟨by rw [if_neg hk],by rw [Bool.eq_false_iff.2 hk],hT⟩
  ·exfalso;omega
 | succ m ih =>
  intro f0 mi fi acc out Z hmi hfi hfr hacc hT
  subst hfi
  show Fc Tryz.prog 86 [.int .i64 (f0 : Int),.int .i64 mi,.pointer (some ⟨br,0,none⟩),.pointer (some ⟨bt,0,none⟩),.pointer (some ⟨bl,0,none⟩),.pointer (some ⟨bg,0,none⟩)] _ _
  refine Fc.mk (callable Tryz.call86) Tryz.func86 rfl Tryz.ntmps86 rfl ?_;dsimp only [fr]
  repeat' (first | (refine uP rfl ?_;(first | ((first | refine uN rfl ?_);(first | (refine uE (uM rfl rfl) rfl rfl ?_)|(refine uE (uA rfl rfl) rfl rfl ?_)|(refine uE (uQ rfl rfl rfl rfl) rfl rfl ?_)))))|(refine uD rfl ?_;refine hK _ _ ?_;clear hK K) | refine uS rfl ?_ | refine uR rfl (fun K hK=>?_) | refine X.block rfl ?_ | refine X.skip rfl ?_ | (refine X.ite rfl rfl (fun hc=>?_);(first | (with_reducible refine Xb.case hc (fun h=>?_) (fun h=>?_))) <;> clear hc))
  ·exfalso;omega
  refine X.lp rfl (fun q F' H' => ∃ (i : Nat) (out : Value) (Z : List Row),q = l.length + 1 - i∧i ≤ l.length∧TrvI acc out Z∧lonG ok (l.drop f0) (m + 1) acc = lonG ok (l.drop i) (m + 1) acc∧⟨bt,0,[out],some 38,1⟩::(Z++H0)=H' ∧
    F' = [(1,.int .i64 mi),(2,.pointer (some ⟨br,0,none⟩)),(3,.pointer (some ⟨bt,0,none⟩)),(4,.pointer (some ⟨bl,0,none⟩)),(5,.pointer (some ⟨bg,0,none⟩)),(9,.int .i64 i)])
   (l.length + 1 - f0) [(1,.int .i64 mi),(2,.pointer (some ⟨br,0,none⟩)),(3,.pointer (some ⟨bt,0,none⟩)),(4,.pointer (some ⟨bl,0,none⟩)),(5,.pointer (some ⟨bg,0,none⟩)),(9,.int .i64 f0)] _ (by repeat (first | exact uU _ | refine uV rfl ?_)) (qR _) ⟨f0,out,Z,rfl,hfr,hT,rfl,rfl,rfl⟩ ?_
  clear hT
  rintro _ _ H2 ⟨i,out,Z,rfl,hi,hT,hlon,hH,rfl⟩
  subst hH
  repeat' (first | (refine uP rfl ?_;(first | ((first | refine uN rfl ?_);(first | (refine uE (uL rfl rfl (uO (te rfl) rfl (qT _ (List.mem_append_right _ ml)) rfl)) rfl rfl ?_)|(refine uE (uM rfl rfl) rfl rfl ?_)|(refine uE (uA rfl rfl) rfl rfl ?_)|(refine uE (uQ rfl rfl rfl rfl) rfl rfl ?_)|(refine uE (EvF.add64 rfl rfl rfl (by omega) (by omega)) rfl rfl ?_)|(refine uE (EvF.lenSlice rfl rfl (te rfl)) rfl rfl ?_)))))|(refine uD rfl ?_;refine hK _ _ ?_;clear hK K) | refine uS rfl ?_ | refine uR rfl (fun K hK=>?_) | refine X.block rfl ?_ | (refine X.brk rfl ?_;repeat (first | refine blockX_hit rfl ?_ | refine blockX_miss (by decide) ?_)) | refine X.skip rfl ?_ | refine X.ret rfl ?_ | (refine X.ite rfl rfl (fun hc=>?_);(first | (with_reducible refine Xb.case hc (fun h=>?_) (fun h=>?_))) <;> clear hc))
  ·obtain ⟨lb,lo,e,rfl,he⟩:=hl.elem (i:=i) (by omega)
   have hil:=(List.getElem?_eq_some_iff.1 he).1
   have hle : (acc++[e]).length = acc.length + 1:=by rw [List.length_append];rfl
   have hfm : acc.flatMap cI++cI e = (acc++[e]).flatMap cI:=by rw [List.flatMap_append,List.flatMap_singleton]
   have hal : (acc.flatMap cI).length = acc.length * 1:=lenI acc
   refine X.regionRd ts71 rd71 [3,4,9,1,2,5] [(3,.pointer (some ⟨bt,0,none⟩)),(4,.pointer (some ⟨bl,0,none⟩)),(9,.int .i64 i),(1,.int .i64 mi),(2,.pointer (some ⟨br,0,none⟩)),(5,.pointer (some ⟨bg,0,none⟩))]
    (val71I out lb lo acc.length c l.length i e) (rows71I bt out Z acc e) (fun _=>(0,0)) H0 rfl mixed (by repeat (first | exact uU _ | refine uV rfl ?_)) rfl (by kernel_rfl) (by kernel_rfl) (loc71I bt out Z acc lb lo c l.length i e) (by show List.Sublist ((⟨bt,0,[out],some 38,1⟩::(Z++[]))++H0) _;rw [List.append_nil];exact qR _) ?_ ?_
   ·repeat' (first | exact AllF.done rfl | (refine AllF.step rfl ?_ ?_;·(first | exact (Ob.ng rfl (ObK.pure (fun env R hR=>by exact ⟨_,uM rfl rfl,rfl⟩) rfl (fun _=>rfl))).toR | (refine ObR.ng rfl ?_;(first | (exact fun env S hS hrd=>(StF.ofEv (uL rfl rfl (uO (te rfl) rfl (hrd 8 (qH _) _ (qH _)) rfl))).op.mono (fun v H' ⟨hv,hH⟩=>⟨(0,0),fun _=>hv,by rw [hH];exact List.Perm.refl _⟩))|(exact fun env S hS hrd=>(StF.ofEv (uL rfl rfl (uO (te rfl) rfl (hS _ ml) rfl))).op.mono (fun v H' ⟨hv,hH⟩=>⟨(0,0),fun _=>hv,by rw [hH];exact List.Perm.refl _⟩))|((refine fun env S hS hrd=>(StF.ofEv (v := .pointer (some ⟨lb,lo + i * 1,none⟩)) ?_).op.mono (fun v H' ⟨hv,hH⟩=>⟨(0,0),fun _=>hv,by rw [hH];exact List.Perm.refl _⟩);refine EvF.indexSlice (T:=38) (e:=3) (i:=(i : Int)) (off:=lo) (b:=lb) (len:=l.length) (ti:=⟨.int .i64,1,8⟩) rfl rfl rfl (te rfl) (te rfl) ?_ ?_ <;> omega))|(exact fun env S hS hrd=>(StF.ofEv (v := .int .i64 e) (uL rfl rfl (LoadV.el0 (n:=i) hl he (te rfl) rfl (fun _ h=>hS _ h) rfl))).op.mono (fun v H' ⟨hv,hH⟩=>⟨(0,0),fun _=>hv,by rw [hH];exact List.Perm.refl _⟩))|(exact fun env S hS hrd=>(StF.buildOne (v0 := .int .i64 e) rfl el55 rfl rfl rfl (by decide) (by decide)).op.mono (fun v H' ⟨b,hv,hH⟩=>⟨(b,0),fun _=>hv,by rw [hH];exact List.Perm.refl _⟩))|(exact fun env S hS hrd=>(StF.storeOne (i:=0) rfl rfl rfl rfl (te rfl) rfl rfl (Nat.le_of_ble_eq_true rfl)).op.mono (fun v H' ⟨hv,hH⟩=>⟨(0,0),fun h=>absurd rfl h,by rw [hH];exact List.Perm.refl _⟩))|((rcases hT with ⟨rfl,rfl,rfl⟩ | ⟨b,q,rfl,rfl⟩ <;> first | exact fun env S hS hrd=>(StF.appendNew rfl el55 rfl rfl (by decide) rfl (Rd.own (hrd 5 (qH _) _ (qH _))) (by decide)).op.mono (fun v H' ⟨b,c,hv,hH⟩=>⟨(b,c),fun _=>hv,by rw [hH];exact List.Perm.refl _⟩) | exact fun env S hS hrd=>(StF.appendOwn (i:=0) rfl el55 rfl rfl rfl hal rfl (Rd.own (qT _ (hrd 5 (qH _) _ (qH _)))) rfl (by omega)).op.mono (fun v H' ⟨b,c,hv,hH⟩=>⟨(b,c),fun _=>hv,by rw [hH];exact List.Perm.refl _⟩))))))))
   ·intro env t ha hv
    refine ⟨_,ha,?_⟩
    show X _ _ _ _ (⟨(env 5).1,0,cI e,some 3,1 * 1⟩::⟨(env 6).1,0,acc.flatMap cI++cI e,some 3,(env 6).2 * 1⟩::⟨bt,0,[.slice (some ⟨(env 6).1,0,none⟩) (acc.length + 1) (env 6).2],some 38,1⟩::H0) _
    rw [hfm]
    refine X.weakR (List.sublist_cons_self _ _) ?_
    refine X.permH (H' := ⟨bt,0,[.slice (some ⟨(env 6).1,0,none⟩) (acc.length + 1) (env 6).2],some 38,1⟩::⟨(env 6).1,0,(acc++[e]).flatMap cI,some 3,(env 6).2 * 1⟩::H0) (List.Perm.swap _ _ _) ?_
    clear hT
    repeat' (first | (refine uP rfl ?_;(first | ((first | refine uN rfl ?_);(first | (refine uE (uL rfl rfl (uO (te rfl) rfl (qT _ (qT _ mg)) rfl)) rfl rfl ?_)|(refine uC (EnF.dyn0 rfl rfl (by (repeat (first | exact Args.nil | refine Args.cons rfl ?_));done)) rfl rfl (ih (i + 1) _ _ (acc++[e]) _ [⟨(env 6).1,0,(acc++[e]).flatMap cI,some 3,(env 6).2 * 1⟩] (by omega) (by omega) (by omega) (by omega) (.inr ⟨_,_,by rw [hle],rfl⟩)) ?_;rintro _ _ ⟨out',Z',(⟨r,hlr,rfl,hT'⟩ | ⟨hln,rfl,⟨h0,_,_⟩ | ⟨b',q',rfl,rfl⟩⟩),rfl⟩;rotate_left;·exact absurd h0 (by simp))|(refine uE (uM rfl rfl) rfl rfl ?_)|(refine uE (uA rfl rfl) rfl rfl ?_)|(refine uE (EvF.add64 rfl rfl rfl (by omega) (by omega)) rfl rfl ?_)|(refine uE (EvF.sub64 rfl rfl rfl (by omega) (by omega)) rfl rfl ?_)|(refine uE (EvF.lenSlice rfl rfl (te rfl)) rfl rfl ?_)|(refine uE (uL rfl rfl (uO (te rfl) rfl (qH _) rfl)) rfl rfl ?_)))))|(refine uD rfl ?_;refine hK _ _ ?_;clear hK K) | refine uS rfl ?_ | refine uR rfl (fun K hK=>?_) | refine X.skip rfl ?_ | refine X.ret rfl ?_ | (refine X.ite rfl rfl (fun hc=>?_);(first | (with_reducible refine Xb.t hc ?_)|(with_reducible refine Xb.f hc ?_)) <;> clear hc))
    ·refine XO.reveal (q:=1) rfl (fun rest hrest=>?_)
     have hcap : (acc++[e]).length ≤ q' := by
      rw [List.length_append,lenI] at hrest
      omega
     refine XO.forget (q:=1) (cs:=acc.flatMap cI) (cs' := cI e++rest) (by show some (⟨b',0,(acc++[e]).flatMap cI++rest,some 3,q' * 1⟩ : Row)=_;rw [← hfm,List.append_assoc];rfl) ?_
     dsimp only [List.set,List.cons_append,List.nil_append]
     repeat' (first | (refine uP rfl ?_;(first | ((first | refine uN rfl ?_);(first | (refine uE (EvF.sliceTo (hh:=acc.length) rfl rfl (te rfl) (te rfl) (congrArg (fun z=>some (Value.int .i64 z)) (by omega : (((acc++[e]).length : Nat) : Int) - 1 = (acc.length : Int))) (by omega)) rfl rfl ?_)|(refine uE (uM rfl rfl) rfl rfl ?_)|(refine uE (uA rfl rfl) rfl rfl ?_)|(refine uE (EvF.add64 rfl rfl rfl (by omega) (by omega)) rfl rfl ?_)|(refine Xg.st0 (StF.storeOne (i:=0) rfl rfl rfl rfl (te rfl) rfl rfl (Nat.le_of_ble_eq_true rfl)) rfl ?_;rintro _ _ ⟨rfl,rfl⟩;dsimp only [List.set])))))|(refine uD rfl ?_;refine hK _ _ ?_;clear hK K) | refine uR rfl (fun K hK=>?_))
     refine ⟨_,_,_,(by repeat (first | exact uU _ | refine uV rfl ?_)),qR _,⟨i + 1,_,[⟨b',0,acc.flatMap cI,some 3,q' * 1⟩],rfl,by omega,.inr ⟨b',q',rfl,rfl⟩,?_,rfl,rfl⟩,by omega⟩
     rw [hlon,drop_cons he]
     simp only [lonG,hln]
    ·refine ret_one (by simp) Tryz.results86 rfl (H' := _) (qR _) ⟨out',Z',.inl ⟨r,?_,rfl,hT'⟩,rfl⟩
     rw [hlon,drop_cons he]
     simp only [lonG,hlr]
  ·refine ret_one (by simp) Tryz.results86 rfl (H' := _) (qR _) ⟨out,Z,.inr ⟨?_,rfl,hT⟩,rfl⟩
   rw [hlon]
   exact lonG_short ok _ _ _ (by rw [List.length_drop];omega)
set_option maxHeartbeats 8000000 in
theorem fewest_specJ (ok : List Int → Bool) (l : List Int) (a : Option Addr) (c most g : Nat) (fst cap : List Value) (H : List Row) (hl : SlE H a cI 1 l) (hb : l.length ≤ 1000000) (hm : most ≤ 1000)
  (hr : ∀ acc a' c' H',(∀ r ∈ H,r ∈ H') → SlE H' a' cI 1 acc → acc.length ≤ 1000000 → Fc Tryz.prog g (fst++[.slice a' acc.length c']++cap) H' (fun v H'' => v = .bool (ok acc)∧H'' = H')) :
  Fc Tryz.prog 53 [.slice a l.length c,.int .i64 (most : Nat),.func (.func g) fst.toArray cap.toArray] H
   (fun v H' => ∃ out Z,TrvI ((fewG ok l (min most l.length + 1) 0).getD []) out Z∧v = .tuple #[out,.bool (fewG ok l (min most l.length + 1) 0).isSome]∧H' = Z++H):=by
 refine Fc.mk (callable Tryz.call53) Tryz.func53 rfl Tryz.ntmps53 rfl ?_;dsimp only [fr]
 repeat' (first | (refine uP rfl ?_;(first | ((first | refine uN rfl ?_);(first | (refine uE (EvF.makeFunc (fl:=[]) rfl Args.nil (Args.cons rfl (Args.cons rfl (Args.cons rfl (Args.cons rfl Args.nil))))) rfl rfl ?_)|(refine uE (uM rfl rfl) rfl rfl ?_)|(refine uE (uA rfl rfl) rfl rfl ?_)|(refine uE (EvF.add64 rfl rfl rfl (by omega) (by omega)) rfl rfl ?_)|(refine uE (EvF.lenSlice rfl rfl (te rfl)) rfl rfl ?_)|(refine uE (uL rfl rfl (uO (te rfl) rfl (qT _ (qT _ (qT _ (qH _)))) rfl)) rfl rfl ?_)|(refine uE (EvF.min64 rfl rfl rfl) rfl rfl ?_)|(refine Xg.st (StF.boxOne rfl rfl rfl) rfl rfl ?_;rintro _ _ ⟨bx,rfl,rfl⟩)|(refine Xg.st (StF.alloc rfl Tryz.zeroValue38 rfl) rfl rfl ?_;rintro _ _ ⟨bx,rfl,rfl⟩)|(refine Xg.st (StF.alloc rfl Tryz.zeroValue130 rfl) rfl rfl ?_;rintro _ _ ⟨bx,rfl,rfl⟩)|(refine Xg.st0 (StF.storeOne (i:=0) rfl rfl rfl rfl (te rfl) rfl rfl (Nat.le_of_ble_eq_true rfl)) rfl ?_;rintro _ _ ⟨rfl,rfl⟩;dsimp only [List.set])))))|(refine uD rfl ?_;refine hK _ _ ?_;clear hK K) | refine uS rfl ?_ | refine uR rfl (fun K hK=>?_) | refine X.block rfl ?_)
 rename_i bl br bt;rename Nat=>bg
 refine X.permH (List.Perm.swap _ _ _) ?_
 have hlg:=longer_specJ ok l a c g fst cap bt br bl bg (some 102) (some 38) (some 130) 1 1 1 (⟨bg,0,[.func (.func 86) #[] #[.pointer (some ⟨br,0,none⟩),.pointer (some ⟨bt,0,none⟩),.pointer (some ⟨bl,0,none⟩),.pointer (some ⟨bg,0,none⟩)]],some 130,1⟩::⟨br,0,[.func (.func g) fst.toArray cap.toArray],some 102,1⟩::⟨bl,0,[.slice a l.length c],some 38,1⟩::H)
  (hl.sub (fun _ h=>qT _ (qT _ (qT _ h)))) hb (qT _ (qH _)) (qT _ (qT _ (qH _))) (qH _) (fun acc a' c' H' hs=>hr acc a' c' H' (fun r h=>hs r (qT _ (qT _ (qT _ h)))))
 refine X.lp rfl (fun q F' H' => ∃ (k : Nat) (out : Value) (Z : List Row),q = min most l.length + 1 - k∧k ≤ min most l.length + 1∧TrvI [] out Z∧fewG ok l (min most l.length + 1) 0 = fewG ok l (min most l.length + 1 - k) k ∧
   ⟨bt,0,[out],some 38,1⟩::(Z++(⟨bg,0,[.func (.func 86) #[] #[.pointer (some ⟨br,0,none⟩),.pointer (some ⟨bt,0,none⟩),.pointer (some ⟨bl,0,none⟩),.pointer (some ⟨bg,0,none⟩)]],some 130,1⟩::⟨br,0,[.func (.func g) fst.toArray cap.toArray],some 102,1⟩::⟨bl,0,[.slice a l.length c],some 38,1⟩::H)) = H' ∧
   F' = [(8,.pointer (some ⟨bt,0,none⟩)),(9,.pointer (some ⟨bg,0,none⟩)),(16,.int .i64 (min (most : Int) (l.length : Int) + 1)),(17,.int .i64 k)])
  (min most l.length + 1) [(8,.pointer (some ⟨bt,0,none⟩)),(9,.pointer (some ⟨bg,0,none⟩)),(16,.int .i64 (min (most : Int) (l.length : Int) + 1)),(17,.int .i64 (0 : Nat))] _ (by repeat (first | exact uU _ | refine uV rfl ?_)) (qR _) ⟨0,_,[],rfl,by omega,.inl ⟨rfl,rfl,rfl⟩,rfl,rfl,rfl⟩ ?_
 rintro _ _ H2 ⟨k,out,Z,rfl,hk,hT,hf,hH,rfl⟩
 subst hH
 repeat' (first | (refine uP rfl ?_;(first | ((first | refine uN rfl ?_);(first | (refine uE (uL rfl rfl (uO (te rfl) rfl (qT _ (List.mem_append_right _ (qH _))) rfl)) rfl rfl ?_)|(refine uC (EnF.dyn0 rfl rfl (by (repeat (first | exact Args.nil | refine Args.cons rfl ?_));done)) rfl rfl (hlg k 0 _ _ [] out Z rfl rfl (by omega) (by simp only [List.length_nil];omega) hT) ?_;rintro _ _ ⟨out',Z',(⟨r,hlr,rfl,hT'⟩ | ⟨hln,rfl,hT'⟩),rfl⟩)|(refine uE (uM rfl rfl) rfl rfl ?_)|(refine uE (uA rfl rfl) rfl rfl ?_)|(refine uE (uQ rfl rfl rfl rfl) rfl rfl ?_)|(refine uE (EvF.add64 rfl rfl rfl (by omega) (by omega)) rfl rfl ?_)|(refine uE (uL rfl rfl (uO (te rfl) rfl (qH _) rfl)) rfl rfl ?_)))))|(refine uD rfl ?_;refine hK _ _ ?_;clear hK K) | refine uS rfl ?_ | refine uR rfl (fun K hK=>?_) | refine X.block rfl ?_ | (refine X.brk rfl ?_;repeat (first | refine blockX_hit rfl ?_ | refine blockX_miss (by decide) ?_)) | refine X.skip rfl ?_ | refine X.ret rfl ?_ | (refine X.ite rfl rfl (fun hc=>?_);(first | (with_reducible refine Xb.t hc ?_)|(with_reducible refine Xb.f hc ?_)|(with_reducible refine Xb.case hc (fun h=>?_) (fun h=>?_))) <;> clear hc))
 ·obtain ⟨j,hj⟩ : ∃ j,min most l.length + 1 - k = j + 1:=⟨min most l.length - k,by omega⟩
  rw [List.drop_zero] at hlr
  have hfr : fewG ok l (min most l.length + 1) 0 = some r:=by rw [hf,hj];simp only [fewG,hlr]
  rw [hfr]
  exact ret_two (by simp) Tryz.results53 rfl rfl (H' := Z'++H) (qC _ (List.Sublist.append (qR _) (qC _ (qC _ (List.sublist_cons_self _ _))))) ⟨out',Z',hT',rfl,rfl⟩
 ·obtain ⟨j,hj⟩ : ∃ j,min most l.length + 1 - k = j + 1:=⟨min most l.length - k,by omega⟩
  rw [List.drop_zero] at hln
  refine ⟨_,_,_,(by repeat (first | exact uU _ | refine uV rfl ?_)),qR _,⟨k + 1,out',Z',rfl,by omega,hT',?_,rfl,rfl⟩,by omega⟩
  rw [hf,hj,show min most l.length + 1 - (k + 1)=j by omega]
  simp only [fewG,hln]
 ·have hk' : min most l.length + 1 - k = 0:=by omega
  have hfn : fewG ok l (min most l.length + 1) 0 = none:=by rw [hf,hk'];rfl
  rw [hfn]
  exact ret_two (by simp) Tryz.results53 rfl rfl (H' := H) (qC _ ((qC _ (qC _ (List.sublist_cons_self _ _))).trans (List.sublist_append_right _ _))) ⟨_,[],.inl ⟨rfl,rfl,rfl⟩,rfl,rfl⟩
end Go.Proofs.YtmfppdpkalelhaaGreat
end
section
set_option linter.unusedVariables false
set_option linter.unusedSimpArgs false
namespace Go.Proofs.YtmfppdpkalelhaaGreat
open Go Go.Fw
set_option maxRecDepth 10000
theorem StF.storeSp {P : Program} {n : Nat} {H : List Row} {F : FS} {o : Oper} {T : TypeId} {a x : Operand} {q b j cap : Nat} {el : TypeId} {cs : List Value} {y : Int} {ti : TI} (h : o.op = .store T a x) (hx : evF F a = some (.pointer (some ⟨b,j,none⟩))) (hv : evF F x = some (.int .i64 y)) (hT : tiOf P T = some ti) (hi : H[q]? = some ⟨b,0,cs,some el,cap⟩)
  (hn : 1 = ti.size) (hl : j + 1 ≤ cs.length) : StF P n H F o (fun u H' => u = undef∧H' = H.set q ⟨b,0,splice cs j (cI y),some el,cap⟩):=by
 unfold StF
 intro t ha
 exact StepOp.store h (ha.ev hx) hT (by rw [ha.ev hv];rfl) hi hn rfl hl
theorem filter_snoc_tInt {p : Int → Bool} {l : List Int} {j : Nat} {e : Int} (he : l[j]? = some e) (hp : p e = true) : (l.take (j + 1)).filter (fun e => !p e)=(l.take j).filter (fun e => !p e):=by
 rw [take_snoc he,List.filter_append];simp [hp]
theorem filter_snoc_fInt {p : Int → Bool} {l : List Int} {j : Nat} {e : Int} (he : l[j]? = some e) (hp : p e = false) : (l.take (j + 1)).filter (fun e => !p e)=(l.take j).filter (fun e => !p e)++[e]:=by
 rw [take_snoc he,List.filter_append];simp [hp]
theorem honeInt (z : Value) (w : World) (h : (zeroValue 3).run Tryz.prog w = .ok z w) : z.cells.all (·.oneCell') = true:=by
 rw [Tryz.zeroValue3] at h
 cases h
 first | decide | simp [Value.cells,Value.oneCell'] | kernel_rfl
set_option maxHeartbeats 4000000 in
theorem deleteFunc_specInt (l : List Int) (b c g : Nat) (p : Int → Bool) (cap : List Value) (H : List Row) (hb : l.length ≤ 1000000) (hf : ∀ Z,∀ e ∈ l,Fc Tryz.prog g ([.int .i64 e]++cap) (Z++H) (fun v H' => v = .bool (p e)∧H' = Z++H)) :
  Fc Tryz.prog 50 [.slice (some ⟨b,0,none⟩) l.length c,.func (.func g) #[] cap.toArray] (⟨b,0,l.flatMap cI,some 3,c * 1⟩::H)
   (fun v H' => v = .slice (some ⟨b,0,none⟩) (l.filter (fun e => !p e)).length c∧H' = ⟨b,0,(l.filter (fun e => !p e)).flatMap cI,some 3,c * 1⟩::H):=by
 have hlen:=lenI l
 refine Fc.mk (callable Tryz.call50) Tryz.func50 rfl Tryz.ntmps50 rfl ?_;dsimp only [fr]
 refine X.reveal (q:=0) rfl (fun rest hrest=>?_)
 refine X.forget (q:=0) (cs:=l.flatMap cI) (cs' := rest) rfl ?_
 dsimp only [List.set]
 have hlc : l.length ≤ c:=by
  rw [List.length_append,hlen] at hrest
  omega
 clear hrest
 repeat' (first | (refine uP rfl ?_;(first | ((first | refine uN rfl ?_);(first | (refine uC (uT rfl (by (repeat (first | exact Args.nil | refine Args.cons rfl ?_));done)) rfl rfl (indexFunc_specI l _ _ g p cap _ (SlE.ofRow (qH _) (fun _ _=>rfl)) (by omega) (fun e he=>hf [_] e he)) ?_;rintro _ H9 ⟨⟨z,rfl,hz⟩,hH9⟩;subst H9;rcases hz with ⟨rfl,hz⟩ | ⟨k,e0,rfl,he0,hp0,hz⟩;rotate_left;have hk0:=(List.getElem?_eq_some_iff.1 he0).1;rotate_right)|(refine uE (uM rfl rfl) rfl rfl ?_)|(refine uE (uA rfl rfl) rfl rfl ?_)|(refine uE (uQ rfl rfl rfl rfl) rfl rfl ?_)|(refine uE (EvF.add64 rfl rfl rfl (by omega) (by omega)) rfl rfl ?_)))))|(refine uD rfl ?_;refine hK _ _ ?_;clear hK K) | refine uS rfl ?_ | refine uR rfl (fun K hK=>?_) | refine X.block rfl ?_ | refine X.skip rfl ?_ | refine X.ret rfl ?_ | (refine X.ite rfl rfl (fun hc=>?_);(first | (with_reducible refine Xb.case hc (fun h=>?_) (fun h=>?_))) <;> clear hc))
 any_goals (exfalso;omega)
 ·have e1 : l.filter (fun e => !p e)=l:=List.filter_eq_self.2 (fun e he=>by simp [hz e he])
  refine ret_one (by simp) Tryz.results50 rfl (H' := ⟨b,0,l.flatMap cI,some 3,c * 1⟩::H) (qR _) ?_
  rw [e1]
  exact ⟨rfl,rfl⟩
 have e1 : (l.take k).filter (fun e => !p e)=l.take k:=List.filter_eq_self.2 (fun e he=>by
  obtain ⟨i,hi⟩:=List.getElem?_of_mem he
  rw [List.getElem?_take] at hi
  split at hi
  ·simp [hz i e (by assumption) hi]
  ·cases hi)
 refine X.lp rfl (fun q F' H' => ∃ (i j : Nat) (M : List Value),q = l.length - j∧j ≤ l.length∧i < j∧i = ((l.take j).filter (fun e => !p e)).length∧M.length = (j - i) * 1 ∧
   ⟨b,0,((l.take j).filter (fun e => !p e)).flatMap cI++M++(l.drop j).flatMap cI,some 3,c * 1⟩::H = H' ∧
   F' = [(0,.slice (some ⟨b,0,none⟩) l.length c),(1,.func (.func g) #[] cap.toArray),(5,.int .i64 i),(6,.int .i64 j)])
  (l.length - (k + 1)) [(0,.slice (some ⟨b,0,none⟩) l.length c),(1,.func (.func g) #[] cap.toArray),(5,.int .i64 k),(6,.int .i64 (k + 1 : Nat))] _ (by repeat (first | exact uU _ | refine uV rfl ?_)) (qR _) ⟨k,k + 1,cI e0,rfl,by omega,by omega,?_,?_,?_,rfl⟩ ?_
 ·rw [filter_snoc_tInt he0 hp0,e1,List.length_take];omega
 ·show 1 = _;omega
 ·rw [filter_snoc_tInt he0 hp0,e1]
  congr 2
  rw [show l.flatMap cI = (l.take k++l.drop k).flatMap cI by rw [List.take_append_drop],drop_cons he0,List.flatMap_append,List.flatMap_cons,List.append_assoc]
 rintro _ _ H2 ⟨i,j,M,rfl,hj,hij,hi,hM,hH,rfl⟩
 subst hH
 have hF : (((l.take j).filter (fun e => !p e)).flatMap cI).length = i * 1:=by rw [lenI, ← hi]
 repeat' (first | (refine uP rfl ?_;(first | ((first | refine uN rfl ?_);(first | (refine uE (uM rfl rfl) rfl rfl ?_)|(refine uE (uQ rfl rfl rfl rfl) rfl rfl ?_)|(refine uE (EvF.lenSlice rfl rfl (te rfl)) rfl rfl ?_)|(refine uE (EvF.indexSlice rfl rfl rfl (te rfl) (te rfl) (by omega) (by omega)) rfl rfl ?_)))))|(refine uD rfl ?_;refine hK _ _ ?_;clear hK K) | refine uS rfl ?_ | refine uR rfl (fun K hK=>?_) | refine X.block rfl ?_ | (refine X.brk rfl ?_;repeat (first | refine blockX_hit rfl ?_ | refine blockX_miss (by decide) ?_)) | refine X.skip rfl ?_ | (refine X.ite rfl rfl (fun hc=>?_);(first | (with_reducible refine Xb.case hc (fun h=>?_) (fun h=>?_))) <;> clear hc))
 ·have hjl : j < l.length:=by omega
  obtain ⟨e,he⟩ : ∃ e,l[j]? = some e:=⟨_,List.getElem?_eq_getElem hjl⟩
  rw [drop_cons he,List.flatMap_cons]
  have hload : (((l.take j).filter (fun e => !p e)).flatMap cI++M++(cI e++(l.drop (j + 1)).flatMap cI))[0 + (j : Int).toNat * 1]? = some (.int .i64 e):=by
   rw [List.getElem?_append_right (by rw [List.length_append,hF,hM];show _ ≤ 0 + j * 1;omega),List.length_append,hF,hM,show 0 + (j : Int).toNat * 1 - (i * 1 + (j - i) * 1)=0 by show 0 + j * 1 - _ = 0;omega]
   rfl
  repeat' (first | (refine uP rfl ?_;(first | ((first | refine uN rfl ?_);(first | (refine uE (uL rfl rfl (uO (te rfl) rfl (qH _) hload)) rfl rfl ?_)|(refine uC (EnF.dyn0 rfl rfl (by (repeat (first | exact Args.nil | refine Args.cons rfl ?_));done)) rfl rfl (hf [_] e (List.mem_of_getElem? he)) ?_;rintro _ H9 ⟨rfl,hH9⟩;subst H9)|(refine Xg.st0 (StF.storeSp (q:=0) rfl rfl rfl (te rfl) rfl rfl (by rw [List.length_append,List.length_append,hF,hM];show 0 + i * 1 + 1 ≤ _;omega)) rfl ?_;rintro _ _ ⟨rfl,rfl⟩;dsimp only [List.set])|(refine uE (uM rfl rfl) rfl rfl ?_)|(refine uE (uA rfl rfl) rfl rfl ?_)|(refine uE (EvF.add64 rfl rfl rfl (by omega) (by omega)) rfl rfl ?_)|(refine uE (EvF.not rfl rfl) rfl rfl ?_)|(refine uE (EvF.indexSlice rfl rfl rfl (te rfl) (te rfl) (by omega) (by omega)) rfl rfl ?_)))))|(refine uD rfl ?_;refine hK _ _ ?_;clear hK K) | refine uS rfl ?_ | refine uR rfl (fun K hK=>?_) | refine X.skip rfl ?_ | (refine X.ite rfl rfl (fun hc=>?_);(first | (with_reducible refine Xb.caseB hc (fun h=>?_) (fun h=>?_))) <;> clear hc))
  ·have hp : p e = false:=by simpa using h
   refine ⟨_,[(0,.slice (some ⟨b,0,none⟩) l.length c),(1,.func (.func g) #[] cap.toArray),(5,.int .i64 (i + 1 : Nat)),(6,.int .i64 (j + 1 : Nat))],_,(by repeat (first | exact uU _ | refine uV rfl ?_)),?_,⟨i + 1,j + 1,M.drop 1++cI e,rfl,by omega,by omega,?_,?_,rfl,rfl⟩,by omega⟩
   ·rw [filter_snoc_fInt he hp,List.flatMap_append]
    have:=splice_at (xs:=((l.take j).filter (fun e => !p e)).flatMap cI) (ys:=M.take 1) (zs:=M.drop 1++(cI e++(l.drop (j + 1)).flatMap cI)) (vs:=cI e) (j:=0 + (i : Int).toNat * 1) (by rw [hF];show _ = 0 + i * 1;omega) (by rw [List.length_take,hM];show 1 = _;omega)
    rw [show ((l.take j).filter (fun e => !p e)).flatMap cI++M.take 1++(M.drop 1++(cI e++(l.drop (j + 1)).flatMap cI)) = ((l.take j).filter (fun e => !p e)).flatMap cI++M++(cI e++(l.drop (j + 1)).flatMap cI) by
     rw [List.append_assoc, ← List.append_assoc (M.take 1),List.take_append_drop,List.append_assoc]] at this
    rw [this]
    rw [show ((l.take j).filter (fun e => !p e)).flatMap cI++cI e++(M.drop 1++(cI e++(l.drop (j + 1)).flatMap cI)) = ((l.take j).filter (fun e => !p e)).flatMap cI++[e].flatMap cI++(M.drop 1++cI e)++(l.drop (j + 1)).flatMap cI by
     rw [List.flatMap_singleton];simp only [List.append_assoc]]
    exact (by repeat (first | exact qR _ | apply qK | apply qC))
   ·rw [filter_snoc_fInt he hp,List.length_append, ← hi];rfl
   ·rw [List.length_append,List.length_drop,hM];show _ + 1 = _;omega
  ·have hp : p e = true:=by simpa using h
   refine ⟨_,[(0,.slice (some ⟨b,0,none⟩) l.length c),(1,.func (.func g) #[] cap.toArray),(5,.int .i64 i),(6,.int .i64 (j + 1 : Nat))],_,(by repeat (first | exact uU _ | refine uV rfl ?_)),?_,⟨i,j + 1,M++cI e,rfl,by omega,by omega,?_,?_,rfl,rfl⟩,by omega⟩
   ·rw [filter_snoc_tInt he hp,List.append_assoc,List.append_assoc,List.append_assoc]
    exact (by repeat (first | exact qR _ | apply qK | apply qC))
   ·rw [filter_snoc_tInt he hp];exact hi
   ·rw [List.length_append,hM];show _ + 1 = _;omega
 ·obtain rfl : j = l.length:=by omega
  rw [List.take_length] at hi hF ⊢
  rw [List.drop_length,List.flatMap_nil,List.append_nil]
  repeat' (first | (refine uP rfl ?_;(first | ((first | refine uN rfl ?_);(first | (refine uE (EvF.sliceFromL (lo:=i) rfl rfl (te rfl) (te rfl) rfl (by omega) (by omega) (by omega)) rfl rfl ?_)|(refine Xg.st0 (StF.clear (q:=0) rfl el55 rfl rfl (by rw [List.length_append,hF,hM];show 0 + i * 1 + _ ≤ _;omega) honeInt) rfl ?_;rintro _ _ ⟨zs,hzs,rfl⟩;dsimp only [List.set])|(refine uE (uM rfl rfl) rfl rfl ?_)))))|(refine uD rfl ?_;refine hK _ _ ?_;clear hK K) | refine uS rfl ?_ | refine uR rfl (fun K hK=>?_))
  have e2 : splice ((l.filter (fun e => !p e)).flatMap cI++M) (0 + i * 1) zs = (l.filter (fun e => !p e)).flatMap cI++zs:=by
   have:=splice_at (xs:=(l.filter (fun e => !p e)).flatMap cI) (ys:=M) (zs:=[]) (vs:=zs) (j:=0 + i * 1) (by rw [hF];omega) (by rw [hzs,hM])
   rwa [List.append_nil,List.append_nil] at this
  rw [e2]
  refine XO.forget (q:=0) rfl ?_
  dsimp only [List.set]
  repeat' (first | (refine uP rfl ?_;(first | ((first | refine uN rfl ?_);(first | (refine uE (EvF.sliceTo (hh:=i) rfl rfl (te rfl) (te rfl) rfl (by omega)) rfl rfl ?_)|(refine uE (uA rfl rfl) rfl rfl ?_)))))|(refine uD rfl ?_;refine hK _ _ ?_;clear hK K) | refine X.ret rfl ?_)
  refine ret_one (by simp) Tryz.results50 rfl (H' := ⟨b,0,(l.filter (fun e => !p e)).flatMap cI,some 3,c * 1⟩::H) (qR _) ⟨?_,rfl⟩
  rw [hi]
end Go.Proofs.YtmfppdpkalelhaaGreat
end
section
set_option linter.unusedVariables false
set_option linter.unusedSimpArgs false
namespace Go.Proofs.YtmfppdpkalelhaaGreat
open Go Go.Fw
set_option maxRecDepth 10000
/-- a list of numbers and an error -/
def LstR (l : List Int) (e : Int) (H : List Row) (v : Value) (H' : List Row) : Prop := ∃ a c Z,v = .tuple #[.slice a l.length c,.int .i64 e]∧SlE (Z++H) a cI 1 l∧H' = Z++H
def mOf (m : Int) (l : List Pk) : List Int:=(l.filter (fun p=>decide (p.month = m))).map (·.box)
theorem mOf_snoc {m : Int} {l : List Pk} {k : Nat} {e : Pk} (he : l[k]? = some e) : mOf m (l.take (k + 1)) = mOf m (l.take k)++(if e.month = m then [e.box] else []):=by
 unfold mOf
 rw [take_snoc he,List.filter_append,List.map_append]
 by_cases h : e.month = m
 ·rw [if_pos h,List.filter_cons_of_pos (by simpa using h)];rfl
 ·rw [if_neg h,List.filter_cons_of_neg (by simpa using h)];rfl
set_option maxHeartbeats 4000000 in
theorem there_spec (R : Rm) (p : Pl) (a : Option Addr) (c : Nat) (m : Int) (H : List Row) (hr : okRm R) (hC : CtOk H R p a) (hpc : (plcs R).length ≤ c) :
  Fc Tryz.prog 46 [.agg (cCt R p a c).toArray,.int .i64 m] H (fun v H' => ∃ Z,TrvI (mOf m ((plcs R).drop 1)) v Z∧H' = Z++H):=by
 have hpl:=plcs_len hr
 obtain ⟨pb,po,q0,hpa,hq0,_⟩:=hC.pl.elem (i:=0) (by unfold plcs;simp)
 subst hpa
 have hp1 : 1 ≤ (plcs R).length:=by unfold plcs;simp
 have hdl : ((plcs R).drop 1).length = (plcs R).length - 1:=List.length_drop
 have hS1 : SlE H (sfrom (some ⟨pb,po,none⟩) c 1 2) cPk 2 ((plcs R).drop 1):=sleFrom hC.pl hpc 1
 obtain ⟨a9,ha9⟩ : ∃ a9,a9 = sfrom (some ⟨pb,po,none⟩) c 1 2:=⟨_,rfl⟩
 obtain ⟨L,hL⟩ : ∃ L,L = (plcs R).drop 1:=⟨_,rfl⟩
 refine Fc.mk (callable Tryz.call46) Tryz.func46 rfl Tryz.ntmps46 rfl ?_;dsimp only [fr]
 repeat' (first | (refine uP rfl ?_;(first | ((first | refine uN rfl ?_);(first | (refine uE (EvF.sliceFrom (lo:=1) rfl rfl (te rfl) (te rfl) rfl (by omega) hpc) rfl rfl ?_)|(refine uE (uM rfl rfl) rfl rfl ?_)|(refine uE (uA rfl rfl) rfl rfl ?_)|(refine uE (uF rfl rfl (te rfl) rfl (te rfl) (by decide)) rfl rfl ?_)|(refine uE (EvF.lenSlice rfl rfl (te rfl)) rfl rfl ?_)|(refine uE (uL rfl rfl (uO (te rfl) rfl (qH _) rfl)) rfl rfl ?_)|(refine Xg.st (StF.boxAgg rfl rfl) rfl rfl ?_;rintro _ _ ⟨bx,rfl,rfl⟩)))))|(refine uD rfl ?_;refine hK _ _ ?_;clear hK K) | refine uS rfl ?_ | refine uR rfl (fun K hK=>?_) | refine X.block rfl ?_)
 generalize bx = b2
 rw [← ha9, ← hdl, ← hL]
 rw [← ha9, ← hL] at hS1
 have hLl : L.length ≤ 48:=by rw [hL,hdl];omega
 clear hL hdl ha9
 refine X.lp rfl (fun q F' H' => ∃ (k : Nat) (out : Value) (Z : List Row),q = L.length - k∧k ≤ L.length∧TrvI (mOf m (L.take k)) out Z∧H' = Z++⟨b2,0,cCt R p (some ⟨pb,po,none⟩) c,some 79,6⟩::H ∧
   F' = [(1,.int .i64 m),(5,out),(10,.slice a9 L.length (c - 1)),(11,.int .i64 L.length),(12,.int .i64 k)])
  L.length [(1,.int .i64 m),(5,.slice none 0 0),(10,.slice a9 L.length (c - 1)),(11,.int .i64 L.length),(12,.int .i64 (0 : Nat))] (⟨b2,0,cCt R p (some ⟨pb,po,none⟩) c,some 79,6⟩::H) (by repeat (first | exact uU _ | refine uV rfl ?_)) (qR _) ⟨0,_,[],by omega,by omega,.inl ⟨rfl,rfl,rfl⟩,rfl,rfl⟩ ?_
 rintro _ _ _ ⟨k,out,Z,rfl,hk,hT,rfl,rfl⟩
 by_cases hlt : k < L.length
 ·obtain ⟨b9,o9,e,hq9,he⟩:=hS1.elem (i:=k) hlt
  subst hq9
  have hsn:=mOf_snoc (m:=m) he
  rcases hT with ⟨h0,rfl,rfl⟩ | ⟨b0,q0,rfl,rfl⟩
  ·simp only [List.nil_append]
   rw [h0,List.nil_append] at hsn
   repeat' (first | (refine uP rfl ?_;(first | ((first | refine uN rfl ?_);(first | (refine uE (uQ (b:=true) rfl rfl rfl (congrArg some (decide_eq_true (by omega)))) rfl rfl ?_)|(refine uE (uL rfl rfl (LoadV.elA0 (hS1.sub (fun _ h=>by repeat (first | exact h | apply qT))) he (te rfl) rfl (fun _ hm=>hm) rfl)) rfl rfl ?_)|(refine Xg.st (StF.buildOne rfl el55 rfl rfl rfl (by decide) (by decide)) rfl rfl ?_;rintro _ _ ⟨bs,rfl,rfl⟩)|(refine Xg.st (StF.appendNew rfl el55 rfl rfl (by decide) rfl (Rd.own (qH _)) (by decide)) rfl rfl ?_;rintro _ _ ⟨bn,kn,rfl,rfl⟩)|(refine uE (uM rfl rfl) rfl rfl ?_)|(refine uE (uA rfl rfl) rfl rfl ?_)|(refine uE (uQ rfl rfl rfl rfl) rfl rfl ?_)|(refine uE (EvF.add64 rfl rfl rfl (by omega) (by omega)) rfl rfl ?_)|(refine uE (uF rfl rfl (te rfl) rfl (te rfl) (by decide)) rfl rfl ?_)|(refine uE (EvF.indexSlice rfl rfl rfl (te rfl) (te rfl) (by omega) (by omega)) rfl rfl ?_)|(refine uE (uL rfl rfl (uO (te rfl) rfl (qH _) rfl)) rfl rfl ?_)|(refine Xg.st (StF.alloc rfl Tryz.zeroValue24 rfl) rfl rfl ?_;rintro _ _ ⟨bx,rfl,rfl⟩)|(refine Xg.st0 (StF.storeAll (i:=0) rfl rfl rfl (te rfl) rfl rfl rfl rfl) rfl ?_;rintro _ _ ⟨rfl,rfl⟩;dsimp only [List.set])))))|(refine uD rfl ?_;refine hK _ _ ?_;clear hK K) | refine uS rfl ?_ | refine uR rfl (fun K hK=>?_) | refine X.block rfl ?_ | refine X.skip rfl ?_ | (refine X.ite rfl rfl (fun hc=>?_);(first | (with_reducible refine Xb.t hc ?_)|(with_reducible refine Xb.case hc (fun h=>?_) (fun h=>?_))) <;> clear hc))
   all_goals try (exfalso;contradiction)
   ·rw [if_pos (by assumption)] at hsn
    refine ⟨_,_,⟨bn,0,(mOf m (L.take (k + 1))).flatMap cI,some 3,kn * 1⟩::⟨b2,0,cCt R p (some ⟨pb,po,none⟩) c,some 79,6⟩::H,(by repeat (first | exact uU _ | refine uV rfl ?_)),?_,⟨k + 1,_,[_],rfl,by omega,.inr ⟨bn,kn,by rw [hsn];rfl,rfl⟩,rfl,rfl⟩,by omega⟩
    rw [hsn]
    exact (by repeat (first | exact qR _ | apply qK | apply qC))
   ·rw [if_neg (by assumption)] at hsn
    exact ⟨_,_,⟨b2,0,cCt R p (some ⟨pb,po,none⟩) c,some 79,6⟩::H,(by repeat (first | exact uU _ | refine uV rfl ?_)),(by repeat (first | exact qR _ | apply qK | apply qC)),⟨k + 1,_,[],rfl,by omega,.inl ⟨hsn,rfl,rfl⟩,rfl,rfl⟩,by omega⟩
  ·have hlen : ((mOf m (L.take k)).flatMap cI).length = (mOf m (L.take k)).length * 1:=lenI _
   have hll : (mOf m (L.take k)).length ≤ 48:=by
    unfold mOf
    rw [List.length_map]
    have h1:=List.length_filter_le (fun p : Pk=>decide (p.month = m)) (L.take k)
    have h2:=List.length_take (i:=k) (l:=L)
    omega
   simp only [List.cons_append,List.nil_append]
   repeat' (first | (refine uP rfl ?_;(first | ((first | refine uN rfl ?_);(first | (refine uE (uQ (b:=true) rfl rfl rfl (congrArg some (decide_eq_true (by omega)))) rfl rfl ?_)|(refine uE (uL rfl rfl (LoadV.elA0 (hS1.sub (fun _ h=>by repeat (first | exact h | apply qT))) he (te rfl) rfl (fun _ hm=>hm) rfl)) rfl rfl ?_)|(refine Xg.st (StF.buildOne rfl el55 rfl rfl rfl (by decide) (by decide)) rfl rfl ?_;rintro _ _ ⟨bs,rfl,rfl⟩)|(refine Xg.st (StF.appendOwn (i:=2) rfl el55 rfl rfl rfl hlen rfl (Rd.own (qH _)) rfl (by omega)) rfl rfl ?_;rintro _ _ ⟨bn,kn,rfl,rfl⟩;dsimp only [List.eraseIdx])|(refine uE (uM rfl rfl) rfl rfl ?_)|(refine uE (uA rfl rfl) rfl rfl ?_)|(refine uE (uQ rfl rfl rfl rfl) rfl rfl ?_)|(refine uE (EvF.add64 rfl rfl rfl (by omega) (by omega)) rfl rfl ?_)|(refine uE (uF rfl rfl (te rfl) rfl (te rfl) (by decide)) rfl rfl ?_)|(refine uE (EvF.indexSlice rfl rfl rfl (te rfl) (te rfl) (by omega) (by omega)) rfl rfl ?_)|(refine uE (uL rfl rfl (uO (te rfl) rfl (qH _) rfl)) rfl rfl ?_)|(refine Xg.st (StF.alloc rfl Tryz.zeroValue24 rfl) rfl rfl ?_;rintro _ _ ⟨bx,rfl,rfl⟩)|(refine Xg.st0 (StF.storeAll (i:=0) rfl rfl rfl (te rfl) rfl rfl rfl rfl) rfl ?_;rintro _ _ ⟨rfl,rfl⟩;dsimp only [List.set])))))|(refine uD rfl ?_;refine hK _ _ ?_;clear hK K) | refine uS rfl ?_ | refine uR rfl (fun K hK=>?_) | refine X.block rfl ?_ | refine X.skip rfl ?_ | (refine X.ite rfl rfl (fun hc=>?_);(first | (with_reducible refine Xb.t hc ?_)|(with_reducible refine Xb.case hc (fun h=>?_) (fun h=>?_))) <;> clear hc))
   all_goals try (exfalso;contradiction)
   ·rw [if_pos (by assumption)] at hsn
    refine ⟨_,_,⟨bn,0,(mOf m (L.take (k + 1))).flatMap cI,some 3,kn * 1⟩::⟨b2,0,cCt R p (some ⟨pb,po,none⟩) c,some 79,6⟩::H,(by repeat (first | exact uU _ | refine uV rfl ?_)),?_,⟨k + 1,_,[_],rfl,by omega,.inr ⟨bn,kn,by rw [hsn,List.length_append];rfl,rfl⟩,rfl,rfl⟩,by omega⟩
    rw [hsn,List.flatMap_append]
    exact (by repeat (first | exact qR _ | apply qK | apply qC))
   ·rw [if_neg (by assumption),List.append_nil] at hsn
    exact ⟨_,_,⟨b0,0,(mOf m (L.take k)).flatMap cI,some 3,q0 * 1⟩::⟨b2,0,cCt R p (some ⟨pb,po,none⟩) c,some 79,6⟩::H,(by repeat (first | exact uU _ | refine uV rfl ?_)),(by repeat (first | exact qR _ | apply qK | apply qC)),⟨k + 1,_,[_],rfl,by omega,.inr ⟨b0,q0,by rw [hsn],by rw [hsn]⟩,rfl,rfl⟩,by omega⟩
 ·obtain rfl : k = L.length:=by omega
  rw [List.take_length] at hT
  repeat' (first | (refine uP rfl ?_;(first | ((first | refine uN rfl ?_);(first | (refine uE (uQ (b:=false) rfl rfl rfl (congrArg some (decide_eq_false (by omega)))) rfl rfl ?_)|(refine uE (uM rfl rfl) rfl rfl ?_)|(refine uE (uA rfl rfl) rfl rfl ?_)))))|(refine uD rfl ?_;refine hK _ _ ?_;clear hK K) | refine uS rfl ?_ | refine uR rfl (fun K hK=>?_)|(refine X.brk rfl ?_;repeat (first | refine blockX_hit rfl ?_ | refine blockX_miss (by decide) ?_)) | refine X.ret rfl ?_ | (refine X.ite rfl rfl (fun hc=>?_);(first | (with_reducible refine Xb.f hc ?_)) <;> clear hc))
  all_goals try (exfalso;contradiction)
  exact ret_one (by simp) Tryz.results46 rfl (H' := Z++H) (List.Sublist.append (qR _) (List.sublist_cons_self _ _)) ⟨Z,hT,rfl⟩
theorem fresh11_spec (R : Rm) (p : Pl) (a : Option Addr) (c : Nat) (m x y : Int) (bc ba bm : Nat) (w1 w2 w3 : Option Kd) (k1 k2 k3 : Nat) (H : List Row) (hr : okRm R) (hm : matsThere R R.mats) (hC : CtOk H R p a) (hla : R.ages.length ≤ 1000) (hlm : R.mats.length ≤ 1000) (hpc : (plcs R).length ≤ c) (hT : hasT R R.mats)
  (hx : (⟨x,m⟩ : Pk) ∈ plcs R) (hy : (⟨y,m⟩ : Pk) ∈ plcs R) (mc : ⟨bc,0,cCt R p a c,w1,k1⟩ ∈ H) (ma : ⟨ba,0,[.int .i64 x],w2,k2⟩ ∈ H) (mm : ⟨bm,0,[.int .i64 m],w3,k3⟩ ∈ H) :
  Fc Tryz.prog 49 ([.int .i64 y]++[.pointer (some ⟨bc,0,none⟩),.pointer (some ⟨ba,0,none⟩),.pointer (some ⟨bm,0,none⟩)]) H (fun v H' => v = .bool (decide (0 < (rng R R.mats ⟨x,m⟩ ⟨y,m⟩).lo))∧H' = H):=by
 show Fc Tryz.prog 49 [.int .i64 y,.pointer (some ⟨bc,0,none⟩),.pointer (some ⟨ba,0,none⟩),.pointer (some ⟨bm,0,none⟩)] H _
 have hd:=fun H' hC' => differ_spec R p a c ⟨x,m⟩ ⟨y,m⟩ H' hr hm hC' hla hlm hpc hx hy hT
 obtain ⟨s,hs⟩ : ∃ s,s = rng R R.mats ⟨x,m⟩ ⟨y,m⟩:=⟨_,rfl⟩
 rw [← hs] at hd ⊢
 refine Fc.mk (callable Tryz.call49) Tryz.func49 rfl Tryz.ntmps49 rfl ?_;dsimp only [fr]
 repeat' (first | (refine uP rfl ?_;(first | ((first | refine uN rfl ?_);(first | (refine uE (uL rfl rfl (uW (T:=79) (cs:=cCt R p a c) (te rfl) rfl mc rfl)) rfl rfl ?_)|(refine uE (uL rfl rfl (uO (te rfl) rfl ma rfl)) rfl rfl ?_)|(refine uE (uL rfl rfl (uO (te rfl) rfl mm rfl)) rfl rfl ?_)|(refine uE (EvF.build (cs:=cPk ⟨x,m⟩) rfl (ArgsP.cons rfl (ArgsP.cons rfl ArgsP.nil)) (te rfl) (Places.cons (te rfl) (Places.cons (te rfl) Places.nil)) Tryz.zeroValue86 rfl) rfl rfl ?_)|(refine uE (EvF.build (cs:=cPk ⟨y,m⟩) rfl (ArgsP.cons rfl (ArgsP.cons rfl ArgsP.nil)) (te rfl) (Places.cons (te rfl) (Places.cons (te rfl) Places.nil)) Tryz.zeroValue86 rfl) rfl rfl ?_)|(refine uC (uT rfl (Args.cons rfl (Args.cons rfl (Args.cons rfl Args.nil)))) rfl rfl (hd _ (hC.sub (fun _ h=>by repeat (first | exact h | apply qT)))) ?_;rintro _ H9 ⟨rfl,hH9⟩;subst H9)|(refine uE (uM rfl rfl) rfl rfl ?_)|(refine uE (uA rfl rfl) rfl rfl ?_)|(refine uE (uQ rfl rfl rfl rfl) rfl rfl ?_)|(refine uE (EvF.field rfl rfl (te rfl) rfl (te rfl) rfl rfl) rfl rfl ?_)))))|(refine uD rfl ?_;refine hK _ _ ?_;clear hK K) | refine uS rfl ?_ | refine uR rfl (fun K hK=>?_) | refine X.ret rfl ?_)
 exact ret_one (by simp) Tryz.results49 rfl (H' := H) (by repeat (first | exact qR _ | apply qK | apply qC)) ⟨rfl,rfl⟩
theorem any_dec {α : Type} (l : List α) (p : α → Bool) [Decidable (∃ e ∈ l,p e = true)] : decide (∃ e ∈ l,p e = true)=l.any p:=by
 by_cases h : ∃ e ∈ l,p e = true
 ·rw [decide_eq_true h];exact (List.any_eq_true.2 h).symm
 ·rw [decide_eq_false h];exact (Bool.eq_false_iff.2 (fun q=>h (List.any_eq_true.1 q))).symm
theorem fresh1_spec (R : Rm) (p : Pl) (a a' : Option Addr) (c c' : Nat) (m x : Int) (bt bc bm : Nat) (w1 w2 w3 : Option Kd) (k1 k2 k3 : Nat) (H : List Row) (hr : okRm R) (hm : matsThere R R.mats) (hC : CtOk H R p a) (hla : R.ages.length ≤ 1000) (hlm : R.mats.length ≤ 1000) (hpc : (plcs R).length ≤ c) (hT : hasT R R.mats) (hmm : m ≤ R.months - 1)
  (hx : x ∈ thI R m) (hl : SlE H a' cI 1 (thI R m)) (mt : ⟨bt,0,[.slice a' (thI R m).length c'],w1,k1⟩ ∈ H) (mc : ⟨bc,0,cCt R p a c,w2,k2⟩ ∈ H) (mm : ⟨bm,0,[.int .i64 m],w3,k3⟩ ∈ H) :
  Fc Tryz.prog 47 ([.int .i64 x]++[.pointer (some ⟨bt,0,none⟩),.pointer (some ⟨bc,0,none⟩),.pointer (some ⟨bm,0,none⟩)]) H (fun v H' => v = .bool (stale R m x)∧H' = H):=by
 show Fc Tryz.prog 47 [.int .i64 x,.pointer (some ⟨bt,0,none⟩),.pointer (some ⟨bc,0,none⟩),.pointer (some ⟨bm,0,none⟩)] H _
 have hin : ∀ y ∈ thI R m,(⟨y,m⟩ : Pk) ∈ plcs R:=fun y hy=>by
  obtain ⟨b,hb,rfl⟩:=(mem_thI hmm).1 hy
  exact plcs_mem hb
 have hll : (thI R m).length ≤ 4:=by
  unfold thI
  rw [List.length_map]
  exact Nat.le_trans (List.length_filter_le _ _) hr.b4
 have hst : stale R m x = decide (∃ y ∈ thI R m,decide (0 < (rng R R.mats ⟨x,m⟩ ⟨y,m⟩).lo)=true):=(any_dec _ _).symm
 rw [hst]
 refine Fc.mk (callable Tryz.call47) Tryz.func47 rfl Tryz.ntmps47 rfl ?_;dsimp only [fr]
 repeat' (first | (refine uP rfl ?_;(first | ((first | refine uN rfl ?_);(first | (refine uE (uL rfl rfl (uO (te rfl) rfl (qT _ mt) rfl)) rfl rfl ?_)|(refine uE (EvF.makeFunc (fl:=[]) rfl Args.nil (Args.cons rfl (Args.cons rfl (Args.cons rfl Args.nil)))) rfl rfl ?_)|(refine uC (uT rfl (Args.cons rfl (Args.cons rfl Args.nil))) rfl rfl (containsFunc_specI (thI R m) a' c' 49 (fun y=>decide (0 < (rng R R.mats ⟨x,m⟩ ⟨y,m⟩).lo)) [_,_,_] _ (hl.sub (fun _ h=>by repeat (first | exact h | apply qT))) (by omega) (fun y hy=>fresh11_spec R p a c m x y bc _ bm _ _ _ _ _ _ _ hr hm (hC.sub (fun _ h=>by repeat (first | exact h | apply qT))) hla hlm hpc hT (hin x hx) (hin y hy) (qT _ mc) (qH _) (qT _ mm))) ?_;rintro _ H9 ⟨rfl,hH9⟩;subst H9)|(refine uE (uA rfl rfl) rfl rfl ?_)|(refine Xg.st (StF.boxOne rfl rfl rfl) rfl rfl ?_;rintro _ _ ⟨bx,rfl,rfl⟩)))))|(refine uD rfl ?_;refine hK _ _ ?_;clear hK K) | refine uS rfl ?_ | refine uR rfl (fun K hK=>?_) | refine X.ret rfl ?_)
 exact ret_one (by simp) Tryz.results47 rfl (H' := H) (by repeat (first | exact qR _ | apply qK | apply qC)) ⟨rfl,rfl⟩
theorem EvF.eqNilT {P : Program} {n : Nat} {H : List Row} {F : FS} {o : Oper} {T T' e : TypeId} {x : Operand} {len cap s y : Nat} (h : o.op = .binOp .eql T x (.const (.slice none 0 0)) T') (hx : evF F x = some (.slice none len cap)) (hT : tiOf P T = some ⟨.sl e,s,y⟩) : EvF P n H F o (.bool true):=by
 unfold EvF EvOp
 intro t ha B w0 w hS
 have hu:=ti_slice hT
 have h1 : (binOp .eql T (.slice none len cap) (.slice none 0 0)).run P w = .ok (.bool true) w:=by
  show Sem.run P (do pure (Value.bool (← Op.equalIn 10000 T (.slice none len cap) (.slice none 0 0)))) w = _
  rw [show (10000 : Nat)=9999 + 1 from rfl]
  unfold Op.equalIn
  simp [underlying,hu]
 have hxv:=ha.ev hx
 simp [execOp,h,hxv,show Fw.ev t (.const (.slice none 0 0)) = .slice none 0 0 from rfl,eqGuard,h1]
theorem cloneNilI (H : List Row) : Fc Tryz.prog 51 [.slice none 0 0] H (fun v H' => v = .slice none 0 0∧H' = H):=by
 refine Fc.mk (callable Tryz.call51) Tryz.func51 rfl Tryz.ntmps51 rfl ?_;dsimp only [fr]
 repeat' (first | (refine uP rfl ?_;(first | ((first | refine uN rfl ?_);(first | (refine uE (EvF.eqNilT rfl rfl (te rfl)) rfl rfl ?_)|(refine uE (uM rfl rfl) rfl rfl ?_)|(refine uE (uA rfl rfl) rfl rfl ?_)))))|(refine uD rfl ?_;refine hK _ _ ?_;clear hK K) | refine uS rfl ?_ | refine uR rfl (fun K hK=>?_) | refine X.ret rfl ?_ | (refine X.ite rfl rfl (fun hc=>?_);(first | (with_reducible refine Xb.t hc ?_)) <;> clear hc))
 all_goals try (exfalso;contradiction)
 exact ret_one (by simp) Tryz.results51 rfl (H' := H) (by repeat (first | exact qR _ | apply qK | apply qC)) ⟨rfl,rfl⟩
theorem deleteNilI (g : Nat) (cap : List Value) (H : List Row) : Fc Tryz.prog 50 [.slice none 0 0,.func (.func g) #[] cap.toArray] H (fun v H' => v = .slice none 0 0∧H' = H):=by
 have hi:=indexFunc_specI [] none 0 g (fun _=>false) cap H sleNil (Nat.zero_le _) (fun e he=>absurd he List.not_mem_nil)
 have hi' : Fc Tryz.prog 85 [.slice none 0 0,.func (.func g) #[] cap.toArray] H (fun v H' => v = .int .i64 (-1)∧H' = H):=hi.mono fun v H' ⟨⟨z,hv,hz⟩,hH⟩=>⟨by
  rcases hz with ⟨rfl,_⟩ | ⟨k,e,_,he,_⟩
  ·exact hv
  ·simp at he,hH⟩
 refine Fc.mk (callable Tryz.call50) Tryz.func50 rfl Tryz.ntmps50 rfl ?_;dsimp only [fr]
 repeat' (first | (refine uP rfl ?_;(first | ((first | refine uN rfl ?_);(first | (refine uE (uQ (b:=true) rfl rfl rfl (congrArg some (decide_eq_true (by omega)))) rfl rfl ?_)|(refine uC (uT rfl (Args.cons rfl (Args.cons rfl Args.nil))) rfl rfl (hi') ?_;rintro _ H9 ⟨rfl,hH9⟩;subst H9)|(refine uE (uM rfl rfl) rfl rfl ?_)|(refine uE (uA rfl rfl) rfl rfl ?_)))))|(refine uD rfl ?_;refine hK _ _ ?_;clear hK K) | refine uS rfl ?_ | refine uR rfl (fun K hK=>?_) | refine X.ret rfl ?_ | (refine X.ite rfl rfl (fun hc=>?_);(first | (with_reducible refine Xb.t hc ?_)) <;> clear hc))
 all_goals try (exfalso;contradiction)
 exact ret_one (by simp) Tryz.results50 rfl (H' := H) (by repeat (first | exact qR _ | apply qK | apply qC)) ⟨rfl,rfl⟩
end Go.Proofs.YtmfppdpkalelhaaGreat
end
section
set_option linter.unusedVariables false
set_option linter.unusedSimpArgs false
namespace Go.Proofs.YtmfppdpkalelhaaGreat
open Go Go.Fw
set_option maxRecDepth 10000
theorem thI_len {R : Rm} (hr : okRm R) (m : Int) : (thI R m).length ≤ 4:=by
 unfold thI
 rw [List.length_map]
 exact Nat.le_trans (List.length_filter_le _ _) hr.b4
theorem thereI_spec (R : Rm) (p : Pl) (b k : Nat) (m : Int) (H : List Row) (hr : okRm R) (hmm : m ≤ R.months - 1) (hC : CtOk H R p (some ⟨b,0,none⟩)) (hpc : (plcs R).length ≤ k) :
  Fc Tryz.prog 46 [.agg (cCt R p (some ⟨b,0,none⟩) k).toArray,.int .i64 m] H (fun v H' => (thI R m = []∧v = .slice none 0 0∧H' = H) ∨ ∃ bt kt,v = .slice (some ⟨bt,0,none⟩) (thI R m).length kt∧H' = ⟨bt,0,(thI R m).flatMap cI,some 3,kt * 1⟩::H):=by
 have:=there_spec R p (some ⟨b,0,none⟩) k m H hr hC hpc
 rw [show mOf m ((plcs R).drop 1)=thI R m from plcs_month hr hmm] at this
 refine this.mono fun v H' ⟨Z,hZ,hH⟩=>?_
 rcases hZ with ⟨h0,hv,rfl⟩ | ⟨bt,kt,hv,rfl⟩
 ·exact .inl ⟨h0,hv,hH⟩
 ·exact .inr ⟨bt,kt,hv,hH⟩
set_option maxHeartbeats 8000000 in
theorem kFresh_spec (R : Rm) (p : Pl) (m : Int) (H : List Row) (hR : RmOk H R p) (h2 : R.boxes.length ≤ 1000000) : Fc Tryz.prog 15 [.agg (cRm R p).toArray,.int .i64 m] H (LstR (freF R m).1 (freF R m).2 H):=by
 obtain ⟨e,he⟩ : ∃ e,openE R [] [m] = e:=⟨_,rfl⟩
 have hbt : ∀ (H' : List Row) (b1 : Nat),⟨b1,0,[.int .i64 m],some 3,1 * 1⟩ ∈ H' → BtOk H' ⟨[],none,0,[m],some ⟨b1,0,none⟩,1⟩:=fun H' b1 q1=>⟨sleNil,SlE.ofRow (l:=[m]) q1 (fun _ _=>rfl),Nat.le_of_ble_eq_true rfl,Nat.le_of_ble_eq_true rfl⟩
 by_cases h0 : e = 0
 ·subst h0
  obtain ⟨hok,_,hin,hT⟩:=openE_ok he
  have hmm : m ≤ R.months - 1:=(hin m (List.mem_singleton.2 rfl)).1.2
  have hF : freF R m = (freL R m,0):=by unfold freF;rw [if_pos he]
  have htl:=thI_len hok.ok m
  rw [hF]
  refine Fc.mk (callable Tryz.call15) Tryz.func15 rfl Tryz.ntmps15 rfl ?_;dsimp only [fr]
  repeat' (first | (refine uP rfl ?_;(first | ((first | refine uN rfl ?_);(first | (refine uE (uQ (b:=false) rfl rfl rfl (congrArg some (nd_f (by omega)))) rfl rfl ?_)|(refine Xg.st (StF.buildOne (v0 := .int .i64 m) rfl el55 rfl rfl rfl (by decide) (by decide)) rfl rfl ?_;rintro _ _ ⟨b1,rfl,rfl⟩)|(refine uE (EvF.build (cs:=cBt ⟨[],none,0,[m],some ⟨b1,0,none⟩,1⟩) rfl (ArgsP.cons rfl ArgsP.nil) (te rfl) (Places.cons (te rfl) (Places.cons (te rfl) Places.nil)) Tryz.zeroValue83 rfl) rfl rfl ?_)|(refine uC (uT rfl (by (repeat (first | exact Args.nil | refine Args.cons rfl ?_));done)) rfl rfl (openY (hR.sub (fun _ h=>by repeat (first | exact h | apply qT))) (hbt _ b1 (qH _)) h2 he) ?_;rintro _ _ ⟨b,k,hbk,rfl,rfl⟩)|(refine Xg.st (StF.alloc rfl Tryz.zeroValue79 rfl) rfl rfl ?_;rintro _ _ ⟨b8,rfl,rfl⟩)|(refine Xg.st0 (StF.storeAll (i:=0) (vs:=cCt R p (some ⟨b,0,none⟩) k) rfl rfl rfl (te rfl) rfl rfl rfl rfl) rfl ?_;rintro _ _ ⟨rfl,rfl⟩;dsimp only [List.set])|(refine uE (uL rfl rfl (uW (T:=79) (cs:=cCt R p (some ⟨b,0,none⟩) k) (te rfl) rfl (by repeat (first | exact qH _ | apply qT)) rfl)) rfl rfl ?_)|(refine Xg.st (StF.alloc rfl Tryz.zeroValue38 rfl) rfl rfl ?_;rintro _ _ ⟨b9,rfl,rfl⟩)|(refine uE (EvF.makeFunc (fl:=[]) rfl Args.nil (Args.cons rfl (Args.cons rfl (Args.cons rfl Args.nil)))) rfl rfl ?_)|(refine uC (uT rfl (by (repeat (first | exact Args.nil | refine Args.cons rfl ?_));done)) rfl rfl (thereI_spec R p b k m _ hok.ok hmm ⟨hR.sub (fun _ h=>by repeat (first | exact h | apply qT)),SlE.ofRow (qT _ (qH _)) (fun _ _=>rfl)⟩ hbk) ?_;rintro _ _ (⟨ht,rfl,rfl⟩ | ⟨bt,kt,rfl,rfl⟩))|(refine uC (uT rfl (Args.cons rfl Args.nil)) rfl rfl (cloneNilI _) ?_;rintro _ H9 ⟨rfl,hH9⟩;subst H9)|(refine uC (uT rfl (Args.cons rfl (Args.cons rfl Args.nil))) rfl rfl (deleteNilI _ [_,_,_] _) ?_;rintro _ H9 ⟨rfl,hH9⟩;subst H9)|(refine uC (uT rfl (by (repeat (first | exact Args.nil | refine Args.cons rfl ?_));done)) rfl rfl (clone_specInt (thI R m) ⟨bt,0,none⟩ kt _ (SlE.ofRow (by repeat (first | exact qH _ | apply qT)) (fun _ _=>rfl)) (by omega)) ?_;rintro _ _ ⟨bc,kc,rfl,rfl⟩)|(refine uC (uT rfl (Args.cons rfl (Args.cons rfl Args.nil))) rfl rfl (deleteFunc_specInt (thI R m) bc kc 47 (stale R m) [_,_,_] _ (by omega) (fun Z x hx=>fresh1_spec R p (some ⟨b,0,none⟩) (some ⟨bt,0,none⟩) k kt m x _ _ _ _ _ _ _ _ _ (Z++_) hok.ok hok.mats ⟨hR.sub (fun _ h=>List.mem_append_right _ (by repeat (first | exact h | apply qT))),SlE.ofRow (List.mem_append_right _ (by repeat (first | exact qH _ | apply qT))) (fun _ _=>rfl)⟩ hok.lens.ages hok.lens.mats hbk hT hmm hx (SlE.ofRow (List.mem_append_right _ (by repeat (first | exact qH _ | apply qT))) (fun _ _=>rfl)) (List.mem_append_right _ (by repeat (first | exact qH _ | apply qT))) (List.mem_append_right _ (by repeat (first | exact qH _ | apply qT))) (List.mem_append_right _ (by repeat (first | exact qH _ | apply qT))))) ?_;rintro _ _ ⟨rfl,rfl⟩)|(refine uE (uM rfl rfl) rfl rfl ?_)|(refine uE (uA rfl rfl) rfl rfl ?_)|(refine uE (uL rfl rfl (uO (te rfl) rfl (qH _) rfl)) rfl rfl ?_)|(refine uE (uL rfl rfl (uO (te rfl) rfl (qT _ (qT _ (qT _ (qH _)))) rfl)) rfl rfl ?_)|(refine uE (uL rfl rfl (uW (te rfl) rfl (qT _ (qH _)) rfl)) rfl rfl ?_)|(refine uE (uX rfl rfl rfl) rfl rfl ?_)|(refine Xg.st (StF.boxAgg rfl rfl) rfl rfl ?_;rintro _ _ ⟨bx,rfl,rfl⟩)|(refine Xg.st (StF.boxOne rfl rfl rfl) rfl rfl ?_;rintro _ _ ⟨bx,rfl,rfl⟩)|(refine Xg.st0 (StF.storeOne (i:=0) rfl rfl rfl rfl (te rfl) rfl rfl (Nat.le_of_ble_eq_true rfl)) rfl ?_;rintro _ _ ⟨rfl,rfl⟩;dsimp only [List.set])))))|(refine uD rfl ?_;refine hK _ _ ?_;clear hK K) | refine uS rfl ?_ | refine uR rfl (fun K hK=>?_) | refine X.skip rfl ?_ | refine X.ret rfl ?_ | (refine X.ite rfl rfl (fun hc=>?_);(first | (with_reducible refine Xb.f hc ?_)) <;> clear hc))
  all_goals try (exfalso;contradiction)
  ·have e0 : freL R m = []:=by unfold freL;rw [ht];rfl
   rw [e0]
   exact ret_two (by simp) Tryz.results15 rfl rfl (H' := H) (by (repeat (first | exact qR _ | apply qC));done) ⟨none,0,[],rfl,sleNil,rfl⟩
  ·exact ret_two (by simp) Tryz.results15 rfl rfl (H' := ⟨bc,0,(freL R m).flatMap cI,some 3,kc * 1⟩::H) (by repeat (first | exact qR _ | apply qK | apply qC)) ⟨some ⟨bc,0,none⟩,kc,[_],rfl,SlE.ofRow (qH _) (fun _ _=>rfl),rfl⟩
 ·have hF : freF R m = ([],e):=by unfold freF;rw [if_neg (by rw [he];exact h0),he]
  rw [hF]
  refine Fc.mk (callable Tryz.call15) Tryz.func15 rfl Tryz.ntmps15 rfl ?_;dsimp only [fr]
  repeat' (first | (refine uP rfl ?_;(first | ((first | refine uN rfl ?_);(first | (refine uE (uQ (b:=true) rfl rfl rfl (congrArg some (nd_t (by omega)))) rfl rfl ?_)|(refine Xg.st (StF.buildOne (v0 := .int .i64 m) rfl el55 rfl rfl rfl (by decide) (by decide)) rfl rfl ?_;rintro _ _ ⟨b1,rfl,rfl⟩)|(refine uE (EvF.build (cs:=cBt ⟨[],none,0,[m],some ⟨b1,0,none⟩,1⟩) rfl (ArgsP.cons rfl ArgsP.nil) (te rfl) (Places.cons (te rfl) (Places.cons (te rfl) Places.nil)) Tryz.zeroValue83 rfl) rfl rfl ?_)|(refine uC (uT rfl (Args.cons rfl (Args.cons rfl Args.nil))) rfl rfl (openN (hR.sub (fun _ h=>by repeat (first | exact h | apply qT))) (hbt _ b1 (qH _)) h2 he h0) ?_;rintro _ H9 ⟨rfl,hH9⟩;subst H9)|(refine Xg.st (StF.alloc rfl Tryz.zeroValue79 rfl) rfl rfl ?_;rintro _ _ ⟨b8,rfl,rfl⟩)|(refine Xg.st0 (StF.storeAll (i:=0) (vs:=zCt) rfl rfl rfl (te rfl) rfl rfl rfl rfl) rfl ?_;rintro _ _ ⟨rfl,rfl⟩;dsimp only [List.set])|(refine uE (uM rfl rfl) rfl rfl ?_)|(refine uE (uA rfl rfl) rfl rfl ?_)|(refine uE (uL rfl rfl (uO (te rfl) rfl (qH _) rfl)) rfl rfl ?_)|(refine uE (uL rfl rfl (uW (te rfl) rfl (qT _ (qH _)) rfl)) rfl rfl ?_)|(refine uE (uX rfl rfl rfl) rfl rfl ?_)|(refine Xg.st (StF.boxAgg rfl rfl) rfl rfl ?_;rintro _ _ ⟨bx,rfl,rfl⟩)|(refine Xg.st (StF.boxOne rfl rfl rfl) rfl rfl ?_;rintro _ _ ⟨bx,rfl,rfl⟩)))))|(refine uD rfl ?_;refine hK _ _ ?_;clear hK K) | refine uS rfl ?_ | refine uR rfl (fun K hK=>?_) | refine X.ret rfl ?_ | (refine X.ite rfl rfl (fun hc=>?_);(first | (with_reducible refine Xb.t hc ?_)) <;> clear hc))
  all_goals try (exfalso;contradiction)
  exact ret_two (by simp) Tryz.results15 rfl rfl (H' := H) (by (repeat (first | exact qR _ | apply qC));done) ⟨none,0,[],rfl,sleNil,rfl⟩
end Go.Proofs.YtmfppdpkalelhaaGreat
end
section
set_option linter.unusedVariables false
set_option linter.unusedSimpArgs false
namespace Go.Proofs.YtmfppdpkalelhaaGreat
open Go Go.Fw
set_option maxRecDepth 10000
def wM (R : Rm) (M : List Mt) : Rm:={ R with mats:=M }
theorem wM_ok {R : Rm} (M : List Mt) (h : okRm R) : okRm (wM R M):=⟨h.bx,h.ages,h.len,h.m1,h.m12,h.s0,h.s60,h.b4⟩
theorem wM_tru {R : Rm} {M M' : List Mt} {z : Pk → Int} : Tru (wM R M) M' z ↔ Tru R M' z:=⟨fun h=>⟨h.zero,h.age,h.step,h.mat⟩,fun h=>⟨h.zero,h.age,h.step,h.mat⟩⟩
theorem wM_has {R : Rm} {M M' : List Mt} : hasT (wM R M) M' ↔ hasT R M' := ⟨fun ⟨z,h⟩=>⟨z,wM_tru.1 h⟩,fun ⟨z,h⟩=>⟨z,wM_tru.2 h⟩⟩
theorem wM_ex {R : Rm} {M M' : List Mt} {a b : Pk} {s : Sp} : ExR (wM R M) M' a b s ↔ ExR R M' a b s :=
 ⟨fun h=>⟨fun z hz=>h.all z (wM_tru.2 hz),by obtain ⟨z,h1,h2⟩:=h.lo;exact ⟨z,wM_tru.1 h1,h2⟩,by obtain ⟨z,h1,h2⟩:=h.hi;exact ⟨z,wM_tru.1 h1,h2⟩⟩,
  fun h=>⟨fun z hz=>h.all z (wM_tru.1 hz),by obtain ⟨z,h1,h2⟩:=h.lo;exact ⟨z,wM_tru.2 h1,h2⟩,by obtain ⟨z,h1,h2⟩:=h.hi;exact ⟨z,wM_tru.2 h1,h2⟩⟩⟩
theorem wM_rng (R : Rm) (M M' : List Mt) (a b : Pk) : rng (wM R M) M' a b = rng R M' a b:=by
 by_cases h : ∃ s,ExR R M' a b s
 ·obtain ⟨s,hs⟩:=h
  rw [rng_eq hs,rng_eq (wM_ex.2 hs)]
 ·unfold rng
  rw [dif_neg h,dif_neg (fun ⟨s,hs⟩=>h ⟨s,wM_ex.1 hs⟩)]
theorem mats_sub {R : Rm} {M M' : List Mt} (h : matsThere R M) (hs : ∀ x ∈ M',x ∈ M) : matsThere R M' := fun x hx=>h x (hs x hx)
theorem cloneNilMt (c : Nat) (H : List Row) : Fc Tryz.prog 92 [.slice none 0 c] H (fun v H' => v = .slice none 0 0∧H' = H):=by
 refine Fc.mk (callable Tryz.call92) Tryz.func92 rfl Tryz.ntmps92 rfl ?_;dsimp only [fr]
 repeat' (first | (refine uP rfl ?_;(first | ((first | refine uN rfl ?_);(first | (refine uE (EvF.eqNilT rfl rfl (te rfl)) rfl rfl ?_)|(refine uE (uM rfl rfl) rfl rfl ?_)|(refine uE (uA rfl rfl) rfl rfl ?_)))))|(refine uD rfl ?_;refine hK _ _ ?_;clear hK K) | refine uS rfl ?_ | refine uR rfl (fun K hK=>?_) | refine X.ret rfl ?_ | (refine X.ite rfl rfl (fun hc=>?_);(first | (with_reducible refine Xb.t hc ?_)) <;> clear hc))
 all_goals try (exfalso;contradiction)
 exact ret_one (by simp) Tryz.results92 rfl (H' := H) (by repeat (first | exact qR _ | apply qK | apply qC)) ⟨rfl,rfl⟩
theorem deleteNilMt (g : Nat) (cap : List Value) (H : List Row) : Fc Tryz.prog 97 [.slice none 0 0,.func (.func g) #[] cap.toArray] H (fun v H' => v = .slice none 0 0∧H' = H):=by
 have hi:=indexFunc_specMt [] none 0 g (fun _=>false) cap H sleNil (Nat.zero_le _) (fun e he=>absurd he List.not_mem_nil)
 have hi' : Fc Tryz.prog 93 [.slice none 0 0,.func (.func g) #[] cap.toArray] H (fun v H' => v = .int .i64 (-1)∧H' = H):=hi.mono fun v H' ⟨⟨z,hv,hz⟩,hH⟩=>⟨by
  rcases hz with ⟨rfl,_⟩ | ⟨k,e,_,he,_⟩
  ·exact hv
  ·simp at he,hH⟩
 refine Fc.mk (callable Tryz.call97) Tryz.func97 rfl Tryz.ntmps97 rfl ?_;dsimp only [fr]
 repeat' (first | (refine uP rfl ?_;(first | ((first | refine uN rfl ?_);(first | (refine uE (uQ (b:=true) rfl rfl rfl (congrArg some (decide_eq_true (by omega)))) rfl rfl ?_)|(refine uC (uT rfl (Args.cons rfl (Args.cons rfl Args.nil))) rfl rfl (hi') ?_;rintro _ H9 ⟨rfl,hH9⟩;subst H9)|(refine uE (uM rfl rfl) rfl rfl ?_)|(refine uE (uA rfl rfl) rfl rfl ?_)))))|(refine uD rfl ?_;refine hK _ _ ?_;clear hK K) | refine uS rfl ?_ | refine uR rfl (fun K hK=>?_) | refine X.ret rfl ?_ | (refine X.ite rfl rfl (fun hc=>?_);(first | (with_reducible refine Xb.t hc ?_)) <;> clear hc))
 all_goals try (exfalso;contradiction)
 exact ret_one (by simp) Tryz.results97 rfl (H' := H) (by repeat (first | exact qR _ | apply qK | apply qC)) ⟨rfl,rfl⟩
set_option maxHeartbeats 4000000 in
theorem kwithout_spec (R : Rm) (p : Pl) (a : Option Addr) (c g : Nat) (cap : List Value) (q : Mt → Bool) (H : List Row) (hlm : R.mats.length ≤ 1000) (hC : CtOk H R p a)
  (hf : ∀ x H',(∀ r ∈ H,r ∈ H') → Fc Tryz.prog g ([.agg (cMt x).toArray]++cap) H' (fun v H'' => v = .bool (q x)∧H'' = H')) :
  Fc Tryz.prog 78 [.agg (cCt R p a c).toArray,.func (.func g) #[] cap.toArray] H (fun v H' => ∃ p' Z,v = .agg (cCt (wM R (R.mats.filter (fun x => !q x))) p' a c).toArray∧CtOk (Z++H) (wM R (R.mats.filter (fun x => !q x))) p' a∧H' = Z++H):=by
 obtain ⟨a1,c1,a2,c2,a3,c3⟩:=p
 have hfl:=List.length_filter_le (fun x => !q x) R.mats
 rcases a3 with _ | ad
 ·have h0 : R.mats = []:=by
   cases hq : R.mats with
   | nil=>rfl
   | cons x l =>
    obtain ⟨bb,off,_,h,_⟩:=hC.rm.mats.elem (i:=0) (by show 0 < R.mats.length;rw [hq];simp)
    cases h
  have hR0 : R = wM R []:=by unfold wM;rw [← h0]
  have hrm : RmOk H (wM R []) ⟨a1,c1,a2,c2,none,0⟩:=⟨hC.rm.ages,hC.rm.boxes,sleNil,hC.rm.l1,hC.rm.l2,Nat.zero_le _⟩
  have hc0 : cCt R ⟨a1,c1,a2,c2,none,c3⟩ a c = [.int .i64 R.months,.int .i64 R.step,.slice a1 R.ages.length c1,.slice a2 R.boxes.length c2,.slice none 0 c3,.slice a (plcs R).length c]:=by
   unfold cCt cRm;rw [h0];rfl
  rw [hc0]
  refine Fc.mk (callable Tryz.call78) Tryz.func78 rfl Tryz.ntmps78 rfl ?_;dsimp only [fr]
  repeat' (first | (refine uP rfl ?_;(first | ((first | refine uN rfl ?_);(first | (refine uC (uT rfl (Args.cons rfl Args.nil)) rfl rfl (cloneNilMt c3 _) ?_;rintro _ H9 ⟨rfl,hH9⟩;subst H9)|(refine uC (uT rfl (Args.cons rfl (Args.cons rfl Args.nil))) rfl rfl (deleteNilMt g cap _) ?_;rintro _ H9 ⟨rfl,hH9⟩;subst H9)|(refine uE (uM rfl rfl) rfl rfl ?_)|(refine uE (uF rfl rfl (te rfl) rfl (te rfl) (by decide)) rfl rfl ?_)|(refine uE (uL rfl rfl (uO (te rfl) rfl (qT _ (qH _)) rfl)) rfl rfl ?_)|(refine uE (uL rfl rfl (uW (te rfl) rfl (qT _ (qH _)) rfl)) rfl rfl ?_)|(refine Xg.st (StF.boxAgg rfl rfl) rfl rfl ?_;rintro _ _ ⟨bx,rfl,rfl⟩)|(refine Xg.st (StF.alloc rfl Tryz.zeroValue79 rfl) rfl rfl ?_;rintro _ _ ⟨bx,rfl,rfl⟩)|(refine Xg.st0 (StF.storeAll (i:=0) rfl rfl rfl (te rfl) rfl rfl rfl rfl) rfl ?_;rintro _ _ ⟨rfl,rfl⟩;dsimp only [List.set])|(refine Xg.st0 (StF.storeOne (i:=1) rfl rfl rfl rfl (te rfl) rfl rfl (Nat.le_of_ble_eq_true rfl)) rfl ?_;rintro _ _ ⟨rfl,rfl⟩;dsimp only [List.set])))))|(refine uD rfl ?_;refine hK _ _ ?_;clear hK K) | refine uS rfl ?_ | refine uR rfl (fun K hK=>?_) | refine X.ret rfl ?_)
  rw [h0]
  exact ret_one (v := .agg (cCt (wM R []) ⟨a1,c1,a2,c2,none,0⟩ a c).toArray) (by simp) Tryz.results78 ⟨_,rfl,uW (te rfl) rfl (qH _) rfl⟩ (H' := H) (by repeat (first | exact qR _ | apply qK | apply qC)) ⟨⟨a1,c1,a2,c2,none,0⟩,[],rfl,⟨hrm,hC.pl⟩,rfl⟩
 ·refine Fc.mk (callable Tryz.call78) Tryz.func78 rfl Tryz.ntmps78 rfl ?_;dsimp only [fr]
  repeat' (first | (refine uP rfl ?_;(first | ((first | refine uN rfl ?_);(first | (refine uC (uT rfl (by (repeat (first | exact Args.nil | refine Args.cons rfl ?_));done)) rfl rfl (clone_specMt R.mats ad c3 _ (hC.rm.mats.sub (fun _ h=>by repeat (first | exact h | apply qT))) (by omega)) ?_;rintro _ _ ⟨bc,kc,rfl,rfl⟩)|(refine uC (uT rfl (Args.cons rfl (Args.cons rfl Args.nil))) rfl rfl (deleteFunc_specMt R.mats bc kc g q cap _ (by omega) (fun Z x _=>hf x (Z++_) (fun r h=>List.mem_append_right _ (by repeat (first | exact h | apply qT))))) ?_;rintro _ _ ⟨rfl,rfl⟩)|(refine uE (uM rfl rfl) rfl rfl ?_)|(refine uE (uF rfl rfl (te rfl) rfl (te rfl) (by decide)) rfl rfl ?_)|(refine uE (uL rfl rfl (uO (te rfl) rfl (qT _ (qH _)) rfl)) rfl rfl ?_)|(refine uE (uL rfl rfl (uW (te rfl) rfl (qT _ (qT _ (qH _))) rfl)) rfl rfl ?_)|(refine Xg.st (StF.boxAgg rfl rfl) rfl rfl ?_;rintro _ _ ⟨bx,rfl,rfl⟩)|(refine Xg.st (StF.alloc rfl Tryz.zeroValue79 rfl) rfl rfl ?_;rintro _ _ ⟨bx,rfl,rfl⟩)|(refine Xg.st0 (StF.storeAll (i:=1) rfl rfl rfl (te rfl) rfl rfl rfl rfl) rfl ?_;rintro _ _ ⟨rfl,rfl⟩;dsimp only [List.set])|(refine Xg.st0 (StF.storeOne (i:=2) rfl rfl rfl rfl (te rfl) rfl rfl (Nat.le_of_ble_eq_true rfl)) rfl ?_;rintro _ _ ⟨rfl,rfl⟩;dsimp only [List.set])))))|(refine uD rfl ?_;refine hK _ _ ?_;clear hK K) | refine uS rfl ?_ | refine uR rfl (fun K hK=>?_) | refine X.ret rfl ?_)
  exact ret_one (v := .agg (cCt (wM R (R.mats.filter (fun x => !q x))) ⟨a1,c1,a2,c2,some ⟨bc,0,none⟩,kc⟩ a c).toArray) (by simp) Tryz.results78 ⟨_,rfl,uW (te rfl) rfl (qT _ (qH _)) rfl⟩ (H' := ⟨bc,0,(R.mats.filter (fun x => !q x)).flatMap cMt,some 44,kc * 6⟩::H) (by repeat (first | exact qR _ | apply qK | apply qC))
   ⟨⟨a1,c1,a2,c2,some ⟨bc,0,none⟩,kc⟩,[_],rfl,⟨⟨hC.rm.ages.sub (fun _ h=>by repeat (first | exact h | apply qT)),hC.rm.boxes.sub (fun _ h=>by repeat (first | exact h | apply qT)),SlE.ofRow (qH _) (fun _ _=>rfl),hC.rm.l1,hC.rm.l2,by show (R.mats.filter (fun x => !q x)).length ≤ _;omega⟩,hC.pl.sub (fun _ h=>by repeat (first | exact h | apply qT))⟩,rfl⟩
end Go.Proofs.YtmfppdpkalelhaaGreat
end
section
set_option linter.unusedVariables false
set_option linter.unusedSimpArgs false
namespace Go.Proofs.YtmfppdpkalelhaaGreat
open Go Go.Fw
set_option maxRecDepth 10000
theorem sleNone {α : Type} {H : List Row} {enc : α → List Value} {sz : Nat} {l : List α} (h : SlE H none enc sz l) : l = []:=by
 cases l with
 | nil=>rfl
 | cons x t=>obtain ⟨_,_,_,q,_⟩:=h.elem (i:=0) (by simp);cases q
def val1sn (b1 : Nat) (R : Rm) (d1 : Addr) (c1 : Nat) (d2 : Addr) (c2 : Nat) (c3 : Nat) (k : Nat) (env : Env) : Value :=
 match k with
 | 0 => .pointer (some ⟨b1,2,none⟩)
 | 1 => .slice (some d1) R.ages.length c1
 | 2 => .slice (some ⟨(env 2).1,0,none⟩) R.ages.length (env 2).2
 | 3 => .pointer (some ⟨b1,3,none⟩)
 | 4 => .slice (some d2) R.boxes.length c2
 | 5 => .slice (some ⟨(env 5).1,0,none⟩) R.boxes.length (env 5).2
 | 6 => .pointer (some ⟨b1,4,none⟩)
 | 7 => .slice none 0 c3
 | 8 => .slice none 0 0
 | 9 => .pointer (some ⟨b1,2,none⟩)
 | 11 => .pointer (some ⟨b1,3,none⟩)
 | 13 => .pointer (some ⟨b1,4,none⟩)
 | _=>undef
def rows1sn (b1 b2 : Nat) (R : Rm) (d1 : Addr) (c1 : Nat) (d2 : Addr) (c2 : Nat) (c3 : Nat) (k : Nat) (env : Env) : List Row :=
 match k with
 | 2=>[⟨(env 2).1,0,R.ages.flatMap cSp,some 24,(env 2).2 * 2⟩]
 | 5=>[⟨(env 5).1,0,R.boxes.flatMap cBx,some 47,(env 5).2 * 2⟩]
 | 10=>[⟨b1,0,[.int .i64 R.months,.int .i64 R.step,.slice (some ⟨(env 2).1,0,none⟩) R.ages.length (env 2).2,.slice (some d2) R.boxes.length c2,.slice none 0 c3],some 32,5⟩]
 | 12=>[⟨b1,0,[.int .i64 R.months,.int .i64 R.step,.slice (some ⟨(env 2).1,0,none⟩) R.ages.length (env 2).2,.slice (some ⟨(env 5).1,0,none⟩) R.boxes.length (env 5).2,.slice none 0 c3],some 32,5⟩]
 | 14=>[⟨b1,0,[.int .i64 R.months,.int .i64 R.step,.slice (some ⟨(env 2).1,0,none⟩) R.ages.length (env 2).2,.slice (some ⟨(env 5).1,0,none⟩) R.boxes.length (env 5).2,.slice none 0 0],some 32,5⟩]
 | 15=>[⟨b2,0,[.int .i64 0,.int .i64 0,.slice none 0 0,.slice none 0 0,.slice none 0 0],some 32,5⟩]
 | 16=>[⟨b1,0,[.int .i64 R.months,.int .i64 R.step,.slice (some d1) R.ages.length c1,.slice (some d2) R.boxes.length c2,.slice none 0 c3],some 32,5⟩]
 | _=>[]
theorem loc1sn (b1 b2 : Nat) (R : Rm) (d1 : Addr) (c1 : Nat) (d2 : Addr) (c2 : Nat) (c3 : Nat) : ∀ k env i q9,i ≠ k → (tAt ts101 k).sup.contains i = false → val1sn b1 R d1 c1 d2 c2 c3 k (upd env i q9)=val1sn b1 R d1 c1 d2 c2 c3 k env∧rows1sn b1 b2 R d1 c1 d2 c2 c3 k (upd env i q9)=rows1sn b1 b2 R d1 c1 d2 c2 c3 k env:=by
 intro k env i q hk hs
 have hu : ∀ j,j ≠ i → upd env i q j = env j:=fun j hj=>by unfold upd;rw [if_neg hj]
 match k,hk,hs with
 | 0,_,_=>exact ⟨rfl,rfl⟩
 | 1,_,_=>exact ⟨rfl,rfl⟩
 | 2,hk,hs=>exact ⟨by simp only [val1sn,hu 2 (fun e=>hk e.symm)],by simp only [rows1sn,hu 2 (fun e=>hk e.symm)]⟩
 | 3,_,_=>exact ⟨rfl,rfl⟩
 | 4,_,_=>exact ⟨rfl,rfl⟩
 | 5,hk,hs=>exact ⟨by simp only [val1sn,hu 5 (fun e=>hk e.symm)],by simp only [rows1sn,hu 5 (fun e=>hk e.symm)]⟩
 | 6,_,_=>exact ⟨rfl,rfl⟩
 | 7,_,_=>exact ⟨rfl,rfl⟩
 | 8,_,_=>exact ⟨rfl,rfl⟩
 | 9,_,_=>exact ⟨rfl,rfl⟩
 | 10,hk,hs=>exact ⟨by simp only [val1sn,hu 2 (by rintro rfl;cases hs)],by simp only [rows1sn,hu 2 (by rintro rfl;cases hs)]⟩
 | 11,_,_=>exact ⟨rfl,rfl⟩
 | 12,hk,hs=>exact ⟨by simp only [val1sn,hu 2 (by rintro rfl;cases hs),hu 5 (by rintro rfl;cases hs)],by simp only [rows1sn,hu 2 (by rintro rfl;cases hs),hu 5 (by rintro rfl;cases hs)]⟩
 | 13,_,_=>exact ⟨rfl,rfl⟩
 | 14,hk,hs=>exact ⟨by simp only [val1sn,hu 2 (by rintro rfl;cases hs),hu 5 (by rintro rfl;cases hs)],by simp only [rows1sn,hu 2 (by rintro rfl;cases hs),hu 5 (by rintro rfl;cases hs)]⟩
 | 15,_,_=>exact ⟨rfl,rfl⟩
 | 16,_,_=>exact ⟨rfl,rfl⟩
 | _ + 17,_,_=>exact ⟨rfl,rfl⟩
set_option maxHeartbeats 4000000 in
theorem copiedsn (R : Rm) (d1 : Addr) (c1 : Nat) (d2 : Addr) (c2 : Nat) (c3 : Nat) (H : List Row) (hR : RmOk H R ⟨some d1,c1,some d2,c2,none,c3⟩) (hm0 : R.mats = []) (h1 : R.ages.length ≤ 1000000) (h2 : R.boxes.length ≤ 1000000) (h3 : R.mats.length ≤ 1000000) :
  Fc Tryz.prog 63 [.agg (cRm R ⟨some d1,c1,some d2,c2,none,c3⟩).toArray] H (fun v H' => ∃ t1 k1 t2 k2,v = .agg (cRm R ⟨some ⟨t1,0,none⟩,k1,some ⟨t2,0,none⟩,k2,none,0⟩).toArray∧H' = ⟨t1,0,R.ages.flatMap cSp,some 24,k1 * 2⟩::⟨t2,0,R.boxes.flatMap cBx,some 47,k2 * 2⟩::H):=by
 have hag:=hR.ages
 have hbx:=hR.boxes
 have hmt:=hR.mats
 obtain ⟨nb,hnb⟩ : ∃ n,n = R.boxes.length:=⟨_,rfl⟩
 obtain ⟨nm,hnm⟩ : ∃ n,n = R.mats.length:=⟨_,rfl⟩
 have hm1 : R.mats.length = 0:=by rw [hm0];rfl
 unfold cRm
 dsimp only
 rw [hm1]
 skip
 refine Fc.mk (callable Tryz.call63) Tryz.func63 rfl Tryz.ntmps63 rfl ?_;dsimp only [fr]
 refine uS rfl ?_;refine uR rfl (fun K hK=>?_);repeat' (first | (refine uP rfl ?_;(first | ((first | refine uN rfl ?_);(first | (refine Xg.st (StF.boxAgg rfl rfl) rfl rfl ?_;rintro _ _ ⟨bx,rfl,rfl⟩)|(refine Xg.st (StF.alloc rfl Tryz.zeroValue32 rfl) rfl rfl ?_;rintro _ _ ⟨bx,rfl,rfl⟩)))))|(refine uD rfl ?_;refine hK _ _ ?_;clear hK K))
 rename_i b1
 rename Nat=>b2
 refine uS rfl ?_
 refine X.regionRd ts101 rd101 [1,2] [(1,.pointer (some ⟨b1,0,none⟩)),(2,.pointer (some ⟨b2,0,none⟩))] (val1sn b1 R d1 c1 d2 c2 c3) (rows1sn b1 b2 R d1 c1 d2 c2 c3) (fun _=>(0,0)) H rfl mixed (by repeat (first | exact uU _ | refine uV rfl ?_)) rfl (by kernel_rfl) (by kernel_rfl) (loc1sn b1 b2 R d1 c1 d2 c2 c3) (qR _) ?_ ?_
 ·repeat' (first | exact AllF.done rfl | (refine AllF.step rfl ?_ ?_;·(first | exact (Ob.ng rfl (ObK.pure (fun env R hR=>by exact ⟨_,uF rfl rfl (te rfl) rfl (te rfl) (by decide),rfl⟩) rfl (fun _=>rfl))).toR | (refine ObR.ng rfl ?_;(first | (exact fun env S hS hrd=>(StF.ofEv (uL rfl rfl (uO (te rfl) rfl (hrd 16 (qH _) _ (qH _)) rfl))).op.mono (fun v H' ⟨hv,hH⟩=>⟨(0,0),fun _=>hv,by rw [hH];exact List.Perm.refl _⟩))|(exact fun env S hS hrd=>(OpF.call (uT rfl (by (repeat (first | exact Args.nil | refine Args.cons rfl ?_));done)) (clone_specSp R.ages d1 c1 _ (hag.sub (fun r hr=>hS r hr)) h1)).mono (fun v H' ⟨b,k,hv,hH⟩=>⟨(b,k),fun _=>hv,by rw [hH];exact List.Perm.refl _⟩))|(exact fun env S hS hrd=>(OpF.call (uT rfl (by (repeat (first | exact Args.nil | refine Args.cons rfl ?_));done)) (clone_specBx R.boxes d2 c2 _ (hbx.sub (fun r hr=>hS r hr)) h2)).mono (fun v H' ⟨b,k,hv,hH⟩=>⟨(b,k),fun _=>hv,by rw [hH];exact List.Perm.refl _⟩))|(exact fun env S hS hrd=>(OpF.call (uT rfl (by (repeat (first | exact Args.nil | refine Args.cons rfl ?_));done)) (cloneNilMt c3 _)).mono (fun v H' ⟨hv,hH⟩=>⟨(0,0),fun _=>hv,by rw [hH];exact List.Perm.refl _⟩))|(exact fun env S hS hrd=>(StF.storeOne (i:=0) rfl rfl rfl rfl (te rfl) rfl rfl (Nat.le_of_ble_eq_true rfl)).op.mono (fun v H' ⟨hv,hH⟩=>⟨(0,0),fun h=>absurd rfl h,by rw [hH];exact List.Perm.refl _⟩)))))))
 ·intro env t ha hv
  refine ⟨[(1,.pointer (some ⟨b1,0,none⟩)),(2,.pointer (some ⟨b2,0,none⟩))],ha,?_⟩
  show X _ _ _ _ (⟨(env 2).1,0,R.ages.flatMap cSp,some 24,(env 2).2 * 2⟩::⟨(env 5).1,0,R.boxes.flatMap cBx,some 47,(env 5).2 * 2⟩::⟨b1,0,[.int .i64 R.months,.int .i64 R.step,.slice (some ⟨(env 2).1,0,none⟩) R.ages.length (env 2).2,.slice (some ⟨(env 5).1,0,none⟩) R.boxes.length (env 5).2,.slice none 0 0],some 32,5⟩::⟨b2,0,[.int .i64 0,.int .i64 0,.slice none 0 0,.slice none 0 0,.slice none 0 0],some 32,5⟩::H) _
  repeat' (first | (refine uP rfl ?_;(first | ((first | refine uN rfl ?_);(first | (refine uE (uL rfl rfl (uW (te rfl) rfl (qT _ (qH _)) rfl)) rfl rfl ?_)|(refine uE (uL rfl rfl (uW (te rfl) rfl (qT _ (qT _ (qH _))) rfl)) rfl rfl ?_)|(refine Xg.st0 (StF.storeAll (i:=2) rfl rfl rfl (te rfl) rfl rfl rfl rfl) rfl ?_;rintro _ _ ⟨rfl,rfl⟩;dsimp only [List.set])|(refine Xg.st0 (StF.storeAll (i:=3) rfl rfl rfl (te rfl) rfl rfl rfl rfl) rfl ?_;rintro _ _ ⟨rfl,rfl⟩;dsimp only [List.set])))))|(refine uD rfl ?_;refine hK _ _ ?_;clear hK K) | refine uS rfl ?_ | refine uR rfl (fun K hK=>?_) | refine X.ret rfl ?_)
  exact ret_one (.inr rfl) Tryz.results63 ⟨_,rfl,uW (te rfl) rfl (by repeat (first | exact qH _ | apply qT)) rfl⟩ (H' := ⟨(env 2).1,0,R.ages.flatMap cSp,some 24,(env 2).2 * 2⟩::⟨(env 5).1,0,R.boxes.flatMap cBx,some 47,(env 5).2 * 2⟩::H) (by repeat (first | exact qR _ | apply qK | apply qC)) ⟨_,_,_,_,rfl,rfl⟩
end Go.Proofs.YtmfppdpkalelhaaGreat
end
section
set_option linter.unusedVariables false
set_option linter.unusedSimpArgs false
namespace Go.Proofs.YtmfppdpkalelhaaGreat
open Go Go.Fw
set_option maxRecDepth 10000
def agesE : List Sp:=[⟨0,0⟩,⟨1,4⟩,⟨2,8⟩,⟨3,12⟩]
def roomE (M : List Mt) : Rm:=⟨4,5,agesE,[⟨1,0⟩,⟨2,1⟩],M⟩
def mt1 : Mt:=⟨1,2,1,2,3,5⟩
def mt2 : Mt:=⟨2,3,2,1,3,9⟩
theorem thereE {L : List Mt} {b : Bx} {m : Int} (h : there (roomE L) b m) : (b = ⟨1,0⟩∧(m = 0∨m = 1∨m = 2∨m = 3))∨(b = ⟨2,1⟩∧(m = 1∨m = 2∨m = 3)):=by
 obtain ⟨h1,h2,h3⟩:=h
 have h3' : m ≤ 4 - 1:=h3
 rcases List.mem_cons.1 h1 with rfl | h1
 ·have h2' : (0 : Int)≤m:=h2
  exact .inl ⟨rfl,by omega⟩
 ·rcases List.mem_cons.1 h1 with rfl | h1
  ·have h2' : (1 : Int)≤m:=h2
   exact .inr ⟨rfl,by omega⟩
  ·exact absurd h1 List.not_mem_nil
theorem thereE1 {L : List Mt} {m : Int} (h : 0 ≤ m∧m ≤ 3) : there (roomE L) ⟨1,0⟩ m:=⟨List.mem_cons_self,h.1,by show m ≤ 4 - 1;omega⟩
theorem thereE2 {L : List Mt} {m : Int} (h : 1 ≤ m∧m ≤ 3) : there (roomE L) ⟨2,1⟩ m:=⟨List.mem_cons_of_mem _ List.mem_cons_self,h.1,by show m ≤ 4 - 1;omega⟩
def zt (x0 x1 x2 x3 y1 y2 y3 : Int) : Pk → Int:=fun p=>if p.box = 1 then (if p.month = 0 then x0 else if p.month = 1 then x1 else if p.month = 2 then x2 else x3) else if p.box = 2 then (if p.month = 1 then y1 else if p.month = 2 then y2 else y3) else 0
structure VE (x0 x1 x2 x3 y1 y2 y3 : Int) : Prop where
 a0 : x0 = 0
 a1 : 1 ≤ x1∧x1 ≤ 4
 a2 : 2 ≤ x2∧x2 ≤ 8
 a3 : 3 ≤ x3∧x3 ≤ 12
 s0 : 0 ≤ x1 - x0∧x1 - x0 ≤ 5
 s1 : 0 ≤ x2 - x1∧x2 - x1 ≤ 5
 s2 : 0 ≤ x3 - x2∧x3 - x2 ≤ 5
 b1 : y1 = 0
 b2 : 1 ≤ y2∧y2 ≤ 4
 b3 : 2 ≤ y3∧y3 ≤ 8
 t1 : 0 ≤ y2 - y1∧y2 - y1 ≤ 5
 t2 : 0 ≤ y3 - y2∧y3 - y2 ≤ 5
theorem truE {L M : List Mt} {x0 x1 x2 x3 y1 y2 y3 : Int} (h : VE x0 x1 x2 x3 y1 y2 y3) (hM : ∀ x ∈ M,x.lo ≤ zt x0 x1 x2 x3 y1 y2 y3 ⟨x.a,x.month⟩ - zt x0 x1 x2 x3 y1 y2 y3 ⟨x.b,x.month⟩∧zt x0 x1 x2 x3 y1 y2 y3 ⟨x.a,x.month⟩ - zt x0 x1 x2 x3 y1 y2 y3 ⟨x.b,x.month⟩ ≤ x.hi) :
  Tru (roomE L) M (zt x0 x1 x2 x3 y1 y2 y3):=by
 obtain ⟨a0,a1,a2,a3,s0,s1,s2,b1,b2,b3,t1,t2⟩:=h
 refine ⟨rfl,fun b m hb=>?_,fun b m hb hb2=>?_,hM⟩
 ·rcases thereE hb with ⟨rfl,rfl | rfl | rfl | rfl⟩ | ⟨rfl,rfl | rfl | rfl⟩
  ·show (0 : Int)≤x0∧x0 ≤ 0;omega
  ·show (1 : Int)≤x1∧x1 ≤ 4;omega
  ·show (2 : Int)≤x2∧x2 ≤ 8;omega
  ·show (3 : Int)≤x3∧x3 ≤ 12;omega
  ·show (0 : Int)≤y1∧y1 ≤ 0;omega
  ·show (1 : Int)≤y2∧y2 ≤ 4;omega
  ·show (2 : Int)≤y3∧y3 ≤ 8;omega
 ·have hm3 : m + 1 ≤ 4 - 1:=hb2.2.2
  rcases thereE hb with ⟨rfl,rfl | rfl | rfl | rfl⟩ | ⟨rfl,rfl | rfl | rfl⟩
  ·show (0 : Int)≤x1 - x0∧x1 - x0 ≤ 5;omega
  ·show (0 : Int)≤x2 - x1∧x2 - x1 ≤ 5;omega
  ·show (0 : Int)≤x3 - x2∧x3 - x2 ≤ 5;omega
  ·omega
  ·show (0 : Int)≤y2 - y1∧y2 - y1 ≤ 5;omega
  ·show (0 : Int)≤y3 - y2∧y3 - y2 ≤ 5;omega
  ·omega
theorem veE {L M : List Mt} {z : Pk → Int} (h : Tru (roomE L) M z) : VE (z ⟨1,0⟩) (z ⟨1,1⟩) (z ⟨1,2⟩) (z ⟨1,3⟩) (z ⟨2,1⟩) (z ⟨2,2⟩) (z ⟨2,3⟩):=by
 have a0 : (0 : Int)≤z ⟨1,0⟩∧z ⟨1,0⟩ ≤ 0:=h.age ⟨1,0⟩ 0 (thereE1 (by omega))
 have a1 : (1 : Int)≤z ⟨1,1⟩∧z ⟨1,1⟩ ≤ 4:=h.age ⟨1,0⟩ 1 (thereE1 (by omega))
 have a2 : (2 : Int)≤z ⟨1,2⟩∧z ⟨1,2⟩ ≤ 8:=h.age ⟨1,0⟩ 2 (thereE1 (by omega))
 have a3 : (3 : Int)≤z ⟨1,3⟩∧z ⟨1,3⟩ ≤ 12:=h.age ⟨1,0⟩ 3 (thereE1 (by omega))
 have b1 : (0 : Int)≤z ⟨2,1⟩∧z ⟨2,1⟩ ≤ 0:=h.age ⟨2,1⟩ 1 (thereE2 (by omega))
 have b2 : (1 : Int)≤z ⟨2,2⟩∧z ⟨2,2⟩ ≤ 4:=h.age ⟨2,1⟩ 2 (thereE2 (by omega))
 have b3 : (2 : Int)≤z ⟨2,3⟩∧z ⟨2,3⟩ ≤ 8:=h.age ⟨2,1⟩ 3 (thereE2 (by omega))
 have s0 : (0 : Int)≤z ⟨1,1⟩ - z ⟨1,0⟩∧z ⟨1,1⟩ - z ⟨1,0⟩ ≤ 5:=h.step ⟨1,0⟩ 0 (thereE1 (by omega)) (thereE1 (by omega))
 have s1 : (0 : Int)≤z ⟨1,2⟩ - z ⟨1,1⟩∧z ⟨1,2⟩ - z ⟨1,1⟩ ≤ 5:=h.step ⟨1,0⟩ 1 (thereE1 (by omega)) (thereE1 (by omega))
 have s2 : (0 : Int)≤z ⟨1,3⟩ - z ⟨1,2⟩∧z ⟨1,3⟩ - z ⟨1,2⟩ ≤ 5:=h.step ⟨1,0⟩ 2 (thereE1 (by omega)) (thereE1 (by omega))
 have t1 : (0 : Int)≤z ⟨2,2⟩ - z ⟨2,1⟩∧z ⟨2,2⟩ - z ⟨2,1⟩ ≤ 5:=h.step ⟨2,1⟩ 1 (thereE2 (by omega)) (thereE2 (by omega))
 have t2 : (0 : Int)≤z ⟨2,3⟩ - z ⟨2,2⟩∧z ⟨2,3⟩ - z ⟨2,2⟩ ≤ 5:=h.step ⟨2,1⟩ 2 (thereE2 (by omega)) (thereE2 (by omega))
 exact ⟨by omega,a1,a2,a3,s0,s1,s2,by omega,b2,b3,t1,t2⟩
theorem mt1E {L M : List Mt} {z : Pk → Int} (h : Tru (roomE L) M z) (hm : mt1 ∈ M) : 3 ≤ z ⟨1,2⟩ - z ⟨2,2⟩∧z ⟨1,2⟩ - z ⟨2,2⟩ ≤ 5:=h.mat mt1 hm
theorem mt2E {L M : List Mt} {z : Pk → Int} (h : Tru (roomE L) M z) (hm : mt2 ∈ M) : 3 ≤ z ⟨2,3⟩ - z ⟨1,3⟩∧z ⟨2,3⟩ - z ⟨1,3⟩ ≤ 9:=h.mat mt2 hm
theorem only1 {P : Mt → Prop} {x : Mt} (h : P x) : ∀ y ∈ [x],P y:=fun y hy=>by rw [List.mem_singleton.1 hy];exact h
/-- by the first match: lowest and highest truth -/
theorem loE (L : List Mt) : Tru (roomE L) [mt1] (zt 0 1 4 4 0 1 2):=truE ⟨rfl,by omega,by omega,by omega,by omega,by omega,by omega,rfl,by omega,by omega,by omega,by omega⟩ (only1 (by decide))
theorem hiE (L : List Mt) : Tru (roomE L) [mt1] (zt 0 4 8 12 0 4 8):=truE ⟨rfl,by omega,by omega,by omega,by omega,by omega,by omega,rfl,by omega,by omega,by omega,by omega⟩ (only1 (by decide))
theorem loF (L : List Mt) : Tru (roomE L) [] (zt 0 1 2 3 0 1 2):=truE ⟨rfl,by omega,by omega,by omega,by omega,by omega,by omega,rfl,by omega,by omega,by omega,by omega⟩ (fun _ h=>absurd h List.not_mem_nil)
theorem hiF (L : List Mt) : Tru (roomE L) [] (zt 0 4 8 12 0 4 8):=truE ⟨rfl,by omega,by omega,by omega,by omega,by omega,by omega,rfl,by omega,by omega,by omega,by omega⟩ (fun _ h=>absurd h List.not_mem_nil)
theorem exE {L : List Mt} {a b : Pk} {s : Sp} (hall : ∀ z,Tru (roomE L) [mt1] z → s.lo ≤ z a - z b∧z a - z b ≤ s.hi) (hlo : ∃ z,Tru (roomE L) [mt1] z∧z a - z b = s.lo) (hhi : ∃ z,Tru (roomE L) [mt1] z∧z a - z b = s.hi) : rng (roomE L) [mt1] a b = s:=rng_eq ⟨hall,hlo,hhi⟩
theorem r10 (L : List Mt) : rng (roomE L) [mt1] ⟨1,0⟩ zp = ⟨0,0⟩:=exE (fun z hz=>by have:=(veE hz).a0;have:=hz.zero;dsimp only;omega) ⟨_,loE L,rfl⟩ ⟨_,hiE L,rfl⟩
theorem r11 (L : List Mt) : rng (roomE L) [mt1] ⟨1,1⟩ zp = ⟨1,4⟩:=exE (fun z hz=>by have:=(veE hz).a1;have:=hz.zero;dsimp only;omega) ⟨_,loE L,rfl⟩ ⟨_,hiE L,rfl⟩
theorem r12 (L : List Mt) : rng (roomE L) [mt1] ⟨1,2⟩ zp = ⟨4,8⟩:=exE (fun z hz=>by have:=(veE hz).a2;have:=(veE hz).b2;have:=mt1E hz List.mem_cons_self;have:=hz.zero;dsimp only;omega) ⟨_,loE L,rfl⟩ ⟨_,hiE L,rfl⟩
theorem r13 (L : List Mt) : rng (roomE L) [mt1] ⟨1,3⟩ zp = ⟨4,12⟩:=exE (fun z hz=>by have:=(veE hz).a3;have:=(veE hz).s2;have:=(veE hz).b2;have:=mt1E hz List.mem_cons_self;have:=hz.zero;dsimp only;omega) ⟨_,loE L,rfl⟩ ⟨_,hiE L,rfl⟩
theorem r21 (L : List Mt) : rng (roomE L) [mt1] ⟨2,1⟩ zp = ⟨0,0⟩:=exE (fun z hz=>by have:=(veE hz).b1;have:=hz.zero;dsimp only;omega) ⟨_,loE L,rfl⟩ ⟨_,hiE L,rfl⟩
theorem r22 (L : List Mt) : rng (roomE L) [mt1] ⟨2,2⟩ zp = ⟨1,4⟩:=exE (fun z hz=>by have:=(veE hz).b2;have:=hz.zero;dsimp only;omega) ⟨_,loE L,rfl⟩ ⟨_,hiE L,rfl⟩
theorem f12 (L : List Mt) : rng (roomE L) [] ⟨1,2⟩ zp = ⟨2,8⟩:=rng_eq ⟨fun z hz=>by have:=(veE hz).a2;have:=hz.zero;dsimp only;omega,⟨_,loF L,rfl⟩,⟨_,hiF L,rfl⟩⟩
/-- what two boxes differ by -/
theorem tE1 (L : List Mt) : Tru (roomE L) [mt1] (zt 0 1 4 4 0 1 6):=truE ⟨rfl,by omega,by omega,by omega,by omega,by omega,by omega,rfl,by omega,by omega,by omega,by omega⟩ (only1 (by decide))
theorem tE2 (L : List Mt) : Tru (roomE L) [mt1] (zt 0 4 7 12 0 2 2):=truE ⟨rfl,by omega,by omega,by omega,by omega,by omega,by omega,rfl,by omega,by omega,by omega,by omega⟩ (only1 (by decide))
theorem tE3 (L : List Mt) : Tru (roomE L) [mt1] (zt 0 4 6 6 0 1 2):=truE ⟨rfl,by omega,by omega,by omega,by omega,by omega,by omega,rfl,by omega,by omega,by omega,by omega⟩ (only1 (by decide))
theorem d3 (L : List Mt) : rng (roomE L) [mt1] ⟨1,3⟩ ⟨2,3⟩ = ⟨-2,10⟩:=exE (fun z hz=>by have h:=veE hz;have:=h.a3;have:=h.s2;have:=h.b3;have:=h.t2;have:=h.b2;have:=h.a2;have:=mt1E hz List.mem_cons_self;dsimp only;omega) ⟨_,tE1 L,rfl⟩ ⟨_,tE2 L,rfl⟩
theorem d2 (L : List Mt) : rng (roomE L) [mt1] ⟨1,2⟩ ⟨2,2⟩ = ⟨3,5⟩:=exE (fun z hz=>mt1E hz List.mem_cons_self) ⟨_,loE L,rfl⟩ ⟨_,tE3 L,rfl⟩
theorem d2' (L : List Mt) : rng (roomE L) [mt1] ⟨2,2⟩ ⟨1,2⟩ = ⟨-5, -3⟩:=exE (fun z hz=>by have:=mt1E hz List.mem_cons_self;dsimp only;omega) ⟨_,tE3 L,rfl⟩ ⟨_,loE L,rfl⟩
theorem hasE (L : List Mt) : hasT (roomE L) [mt1]:=⟨_,loE L⟩
theorem oddE (L : List Mt) : ¬ hasT (roomE L) [mt1,mt2]:=fun ⟨z,hz⟩=>by
 have h:=veE hz
 have:=h.s2
 have:=h.b3
 have:=h.t2
 have:=h.b2
 have:=mt1E hz List.mem_cons_self
 have:=mt2E hz (List.mem_cons_of_mem _ List.mem_cons_self)
 omega
theorem odd2E (L : List Mt) : hasT (roomE L) [mt2]:=⟨zt 0 1 2 3 0 4 8,truE ⟨rfl,by omega,by omega,by omega,by omega,by omega,by omega,rfl,by omega,by omega,by omega,by omega⟩ (only1 (by decide))⟩
end Go.Proofs.YtmfppdpkalelhaaGreat
end
section
set_option linter.unusedVariables false
set_option linter.unusedSimpArgs false
namespace Go.Proofs.YtmfppdpkalelhaaGreat
open Go Go.Fw
set_option maxRecDepth 10000
theorem perhaps1_spec (s : Sp) (n : Int) (b : Nat) (ow : Option Kd) (cap : Nat) (H : List Row) (hm : ⟨b,0,[.int .i64 n],ow,cap⟩ ∈ H) : Fc Tryz.prog 59 ([.agg (cSp s).toArray]++[.pointer (some ⟨b,0,none⟩)]) H (fun v H' => v = .bool (sinS false n s)∧H' = H):=by
 show Fc Tryz.prog 59 [.agg (cSp s).toArray,.pointer (some ⟨b,0,none⟩)] H _
 refine Fc.mk (callable Tryz.call59) Tryz.func59 rfl Tryz.ntmps59 rfl ?_;dsimp only [fr]
 repeat' (first | (refine uP rfl ?_;(first | ((first | refine uN rfl ?_);(first | (refine uE (uL rfl rfl (uO (te rfl) rfl (qT _ hm) rfl)) rfl rfl ?_)|(refine uE (uA rfl rfl) rfl rfl ?_)|(refine uE (uQ rfl rfl rfl rfl) rfl rfl ?_)|(refine uE (uF rfl rfl (te rfl) rfl (te rfl) (by decide)) rfl rfl ?_)|(refine uE (uL rfl rfl (uO (te rfl) rfl (qH _) rfl)) rfl rfl ?_)|(refine Xg.st (StF.boxAgg rfl rfl) rfl rfl ?_;rintro _ _ ⟨bx,rfl,rfl⟩)))))|(refine uD rfl ?_;refine hK _ _ ?_;clear hK K) | refine uS rfl ?_ | refine uR rfl (fun K hK=>?_) | refine X.ret rfl ?_)
 exact ret_one (v := .bool (sinS false n s)) (by simp) Tryz.results59 rfl (H' := H) (by repeat (first | exact qR _ | apply qK | apply qC)) ⟨rfl,rfl⟩
theorem surely1_spec (s : Sp) (n : Int) (b : Nat) (ow : Option Kd) (cap : Nat) (H : List Row) (hm : ⟨b,0,[.int .i64 n],ow,cap⟩ ∈ H) : Fc Tryz.prog 60 ([.agg (cSp s).toArray]++[.pointer (some ⟨b,0,none⟩)]) H (fun v H' => v = .bool (sinS true n s)∧H' = H):=by
 show Fc Tryz.prog 60 [.agg (cSp s).toArray,.pointer (some ⟨b,0,none⟩)] H _
 refine Fc.mk (callable Tryz.call60) Tryz.func60 rfl Tryz.ntmps60 rfl ?_;dsimp only [fr]
 repeat' (first | (refine uP rfl ?_;(first | ((first | refine uN rfl ?_);(first | (refine uE (uL rfl rfl (uO (te rfl) rfl (qT _ hm) rfl)) rfl rfl ?_)|(refine uE (uA rfl rfl) rfl rfl ?_)|(refine uE (uQ rfl rfl rfl rfl) rfl rfl ?_)|(refine uE (uF rfl rfl (te rfl) rfl (te rfl) (by decide)) rfl rfl ?_)|(refine uE (uL rfl rfl (uO (te rfl) rfl (qH _) rfl)) rfl rfl ?_)|(refine Xg.st (StF.boxAgg rfl rfl) rfl rfl ?_;rintro _ _ ⟨bx,rfl,rfl⟩)))))|(refine uD rfl ?_;refine hK _ _ ?_;clear hK K) | refine uS rfl ?_ | refine uR rfl (fun K hK=>?_) | refine X.ret rfl ?_)
 exact ret_one (v := .bool (sinS true n s)) (by simp) Tryz.results60 rfl (H' := H) (by repeat (first | exact qR _ | apply qK | apply qC)) ⟨rfl,rfl⟩
def firV : Option Nat → Int
 | some k=>k
 | none=>0
set_option maxHeartbeats 4000000 in
theorem kfirst_spec (R : Rm) (p : Pl) (a : Option Addr) (c : Nat) (x : Int) (g : Nat) (cap : List Value) (f : Sp → Bool) (H : List Row) (hr : okRm R) (hm : matsThere R R.mats) (hC : CtOk H R p a) (hla : R.ages.length ≤ 1000) (hlm : R.mats.length ≤ 1000) (hpc : (plcs R).length ≤ c) (hT : hasT R R.mats) (hx : ∃ b ∈ R.boxes,b.id = x)
  (hf : ∀ s H',(∀ r ∈ H,r ∈ H') → Fc Tryz.prog g ([.agg (cSp s).toArray]++cap) H' (fun v H'' => v = .bool (f s)∧H'' = H')) :
  Fc Tryz.prog 61 [.agg (cCt R p a c).toArray,.int .i64 x,.func (.func g) #[] cap.toArray] H (fun v H' => v = .tuple #[.int .i64 (firV (fstM (sinP R x f) 0 R.months.toNat)),.bool (fstM (sinP R x f) 0 R.months.toNat).isSome]∧H' = H):=by
 have hm12:=hr.m12
 have hm1:=hr.m1
 obtain ⟨b0,hb0,rfl⟩:=hx
 have hb0x:=okBoxes_mem _ _ _ hr.bx b0 hb0
 obtain ⟨P,hP⟩ : ∃ P,P = sinP R b0.id f:=⟨_,rfl⟩
 obtain ⟨r,hr9⟩ : ∃ r,r = fstM P 0 R.months.toNat:=⟨_,rfl⟩
 have hin : ∀ m : Nat,(⟨b0.id,m⟩ : Pk) ∈ plcs R → P m = f (rng R R.mats ⟨b0.id,m⟩ zp):=fun m h=>by
  classical
  rw [hP];unfold sinP
  rw [decide_eq_true]
  ·rfl
  ·rcases mem_plcs h with h | ⟨b,h1,h2⟩
   ·have : b0.id = 0:=congrArg Pk.box h
    omega
   ·exact ⟨b,h1,h2.symm⟩
 have hout : ∀ m : Nat,(⟨b0.id,m⟩ : Pk) ∉ plcs R → P m = false:=fun m h=>by
  classical
  rw [hP];unfold sinP
  rw [decide_eq_false]
  ·rfl
  ·rintro ⟨b,h1,h2⟩
   exact h (by rw [← h2];exact plcs_mem h1)
 rw [← hP, ← hr9]
 clear hP
 refine Fc.mk (callable Tryz.call61) Tryz.func61 rfl Tryz.ntmps61 rfl ?_;dsimp only [fr]
 repeat' (first | (refine uP rfl ?_;(first | ((first | refine uN rfl ?_);(first | (refine uE (uM rfl rfl) rfl rfl ?_)|(refine uE (uA rfl rfl) rfl rfl ?_)|(refine uE (uF rfl rfl (te rfl) rfl (te rfl) (by decide)) rfl rfl ?_)|(refine uE (uL rfl rfl (uO (te rfl) rfl (qH _) rfl)) rfl rfl ?_)|(refine Xg.st (StF.boxAgg rfl rfl) rfl rfl ?_;rintro _ _ ⟨bx,rfl,rfl⟩)))))|(refine uD rfl ?_;refine hK _ _ ?_;clear hK K) | refine uS rfl ?_ | refine uR rfl (fun K hK=>?_) | refine X.block rfl ?_)
 refine X.lp rfl (fun q F' H' => ∃ (m : Nat),q = R.months.toNat - m∧(m : Int)≤R.months∧fstM P m (R.months.toNat - m)=r∧H' = ⟨bx,0,cCt R p a c,some 79,6⟩::H∧F' = [(1,.int .i64 b0.id),(2,.func (.func g) #[] cap.toArray),(3,.pointer (some ⟨bx,0,none⟩)),(11,.int .i64 R.months),(12,.int .i64 m)])
  R.months.toNat [(1,.int .i64 b0.id),(2,.func (.func g) #[] cap.toArray),(3,.pointer (some ⟨bx,0,none⟩)),(11,.int .i64 R.months),(12,.int .i64 (0 : Nat))] (⟨bx,0,cCt R p a c,some 79,6⟩::H) (by repeat (first | exact uU _ | refine uV rfl ?_)) (qR _) ⟨0,rfl,by omega,by rw [hr9];rfl,rfl,rfl⟩ ?_
 rintro _ _ _ ⟨m,rfl,hm2,hfm,rfl,rfl⟩
 by_cases hlt : (m : Int)<R.months
 ·by_cases hp : (⟨b0.id,m⟩ : Pk) ∈ plcs R
  ·have hPm:=hin m hp
   have hat:=fun H' hH' => at_spec R p a c b0.id m H' hr hH'
   rw [show atZ R ⟨b0.id,m⟩ = ((pidx R ⟨b0.id,m⟩ : Nat) : Int) by unfold atZ;rw [if_pos hp]] at hat
   have hye:=fun H' hC' => yellow_spec R p a c ⟨b0.id,m⟩ H' hr hm hC' hla hlm hpc hp hT
   obtain ⟨s,hs⟩ : ∃ s,s = rng R R.mats ⟨b0.id,m⟩ zp:=⟨_,rfl⟩
   rw [← hs] at hPm hye
   obtain ⟨w,hw⟩ : ∃ w,w = f s:=⟨_,rfl⟩
   have hfs:=hf s
   rw [← hw] at hfs hPm
   cases w with
   | true =>
    repeat' (first | (refine uP rfl ?_;(first | ((first | refine uN rfl ?_ | (refine Xo.g rfl rfl ?_;with_reducible refine Xw.tt ?_));(first | (refine uE (uQ (b:=true) rfl rfl rfl (congrArg some (decide_eq_true (by omega)))) rfl rfl ?_)|(refine uE (uL rfl rfl (uW (T:=79) (cs:=cCt R p a c) (te rfl) rfl (by repeat (first | exact qH _ | apply qT)) rfl)) rfl rfl ?_)|(refine uC (uT rfl (Args.cons rfl (Args.cons rfl (Args.cons rfl Args.nil)))) rfl rfl (hat _ (hC.sub (fun _ h=>by repeat (first | exact h | apply qT)))) ?_;rintro _ H9 ⟨rfl,hH9⟩;subst H9)|(refine uE (EvF.build (cs:=cPk ⟨b0.id,m⟩) rfl (ArgsP.cons rfl (ArgsP.cons rfl ArgsP.nil)) (te rfl) (Places.cons (te rfl) (Places.cons (te rfl) Places.nil)) Tryz.zeroValue86 rfl) rfl rfl ?_)|(refine uC (uT rfl (Args.cons rfl (Args.cons rfl Args.nil))) rfl rfl (hye _ (hC.sub (fun _ h=>by repeat (first | exact h | apply qT)))) ?_;rintro _ H9 ⟨rfl,hH9⟩;subst H9)|(refine uC (EnF.dyn0 rfl rfl (by (repeat (first | exact Args.nil | refine Args.cons rfl ?_));done)) rfl rfl (hfs _ (fun _ h=>by repeat (first | exact h | apply qT))) ?_;rintro _ H9 ⟨rfl,hH9⟩;subst H9)|(refine uE (uM rfl rfl) rfl rfl ?_)|(refine uE (uA rfl rfl) rfl rfl ?_)|(refine uE (EvF.pickT rfl rfl rfl) rfl rfl ?_)))))|(refine uD rfl ?_;refine hK _ _ ?_;clear hK K) | refine uS rfl ?_ | refine uR rfl (fun K hK=>?_) | refine X.block rfl ?_ | refine X.skip rfl ?_ | refine X.ret rfl ?_ | (refine X.ite rfl rfl (fun hc=>?_);(first | (with_reducible refine Xb.t hc ?_)) <;> clear hc))
    all_goals try (exfalso;contradiction)
    refine ret_two (by simp) Tryz.results61 rfl rfl (H' := H) (by repeat (first | exact qR _ | apply qK | apply qC)) ⟨?_,rfl⟩
    rw [← hfm,fstM_hit hPm (by omega)]
    rfl
   | false =>
    repeat' (first | (refine uP rfl ?_;(first | ((first | refine uN rfl ?_ | (refine Xo.g rfl rfl ?_;with_reducible refine Xw.tt ?_));(first | (refine uE (uQ (b:=true) rfl rfl rfl (congrArg some (decide_eq_true (by omega)))) rfl rfl ?_)|(refine uE (uL rfl rfl (uW (T:=79) (cs:=cCt R p a c) (te rfl) rfl (by repeat (first | exact qH _ | apply qT)) rfl)) rfl rfl ?_)|(refine uC (uT rfl (Args.cons rfl (Args.cons rfl (Args.cons rfl Args.nil)))) rfl rfl (hat _ (hC.sub (fun _ h=>by repeat (first | exact h | apply qT)))) ?_;rintro _ H9 ⟨rfl,hH9⟩;subst H9)|(refine uE (EvF.build (cs:=cPk ⟨b0.id,m⟩) rfl (ArgsP.cons rfl (ArgsP.cons rfl ArgsP.nil)) (te rfl) (Places.cons (te rfl) (Places.cons (te rfl) Places.nil)) Tryz.zeroValue86 rfl) rfl rfl ?_)|(refine uC (uT rfl (Args.cons rfl (Args.cons rfl Args.nil))) rfl rfl (hye _ (hC.sub (fun _ h=>by repeat (first | exact h | apply qT)))) ?_;rintro _ H9 ⟨rfl,hH9⟩;subst H9)|(refine uC (EnF.dyn0 rfl rfl (by (repeat (first | exact Args.nil | refine Args.cons rfl ?_));done)) rfl rfl (hfs _ (fun _ h=>by repeat (first | exact h | apply qT))) ?_;rintro _ H9 ⟨rfl,hH9⟩;subst H9)|(refine uE (uM rfl rfl) rfl rfl ?_)|(refine uE (uA rfl rfl) rfl rfl ?_)|(refine uE (EvF.pickT rfl rfl rfl) rfl rfl ?_)|(refine uE (EvF.add64 rfl rfl rfl (by omega) (by omega)) rfl rfl ?_)))))|(refine uD rfl ?_;refine hK _ _ ?_;clear hK K) | refine uS rfl ?_ | refine uR rfl (fun K hK=>?_) | refine X.block rfl ?_ | refine X.skip rfl ?_ | (refine X.ite rfl rfl (fun hc=>?_);(first | (with_reducible refine Xb.t hc ?_)|(with_reducible refine Xb.f hc ?_)) <;> clear hc))
    all_goals try (exfalso;contradiction)
    have hno:=fstM_no (n:=R.months.toNat - m) hPm (by omega)
    rw [Nat.sub_sub] at hno
    exact ⟨_,_,⟨bx,0,cCt R p a c,some 79,6⟩::H,(by repeat (first | exact uU _ | refine uV rfl ?_)),(by repeat (first | exact qR _ | apply qK | apply qC)),⟨m + 1,rfl,by omega,by rw [← hfm,hno],rfl,rfl⟩,by omega⟩
  ·have hPm:=hout m hp
   have hat:=fun H' hH' => at_spec R p a c b0.id m H' hr hH'
   rw [show atZ R ⟨b0.id,m⟩ = -1 by unfold atZ;rw [if_neg hp]] at hat
   repeat' (first | (refine uP rfl ?_;(first | ((first | refine uN rfl ?_);(first | (refine uE (uQ (b:=true) rfl rfl rfl (congrArg some (decide_eq_true (by omega)))) rfl rfl ?_)|(refine uE (uQ (b:=false) rfl rfl rfl (congrArg some (decide_eq_false (by omega)))) rfl rfl ?_)|(refine uE (uL rfl rfl (uW (T:=79) (cs:=cCt R p a c) (te rfl) rfl (by repeat (first | exact qH _ | apply qT)) rfl)) rfl rfl ?_)|(refine uC (uT rfl (Args.cons rfl (Args.cons rfl (Args.cons rfl Args.nil)))) rfl rfl (hat _ (hC.sub (fun _ h=>by repeat (first | exact h | apply qT)))) ?_;rintro _ H9 ⟨rfl,hH9⟩;subst H9)|(refine uE (uM rfl rfl) rfl rfl ?_)|(refine uE (uA rfl rfl) rfl rfl ?_)|(refine uE (EvF.pickF rfl rfl rfl) rfl rfl ?_)|(refine uE (EvF.add64 rfl rfl rfl (by omega) (by omega)) rfl rfl ?_)))|(refine Xo.g rfl rfl ?_;(first | (with_reducible refine Xw.ft rfl rfl ?_)))))|(refine uD rfl ?_;refine hK _ _ ?_;clear hK K) | refine uS rfl ?_ | refine uR rfl (fun K hK=>?_) | refine X.block rfl ?_ | refine X.skip rfl ?_ | (refine X.ite rfl rfl (fun hc=>?_);(first | (with_reducible refine Xb.t hc ?_)|(with_reducible refine Xb.f hc ?_)) <;> clear hc))
   all_goals try (exfalso;contradiction)
   have hno:=fstM_no (n:=R.months.toNat - m) hPm (by omega)
   rw [Nat.sub_sub] at hno
   exact ⟨_,_,⟨bx,0,cCt R p a c,some 79,6⟩::H,(by repeat (first | exact uU _ | refine uV rfl ?_)),(by repeat (first | exact qR _ | apply qK | apply qC)),⟨m + 1,rfl,by omega,by rw [← hfm,hno],rfl,rfl⟩,by omega⟩
 ·have e0 : R.months.toNat - m = 0:=by omega
  rw [e0] at hfm
  repeat' (first | (refine uP rfl ?_;(first | ((first | refine uN rfl ?_);(first | (refine uE (uQ (b:=false) rfl rfl rfl (congrArg some (decide_eq_false (by omega)))) rfl rfl ?_)|(refine uE (uA rfl rfl) rfl rfl ?_)))))|(refine uD rfl ?_;refine hK _ _ ?_;clear hK K) | refine uS rfl ?_ | refine uR rfl (fun K hK=>?_)|(refine X.brk rfl ?_;repeat (first | refine blockX_hit rfl ?_ | refine blockX_miss (by decide) ?_)) | refine X.ret rfl ?_ | (refine X.ite rfl rfl (fun hc=>?_);(first | (with_reducible refine Xb.f hc ?_)) <;> clear hc))
  all_goals try (exfalso;contradiction)
  refine ret_two (by simp) Tryz.results61 rfl rfl (H' := H) (by repeat (first | exact qR _ | apply qK | apply qC)) ⟨?_,rfl⟩
  rw [← hfm]
  rfl
theorem sinO_firV (r : Option Nat) : sinO r = (firV r,if r.isSome then 0 else 6):=by cases r <;> rfl
theorem told0_spec (c : List Value) (e l : Int) (gv : Value) (h : e ≠ 0) (hc : c.length = 6) (H : List Row) : Fc Tryz.prog 88 [.agg c.toArray,.int .i64 e,gv,.int .i64 l] H (fun v H' => v = .tuple #[.int .i64 0,.int .i64 e]∧H' = H):=by
 refine Fc.mk (callable Tryz.call88) Tryz.func88 rfl Tryz.ntmps88 rfl ?_;dsimp only [fr]
 repeat' (first | (refine uP rfl ?_;(first | ((first | refine uN rfl ?_);(first | (refine uE (uQ (b:=true) rfl rfl rfl (congrArg some (nd_t (by omega)))) rfl rfl ?_)|(refine uE (uM rfl rfl) rfl rfl ?_)|(refine uE (uA rfl rfl) rfl rfl ?_)|(refine Xg.st (StF.boxAgg rfl rfl) rfl rfl ?_;rintro _ _ ⟨bx,rfl,rfl⟩)))))|(refine uD rfl ?_;refine hK _ _ ?_;clear hK K) | refine uS rfl ?_ | refine uR rfl (fun K hK=>?_) | refine X.ret rfl ?_ | (refine X.ite rfl rfl (fun hc=>?_);(first | (with_reducible refine Xb.t hc ?_)) <;> clear hc))
 all_goals try (exfalso;contradiction)
 exact ret_two (by simp) Tryz.results88 rfl rfl (H' := H) (by (repeat (first | exact qR _ | apply qC));done) ⟨rfl,rfl⟩
theorem told1_spec (c : List Value) (g : Nat) (cap : List Value) (y l : Int) (w : Bool) (hc : c.length = 6) (H : List Row) (hf : ∀ b,Fc Tryz.prog g ([.agg c.toArray]++cap) (b::H) (fun v H' => v = .tuple #[.int .i64 y,.bool w]∧H' = b::H)) (hz : w = false → y = 0) : Fc Tryz.prog 88 [.agg c.toArray,.int .i64 0,.func (.func g) #[] cap.toArray,.int .i64 l] H (fun v H' => v = .tuple #[.int .i64 y,.int .i64 (if w then 0 else l)]∧H' = H):=by
 cases w with
 | false =>
  obtain rfl:=hz rfl
  refine Fc.mk (callable Tryz.call88) Tryz.func88 rfl Tryz.ntmps88 rfl ?_;dsimp only [fr]
  repeat' (first | (refine uP rfl ?_;(first | ((first | refine uN rfl ?_);(first | (refine uE (uQ (b:=false) rfl rfl rfl (congrArg some (nd_f (by omega)))) rfl rfl ?_)|(refine uE (uL rfl rfl (uW (cs:=c) (te rfl) rfl (qH _) hc)) rfl rfl ?_)|(refine uC (EnF.dyn0 rfl rfl (by (repeat (first | exact Args.nil | refine Args.cons rfl ?_));done)) rfl rfl (hf _) ?_;rintro _ H9 ⟨rfl,hH9⟩;subst H9)|(refine uE (uM rfl rfl) rfl rfl ?_)|(refine uE (uA rfl rfl) rfl rfl ?_)|(refine uE (EvF.not rfl rfl) rfl rfl ?_)|(refine uE (uX rfl rfl rfl) rfl rfl ?_)|(refine Xg.st (StF.boxAgg rfl rfl) rfl rfl ?_;rintro _ _ ⟨bx,rfl,rfl⟩)))))|(refine uD rfl ?_;refine hK _ _ ?_;clear hK K) | refine uS rfl ?_ | refine uR rfl (fun K hK=>?_) | refine X.skip rfl ?_ | refine X.ret rfl ?_ | (refine X.ite rfl rfl (fun hc=>?_);(first | (with_reducible refine Xb.f hc ?_)|(with_reducible refine Xb.caseB hc (fun h=>?_) (fun h=>?_))) <;> clear hc))
  all_goals try (exfalso;contradiction)
  exact ret_two (by simp) Tryz.results88 rfl rfl (H' := H) (by (repeat (first | exact qR _ | apply qC));done) ⟨rfl,rfl⟩
 | true =>
  refine Fc.mk (callable Tryz.call88) Tryz.func88 rfl Tryz.ntmps88 rfl ?_;dsimp only [fr]
  repeat' (first | (refine uP rfl ?_;(first | ((first | refine uN rfl ?_);(first | (refine uE (uQ (b:=false) rfl rfl rfl (congrArg some (nd_f (by omega)))) rfl rfl ?_)|(refine uE (uL rfl rfl (uW (cs:=c) (te rfl) rfl (qH _) hc)) rfl rfl ?_)|(refine uC (EnF.dyn0 rfl rfl (by (repeat (first | exact Args.nil | refine Args.cons rfl ?_));done)) rfl rfl (hf _) ?_;rintro _ H9 ⟨rfl,hH9⟩;subst H9)|(refine uE (uM rfl rfl) rfl rfl ?_)|(refine uE (uA rfl rfl) rfl rfl ?_)|(refine uE (EvF.not rfl rfl) rfl rfl ?_)|(refine uE (uX rfl rfl rfl) rfl rfl ?_)|(refine Xg.st (StF.boxAgg rfl rfl) rfl rfl ?_;rintro _ _ ⟨bx,rfl,rfl⟩)))))|(refine uD rfl ?_;refine hK _ _ ?_;clear hK K) | refine uS rfl ?_ | refine uR rfl (fun K hK=>?_) | refine X.skip rfl ?_ | refine X.ret rfl ?_ | (refine X.ite rfl rfl (fun hc=>?_);(first | (with_reducible refine Xb.f hc ?_)|(with_reducible refine Xb.caseB hc (fun h=>?_) (fun h=>?_))) <;> clear hc))
  all_goals try (exfalso;contradiction)
  exact ret_two (by simp) Tryz.results88 rfl rfl (H' := H) (by (repeat (first | exact qR _ | apply qC));done) ⟨rfl,rfl⟩
set_option maxHeartbeats 4000000 in
theorem since1_spec (c : List Value) (x y : Int) (w : Bool) (gv : Value) (b4 b5 : Nat) (o4 o5 : Option Kd) (k4 k5 : Nat) (hc : c.length = 6) (H : List Row) (h4 : ⟨b4,0,[.int .i64 x],o4,k4⟩ ∈ H) (h5 : ⟨b5,0,[gv],o5,k5⟩ ∈ H) (hf : ∀ b,Fc Tryz.prog 61 [.agg c.toArray,.int .i64 x,gv] (b::H) (fun v H' => v = .tuple #[.int .i64 y,.bool w]∧H' = b::H)) : Fc Tryz.prog 89 ([.agg c.toArray]++[.pointer (some ⟨b4,0,none⟩),.pointer (some ⟨b5,0,none⟩)]) H (fun v H' => v = .tuple #[.int .i64 y,.bool w]∧H' = H):=by
 show Fc Tryz.prog 89 [.agg c.toArray,.pointer (some ⟨b4,0,none⟩),.pointer (some ⟨b5,0,none⟩)] H _
 refine Fc.mk (callable Tryz.call89) Tryz.func89 rfl Tryz.ntmps89 rfl ?_;dsimp only [fr]
 repeat' (first | (refine uP rfl ?_;(first | ((first | refine uN rfl ?_);(first | (refine uE (uL rfl rfl (uW (cs:=c) (te rfl) rfl (qH _) hc)) rfl rfl ?_)|(refine uE (uL rfl rfl (uO (te rfl) rfl (qT _ h4) rfl)) rfl rfl ?_)|(refine uE (uL rfl rfl (uO (te rfl) rfl (qT _ h5) rfl)) rfl rfl ?_)|(refine uC (uT rfl (Args.cons rfl (Args.cons rfl (Args.cons rfl Args.nil)))) rfl rfl (hf _) ?_;rintro _ H9 ⟨rfl,hH9⟩;subst H9)|(refine uE (uX rfl rfl rfl) rfl rfl ?_)|(refine uE (uA rfl rfl) rfl rfl ?_)|(refine Xg.st (StF.boxAgg rfl rfl) rfl rfl ?_;rintro _ _ ⟨bx,rfl,rfl⟩)))))|(refine uD rfl ?_;refine hK _ _ ?_;clear hK K) | refine uS rfl ?_ | refine uR rfl (fun K hK=>?_) | refine X.ret rfl ?_)
 exact ret_two (by simp) Tryz.results89 rfl rfl (H' := H) (by (repeat (first | exact qR _ | apply qC));done) ⟨rfl,rfl⟩
set_option maxHeartbeats 4000000 in
theorem ksince_spec (R : Rm) (p : Pl) (x : Int) (g : Nat) (cap : List Value) (f : Sp → Bool) (H : List Row) (hR : RmOk H R p) (h2 : R.boxes.length ≤ 1000000)
  (hf : ∀ s H',(∀ r ∈ H,r ∈ H') → Fc Tryz.prog g ([.agg (cSp s).toArray]++cap) H' (fun v H'' => v = .bool (f s)∧H'' = H')) :
  Fc Tryz.prog 58 [.agg (cRm R p).toArray,.int .i64 x,.func (.func g) #[] cap.toArray] H (fun v H' => v = .tuple #[.int .i64 (sinF R x f).1,.int .i64 (sinF R x f).2]∧H' = H):=by
 obtain ⟨e,he⟩ : ∃ e,openE R [x] [] = e:=⟨_,rfl⟩
 have hbt : ∀ (H' : List Row) (b1 : Nat),⟨b1,0,[.int .i64 x],some 3,1 * 1⟩ ∈ H' → BtOk H' ⟨[x],some ⟨b1,0,none⟩,1,[],none,0⟩:=fun H' b1 q1=>⟨SlE.ofRow (l:=[x]) q1 (fun _ _=>rfl),sleNil,Nat.le_of_ble_eq_true rfl,Nat.le_of_ble_eq_true rfl⟩
 by_cases h0 : e = 0
 ·subst h0
  obtain ⟨hok,hall,_,hT⟩:=openE_ok he
  have hx:=hall x (List.mem_singleton.2 rfl)
  have hF : sinF R x f = sinO (fstM (sinP R x f) 0 R.months.toNat):=by unfold sinF;rw [if_pos he]
  rw [hF]
  have hfi:=fun H' b k hC hk (hs : ∀ r ∈ H,r ∈ H')=>kfirst_spec R p (some ⟨b,0,none⟩) k x g cap f H' hok.ok hok.mats hC hok.lens.ages hok.lens.mats hk hT hx (fun s H'' hs' => hf s H'' (fun r h=>hs' r (hs r h)))
  obtain ⟨r,hr9⟩ : ∃ r,r = fstM (sinP R x f) 0 R.months.toNat:=⟨_,rfl⟩
  rw [← hr9] at hfi ⊢
  clear hr9 hF
  rw [sinO_firV]
  obtain ⟨v,hv⟩ : ∃ v,v = firV r:=⟨_,rfl⟩
  obtain ⟨w,hw⟩ : ∃ w,w = r.isSome:=⟨_,rfl⟩
  have hz : w = false → v = 0:=fun h=>by
   rw [hw] at h
   cases r with
   | none=>rw [hv];rfl
   | some k=>cases h
  rw [← hv, ← hw] at hfi ⊢
  clear hv hw
  refine Fc.mk (callable Tryz.call58) Tryz.func58 rfl Tryz.ntmps58 rfl ?_;dsimp only [fr]
  repeat' (first | (refine uP rfl ?_;(first | ((first | refine uN rfl ?_);(first | (refine Xg.st (StF.buildOne (v0 := .int .i64 x) rfl el55 rfl rfl rfl (by decide) (by decide)) rfl rfl ?_;rintro _ _ ⟨b1,rfl,rfl⟩)|(refine uE (EvF.build (cs:=cBt ⟨[x],some ⟨b1,0,none⟩,1,[],none,0⟩) rfl (ArgsP.cons rfl ArgsP.nil) (te rfl) (Places.cons (te rfl) (Places.cons (te rfl) Places.nil)) Tryz.zeroValue83 rfl) rfl rfl ?_)|(refine uC (uT rfl (by (repeat (first | exact Args.nil | refine Args.cons rfl ?_));done)) rfl rfl (openY (hR.sub (fun _ h=>by repeat (first | exact h | apply qT))) (hbt _ b1 (qH _)) h2 he) ?_;rintro _ _ ⟨b,k,hbk,rfl,rfl⟩)|(refine Xg.st (StF.alloc rfl Tryz.zeroValue79 rfl) rfl rfl ?_;rintro _ _ ⟨b8,rfl,rfl⟩)|(refine Xg.st0 (StF.storeAll (i:=0) (vs:=cCt R p (some ⟨b,0,none⟩) k) rfl rfl rfl (te rfl) rfl rfl rfl rfl) rfl ?_;rintro _ _ ⟨rfl,rfl⟩;dsimp only [List.set])|(refine uE (uL rfl rfl (uW (T:=79) (cs:=cCt R p (some ⟨b,0,none⟩) k) (te rfl) rfl (qH _) rfl)) rfl rfl ?_)|(refine uE (EvF.makeFunc (fl:=[]) rfl Args.nil (Args.cons rfl (Args.cons rfl Args.nil))) rfl rfl ?_)|(refine uC (uT rfl (Args.cons rfl (Args.cons rfl (Args.cons rfl (Args.cons rfl Args.nil))))) rfl rfl (told1_spec (cCt R p (some ⟨b,0,none⟩) k) 89 _ v 6 w rfl _ (fun r=>since1_spec (cCt R p (some ⟨b,0,none⟩) k) x v w _ _ _ _ _ _ _ rfl _ (by repeat (first | exact qH _ | apply qT)) (by repeat (first | exact qH _ | apply qT)) (fun r2=>hfi _ b k ⟨hR.sub (fun _ h=>by repeat (first | exact h | apply qT)),SlE.ofRow (l:=plcs R) (by repeat (first | exact qH _ | apply qT)) (fun _ _=>rfl)⟩ hbk (fun _ h=>by repeat (first | exact h | apply qT)))) hz) ?_;rintro _ _ ⟨rfl,rfl⟩)|(refine uE (uX rfl rfl rfl) rfl rfl ?_)|(refine uE (uM rfl rfl) rfl rfl ?_)|(refine uE (uA rfl rfl) rfl rfl ?_)|(refine uE (uL rfl rfl (uO (te rfl) rfl (qT _ (qH _)) rfl)) rfl rfl ?_)|(refine uE (uL rfl rfl (uW (te rfl) rfl (qT _ (qT _ (qH _))) rfl)) rfl rfl ?_)|(refine Xg.st (StF.boxAgg rfl rfl) rfl rfl ?_;rintro _ _ ⟨bx,rfl,rfl⟩)|(refine Xg.st (StF.boxOne rfl rfl rfl) rfl rfl ?_;rintro _ _ ⟨bx,rfl,rfl⟩)))))|(refine uD rfl ?_;refine hK _ _ ?_;clear hK K) | refine uS rfl ?_ | refine uR rfl (fun K hK=>?_) | refine X.ret rfl ?_)
  exact ret_two (by simp) Tryz.results58 rfl rfl (H' := H) (by (repeat (first | exact qR _ | apply qC));done) ⟨rfl,rfl⟩
 ·have hF : sinF R x f = (0,e):=by unfold sinF;rw [if_neg (by rw [he];exact h0),he]
  rw [hF]
  refine Fc.mk (callable Tryz.call58) Tryz.func58 rfl Tryz.ntmps58 rfl ?_;dsimp only [fr]
  repeat' (first | (refine uP rfl ?_;(first | ((first | refine uN rfl ?_);(first | (refine Xg.st (StF.buildOne (v0 := .int .i64 x) rfl el55 rfl rfl rfl (by decide) (by decide)) rfl rfl ?_;rintro _ _ ⟨b1,rfl,rfl⟩)|(refine uE (EvF.build (cs:=cBt ⟨[x],some ⟨b1,0,none⟩,1,[],none,0⟩) rfl (ArgsP.cons rfl ArgsP.nil) (te rfl) (Places.cons (te rfl) (Places.cons (te rfl) Places.nil)) Tryz.zeroValue83 rfl) rfl rfl ?_)|(refine uC (uT rfl (Args.cons rfl (Args.cons rfl Args.nil))) rfl rfl (openN (hR.sub (fun _ h=>by repeat (first | exact h | apply qT))) (hbt _ b1 (qH _)) h2 he h0) ?_;rintro _ H9 ⟨rfl,hH9⟩;subst H9)|(refine Xg.st (StF.alloc rfl Tryz.zeroValue79 rfl) rfl rfl ?_;rintro _ _ ⟨b8,rfl,rfl⟩)|(refine Xg.st0 (StF.storeAll (i:=0) (vs:=zCt) rfl rfl rfl (te rfl) rfl rfl rfl rfl) rfl ?_;rintro _ _ ⟨rfl,rfl⟩;dsimp only [List.set])|(refine uE (uL rfl rfl (uW (T:=79) (cs:=zCt) (te rfl) rfl (qH _) rfl)) rfl rfl ?_)|(refine uE (EvF.makeFunc (fl:=[]) rfl Args.nil (Args.cons rfl (Args.cons rfl Args.nil))) rfl rfl ?_)|(refine uC (uT rfl (Args.cons rfl (Args.cons rfl (Args.cons rfl (Args.cons rfl Args.nil))))) rfl rfl (told0_spec zCt e 6 _ h0 rfl _) ?_;rintro _ _ ⟨rfl,rfl⟩)|(refine uE (uX rfl rfl rfl) rfl rfl ?_)|(refine uE (uM rfl rfl) rfl rfl ?_)|(refine uE (uA rfl rfl) rfl rfl ?_)|(refine uE (uL rfl rfl (uO (te rfl) rfl (qT _ (qH _)) rfl)) rfl rfl ?_)|(refine uE (uL rfl rfl (uW (te rfl) rfl (qT _ (qT _ (qH _))) rfl)) rfl rfl ?_)|(refine Xg.st (StF.boxAgg rfl rfl) rfl rfl ?_;rintro _ _ ⟨bx,rfl,rfl⟩)|(refine Xg.st (StF.boxOne rfl rfl rfl) rfl rfl ?_;rintro _ _ ⟨bx,rfl,rfl⟩)))))|(refine uD rfl ?_;refine hK _ _ ?_;clear hK K) | refine uS rfl ?_ | refine uR rfl (fun K hK=>?_) | refine X.ret rfl ?_)
  all_goals try (exfalso;omega)
  exact ret_two (by simp) Tryz.results58 rfl rfl (H' := H) (by (repeat (first | exact qR _ | apply qC));done) ⟨rfl,rfl⟩
set_option maxHeartbeats 4000000 in
theorem kPerhaps_spec (R : Rm) (p : Pl) (x n : Int) (H : List Row) (hR : RmOk H R p) (h2 : R.boxes.length ≤ 1000000) : Fc Tryz.prog 20 [.agg (cRm R p).toArray,.int .i64 x,.int .i64 n] H (fun v H' => v = .tuple #[.int .i64 (sinF R x (sinS false n)).1,.int .i64 (sinF R x (sinS false n)).2]∧H' = H):=by
 have hks:=fun b H' hR' hm=>ksince_spec R p x 59 [.pointer (some ⟨b,0,none⟩)] (sinS false n) H' hR' h2 (fun s H'' hs=>perhaps1_spec s n b (some 3) 1 H'' (hs _ hm))
 obtain ⟨⟨y1,y2⟩,hy⟩ : ∃ y,y = sinF R x (sinS false n):=⟨_,rfl⟩
 rw [← hy] at hks ⊢
 clear hy
 refine Fc.mk (callable Tryz.call20) Tryz.func20 rfl Tryz.ntmps20 rfl ?_;dsimp only [fr]
 repeat' (first | (refine uP rfl ?_;(first | ((first | refine uN rfl ?_);(first | (refine uE (EvF.makeFunc (fl:=[]) rfl Args.nil (Args.cons rfl Args.nil)) rfl rfl ?_)|(refine uC (uT rfl (Args.cons rfl (Args.cons rfl (Args.cons rfl Args.nil)))) rfl rfl (hks _ _ (hR.sub (fun _ h=>by repeat (first | exact h | apply qT))) (qH _)) ?_;rintro _ H9 ⟨rfl,hH9⟩;subst H9)|(refine uE (uX rfl rfl rfl) rfl rfl ?_)|(refine uE (uM rfl rfl) rfl rfl ?_)|(refine uE (uA rfl rfl) rfl rfl ?_)|(refine uE (uL rfl rfl (uW (te rfl) rfl (qT _ (qH _)) rfl)) rfl rfl ?_)|(refine Xg.st (StF.boxAgg rfl rfl) rfl rfl ?_;rintro _ _ ⟨bx,rfl,rfl⟩)|(refine Xg.st (StF.boxOne rfl rfl rfl) rfl rfl ?_;rintro _ _ ⟨bx,rfl,rfl⟩)))))|(refine uD rfl ?_;refine hK _ _ ?_;clear hK K) | refine uS rfl ?_ | refine uR rfl (fun K hK=>?_) | refine X.ret rfl ?_)
 exact ret_two (by simp) Tryz.results20 rfl rfl (H' := H) (by repeat (first | exact qR _ | apply qK | apply qC)) ⟨rfl,rfl⟩
set_option maxHeartbeats 4000000 in
theorem kSurely_spec (R : Rm) (p : Pl) (x n : Int) (H : List Row) (hR : RmOk H R p) (h2 : R.boxes.length ≤ 1000000) : Fc Tryz.prog 21 [.agg (cRm R p).toArray,.int .i64 x,.int .i64 n] H (fun v H' => v = .tuple #[.int .i64 (sinF R x (sinS true n)).1,.int .i64 (sinF R x (sinS true n)).2]∧H' = H):=by
 have hks:=fun b H' hR' hm=>ksince_spec R p x 60 [.pointer (some ⟨b,0,none⟩)] (sinS true n) H' hR' h2 (fun s H'' hs=>surely1_spec s n b (some 3) 1 H'' (hs _ hm))
 obtain ⟨⟨y1,y2⟩,hy⟩ : ∃ y,y = sinF R x (sinS true n):=⟨_,rfl⟩
 rw [← hy] at hks ⊢
 clear hy
 refine Fc.mk (callable Tryz.call21) Tryz.func21 rfl Tryz.ntmps21 rfl ?_;dsimp only [fr]
 repeat' (first | (refine uP rfl ?_;(first | ((first | refine uN rfl ?_);(first | (refine uE (EvF.makeFunc (fl:=[]) rfl Args.nil (Args.cons rfl Args.nil)) rfl rfl ?_)|(refine uC (uT rfl (Args.cons rfl (Args.cons rfl (Args.cons rfl Args.nil)))) rfl rfl (hks _ _ (hR.sub (fun _ h=>by repeat (first | exact h | apply qT))) (qH _)) ?_;rintro _ H9 ⟨rfl,hH9⟩;subst H9)|(refine uE (uX rfl rfl rfl) rfl rfl ?_)|(refine uE (uM rfl rfl) rfl rfl ?_)|(refine uE (uA rfl rfl) rfl rfl ?_)|(refine uE (uL rfl rfl (uW (te rfl) rfl (qT _ (qH _)) rfl)) rfl rfl ?_)|(refine Xg.st (StF.boxAgg rfl rfl) rfl rfl ?_;rintro _ _ ⟨bx,rfl,rfl⟩)|(refine Xg.st (StF.boxOne rfl rfl rfl) rfl rfl ?_;rintro _ _ ⟨bx,rfl,rfl⟩)))))|(refine uD rfl ?_;refine hK _ _ ?_;clear hK K) | refine uS rfl ?_ | refine uR rfl (fun K hK=>?_) | refine X.ret rfl ?_)
 exact ret_two (by simp) Tryz.results21 rfl rfl (H' := H) (by repeat (first | exact qR _ | apply qK | apply qC)) ⟨rfl,rfl⟩
end Go.Proofs.YtmfppdpkalelhaaGreat
end
section
set_option linter.unusedVariables false
set_option linter.unusedSimpArgs false
namespace Go.Proofs.YtmfppdpkalelhaaGreat
open Go Go.Fw
set_option maxRecDepth 10000
def RE : Rm:=roomE [mt1]
def RO : Rm:=roomE [mt1,mt2]
theorem okRE : roomOk RE:=by decide
theorem okRO : roomOk RO:=by decide
theorem eE {l t : List Int} (hl : ∀ a ∈ l,a = 1∨a = 2) (ht : ∀ m ∈ t,0 ≤ m∧m ≤ 3∧(2 ∈ l → 1 ≤ m)) : openE RE l t = 0:=by
 unfold openE
 have h2 : allThere RE l:=fun a ha=>by
  rcases hl a ha with rfl | rfl
  ·exact ⟨⟨1,0⟩,List.mem_cons_self,rfl⟩
  ·exact ⟨⟨2,1⟩,List.mem_cons_of_mem _ List.mem_cons_self,rfl⟩
 have h3 : inTime RE l t:=fun m hm=>by
  have:=ht m hm
  refine ⟨⟨by omega,by show m ≤ 4 - 1;omega⟩,?_⟩
  rintro ⟨b,hb,hb1,hb2⟩
  rcases List.mem_cons.1 hb with rfl | hb
  ·have : (0 : Int) > m:=hb1;omega
  ·rcases List.mem_cons.1 hb with rfl | hb
   ·have h4 : (1 : Int) > m:=hb1
    have:=this.2.2 hb2;omega
   ·exact absurd hb List.not_mem_nil
 rw [if_pos okRE,if_pos h2,if_pos h3,if_pos (show hasT RE RE.mats from hasE [mt1])]
theorem eE1 (m : Int) (h : 0 ≤ m∧m ≤ 3) : openE RE [1] [m] = 0:=eE (fun a ha => .inl (List.mem_singleton.1 ha)) (fun q hq=>by rw [List.mem_singleton.1 hq];exact ⟨h.1,h.2,fun h=>by simp at h⟩)
theorem eE12 (l : List Int) (hl : ∀ a ∈ l,a = 1∨a = 2) (m : Int) (h : 1 ≤ m∧m ≤ 3) : openE RE l [m] = 0:=eE hl (fun q hq=>by rw [List.mem_singleton.1 hq];exact ⟨by omega,h.2,fun _=>h.1⟩)
theorem two12 : ∀ a ∈ [(1 : Int),2],a = 1∨a = 2:=by decide
theorem two21 : ∀ a ∈ [(2 : Int),1],a = 1∨a = 2:=by decide
theorem vYel : yelF RE 1 3 = (⟨4,12⟩,0):=by
 unfold yelF
 rw [if_pos (eE1 3 (by omega)),show rng RE RE.mats ⟨1,3⟩ zp = ⟨4,12⟩ from r13 [mt1]]
theorem vDif : difF RE 1 2 3 = (⟨-2,10⟩,0):=by
 unfold difF
 rw [if_pos (eE12 _ two12 3 (by omega)),if_neg (by decide),show rng RE RE.mats ⟨1,3⟩ ⟨2,3⟩ = ⟨-2,10⟩ from d3 [mt1]]
theorem vKno : knP (yelF RE 1 3) 12 = (1,0):=by rw [vYel];rfl
theorem vOrd : knP (difF RE 2 1 2) 0 = (0,0):=by
 have : difF RE 2 1 2 = (⟨-5, -3⟩,0):=by
  unfold difF
  rw [if_pos (eE12 _ two21 2 (by omega)),if_neg (by decide),show rng RE RE.mats ⟨2,2⟩ ⟨1,2⟩ = ⟨-5, -3⟩ from d2' [mt1]]
 rw [this];rfl
open Classical in
theorem sE {f : Sp → Bool} {k : Nat} {s : Sp} (hk : k ≤ 3) (h : rng RE [mt1] ⟨1,(k : Int)⟩ zp = s) : sinP RE 1 f k = f s:=by
 unfold sinP
 rw [decide_eq_true ⟨⟨1,0⟩,thereE1 ⟨by omega,by omega⟩,rfl⟩,Bool.true_and,show RE.mats = [mt1] from rfl,h]
theorem vSin {f : Sp → Bool} (h0 : f ⟨0,0⟩ = false) (h1 : f ⟨1,4⟩ = false) (h2 : f ⟨4,8⟩ = true) : sinF RE 1 f = (2,0):=by
 have e0 : sinP RE 1 f 0 = false:=(sE (k:=0) (by omega) (r10 [mt1])).trans h0
 have e1 : sinP RE 1 f 1 = false:=(sE (k:=1) (by omega) (r11 [mt1])).trans h1
 have e2 : sinP RE 1 f 2 = true:=(sE (k:=2) (by omega) (r12 [mt1])).trans h2
 unfold sinF
 rw [if_pos (eE (fun a ha => .inl (List.mem_singleton.1 ha)) (fun m hm=>absurd hm List.not_mem_nil))]
 have : fstM (sinP RE 1 f) 0 4 = some 2:=by simp [fstM,e0,e1,e2]
 rw [show RE.months.toNat = 4 from rfl,this]
 rfl
theorem vPer : sinF RE 1 (sinS false 8)=(2,0):=vSin (by decide) (by decide) (by decide)
theorem vSur : sinF RE 1 (sinS true 4)=(2,0):=vSin (by decide) (by decide) (by decide)
theorem filt2 (P : Bx → Bool) : (([⟨1,0⟩,⟨2,1⟩] : List Bx).filter P).map (·.id)=(if P ⟨1,0⟩ = true then [1] else [])++(if P ⟨2,1⟩ = true then [2] else []):=by
 cases h1 : P ⟨1,0⟩ <;> cases h2 : P ⟨2,1⟩ <;> simp [List.filter,h1,h2]
theorem dE {k : Nat} {s t : Sp} (h1 : rng RE [mt1] ⟨1,(k : Int)⟩ zp = s) (h2 : 1 ≤ k → rng RE [mt1] ⟨2,(k : Int)⟩ zp = t) : dueL RE 7 k = (if 7 < s.hi then [1] else [])++(if 1 ≤ k∧7 < t.hi then [2] else []):=by
 unfold dueL
 show (([⟨1,0⟩,⟨2,1⟩] : List Bx).filter _).map _ = _
 rw [filt2]
 dsimp only
 rw [show RE.mats = [mt1] from rfl,h1]
 congr 1
 ·simp
 ·by_cases hk : 1 ≤ k
  ·rw [h2 hk]
   have : (1 : Int)≤k:=by omega
   simp [hk,this]
  ·have : ¬ (1 : Int)≤k:=by omega
   simp [hk,this]
theorem vDue : dueF RE 7 = (2,[1],0):=by
 unfold dueF
 rw [if_pos (eE (fun a ha=>absurd ha List.not_mem_nil) (fun m hm=>absurd hm List.not_mem_nil))]
 have e0 : dueL RE 7 0 = []:=(dE (k:=0) (t:=⟨0,0⟩) (r10 [mt1]) (fun h=>by omega)).trans (by decide)
 have e1 : dueL RE 7 1 = []:=(dE (k:=1) (r11 [mt1]) (fun _=>r21 [mt1])).trans (by decide)
 have e2 : dueL RE 7 2 = [1]:=(dE (k:=2) (r12 [mt1]) (fun _=>r22 [mt1])).trans (by decide)
 show dueS (dueL RE 7) 0 4 = _
 simp [dueS,e0,e1,e2]
theorem thE {m : Int} (h : 1 ≤ m) : thI RE m = [1,2]:=by
 unfold thI
 show (([⟨1,0⟩,⟨2,1⟩] : List Bx).filter _).map _ = _
 rw [filt2]
 dsimp only
 rw [if_pos (decide_eq_true (by omega)),if_pos (decide_eq_true h)]
 rfl
theorem selfE (q : Pk) : rng RE [mt1] q q = ⟨0,0⟩:=exE (fun z _=>by dsimp only;omega) ⟨_,loE [mt1],by dsimp only;omega⟩ ⟨_,loE [mt1],by dsimp only;omega⟩
theorem vFre : freF RE 2 = ([2],0):=by
 unfold freF
 rw [if_pos (eE (fun a ha=>absurd ha List.not_mem_nil) (fun m hm=>by rw [List.mem_singleton.1 hm];exact ⟨by omega,by omega,fun h=>absurd h List.not_mem_nil⟩))]
 have s1 : stale RE 2 1 = true:=by
  unfold stale
  rw [thE (by omega),show RE.mats = [mt1] from rfl]
  simp [selfE,show rng RE [mt1] ⟨1,2⟩ ⟨2,2⟩ = ⟨3,5⟩ from d2 [mt1]]
 have s2 : stale RE 2 2 = false:=by
  unfold stale
  rw [thE (by omega),show RE.mats = [mt1] from rfl]
  simp [selfE,show rng RE [mt1] ⟨2,2⟩ ⟨1,2⟩ = ⟨-5, -3⟩ from d2' [mt1]]
 unfold freL
 rw [thE (by omega)]
 simp [List.filter,s1,s2]
theorem vAsk : askF RE 3 = ((1,2,12),0):=by
 unfold askF
 rw [if_pos (eE (fun a ha=>absurd ha List.not_mem_nil) (fun m hm=>by rw [List.mem_singleton.1 hm];exact ⟨by omega,by omega,fun h=>absurd h List.not_mem_nil⟩)),thE (by omega),if_neg (by decide)]
 have w : wid2 RE 3 1 2 = 12:=by
  unfold wid2
  rw [show rng RE RE.mats ⟨1,3⟩ ⟨2,3⟩ = ⟨-2,10⟩ from d3 [mt1]]
  rfl
 simp [askO,askI,w]
theorem pN0 : prvM RE ⟨1,2⟩ ⟨4,8⟩ [] = false:=by
 unfold prvM
 rw [show rng RE [] ⟨1,2⟩ zp = ⟨2,8⟩ from f12 [mt1]]
 exact decide_eq_false (by intro h;cases h)
theorem pN1 : prvM RE ⟨1,2⟩ ⟨4,8⟩ [mt1] = true:=by
 unfold prvM
 rw [show rng RE [mt1] ⟨1,2⟩ zp = ⟨4,8⟩ from r12 [mt1]]
 exact decide_eq_true rfl
theorem vWhy : whyF RE 1 2 = ([1],0):=by
 unfold whyF
 rw [if_pos (eE1 2 (by omega))]
 have h0 : prvN RE ⟨1,2⟩ ⟨4,8⟩ [] = false:=pN0
 have h1 : prvN RE ⟨1,2⟩ ⟨4,8⟩ [1] = true:=pN1
 unfold whyL
 rw [show rng RE RE.mats ⟨1,2⟩ zp = ⟨4,8⟩ from r12 [mt1],show RE.mats.map (·.number) = [1] from rfl,show RE.mats.length + 1 = 2 from rfl]
 simp [fewG,lonG,h0,h1]
theorem vRst : rstF RE 1 2 = ([1],0):=by
 unfold rstF
 rw [if_pos (eE1 2 (by omega))]
 unfold rstL
 rw [show rng RE RE.mats ⟨1,2⟩ zp = ⟨4,8⟩ from r12 [mt1]]
 have h0 : prvM RE ⟨1,2⟩ ⟨4,8⟩ (outM [mt1] [mt1.number]) = false:=pN0
 show (([mt1].filter _).map _,_)=_
 rw [List.filter_cons_of_pos (by show (!prvM RE ⟨1,2⟩ ⟨4,8⟩ (outM [mt1] [mt1.number])) = true;rw [h0];rfl)]
 rfl
theorem vCan : canF RO = .tuple #[.bool false,.int .i64 0]:=by
 unfold canF
 rw [if_pos okRO,decide_eq_false (show ¬ hasT RO RO.mats from oddE [mt1,mt2])]
theorem vWrg : wrgF RO = ([1],0):=by
 unfold wrgF
 rw [if_pos okRO]
 have h0 : okW RO [] = false:=by unfold okW;exact decide_eq_false (oddE [mt1,mt2])
 have h1 : okW RO [1] = true:=by unfold okW;exact decide_eq_true (odd2E [mt1,mt2])
 rw [show RO.mats.map (·.number) = [1,2] from rfl]
 simp [fewG,lonG,h0,h1]
end Go.Proofs.YtmfppdpkalelhaaGreat
end
