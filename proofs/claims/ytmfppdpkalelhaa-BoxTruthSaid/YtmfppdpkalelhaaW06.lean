/- Own work: contracts of functions, from rows of what is known of the memory; contracts of functions, from rows of what is known of the memory; contracts of functions, from rows of what is known of the memory; contracts of functions, from rows of what is known of the memory; The reference: differ.; contracts of functions, from rows of what is known of the memory; contracts of functions, from rows of what is known of the memory; contracts of functions, from rows of what is known of the memory; contracts of functions, from rows of what is known of the memory; contracts of functions, from rows of what is known of the memory; contracts of functions, from rows of what is known of the memory; contracts of functions, from rows of what is known of the memory; contracts of functions, from rows of what is known -/
import Derived.Test.YtmfppdpkalelhaaW05
set_option linter.unusedVariables false
set_option linter.unusedSimpArgs false
namespace Go.Proofs.Ytmfppdpkalelhaa
open Go Go.Fw
set_option maxRecDepth 10000
theorem inj2 : ∀ (a b m n : Nat),2 ^ a * (2 * m + 1)=2 ^ b * (2 * n + 1) → a = b∧m = n
 | 0,0,m,n,h=>by simp only [Nat.pow_zero,Nat.one_mul] at h;exact ⟨rfl,by omega⟩
 | 0,b + 1,m,n,h=>by
  rw [Nat.pow_succ,Nat.mul_comm (2 ^ b) 2,Nat.mul_assoc] at h
  simp only [Nat.pow_zero,Nat.one_mul] at h
  omega
 | a + 1,0,m,n,h=>by
  rw [Nat.pow_succ,Nat.mul_comm (2 ^ a) 2,Nat.mul_assoc] at h
  simp only [Nat.pow_zero,Nat.one_mul] at h
  omega
 | a + 1,b + 1,m,n,h=>by
  rw [Nat.pow_succ,Nat.mul_comm (2 ^ a) 2,Nat.mul_assoc,Nat.pow_succ,Nat.mul_comm (2 ^ b) 2,Nat.mul_assoc] at h
  obtain ⟨h1,h2⟩:=inj2 a b m n (by omega)
  exact ⟨by omega,h2⟩
def eI (i : Int) : Nat:=if 0 ≤ i then 2 * i.toNat else 2 * (-i).toNat + 1
theorem eI_inj {i j : Int} (h : eI i = eI j) : i = j:=by unfold eI at h;split at h <;> split at h <;> omega
def eSp (s : Sp) : Nat:=2 ^ eI s.lo * (2 * eI s.hi + 1)
theorem eSp_inj {s t : Sp} (h : eSp s = eSp t) : s = t:=by
 obtain ⟨h1,h2⟩:=inj2 _ _ _ _ h
 cases s;cases t
 have:=eI_inj h1
 have:=eI_inj h2
 simp_all
def eLs : List Sp → Nat
 | []=>0
 | s::l=>2 ^ eSp s * (2 * eLs l + 1)
theorem eLs_inj : ∀ (l r : List Sp),eLs l = eLs r → l = r
 | [],[],_=>rfl
 | [],s::r,h=>by
  have : 0 < 2 ^ eSp s:=Nat.pow_pos (by omega)
  have : 0 < 2 ^ eSp s * (2 * eLs r + 1):=Nat.mul_pos this (by omega)
  unfold eLs at h;omega
 | s::l,[],h=>by
  have : 0 < 2 ^ eSp s:=Nat.pow_pos (by omega)
  have : 0 < 2 ^ eSp s * (2 * eLs l + 1):=Nat.mul_pos this (by omega)
  unfold eLs at h;omega
 | s::l,t::r,h=>by
  obtain ⟨h1,h2⟩:=inj2 _ _ _ _ h
  rw [eSp_inj h1,eLs_inj l r h2]
theorem drawn {α : Type} (e : α → Nat) (inj : ∀ a b,e a = e b → a = b) (Φ : α → Prop) (h : ∃ a,Φ a) : ∃ d : Nat → α,(∀ n,Φ (d n)) ∧ ∀ a,Φ a → ∃ n,d n = a:=by
 classical
 obtain ⟨a0,h0⟩:=h
 refine ⟨fun n=>if q : ∃ a,Φ a∧e a = n then q.choose else a0,fun n=>?_,fun a ha=>⟨e a,?_⟩⟩
 ·dsimp only
  split
  ·rename_i q;exact q.choose_spec.1
  ·exact h0
 ·have q : ∃ b,Φ b∧e b = e a:=⟨a,ha,rfl⟩
  dsimp only
  rw [dif_pos q]
  exact inj _ _ q.choose_spec.2
open Classical in
noncomputable def chartOf (R : Rm) (f : Bx → Int → Sp) : List Sp:=(List.range 48).map (fun k=>if h : ∃ q : Bx × Int,there R q.1 q.2∧cel R ⟨q.1.id,q.2⟩ = k then f h.choose.1 h.choose.2 else ⟨0,0⟩)
theorem chartOf_len (R : Rm) (f : Bx → Int → Sp) : (chartOf R f).length = 48:=by unfold chartOf;simp
theorem chartOf_get {R : Rm} {f : Bx → Int → Sp} {k : Nat} (h : k < 48) : ∃ s,sat (chartOf R f) k = s∧((∃ b m,there R b m∧cel R ⟨b.id,m⟩ = k∧s = f b m)∨s = ⟨0,0⟩):=by
 refine ⟨_,rfl,?_⟩
 unfold sat chartOf
 rw [List.getD_eq_getElem?_getD,List.getElem?_map,List.getElem?_range h]
 simp only [Option.map_some,Option.getD_some]
 split
 ·rename_i q;exact .inl ⟨_,_,q.choose_spec.1,q.choose_spec.2,rfl⟩
 ·exact .inr rfl
theorem chartOf_at {R : Rm} (hr : okRm R) {f : Bx → Int → Sp} {b : Bx} {m : Int} (ht : there R b m) : sat (chartOf R f) (cel R ⟨b.id,m⟩) = f b m:=by
 unfold sat chartOf
 rw [List.getD_eq_getElem?_getD,List.getElem?_map,List.getElem?_range (cel_lt hr ht)]
 simp only [Option.map_some,Option.getD_some]
 have q : ∃ q : Bx × Int,there R q.1 q.2∧cel R ⟨q.1.id,q.2⟩ = cel R ⟨b.id,m⟩:=⟨(b,m),ht,rfl⟩
 rw [dif_pos q]
 obtain ⟨h1,h2⟩:=cel_inj hr q.choose_spec.1 ht q.choose_spec.2
 rw [h1,h2]
theorem chartOf_ok {R : Rm} {f : Bx → Int → Sp} (h : ∀ b m,there R b m → 0 ≤ (f b m).lo∧(f b m).lo ≤ (f b m).hi∧(f b m).hi ≤ 60) (k : Nat) : 0 ≤ (sat (chartOf R f) k).lo∧(sat (chartOf R f) k).lo ≤ (sat (chartOf R f) k).hi∧(sat (chartOf R f) k).hi ≤ 60:=by
 by_cases hk : k < 48
 ·obtain ⟨s,h1,h2⟩:=chartOf_get (R:=R) (f:=f) hk
  rw [h1]
  rcases h2 with ⟨b,m,ht,_,rfl⟩ | rfl
  ·exact h b m ht
  ·exact ⟨by decide,by decide,by decide⟩
 ·have : sat (chartOf R f) k = ⟨0,0⟩:=by
   unfold sat
   rw [List.getD_eq_getElem?_getD,List.getElem?_eq_none (by rw [chartOf_len];omega)]
   rfl
  rw [this]
  exact ⟨by decide,by decide,by decide⟩
theorem first_ex {R : Rm} (hr : okRm R) : ∃ l,FirstC R l:=⟨chartOf R (fun b m=>R.ages.getD (m - b.made).toNat ⟨0,0⟩),chartOf_len _ _,fun b m ht=>chartOf_at hr ht,chartOf_ok (fun b m ht=>hr.age ht)⟩
/-- what is known by all matches -/
structure Fd (R : Rm) (x : List Sp × Bool) : Prop where
 len : x.1.length = 48
 yes : x.2 = true → hasT R R.mats∧GoodC R R.mats x.1 ∧ ∀ b m,there R b m → ExR R R.mats ⟨b.id,m⟩ zp (sat x.1 (cel R ⟨b.id,m⟩))
 no : x.2 = false → ¬ hasT R R.mats
theorem ex_mem {R : Rm} (hr : okRm R) (hm : matsThere R R.mats) (hT : hasT R R.mats) {a b : Pk} (ha : a ∈ plcs R) (hb : b ∈ plcs R) : ExR R R.mats a b (rng R R.mats a b):=by
 obtain ⟨tx,htx⟩:=(hasT_iff hr hm (pidx_lt ha)).1 hT
 obtain ⟨ty,hty⟩:=(hasT_iff hr hm (pidx_lt hb)).1 hT
 exact (most_rng hr ha hb (most_some hr hm (pidx_lt hb) hty) (most_some hr hm (pidx_lt ha) htx)).rng
theorem fd_ex {R : Rm} (hr : okRm R) (hm : matsThere R R.mats) : ∃ x,Fd R x:=by
 by_cases hT : hasT R R.mats
 ·have hx : ∀ b m,there R b m → ExR R R.mats ⟨b.id,m⟩ zp (rng R R.mats ⟨b.id,m⟩ zp):=fun b m ht=>ex_mem hr hm hT (plcs_mem ht) (zp_mem R)
  have hx2 : ∀ b m,there R b m → (R.ages.getD (m - b.made).toNat ⟨0,0⟩).lo ≤ (rng R R.mats ⟨b.id,m⟩ zp).lo∧(rng R R.mats ⟨b.id,m⟩ zp).hi ≤ (R.ages.getD (m - b.made).toNat ⟨0,0⟩).hi∧(rng R R.mats ⟨b.id,m⟩ zp).lo ≤ (rng R R.mats ⟨b.id,m⟩ zp).hi:=fun b m ht=>by
   obtain ⟨z1,t1,e1⟩:=(hx b m ht).lo
   obtain ⟨z2,t2,e2⟩:=(hx b m ht).hi
   have a1:=t1.age b m ht
   have a2:=t2.age b m ht
   have a3:=(hx b m ht).all z2 t2
   rw [t1.zero] at e1
   rw [t2.zero] at e2 a3
   omega
  obtain ⟨l,hl,hat,hok⟩ : ∃ l : List Sp,l.length = 48∧(∀ b m,there R b m → sat l (cel R ⟨b.id,m⟩) = rng R R.mats ⟨b.id,m⟩ zp) ∧ ∀ k,0 ≤ (sat l k).lo∧(sat l k).lo ≤ (sat l k).hi∧(sat l k).hi ≤ 60 :=
   ⟨chartOf R (fun b m=>rng R R.mats ⟨b.id,m⟩ zp),chartOf_len _ _,fun b m ht=>chartOf_at hr ht,chartOf_ok (fun b m ht=>by
    have h1:=hx2 b m ht
    have h2:=hr.age ht
    omega)⟩
  refine ⟨(l,true),hl,fun _=>⟨hT,⟨hl,fun b m ht=>?_,fun z hz b m ht=>?_,hok⟩,fun b m ht=>?_⟩,fun h=>by cases h⟩
  ·show _ ≤ (sat l _).lo∧(sat l _).hi ≤ _∧(sat l _).lo ≤ (sat l _).hi
   rw [hat b m ht];exact hx2 b m ht
  ·show holds (sat l _) _
   rw [hat b m ht]
   have:=(hx b m ht).all z hz
   rw [hz.zero] at this
   unfold holds
   omega
  ·show ExR R R.mats _ zp (sat l _)
   rw [hat b m ht];exact hx b m ht
 ·exact ⟨(List.replicate 48 ⟨0,0⟩,false),by simp,(fun h=>by cases h),fun _=>hT⟩
theorem Fd.yes_of {R : Rm} {c l : List Sp} (hr : okRm R) (hm : matsThere R R.mats) (hf : FirstC R c) (h : ClosedT R R.mats c l) : Fd R (l,true) :=
 ⟨h.len,fun _=>⟨⟨_,h.fix.zlo hr hm (h.ages (hf.ages hr))⟩,h.good (hf.good hr),fun b m ht=>h.ex hr hm (hf.ages hr) hf.inn ht⟩,fun h=>by cases h⟩
theorem Fd.no_of {R : Rm} {c l : List Sp} (hf : FirstC R c) (hl : l.length = 48) (h : ∀ z,Tru R R.mats z → ¬ Inn R c z) : Fd R (l,false) :=
 ⟨hl,(fun h=>by cases h),fun _ ⟨z,hz⟩=>h z hz (hf.inn z hz)⟩
def eX (x : List Sp × Bool) : Nat:=2 * eLs x.1 + (if x.2 then 1 else 0)
theorem eX_inj (a b : List Sp × Bool) (h : eX a = eX b) : a = b:=by
 obtain ⟨a,p⟩:=a
 obtain ⟨b,q⟩:=b
 unfold eX at h
 dsimp only at h
 have h1 : p = q:=by cases p <;> cases q <;> simp_all <;> omega
 subst h1
 rw [eLs_inj a b (by omega)]
theorem Fd.dec {R : Rm} {x : List Sp × Bool} (h : Fd R x) : x.2 = decide (hasT R R.mats):=by
 by_cases q : hasT R R.mats
 ·rw [decide_eq_true q]
  cases e : x.2
  ·exact absurd q (h.no e)
  ·rfl
 ·rw [decide_eq_false q]
  cases e : x.2
  ·rfl
  ·exact absurd (h.yes e).1 q
theorem Fd.len96 {R : Rm} {x : List Sp × Bool} (h : Fd R x) : (x.1.flatMap cSp).length = 96:=by rw [sp_len,h.len]
def tsFo : List TOp:=[⟨some 4,[],[],[]⟩,⟨some 5,[],[],[]⟩,⟨some 6,[1],[1],[]⟩,⟨some 7,[],[],[]⟩,⟨some 8,[3],[3],[]⟩,⟨some 9,[0,1,2,3,4],[0,2,4],[]⟩,⟨some 10,[0,1,2,3,4,5],[5],[]⟩,⟨some 11,[0,1,2,3,4,5],[5],[]⟩,⟨none,[0,1,2,3,4,5,6,7],[6],[10]⟩,⟨some 3,[0,1,2,3,4,5,6,7,8],[7],[]⟩,⟨none,[],[],[]⟩]
def valFo (b1 b2 : Nat) (R : Rm) (p : Pl) (dc : Nat → List Sp) (dx : Nat → List Sp × Bool) (k : Nat) (env : Env) : Value :=
 match k with
 | 0 => .agg (cRm R p).toArray
 | 1 => .pointer (some ⟨b1,4,none⟩)
 | 2 => .slice p.a3 R.mats.length p.c3
 | 3 => .agg (cRm R p).toArray
 | 4 => .agg ((dc (env 4).1).flatMap cSp).toArray
 | 5 => .tuple #[.agg ((dx (env 5).1).1.flatMap cSp).toArray,.bool (dx (env 5).1).2]
 | 6 => .agg ((dx (env 5).1).1.flatMap cSp).toArray
 | 7 => .bool ((dx (env 5).1).2)
 | 8=>undef
 | 9 => .bool ((dx (env 5).1).2)
 | _=>undef
def rowsFo (b1 b2 : Nat) (R : Rm) (p : Pl) (dc : Nat → List Sp) (dx : Nat → List Sp × Bool) (k : Nat) (env : Env) : List Row :=
 match k with
 | 8=>[⟨b2,0,(dx (env 5).1).1.flatMap cSp,some 104,96⟩]
 | 10=>[⟨b2,0,zRc.flatMap cSp,some 104,96⟩]
 | _=>[]
theorem locFo (b1 b2 : Nat) (R : Rm) (p : Pl) (dc : Nat → List Sp) (dx : Nat → List Sp × Bool) : ∀ k env i q9,i ≠ k → (tAt tsFo k).sup.contains i = false → valFo b1 b2 R p dc dx k (upd env i q9)=valFo b1 b2 R p dc dx k env∧rowsFo b1 b2 R p dc dx k (upd env i q9)=rowsFo b1 b2 R p dc dx k env:=by
 intro k env i q hk hs
 have hu : ∀ j,j ≠ i → upd env i q j = env j:=fun j hj=>by unfold upd;rw [if_neg hj]
 match k,hk,hs with
 | 0,_,_=>exact ⟨rfl,rfl⟩
 | 1,_,_=>exact ⟨rfl,rfl⟩
 | 2,_,_=>exact ⟨rfl,rfl⟩
 | 3,_,_=>exact ⟨rfl,rfl⟩
 | 4,hk,hs=>exact ⟨by simp only [valFo,hu 4 (fun e=>hk e.symm)],by simp only [rowsFo,hu 4 (fun e=>hk e.symm)]⟩
 | 5,hk,hs=>exact ⟨by simp only [valFo,hu 5 (fun e=>hk e.symm)],by simp only [rowsFo,hu 5 (fun e=>hk e.symm)]⟩
 | 6,hk,hs=>exact ⟨by simp only [valFo,hu 5 (by rintro rfl;cases hs)],by simp only [rowsFo,hu 5 (by rintro rfl;cases hs)]⟩
 | 7,hk,hs=>exact ⟨by simp only [valFo,hu 5 (by rintro rfl;cases hs)],by simp only [rowsFo,hu 5 (by rintro rfl;cases hs)]⟩
 | 8,hk,hs=>exact ⟨by simp only [valFo,hu 5 (by rintro rfl;cases hs)],by simp only [rowsFo,hu 5 (by rintro rfl;cases hs)]⟩
 | 9,hk,hs=>exact ⟨by simp only [valFo,hu 5 (by rintro rfl;cases hs)],by simp only [rowsFo,hu 5 (by rintro rfl;cases hs)]⟩
 | 10,_,_=>exact ⟨rfl,rfl⟩
 | _ + 11,_,_=>exact ⟨rfl,rfl⟩
set_option maxHeartbeats 4000000 in
theorem found_spec (R : Rm) (p : Pl) (H : List Row) (hr : okRm R) (hm : matsThere R R.mats) (hlm : R.mats.length ≤ 100) (hR : RmOk H R p) :
  Fc Try.prog 72 [.agg (cRm R p).toArray] H (fun v H' => ∃ x,Fd R x∧v = .tuple #[.agg (x.1.flatMap cSp).toArray,.bool x.2]∧H' = H):=by
 obtain ⟨dc,hdc1,hdc2⟩:=drawn eLs eLs_inj (FirstC R) (first_ex hr)
 obtain ⟨dx,hdx1,hdx2⟩:=drawn eX eX_inj (Fd R) (fd_ex hr hm)
 have hl96 : ∀ n,((dx n).1.flatMap cSp).length = 96:=fun n=>by rw [sp_len,(hdx1 n).len]
 have hfs : ∀ S,RmOk S R p → Fc Try.prog 117 [.agg (cRm R p).toArray] S (fun v H' => ∃ n,v = .agg ((dc n).flatMap cSp).toArray∧H' = S):=fun S hS=>(first_spec R p S hr hS).mono fun v H' ⟨l,hl,hv,hH⟩=>by
  obtain ⟨n,hn⟩:=hdc2 l hl
  exact ⟨n,by rw [hn];exact hv,hH⟩
 have hcs : ∀ n S,RmOk S R p → Fc Try.prog 80 [.agg (cRm R p).toArray,.slice p.a3 R.mats.length p.c3,.agg ((dc n).flatMap cSp).toArray] S (fun v H' => ∃ n,v = .tuple #[.agg ((dx n).1.flatMap cSp).toArray,.bool (dx n).2]∧H' = S):=fun n S hS=>(closed_spec R p R.mats p.a3 p.c3 (dc n) S hr hS hS.mats hlm hm (hdc1 _).len (hdc1 _).ok).mono fun v H' ⟨l,hH,h⟩=>by
  have hq : ∃ x,Fd R x∧v = .tuple #[.agg (x.1.flatMap cSp).toArray,.bool x.2]:=by
   rcases h with ⟨h1,hv⟩ | ⟨h1,h2,hv⟩
   ·exact ⟨(l,true),Fd.yes_of hr hm (hdc1 _) h1,hv⟩
   ·exact ⟨(l,false),Fd.no_of (hdc1 _) h1 h2,hv⟩
  obtain ⟨x,hx,hv⟩:=hq
  obtain ⟨n,hn⟩:=hdx2 x hx
  exact ⟨n,by rw [hn];exact hv,hH⟩
 refine Fc.mk (callable Try.call72) Try.func72 rfl Try.ntmps72 rfl ?_;dsimp only [fr]
 repeat' (first | (refine uP rfl ?_;(first | ((first | refine uN rfl ?_);(first | (refine uE (uA rfl rfl) rfl rfl ?_)|(refine Xg.st (StF.boxAgg rfl rfl) rfl rfl ?_;rintro _ _ ⟨bx,rfl,rfl⟩)|(refine Xg.st (StF.alloc rfl Try.zeroValue104 rfl) rfl rfl ?_;rintro _ _ ⟨bx,rfl,rfl⟩)))))|(refine uD rfl ?_;refine hK _ _ ?_;clear hK K) | refine uS rfl ?_ | refine uR rfl (fun K hK=>?_))
 rename_i b1
 generalize bx = b2
 have hRs : ∀ S : List Row,(∀ r ∈ ⟨b1,0,cRm R p,some 26,5⟩::H,r ∈ S) → RmOk S R p:=fun S hS=>hR.sub (fun r h=>hS r (List.mem_cons_of_mem _ h))
 refine X.regionOb tsFo [1,2] [(1,.pointer (some ⟨b1,0,none⟩)),(2,.pointer (some ⟨b2,0,none⟩))] (valFo b1 b2 R p dc dx) (rowsFo b1 b2 R p dc dx) (fun _=>(0,0)) (⟨b1,0,cRm R p,some 26,5⟩::H) rfl mixed (by repeat (first | exact uU _ | refine uV rfl ?_)) rfl (by kernel_rfl) (locFo b1 b2 R p dc dx) (qR _) ?_ ?_
 ·repeat' (first | exact AllF.done rfl | (refine AllF.step rfl ?_ ?_;·(first | fail | ((first | refine Ob.ng rfl ?_);(first | exact uK (fun env R hR=>by exact ⟨_,uA rfl rfl,rfl⟩) rfl (fun _=>rfl) | exact uK (fun env R hR=>by exact ⟨_,uF rfl rfl (te rfl) rfl (te rfl) (by decide),rfl⟩) rfl (fun _=>rfl) | exact uK (fun env R hR=>by exact ⟨_,uL rfl rfl (uO (te rfl) rfl (hR _ (qH _)) rfl),rfl⟩) rfl (fun _=>rfl) | exact uK (fun env R hR=>by exact ⟨_,uL rfl rfl (uW (te rfl) rfl (hR _ (qH _)) rfl),rfl⟩) rfl (fun _=>rfl)|(exact fun env S hS=>(OpF.call (uT rfl (Args.cons rfl Args.nil)) (hfs S (hRs S hS))).mono (fun v H' ⟨n,hv,hH⟩=>⟨(n,0),fun _=>hv,by rw [hH];exact List.Perm.refl _⟩))|(exact fun env S hS=>(OpF.call (uT rfl (Args.cons rfl (Args.cons rfl (Args.cons rfl Args.nil)))) (hcs (env 4).1 S (hRs S hS))).mono (fun v H' ⟨n,hv,hH⟩=>⟨(n,0),fun _=>hv,by rw [hH];exact List.Perm.refl _⟩))|(exact fun env S hS=>(uZ (i:=0) (vs:=(dx (env 5).1).1.flatMap cSp) (cs:=zRc.flatMap cSp) rfl rfl rfl (te rfl) rfl (hl96 _) (sp_one _) (by rw [hl96,sp_len];rfl)).op.mono (fun v H' ⟨hv,hH⟩=>⟨(0,0),fun h=>absurd rfl h,by rw [hH];exact List.Perm.refl _⟩))|(exact uK (fun env S hS=>⟨_,uX rfl rfl rfl,rfl⟩) rfl (fun _=>rfl)))))))
 intro env t ha2 hv;refine ⟨_,ha2.cons (hv 9 3 (Nat.le_of_ble_eq_true rfl) rfl),?_⟩;clear hv ha2
 show X _ _ _ [(3,.bool (dx (env 5).1).2),(1,.pointer (some ⟨b1,0,none⟩)),(2,.pointer (some ⟨b2,0,none⟩))] (⟨b2,0,(dx (env 5).1).1.flatMap cSp,some 104,96⟩::⟨b1,0,cRm R p,some 26,5⟩::H) _
 have hx:=hdx1 (env 5).1
 have hl:=hl96 (env 5).1
 generalize dx (env 5).1 = x at hx hl
 clear env
 repeat' (first | refine X.ret rfl ?_)
 exact ret_two (v := .agg (x.1.flatMap cSp).toArray) (by simp) Try.results72 ⟨_,rfl,uW (te rfl) rfl (qH _) hl⟩ rfl (H' := H) (by repeat (first | exact qR _ | apply qK | apply qC)) ⟨x,hx,rfl,rfl⟩
theorem true_spec (R : Rm) (p : Pl) (H : List Row) (hr : okRm R) (hm : matsThere R R.mats) (hlm : R.mats.length ≤ 100) (hR : RmOk H R p) :
  Fc Try.prog 54 [.agg (cRm R p).toArray] H (fun v H' => v = .bool (decide (hasT R R.mats))∧H' = H):=by
 refine Fc.mk (callable Try.call54) Try.func54 rfl Try.ntmps54 rfl ?_;dsimp only [fr]
 repeat' (first | (refine uP rfl ?_;(first | ((first | refine uN rfl ?_);(first | (refine uE (uL rfl rfl (uW (te rfl) rfl (qH _) rfl)) rfl rfl ?_)|(refine uC (uT rfl (by (repeat (first | exact Args.nil | refine Args.cons rfl ?_));done)) rfl rfl (found_spec R p _ hr hm hlm (hR.sub (fun _ h=>by repeat (first | exact h | apply qT)))) ?_;rintro _ _ ⟨x,hx,rfl,rfl⟩)|(refine uE (uX rfl rfl rfl) rfl rfl ?_)|(refine Xg.st0 (uZ (i:=0) (vs:=x.1.flatMap cSp) (cs:=zRc.flatMap cSp) rfl rfl rfl (te rfl) rfl hx.len96 (sp_one _) (by rw [hx.len96,sp_len];rfl)) rfl ?_;rintro _ _ ⟨rfl,rfl⟩;dsimp only [List.set])|(refine uE (uM rfl rfl) rfl rfl ?_)|(refine uE (uA rfl rfl) rfl rfl ?_)|(refine Xg.st (StF.boxAgg rfl rfl) rfl rfl ?_;rintro _ _ ⟨bx,rfl,rfl⟩)|(refine Xg.st (StF.alloc rfl Try.zeroValue104 rfl) rfl rfl ?_;rintro _ _ ⟨bx,rfl,rfl⟩)))))|(refine uD rfl ?_;refine hK _ _ ?_;clear hK K) | refine uS rfl ?_ | refine uR rfl (fun K hK=>?_) | refine X.ret rfl ?_)
 exact ret_one (v := .bool x.2) (by simp) Try.results54 rfl (H' := H) (by repeat (first | exact qR _ | apply qK | apply qC)) ⟨congrArg Value.bool hx.dec,rfl⟩
theorem rCan_spec (R : Rm) (p : Pl) (H : List Row) (hR : RmOk H R p) : Fc Try.prog 16 [.agg (cRm R p).toArray] H (fun v H' => v = canF R∧H' = H):=by
 unfold canF
 by_cases hok : roomOk R
 ·rw [if_pos hok]
  have hlm : R.mats.length ≤ 100:=by have:=hok.1.2.2.2.2.2.2;omega
  have hrs : ∀ r1,Fc Try.prog 46 [.agg (cRm R p).toArray] (r1::H) (fun v H' => v = .bool true∧H' = r1::H):=fun r1=>by
   have:=room_spec R p (r1::H) (hR.sub (fun _ h=>qT _ h))
   rwa [decide_eq_true hok] at this
  refine Fc.mk (callable Try.call16) Try.func16 rfl Try.ntmps16 rfl ?_;dsimp only [fr]
  repeat' (first | (refine uP rfl ?_;(first | ((first | refine uN rfl ?_);(first | (refine uE (uL rfl rfl (uW (te rfl) rfl (qH _) rfl)) rfl rfl ?_)|(refine uC (uT rfl (Args.cons rfl Args.nil)) rfl rfl (hrs _) ?_;rintro _ H9 ⟨rfl,hH9⟩;subst H9)|(refine uC (uT rfl (Args.cons rfl Args.nil)) rfl rfl (true_spec R p _ hok.ok hok.mats hlm (hR.sub (fun _ h=>by repeat (first | exact h | apply qT)))) ?_;rintro _ H9 ⟨rfl,hH9⟩;subst H9)|(refine uE (uA rfl rfl) rfl rfl ?_)|(refine uE (EvF.not rfl rfl) rfl rfl ?_)|(refine Xg.st (StF.boxAgg rfl rfl) rfl rfl ?_;rintro _ _ ⟨bx,rfl,rfl⟩)))))|(refine uD rfl ?_;refine hK _ _ ?_;clear hK K) | refine uS rfl ?_ | refine uR rfl (fun K hK=>?_) | refine X.skip rfl ?_ | refine X.ret rfl ?_ | (refine X.ite rfl rfl (fun hc=>?_);(first | (with_reducible refine Xb.caseB hc (fun h=>?_) (fun h=>?_))) <;> clear hc))
  all_goals try (exfalso;contradiction)
  exact ret_two (v := .bool (decide (hasT R R.mats))) (by simp) Try.results16 rfl rfl (H' := H) (by repeat (first | exact qR _ | apply qK | apply qC)) ⟨rfl,rfl⟩
 ·rw [if_neg hok]
  have hrs : ∀ r1,Fc Try.prog 46 [.agg (cRm R p).toArray] (r1::H) (fun v H' => v = .bool false∧H' = r1::H):=fun r1=>by
   have:=room_spec R p (r1::H) (hR.sub (fun _ h=>qT _ h))
   rwa [decide_eq_false hok] at this
  refine Fc.mk (callable Try.call16) Try.func16 rfl Try.ntmps16 rfl ?_;dsimp only [fr]
  repeat' (first | (refine uP rfl ?_;(first | ((first | refine uN rfl ?_);(first | (refine uE (uL rfl rfl (uW (te rfl) rfl (qH _) rfl)) rfl rfl ?_)|(refine uC (uT rfl (Args.cons rfl Args.nil)) rfl rfl (hrs _) ?_;rintro _ H9 ⟨rfl,hH9⟩;subst H9)|(refine uE (uA rfl rfl) rfl rfl ?_)|(refine uE (EvF.not rfl rfl) rfl rfl ?_)|(refine Xg.st (StF.boxAgg rfl rfl) rfl rfl ?_;rintro _ _ ⟨bx,rfl,rfl⟩)))))|(refine uD rfl ?_;refine hK _ _ ?_;clear hK K) | refine uS rfl ?_ | refine uR rfl (fun K hK=>?_) | refine X.skip rfl ?_ | refine X.ret rfl ?_ | (refine X.ite rfl rfl (fun hc=>?_);(first | (with_reducible refine Xb.caseB hc (fun h=>?_) (fun h=>?_))) <;> clear hc))
  all_goals try (exfalso;contradiction)
  exact ret_two (v := .bool false) (by simp) Try.results16 rfl rfl (H' := H) (by repeat (first | exact qR _ | apply qK | apply qC)) ⟨rfl,rfl⟩
theorem rThere_spec (R : Rm) (p : Pl) (id m : Int) (H : List Row) (hR : RmOk H R p) (hm : 1 ≤ R.months∧R.months ≤ 12) (hi : 0 ≤ index R.boxes id) : Fc Try.prog 73 [.agg (cRm R p).toArray,.int .i64 (index R.boxes id),.int .i64 m] H (fun v H' => v = .bool (decide ((0 ≤ m∧m ≤ R.months - 1)∧(bxAt R.boxes id).made ≤ m))∧H' = H):=by
 have hlt:=index_lt R.boxes id
 have he:=index_get hi
 obtain ⟨a1,c1,a2,c2,a3,c3⟩:=p
 obtain ⟨b,off,_,rfl,_⟩:=hR.boxes.elem (i:=0) (by omega)
 have hbx : ∀ r,SlE (r::H) _ cBx 2 R.boxes:=fun r=>hR.boxes.sub (fun _ h=>List.mem_cons_of_mem _ h)
 refine Fc.mk (callable Try.call73) Try.func73 rfl Try.ntmps73 rfl ?_;dsimp only [fr]
 repeat' (first | (refine uP rfl ?_;(first | ((first | refine uN rfl ?_ | (refine Xo.g rfl rfl ?_;with_reducible refine Xw.tt ?_));(first | (refine uC (uT rfl (by (repeat (first | exact Args.nil | refine Args.cons rfl ?_));done)) rfl rfl (within_spec _ _ _ _) ?_;rintro _ H9 ⟨rfl,hH9⟩;subst H9)|(refine uE (uL rfl rfl (LoadV.el1 (hbx _) he (te rfl) rfl (fun _ hm=>hm) rfl)) rfl rfl ?_)|(refine uE (uM rfl rfl) rfl rfl ?_)|(refine uE (uA rfl rfl) rfl rfl ?_)|(refine uE (EvF.pickT rfl rfl rfl) rfl rfl ?_)|(refine uE (EvF.pickF rfl rfl rfl) rfl rfl ?_)|(refine uE (uQ rfl rfl rfl rfl) rfl rfl ?_)|(refine uE (EvF.sub64 rfl rfl rfl (by omega) (by omega)) rfl rfl ?_)|(refine uE (uF rfl rfl (te rfl) rfl (te rfl) (by decide)) rfl rfl ?_)|(refine uE (uJ rfl rfl rfl (te rfl) (te rfl) (by omega) (by omega)) rfl rfl ?_)|(refine uE (uL rfl rfl (uO (te rfl) rfl (qH _) rfl)) rfl rfl ?_)|(refine Xg.st (StF.boxAgg rfl rfl) rfl rfl ?_;rintro _ _ ⟨bx,rfl,rfl⟩)))|(refine Xo.g rfl rfl ?_;(first | (with_reducible refine Xw.ft rfl rfl ?_)|(with_reducible refine Xw.case (fun h=>?_) (fun h=>?_) <;> simp only [h,decide_true,decide_false,Bool.not_true,Bool.not_false,and_self,and_true,true_and,and_false,false_and])))))|(refine uD rfl ?_;refine hK _ _ ?_;clear hK K) | refine uS rfl ?_ | refine uR rfl (fun K hK=>?_) | refine X.ret rfl ?_)
 all_goals (refine ret_one (by simp) Try.results73 rfl (H' := H) (by (repeat (first | exact qR _ | apply qC));done) ?_;simp only [and_true,true_and])
 all_goals (congr 1;symm)
 all_goals first
  | exact decide_eq_false (fun q=>absurd q.1 (by assumption))
  | exact decide_eq_decide.2 ⟨fun q=>q.2,fun q=>⟨by assumption,q⟩⟩
  | (simp_all)
def okId (R : Rm) (i m : Int) : Prop:=(0 ≤ m∧m ≤ R.months - 1)∧(bxAt R.boxes i).made ≤ m
instance (R : Rm) (i m : Int) : Decidable (okId R i m):=by unfold okId;infer_instance
theorem inTime_iff {R : Rm} {l : List Int} {m : Int} (hr : okRm R) (ha : allThere R l) (hm : 0 ≤ m∧m ≤ R.months - 1) : inTime R l [m] ↔ ∀ i ∈ l,okId R i m:=by
 constructor
 ·intro h i hi
  refine ⟨hm,?_⟩
  have hx:=(index_ge R.boxes i).2 (ha i hi)
  refine Classical.byContradiction fun q=>(h m (List.mem_singleton.2 rfl)).2 ⟨bxAt R.boxes i,bxAt_mem hx,by omega,by rw [bxAt_id _ _ hx];exact hi⟩
 ·intro h q hq
  rw [List.mem_singleton] at hq
  subst hq
  refine ⟨hm,?_⟩
  rintro ⟨b,hb,h1,h2⟩
  obtain ⟨j,hj⟩:=box_at hb
  have h3:=(h b.id h2).2
  have hi0 : 0 ≤ index R.boxes b.id:=by rw [index_box hr.bx hj];omega
  have h4:=index_get hi0
  rw [index_box hr.bx hj] at h4
  have h5 : R.boxes[((j : Nat) : Int).toNat]? = some b:=hj
  rw [h5] at h4
  rw [← Option.some.inj h4] at h3
  omega
structure As (R : Rm) (e : Int) (l : List Sp) : Prop where
 hT : hasT R R.mats
 good : GoodC R R.mats l
 ex : ∀ b m,there R b m → ExR R R.mats ⟨b.id,m⟩ zp (sat l (cel R ⟨b.id,m⟩))
def tsAk : List TOp:=[⟨some 43,[],[],[]⟩,⟨some 44,[],[],[]⟩,⟨some 45,[],[],[]⟩,⟨some 46,[1,2],[1,2],[]⟩,⟨some 47,[],[],[]⟩,⟨some 48,[0,1,2,3,4],[0,3,4],[]⟩,⟨some 49,[0,1,2,3,4,5],[5],[]⟩]
def valAk (b3 b6 : Nat) (R : Rm) (p : Pl) (x m ix : Int) (w : Bool) (v1 v37 v38 v39 : Value) (k : Nat) (env : Env) : Value :=
 match k with
 | 0 => .agg (cRm R p).toArray
 | 1 => .agg (cRm R p).toArray
 | 2 => .int .i64 x
 | 3 => .int .i64 ix
 | 4 => .int .i64 m
 | 5 => .bool w
 | 6 => .bool (!w)
 | _=>undef
def rowsAk (b3 b6 : Nat) (R : Rm) (p : Pl) (x m ix : Int) (w : Bool) (v1 v37 v38 v39 : Value) (k : Nat) (env : Env) : List Row :=
 match k with
 | _=>[]
theorem locAk (b3 b6 : Nat) (R : Rm) (p : Pl) (x m ix : Int) (w : Bool) (v1 v37 v38 v39 : Value) : ∀ k env i q9,i ≠ k → (tAt tsAk k).sup.contains i = false → valAk b3 b6 R p x m ix w v1 v37 v38 v39 k (upd env i q9)=valAk b3 b6 R p x m ix w v1 v37 v38 v39 k env∧rowsAk b3 b6 R p x m ix w v1 v37 v38 v39 k (upd env i q9)=rowsAk b3 b6 R p x m ix w v1 v37 v38 v39 k env:=by
 intro k env i q hk hs
 have hu : ∀ j,j ≠ i → upd env i q j = env j:=fun j hj=>by unfold upd;rw [if_neg hj]
 match k,hk,hs with
 | 0,_,_=>exact ⟨rfl,rfl⟩
 | 1,_,_=>exact ⟨rfl,rfl⟩
 | 2,_,_=>exact ⟨rfl,rfl⟩
 | 3,_,_=>exact ⟨rfl,rfl⟩
 | 4,_,_=>exact ⟨rfl,rfl⟩
 | 5,_,_=>exact ⟨rfl,rfl⟩
 | 6,_,_=>exact ⟨rfl,rfl⟩
 | _ + 7,_,_=>exact ⟨rfl,rfl⟩
set_option maxHeartbeats 8000000 in
theorem rAsked_spec (R : Rm) (p : Pl) (l : List Int) (a : Option Addr) (cl : Nat) (m : Int) (H : List Row) (hR : RmOk H R p) (hl : SlE H a cI 1 l) (hll : l.length ≤ 1000000) :
  Fc Try.prog 57 [.agg (cRm R p).toArray,.slice a l.length cl,.int .i64 m] H (fun v H' => ∃ c,c.length = 48∧(openE R l [m] = 0 → As R 0 c)∧v = .tuple #[.agg (c.flatMap cSp).toArray,.int .i64 (openE R l [m])]∧H' = H):=by
 classical
 by_cases hok : roomOk R
 ·have hr:=hok.ok
  have hm12:=hr.m12
  have hm1:=hr.m1
  have hlm : R.mats.length ≤ 100:=by have:=hok.1.2.2.2.2.2.2;omega
  have hrs : ∀ r1 r2,Fc Try.prog 46 [.agg (cRm R p).toArray] (r1::r2::H) (fun v H' => v = .bool true∧H' = r1::r2::H):=fun r1 r2=>by
   have:=room_spec R p (r1::r2::H) (hR.sub (fun _ h=>qT _ (qT _ h)))
   rwa [decide_eq_true hok] at this
  refine Fc.mk (callable Try.call57) Try.func57 rfl Try.ntmps57 rfl ?_;dsimp only [fr]
  repeat' (first | (refine uP rfl ?_;(first | ((first | refine uN rfl ?_);(first | (refine uE (uL rfl rfl (uW (T:=26) (cs:=cRm R p) (te rfl) rfl (by repeat (first | exact qH _ | apply qT)) rfl)) rfl rfl ?_)|(refine uC (uT rfl (Args.cons rfl Args.nil)) rfl rfl (hrs _ _) ?_;rintro _ H9 ⟨rfl,hH9⟩;subst H9)|(refine uE (uM rfl rfl) rfl rfl ?_)|(refine uE (uA rfl rfl) rfl rfl ?_)|(refine uE (EvF.not rfl rfl) rfl rfl ?_)|(refine uE (uY rfl rfl (te rfl)) rfl rfl ?_)|(refine Xg.st (StF.boxAgg rfl rfl) rfl rfl ?_;rintro _ _ ⟨bx,rfl,rfl⟩)|(refine Xg.st (StF.alloc rfl Try.zeroValue104 rfl) rfl rfl ?_;rintro _ _ ⟨bx,rfl,rfl⟩)))))|(refine uD rfl ?_;refine hK _ _ ?_;clear hK K) | refine uS rfl ?_ | refine uR rfl (fun K hK=>?_) | refine X.block rfl ?_ | refine X.skip rfl ?_ | (refine X.ite rfl rfl (fun hc=>?_);(first | (with_reducible refine Xb.caseB hc (fun h=>?_) (fun h=>?_))) <;> clear hc))
  ·exact absurd (by assumption : (!true)=true) (by decide)
  rename_i b3
  generalize bx = b6
  refine X.lp rfl (fun q F' H' => ∃ (i : Nat),q = l.length - i∧i ≤ l.length∧(∀ j x,j < i → l[j]? = some x → 0 ≤ index R.boxes x)∧H' = ⟨b6,0,zRc.flatMap cSp,some 104,96⟩::⟨b3,0,cRm R p,some 26,5⟩::H∧F' = [(1,.slice a l.length cl),(2,.int .i64 m),(3,.pointer (some ⟨b3,0,none⟩)),(6,.pointer (some ⟨b6,0,none⟩)),(7,.int .i64 0),(18,.slice a l.length cl),(19,.int .i64 l.length),(20,.int .i64 i)])
   l.length [(1,.slice a l.length cl),(2,.int .i64 m),(3,.pointer (some ⟨b3,0,none⟩)),(6,.pointer (some ⟨b6,0,none⟩)),(7,.int .i64 0),(18,.slice a l.length cl),(19,.int .i64 l.length),(20,.int .i64 (0 : Nat))] (⟨b6,0,zRc.flatMap cSp,some 104,96⟩::⟨b3,0,cRm R p,some 26,5⟩::H) (by repeat (first | exact uU _ | refine uV rfl ?_)) (qR _) ⟨0,by omega,by omega,fun j _ h=>absurd h (Nat.not_lt_zero _),rfl,rfl⟩ ?_
  rintro _ _ _ ⟨i,rfl,hi,hall,rfl,rfl⟩
  repeat' (first | (refine uP rfl ?_;(first | ((first | refine uN rfl ?_);(first | (refine uE (uM rfl rfl) rfl rfl ?_)|(refine uE (uQ rfl rfl rfl rfl) rfl rfl ?_)|(refine uE (EvF.sub64 rfl rfl rfl (by omega) (by omega)) rfl rfl ?_)|(refine uE (uF rfl rfl (te rfl) rfl (te rfl) (by decide)) rfl rfl ?_)|(refine uE (uL rfl rfl (uO (te rfl) rfl (qT _ (qH _)) rfl)) rfl rfl ?_)))))|(refine uD rfl ?_;refine hK _ _ ?_;clear hK K) | refine uS rfl ?_ | refine uR rfl (fun K hK=>?_) | refine X.block rfl ?_ | (refine X.brk rfl ?_;repeat (first | refine blockX_hit rfl ?_ | refine blockX_miss (by decide) ?_)) | refine X.skip rfl ?_ | (refine X.ite rfl rfl (fun hc=>?_);(first | (with_reducible refine Xb.case hc (fun h=>?_) (fun h=>?_))) <;> clear hc))
  ·obtain ⟨bl,ol,x,rfl,he⟩:=hl.elem (i:=i) (by omega)
   have hsub : ∀ r1 r2,SlE (r1::r2::H) (some ⟨bl,ol,none⟩) cI 1 l:=fun r1 r2=>hl.sub (fun _ h=>qT _ (qT _ h))
   repeat' (first | (refine uP rfl ?_;(first | ((first | refine uN rfl ?_);(first | (refine uE (uL rfl rfl (LoadV.el0 (hsub _ _) he (te rfl) rfl (fun _ hm=>hm) rfl)) rfl rfl ?_)|(refine uE (uL rfl rfl (uW (T:=26) (cs:=cRm R p) (te rfl) rfl (by repeat (first | exact qH _ | apply qT)) rfl)) rfl rfl ?_)|(refine uC (uT rfl (Args.cons rfl (Args.cons rfl Args.nil))) rfl rfl (index_spec R p x _ (hR.sub (fun _ h=>by repeat (first | exact h | apply qT)))) ?_;rintro _ H9 ⟨rfl,hH9⟩;subst H9)|(refine uE (EvF.buildArr (zs:=zRc.flatMap cSp) (cs:=zRc.flatMap cSp) rfl ArgsP.nil (te rfl) (te rfl) Try.zeroValue104 rfl) rfl rfl ?_)|(refine Xg.st0 (uZ (i:=0) (vs:=zRc.flatMap cSp) (cs:=zRc.flatMap cSp) rfl rfl rfl (te rfl) rfl rfl rfl rfl) rfl ?_;rintro _ _ ⟨rfl,rfl⟩;dsimp only [List.set])|(refine uE (uM rfl rfl) rfl rfl ?_)|(refine uE (uA rfl rfl) rfl rfl ?_)|(refine uE (uQ rfl rfl rfl rfl) rfl rfl ?_)|(refine uE (EvF.add64 rfl rfl rfl (by omega) (by omega)) rfl rfl ?_)|(refine uE (uJ rfl rfl rfl (te rfl) (te rfl) (by omega) (by omega)) rfl rfl ?_)))))|(refine uD rfl ?_;refine hK _ _ ?_;clear hK K) | refine uS rfl ?_ | refine uR rfl (fun K hK=>?_) | refine X.skip rfl ?_ | refine X.ret rfl ?_ | (refine X.ite rfl rfl (fun hc=>?_);(first | (with_reducible refine Xb.case hc (fun h=>?_) (fun h=>?_))) <;> clear hc))
   ·have h6 : openE R l [m] = 6:=by
     unfold openE
     rw [if_pos hok,if_neg (fun q=>by have:=(index_ge R.boxes x).2 (q x (List.mem_of_getElem? he));omega)]
    exact ret_two (v := .agg (zRc.flatMap cSp).toArray) (by simp) Try.results57 ⟨_,rfl,uW (te rfl) rfl (qH _) rfl⟩ rfl (H' := H) (by repeat (first | exact qR _ | apply qK | apply qC)) ⟨zRc,rfl,(fun h=>absurd h (by rw [h6];decide)),by rw [h6],rfl⟩
   ·exact ⟨_,[(1,.slice (some ⟨bl,ol,none⟩) l.length cl),(2,.int .i64 m),(3,.pointer (some ⟨b3,0,none⟩)),(6,.pointer (some ⟨b6,0,none⟩)),(7,.int .i64 0),(18,.slice (some ⟨bl,ol,none⟩) l.length cl),(19,.int .i64 l.length),(20,.int .i64 (i + 1 : Nat))],⟨b6,0,zRc.flatMap cSp,some 104,96⟩::⟨b3,0,cRm R p,some 26,5⟩::H,(by repeat (first | exact uU _ | refine uV rfl ?_)),(by repeat (first | exact qR _ | apply qK | apply qC)),⟨i + 1,rfl,by omega,fun j y hj hy=>by
     by_cases e : j < i
     ·exact hall j y e hy
     ·rw [show j = i by omega,he] at hy
      cases hy
      omega,rfl,rfl⟩,by omega⟩
  ·have hal : allThere R l:=fun x hx=>by
    obtain ⟨j,hj,ex⟩:=List.mem_iff_getElem.1 hx
    exact (index_ge R.boxes x).1 (hall j x (by omega) (by rw [List.getElem?_eq_getElem hj,ex]))
   repeat' (first | (refine uP rfl ?_;(first | ((first | refine uN rfl ?_);(first | (refine uC (uT rfl (Args.cons rfl (Args.cons rfl (Args.cons rfl Args.nil)))) rfl rfl (within_spec _ _ _ _) ?_;rintro _ H9 ⟨rfl,hH9⟩;subst H9)|(refine uE (EvF.buildArr (zs:=zRc.flatMap cSp) (cs:=zRc.flatMap cSp) rfl ArgsP.nil (te rfl) (te rfl) Try.zeroValue104 rfl) rfl rfl ?_)|(refine Xg.st0 (uZ (i:=0) (vs:=zRc.flatMap cSp) (cs:=zRc.flatMap cSp) rfl rfl rfl (te rfl) rfl rfl rfl rfl) rfl ?_;rintro _ _ ⟨rfl,rfl⟩;dsimp only [List.set])|(refine uE (uM rfl rfl) rfl rfl ?_)|(refine uE (uA rfl rfl) rfl rfl ?_)|(refine uE (EvF.not rfl rfl) rfl rfl ?_)|(refine uE (uY rfl rfl (te rfl)) rfl rfl ?_)))))|(refine uD rfl ?_;refine hK _ _ ?_;clear hK K) | refine uS rfl ?_ | refine uR rfl (fun K hK=>?_) | refine X.block rfl ?_ | refine X.skip rfl ?_ | refine X.ret rfl ?_ | (refine X.ite rfl rfl (fun hc=>?_);(first | (with_reducible refine Xb.caseN hc (fun h=>?_) (fun h=>?_))) <;> clear hc))
   ·have h11 : openE R l [m] = 11:=by
     unfold openE
     rw [if_pos hok,if_pos hal,if_neg (fun q=>absurd (q m (List.mem_singleton.2 rfl)).1 (by simp_all))]
    exact ret_two (v := .agg (zRc.flatMap cSp).toArray) (by simp) Try.results57 ⟨_,rfl,uW (te rfl) rfl (qH _) rfl⟩ rfl (H' := H) (by repeat (first | exact qR _ | apply qK | apply qC)) ⟨zRc,rfl,(fun h=>absurd h (by rw [h11];decide)),by rw [h11],rfl⟩
   ·have hw : 0 ≤ m∧m ≤ R.months - 1:=by simp_all
    have hit:=inTime_iff hr hal hw
    refine X.lp rfl (fun q F' H' => ∃ (i : Nat),q = l.length - i∧i ≤ l.length∧(∀ j x,j < i → l[j]? = some x → okId R x m)∧H' = ⟨b6,0,zRc.flatMap cSp,some 104,96⟩::⟨b3,0,cRm R p,some 26,5⟩::H∧F' = [(1,.slice a l.length cl),(2,.int .i64 m),(3,.pointer (some ⟨b3,0,none⟩)),(6,.pointer (some ⟨b6,0,none⟩)),(7,.int .i64 0),(37,.slice a l.length cl),(38,.int .i64 l.length),(39,.int .i64 i)])
     l.length [(1,.slice a l.length cl),(2,.int .i64 m),(3,.pointer (some ⟨b3,0,none⟩)),(6,.pointer (some ⟨b6,0,none⟩)),(7,.int .i64 0),(37,.slice a l.length cl),(38,.int .i64 l.length),(39,.int .i64 (0 : Nat))] (⟨b6,0,zRc.flatMap cSp,some 104,96⟩::⟨b3,0,cRm R p,some 26,5⟩::H) (by repeat (first | exact uU _ | refine uV rfl ?_)) (qR _) ⟨0,by omega,by omega,fun j _ h=>absurd h (Nat.not_lt_zero _),rfl,rfl⟩ ?_
    rintro _ _ _ ⟨k,rfl,hk,hok2,rfl,rfl⟩
    repeat' (first | (refine uP rfl ?_;(first | ((first | refine uN rfl ?_);(first | (refine uE (uQ rfl rfl rfl rfl) rfl rfl ?_)|(refine uE (uL rfl rfl (uW (te rfl) rfl (qT _ (qH _)) rfl)) rfl rfl ?_)))))|(refine uD rfl ?_;refine hK _ _ ?_;clear hK K) | refine uS rfl ?_ | refine uR rfl (fun K hK=>?_) | refine X.block rfl ?_ | (refine X.brk rfl ?_;repeat (first | refine blockX_hit rfl ?_ | refine blockX_miss (by decide) ?_)) | refine X.skip rfl ?_ | (refine X.ite rfl rfl (fun hc=>?_);(first | (with_reducible refine Xb.case hc (fun h=>?_) (fun h=>?_))) <;> clear hc))
    ·obtain ⟨bl,ol,x,rfl,he⟩:=hl.elem (i:=k) (by omega)
     have hsub : ∀ r1 r2,SlE (r1::r2::H) (some ⟨bl,ol,none⟩) cI 1 l:=fun r1 r2=>hl.sub (fun _ h=>qT _ (qT _ h))
     repeat' (first | (refine uP rfl ?_;(first | ((first | refine uN rfl ?_);(first | (refine uE (uL rfl rfl (LoadV.el0 (hsub _ _) he (te rfl) rfl (fun _ hm=>hm) rfl)) rfl rfl ?_)|(refine uE (uA rfl rfl) rfl rfl ?_)|(refine uE (uJ rfl rfl rfl (te rfl) (te rfl) (by omega) (by omega)) rfl rfl ?_)))))|(refine uD rfl ?_;refine hK _ _ ?_;clear hK K) | refine uS rfl ?_)
     have hx0:=(index_ge R.boxes x).2 (hal x (List.mem_of_getElem? he))
     have hRs : ∀ S : List Row,(∀ r ∈ ⟨b6,0,zRc.flatMap cSp,some 104,96⟩::⟨b3,0,cRm R p,some 26,5⟩::H,r ∈ S) → RmOk S R p:=fun S hS=>hR.sub (fun r h=>hS r (List.mem_append_right [_,_] h))
     obtain ⟨w,hww⟩ : ∃ w,w = decide (okId R x m):=⟨_,rfl⟩
     have hth : ∀ S,RmOk S R p → Fc Try.prog 73 [.agg (cRm R p).toArray,.int .i64 (index R.boxes x),.int .i64 m] S (fun v H' => v = .bool w∧H' = S):=fun S h=>by
      have:=rThere_spec R p x m S h ⟨hm1,hm12⟩ hx0
      rw [hww,show decide (okId R x m)=decide ((0 ≤ m∧m ≤ R.months - 1)∧(bxAt R.boxes x).made ≤ m) from decide_eq_decide.2 Iff.rfl]
      exact this
     refine X.regionOb tsAk [1,2,3,6,7,11,37,38,39] [(1,(.slice (some ⟨bl,ol,none⟩) l.length cl)),(2,.int .i64 m),(3,.pointer (some ⟨b3,0,none⟩)),(6,.pointer (some ⟨b6,0,none⟩)),(7,.int .i64 0),(11,.int .i64 x),(37,(.slice (some ⟨bl,ol,none⟩) l.length cl)),(38,(.int .i64 l.length)),(39,(.int .i64 k))] (valAk b3 b6 R p x m (index R.boxes x) w (.slice (some ⟨bl,ol,none⟩) l.length cl) (.slice (some ⟨bl,ol,none⟩) l.length cl) (.int .i64 l.length) (.int .i64 k)) (rowsAk b3 b6 R p x m (index R.boxes x) w (.slice (some ⟨bl,ol,none⟩) l.length cl) (.slice (some ⟨bl,ol,none⟩) l.length cl) (.int .i64 l.length) (.int .i64 k)) (fun _=>(0,0)) (⟨b6,0,zRc.flatMap cSp,some 104,96⟩::⟨b3,0,cRm R p,some 26,5⟩::H) rfl mixed (by repeat (first | exact uU _ | refine uV rfl ?_)) rfl (by kernel_rfl) (locAk b3 b6 R p x m (index R.boxes x) w (.slice (some ⟨bl,ol,none⟩) l.length cl) (.slice (some ⟨bl,ol,none⟩) l.length cl) (.int .i64 l.length) (.int .i64 k)) (qR _) ?_ ?_
     ·repeat' (first | exact AllF.done rfl | (refine AllF.step rfl ?_ ?_;·(first | fail | ((first | refine Ob.ng rfl ?_);(first | exact uK (fun env R hR=>by exact ⟨_,uM rfl rfl,rfl⟩) rfl (fun _=>rfl) | exact uK (fun env R hR=>by exact ⟨_,EvF.not rfl rfl,rfl⟩) rfl (fun _=>rfl) | exact uK (fun env R hR=>by exact ⟨_,uL rfl rfl (uW (te rfl) rfl (hR _ (qT _ (qH _))) rfl),rfl⟩) rfl (fun _=>rfl)|(exact fun env S hS=>OpF.callV (Z:=[]) (uT rfl (Args.cons rfl (Args.cons rfl Args.nil))) (index_spec R p x _ (hRs _ hS)) rfl rfl)|(exact fun env S hS=>OpF.callV (Z:=[]) (uT rfl (Args.cons rfl (Args.cons rfl (Args.cons rfl Args.nil)))) (hth _ (hRs _ hS)) rfl rfl))))))
     intro env t ha2 hv;refine ⟨_,ha2.cons (hv 6 49 (Nat.le_of_ble_eq_true rfl) rfl),?_⟩;clear hv ha2
     show X _ _ _ [(49,.bool !w),(1,.slice (some ⟨bl,ol,none⟩) l.length cl),(2,.int .i64 m),(3,.pointer (some ⟨b3,0,none⟩)),(6,.pointer (some ⟨b6,0,none⟩)),(7,.int .i64 0),(11,.int .i64 x),(37,.slice (some ⟨bl,ol,none⟩) l.length cl),(38,.int .i64 l.length),(39,.int .i64 k)] (⟨b6,0,zRc.flatMap cSp,some 104,96⟩::⟨b3,0,cRm R p,some 26,5⟩::H) _
     clear env
     cases w with
     | false =>
      have h11 : openE R l [m] = 11:=by
       unfold openE
       rw [if_pos hok,if_pos hal,if_neg (fun q=>absurd (hit.1 q x (List.mem_of_getElem? he)) (of_decide_eq_false hww.symm))]
      repeat' (first | (refine uP rfl ?_;(first | ((first | refine uN rfl ?_);(first | (refine uE (EvF.buildArr (zs:=zRc.flatMap cSp) (cs:=zRc.flatMap cSp) rfl ArgsP.nil (te rfl) (te rfl) Try.zeroValue104 rfl) rfl rfl ?_)|(refine Xg.st0 (uZ (i:=0) (vs:=zRc.flatMap cSp) (cs:=zRc.flatMap cSp) rfl rfl rfl (te rfl) rfl rfl rfl rfl) rfl ?_;rintro _ _ ⟨rfl,rfl⟩;dsimp only [List.set])|(refine uE (uM rfl rfl) rfl rfl ?_)|(refine uE (uA rfl rfl) rfl rfl ?_)|(refine uE (EvF.add64 rfl rfl rfl (by omega) (by omega)) rfl rfl ?_)))))|(refine uD rfl ?_;refine hK _ _ ?_;clear hK K) | refine uS rfl ?_ | refine uR rfl (fun K hK=>?_) | refine X.skip rfl ?_ | refine X.ret rfl ?_ | (refine X.ite rfl rfl (fun hc=>?_);(first | (with_reducible refine Xb.caseB hc (fun h=>?_) (fun h=>?_))) <;> clear hc))
      all_goals try (exfalso;contradiction)
      exact ret_two (v := .agg (zRc.flatMap cSp).toArray) (by simp) Try.results57 ⟨_,rfl,uW (te rfl) rfl (qH _) rfl⟩ rfl (H' := H) (by repeat (first | exact qR _ | apply qK | apply qC)) ⟨zRc,rfl,(fun h=>absurd h (by rw [h11];decide)),by rw [h11],rfl⟩
     | true =>
      have hx1:=of_decide_eq_true hww.symm
      repeat' (first | (refine uP rfl ?_;(first | ((first | refine uN rfl ?_);(first | (refine uE (uM rfl rfl) rfl rfl ?_)|(refine uE (EvF.add64 rfl rfl rfl (by omega) (by omega)) rfl rfl ?_)))))|(refine uD rfl ?_;refine hK _ _ ?_;clear hK K) | refine uS rfl ?_ | refine uR rfl (fun K hK=>?_) | refine X.skip rfl ?_ | (refine X.ite rfl rfl (fun hc=>?_);(first | (with_reducible refine Xb.caseB hc (fun h=>?_) (fun h=>?_))) <;> clear hc))
      all_goals try (exfalso;contradiction)
      exact ⟨_,[(1,.slice (some ⟨bl,ol,none⟩) l.length cl),(2,.int .i64 m),(3,.pointer (some ⟨b3,0,none⟩)),(6,.pointer (some ⟨b6,0,none⟩)),(7,.int .i64 0),(37,.slice (some ⟨bl,ol,none⟩) l.length cl),(38,.int .i64 l.length),(39,.int .i64 (k + 1 : Nat))],⟨b6,0,zRc.flatMap cSp,some 104,96⟩::⟨b3,0,cRm R p,some 26,5⟩::H,(by repeat (first | exact uU _ | refine uV rfl ?_)),(by repeat (first | exact qR _ | apply qK | apply qC)),⟨k + 1,rfl,by omega,fun j y hj hy=>by
       by_cases e : j < k
       ·exact hok2 j y e hy
       ·rw [show j = k by omega,he] at hy
        cases hy
        exact hx1,rfl,rfl⟩,by omega⟩
    ·have hit2 : inTime R l [m]:=hit.2 (fun x hx=>by
      obtain ⟨j,hj,ex⟩:=List.mem_iff_getElem.1 hx
      exact hok2 j x (by omega) (by rw [List.getElem?_eq_getElem hj,ex]))
     have hE : openE R l [m] = if hasT R R.mats then 0 else 8:=by unfold openE;rw [if_pos hok,if_pos hal,if_pos hit2]
     repeat' (first | (refine uP rfl ?_;(first | ((first | refine uN rfl ?_);(first | (refine uC (uT rfl (by (repeat (first | exact Args.nil | refine Args.cons rfl ?_));done)) rfl rfl (found_spec R p _ hr hok.mats hlm (hR.sub (fun _ h=>by repeat (first | exact h | apply qT)))) ?_;rintro _ _ ⟨c,hc,rfl,rfl⟩)|(refine uE (uX rfl rfl rfl) rfl rfl ?_)|(refine Xg.st0 (uZ (i:=0) (vs:=c.1.flatMap cSp) (cs:=zRc.flatMap cSp) rfl rfl rfl (te rfl) rfl hc.len96 (sp_one _) (by rw [hc.len96,sp_len];rfl)) rfl ?_;rintro _ _ ⟨rfl,rfl⟩;dsimp only [List.set])|(refine uE (uL rfl rfl (uW (T:=104) (cs:=c.1.flatMap cSp) (te rfl) rfl (qH _) hc.len96)) rfl rfl ?_)|(refine Xg.st0 (uZ (i:=1) (vs:=c.1.flatMap cSp) (cs:=zRc.flatMap cSp) rfl rfl rfl (te rfl) rfl hc.len96 (sp_one _) (by rw [hc.len96,sp_len];rfl)) rfl ?_;rintro _ _ ⟨rfl,rfl⟩;dsimp only [List.set])|(refine uE (uM rfl rfl) rfl rfl ?_)|(refine uE (uA rfl rfl) rfl rfl ?_)|(refine uE (EvF.not rfl rfl) rfl rfl ?_)|(refine Xg.st (StF.alloc rfl Try.zeroValue104 rfl) rfl rfl ?_;rintro _ _ ⟨bx,rfl,rfl⟩)))))|(refine uD rfl ?_;refine hK _ _ ?_;clear hK K) | refine uS rfl ?_ | refine uR rfl (fun K hK=>?_) | refine X.skip rfl ?_ | refine X.ret rfl ?_ | (refine X.ite rfl rfl (fun hc=>?_);(first | (with_reducible refine Xb.caseB hc (fun h=>?_) (fun h=>?_))) <;> clear hc))
     ·have hn : ¬ hasT R R.mats:=hc.no (by simpa using (by assumption : (!c.2)=true))
      rw [if_neg hn] at hE
      exact ret_two (v := .agg (c.1.flatMap cSp).toArray) (by simp) Try.results57 ⟨_,rfl,uW (te rfl) rfl (qT _ (qH _)) hc.len96⟩ rfl (H' := H) (by repeat (first | exact qR _ | apply qK | apply qC)) ⟨c.1,hc.len,(fun q=>absurd q (by rw [hE];decide)),by rw [hE],rfl⟩
     ·obtain ⟨y1,y2,y3⟩:=hc.yes (by simpa using (by assumption : (!c.2)=false))
      rw [if_pos y1] at hE
      exact ret_two (v := .agg (c.1.flatMap cSp).toArray) (by simp) Try.results57 ⟨_,rfl,uW (te rfl) rfl (qT _ (qH _)) hc.len96⟩ rfl (H' := H) (by repeat (first | exact qR _ | apply qK | apply qC)) ⟨c.1,hc.len,(fun _=>⟨y1,y2,y3⟩),by rw [hE],rfl⟩
 ·have h10 : openE R l [m] = 10:=by unfold openE;rw [if_neg hok]
  have hrs : ∀ r1 r2,Fc Try.prog 46 [.agg (cRm R p).toArray] (r1::r2::H) (fun v H' => v = .bool false∧H' = r1::r2::H):=fun r1 r2=>by
   have:=room_spec R p (r1::r2::H) (hR.sub (fun _ h=>qT _ (qT _ h)))
   rwa [decide_eq_false hok] at this
  refine Fc.mk (callable Try.call57) Try.func57 rfl Try.ntmps57 rfl ?_;dsimp only [fr]
  repeat' (first | (refine uP rfl ?_;(first | ((first | refine uN rfl ?_);(first | (refine uE (uL rfl rfl (uW (T:=26) (cs:=cRm R p) (te rfl) rfl (by repeat (first | exact qH _ | apply qT)) rfl)) rfl rfl ?_)|(refine uC (uT rfl (Args.cons rfl Args.nil)) rfl rfl (hrs _ _) ?_;rintro _ H9 ⟨rfl,hH9⟩;subst H9)|(refine uE (EvF.buildArr (zs:=zRc.flatMap cSp) (cs:=zRc.flatMap cSp) rfl ArgsP.nil (te rfl) (te rfl) Try.zeroValue104 rfl) rfl rfl ?_)|(refine Xg.st0 (uZ (i:=0) (vs:=zRc.flatMap cSp) (cs:=zRc.flatMap cSp) rfl rfl rfl (te rfl) rfl rfl rfl rfl) rfl ?_;rintro _ _ ⟨rfl,rfl⟩;dsimp only [List.set])|(refine uE (uM rfl rfl) rfl rfl ?_)|(refine uE (uA rfl rfl) rfl rfl ?_)|(refine uE (EvF.not rfl rfl) rfl rfl ?_)|(refine uE (uY rfl rfl (te rfl)) rfl rfl ?_)|(refine Xg.st (StF.boxAgg rfl rfl) rfl rfl ?_;rintro _ _ ⟨bx,rfl,rfl⟩)|(refine Xg.st (StF.alloc rfl Try.zeroValue104 rfl) rfl rfl ?_;rintro _ _ ⟨bx,rfl,rfl⟩)))))|(refine uD rfl ?_;refine hK _ _ ?_;clear hK K) | refine uS rfl ?_ | refine uR rfl (fun K hK=>?_) | refine X.block rfl ?_ | refine X.skip rfl ?_ | refine X.ret rfl ?_ | (refine X.ite rfl rfl (fun hc=>?_);(first | (with_reducible refine Xb.caseB hc (fun h=>?_) (fun h=>?_))) <;> clear hc))
  all_goals try (exfalso;contradiction)
  exact ret_two (v := .agg (zRc.flatMap cSp).toArray) (by simp) Try.results57 ⟨_,rfl,uW (te rfl) rfl (qH _) rfl⟩ rfl (H' := H) (by repeat (first | exact qR _ | apply qK | apply qC)) ⟨zRc,rfl,(fun h=>absurd h (by rw [h10];decide)),by rw [h10],rfl⟩
theorem sp_len96 {l : List Sp} (h : l.length = 48) : (l.flatMap cSp).length = 96:=by rw [sp_len,h]
theorem there_ix {R : Rm} (hr : okRm R) {l : List Int} {a m : Int} (h : openE R l [m] = 0) (ha : a ∈ l) : ∃ (b : Bx) (ia : Nat),there R b m∧b.id = a∧R.boxes[ia]? = some b∧index R.boxes a = ia∧ia < R.boxes.length∧0 ≤ m∧m ≤ 11∧cel R ⟨a,m⟩ = ia * 12 + m.toNat:=by
 obtain ⟨b,ht,rfl⟩:=there_of h ha (List.mem_singleton.2 rfl)
 obtain ⟨ia,hia⟩:=box_at ht.1
 have h1:=there_bd hr ht
 exact ⟨b,ia,ht,rfl,hia,index_box hr.bx hia,(List.getElem?_eq_some_iff.1 hia).1,h1.1,h1.2,cel_box hr.bx hia m⟩
set_option maxHeartbeats 4000000 in
theorem rYellow_spec (R : Rm) (p : Pl) (a m : Int) (H : List Row) (hR : RmOk H R p) : Fc Try.prog 18 [.agg (cRm R p).toArray,.int .i64 a,.int .i64 m] H (fun v H' => v = .tuple #[.agg (cSp (yelF R a m).1).toArray,.int .i64 (yelF R a m).2]∧H' = H):=by
 obtain ⟨e,he⟩ : ∃ e,openE R [a] [m] = e:=⟨_,rfl⟩
 have has : ∀ (H' : List Row) (b1 : Nat),RmOk H' R p → ⟨b1,0,[.int .i64 a],some 3,1 * 1⟩ ∈ H' → Fc Try.prog 57 [.agg (cRm R p).toArray,.slice (some ⟨b1,0,none⟩) 1 1,.int .i64 m] H' (fun v H'' => ∃ c,c.length = 48∧(e = 0 → As R 0 c)∧v = .tuple #[.agg (c.flatMap cSp).toArray,.int .i64 e]∧H'' = H'):=fun H' b1 q1 q2=>by
  have:=rAsked_spec R p [a] (some ⟨b1,0,none⟩) 1 m H' q1 (SlE.ofRow (l:=[a]) q2 (fun _ _=>rfl)) (Nat.le_of_ble_eq_true rfl)
  rw [he] at this
  exact this
 by_cases h0 : e = 0
 ·subst h0
  obtain ⟨hok,_,_,hT⟩:=openE_ok he
  have hr:=hok.ok
  have hb4:=hr.b4
  obtain ⟨b,ia,ht,hba,hia,hix,hil,hm0,hm1,hce⟩:=there_ix hr he (List.mem_singleton.2 rfl)
  have hy : yelF R a m = (rng R R.mats ⟨a,m⟩ zp,0):=by unfold yelF;rw [if_pos he]
  have hixs:=fun H' hH' => index_spec R p a H' hH'
  rw [hix] at hixs
  rw [hy]
  refine Fc.mk (callable Try.call18) Try.func18 rfl Try.ntmps18 rfl ?_;dsimp only [fr]
  repeat' (first | (refine uP rfl ?_;(first | ((first | refine uN rfl ?_);(first | (refine Xg.st (StF.buildOne (v0 := .int .i64 a) rfl el55 rfl rfl rfl (by decide) (by decide)) rfl rfl ?_;rintro _ _ ⟨b1,rfl,rfl⟩)|(refine uE (uL rfl rfl (uW (T:=26) (cs:=cRm R p) (te rfl) rfl (by repeat (first | exact qH _ | apply qT)) rfl)) rfl rfl ?_)|(refine uC (uT rfl (by (repeat (first | exact Args.nil | refine Args.cons rfl ?_));done)) rfl rfl (has _ b1 (hR.sub (fun _ h=>by repeat (first | exact h | apply qT))) (qH _)) ?_;rintro _ _ ⟨c,hc,hA,rfl,rfl⟩)|(refine uE (uX rfl rfl rfl) rfl rfl ?_)|(refine Xg.st (StF.alloc rfl Try.zeroValue104 rfl) rfl rfl ?_;rintro _ _ ⟨b8,rfl,rfl⟩)|(refine Xg.st0 (uZ (i:=0) (vs:=c.flatMap cSp) (cs:=zRc.flatMap cSp) rfl rfl rfl (te rfl) rfl (sp_len96 hc) (sp_one _) (by rw [sp_len96 hc,sp_len];rfl)) rfl ?_;rintro _ _ ⟨rfl,rfl⟩;dsimp only [List.set])|(refine uC (uT rfl (Args.cons rfl (Args.cons rfl Args.nil))) rfl rfl (hixs _ (hR.sub (fun _ h=>by repeat (first | exact h | apply qT)))) ?_;rintro _ H9 ⟨rfl,hH9⟩;subst H9)|(refine uE (EvF.indexArray (i:=(ia : Int)) (off:=0) (b:=b8) (T:=104) (e:=102) (len:=4) rfl rfl rfl (te rfl) (te rfl) (by omega) (by omega)) rfl rfl ?_)|(refine uE (EvF.indexArray (i:=m) (off:=0 + ia * 24) (b:=b8) (T:=102) (e:=35) (len:=12) rfl rfl rfl (te rfl) (te rfl) (by omega) (by omega)) rfl rfl ?_)|(refine uE (uL rfl rfl (LoadV.ownAgg (te rfl) rfl (qH _) (sp_at (l:=c) (k:=ia * 12 + m.toNat) (j:=0 + ia * 24 + m.toNat * 2) (by omega) (by omega)) rfl)) rfl rfl ?_)|(refine uE (uM rfl rfl) rfl rfl ?_)|(refine uE (uA rfl rfl) rfl rfl ?_)|(refine uE (uQ rfl rfl rfl rfl) rfl rfl ?_)|(refine Xg.st (StF.boxAgg rfl rfl) rfl rfl ?_;rintro _ _ ⟨bx,rfl,rfl⟩)|(refine Xg.st (StF.alloc rfl Try.zeroValue35 rfl) rfl rfl ?_;rintro _ _ ⟨bx,rfl,rfl⟩)|(refine Xg.st0 (uZ (i:=2) rfl rfl rfl (te rfl) rfl rfl rfl rfl) rfl ?_;rintro _ _ ⟨rfl,rfl⟩;dsimp only [List.set])))))|(refine uD rfl ?_;refine hK _ _ ?_;clear hK K) | refine uS rfl ?_ | refine uR rfl (fun K hK=>?_) | refine X.skip rfl ?_ | refine X.ret rfl ?_ | (refine X.ite rfl rfl (fun hc=>?_);(first | (with_reducible refine Xb.caseN hc (fun h=>?_) (fun h=>?_))) <;> clear hc))
  all_goals try (exfalso;omega)
  have hx:=(hA rfl).ex b m ht
  rw [hba,hce] at hx
  refine ret_two (v := .agg (cSp (sat c (ia * 12 + m.toNat))).toArray) (by simp) Try.results18 ⟨_,rfl,uW (te rfl) rfl (by repeat (first | exact qH _ | apply qT)) rfl⟩ rfl (H' := H) (by repeat (first | exact qR _ | apply qK | apply qC)) ⟨?_,rfl⟩
  rw [rng_eq hx]
 ·have hy : yelF R a m = (⟨0,0⟩,e):=by unfold yelF;rw [if_neg (by rw [he];exact h0),he]
  rw [hy]
  refine Fc.mk (callable Try.call18) Try.func18 rfl Try.ntmps18 rfl ?_;dsimp only [fr]
  repeat' (first | (refine uP rfl ?_;(first | ((first | refine uN rfl ?_);(first | (refine Xg.st (StF.buildOne (v0 := .int .i64 a) rfl el55 rfl rfl rfl (by decide) (by decide)) rfl rfl ?_;rintro _ _ ⟨b1,rfl,rfl⟩)|(refine uE (uL rfl rfl (uW (T:=26) (cs:=cRm R p) (te rfl) rfl (by repeat (first | exact qH _ | apply qT)) rfl)) rfl rfl ?_)|(refine uC (uT rfl (by (repeat (first | exact Args.nil | refine Args.cons rfl ?_));done)) rfl rfl (has _ b1 (hR.sub (fun _ h=>by repeat (first | exact h | apply qT))) (qH _)) ?_;rintro _ _ ⟨c,hc,hA,rfl,rfl⟩)|(refine uE (uX rfl rfl rfl) rfl rfl ?_)|(refine Xg.st (StF.alloc rfl Try.zeroValue104 rfl) rfl rfl ?_;rintro _ _ ⟨b8,rfl,rfl⟩)|(refine Xg.st0 (uZ (i:=0) (vs:=c.flatMap cSp) (cs:=zRc.flatMap cSp) rfl rfl rfl (te rfl) rfl (sp_len96 hc) (sp_one _) (by rw [sp_len96 hc,sp_len];rfl)) rfl ?_;rintro _ _ ⟨rfl,rfl⟩;dsimp only [List.set])|(refine uE (EvF.build (cs:=cSp ⟨0,0⟩) rfl ArgsP.nil (te rfl) (Places.cons (te rfl) (Places.cons (te rfl) Places.nil)) Try.zeroValue35 rfl) rfl rfl ?_)|(refine uE (uM rfl rfl) rfl rfl ?_)|(refine uE (uA rfl rfl) rfl rfl ?_)|(refine uE (uQ rfl rfl rfl rfl) rfl rfl ?_)|(refine Xg.st (StF.boxAgg rfl rfl) rfl rfl ?_;rintro _ _ ⟨bx,rfl,rfl⟩)|(refine Xg.st (StF.alloc rfl Try.zeroValue35 rfl) rfl rfl ?_;rintro _ _ ⟨bx,rfl,rfl⟩)|(refine Xg.st0 (uZ (i:=2) rfl rfl rfl (te rfl) rfl rfl rfl rfl) rfl ?_;rintro _ _ ⟨rfl,rfl⟩;dsimp only [List.set])))))|(refine uD rfl ?_;refine hK _ _ ?_;clear hK K) | refine uS rfl ?_ | refine uR rfl (fun K hK=>?_) | refine X.skip rfl ?_ | refine X.ret rfl ?_ | (refine X.ite rfl rfl (fun hc=>?_);(first | (with_reducible refine Xb.caseN hc (fun h=>?_) (fun h=>?_))) <;> clear hc))
  all_goals try (exfalso;simp_all;done)
  exact ret_two (v := .agg (cSp ⟨0,0⟩).toArray) (by simp) Try.results18 ⟨_,rfl,uW (te rfl) rfl (by repeat (first | exact qH _ | apply qT)) rfl⟩ rfl (H' := H) (by repeat (first | exact qR _ | apply qK | apply qC)) ⟨rfl,rfl⟩
def tsDr : List TOp:=[⟨some 52,[],[],[]⟩,⟨some 53,[],[],[]⟩,⟨some 54,[0],[0],[]⟩,⟨some 55,[0,1,2],[2,1],[]⟩,⟨some 56,[0,1,2,3],[3],[]⟩,⟨some 57,[0,1,2,3,4],[4],[]⟩,⟨some 58,[],[],[]⟩,⟨some 59,[0,1,2,3,4,5,6],[5,6],[]⟩,⟨some 60,[],[],[]⟩,⟨some 61,[],[],[]⟩,⟨some 62,[8],[8],[]⟩,⟨some 63,[8,9,10],[10,9],[]⟩,⟨some 64,[8,9,10,11],[11],[]⟩,⟨some 65,[8,9,10,11,12],[12],[]⟩,⟨some 66,[],[],[]⟩,⟨some 67,[8,9,10,11,12,13,14],[13,14],[]⟩,⟨some 68,[0,1,2,3,4,5,6,7,8,9,10,11,12,13,14,15],[7,15],[]⟩,⟨some 17,[],[],[]⟩,⟨none,[0,1,2,3,4,5,6,7,8,9,10,11,12,13,14,15,16,17],[17,16],[17]⟩]
def valDr (b5 b6 b10 b11 b14 b15 ii kk : Nat) (m v : Int) (s : Sp) (g : Bool) (k : Nat) (env : Env) : Value :=
 match k with
 | 0 => .int .i64 (ii : Nat)
 | 1 => .int .i64 m
 | 2 => .pointer (some ⟨b15,0 + ii * 24,none⟩)
 | 3 => .pointer (some ⟨b15,0 + ii * 24 + m.toNat * 2,none⟩)
 | 4 => .pointer (some ⟨b15,0 + ii * 24 + m.toNat * 2,none⟩)
 | 5 => .int .i64 s.lo
 | 6 => .int .i64 v
 | 7 => .int .i64 (s.lo - v)
 | 8 => .int .i64 (ii : Nat)
 | 9 => .int .i64 m
 | 10 => .pointer (some ⟨b15,0 + ii * 24,none⟩)
 | 11 => .pointer (some ⟨b15,0 + ii * 24 + m.toNat * 2,none⟩)
 | 12 => .pointer (some ⟨b15,0 + ii * 24 + m.toNat * 2 + 1,none⟩)
 | 13 => .int .i64 s.hi
 | 14 => .int .i64 v
 | 15 => .int .i64 (s.hi - v)
 | 16 => .agg (cSp ⟨s.lo - v,s.hi - v⟩).toArray
 | 17 => .pointer (some ⟨(env 17).1,0,none⟩)
 | 18=>undef
 | _=>undef
def rowsDr (b5 b6 b10 b11 b14 b15 ii kk : Nat) (m v : Int) (s : Sp) (g : Bool) (k : Nat) (env : Env) : List Row :=
 match k with
 | 17=>[⟨(env 17).1,0,cSp ⟨0,0⟩,some 35,2⟩]
 | 18=>[⟨(env 17).1,0,cSp ⟨s.lo - v,s.hi - v⟩,some 35,2⟩]
 | _=>[]
theorem locDr (b5 b6 b10 b11 b14 b15 ii kk : Nat) (m v : Int) (s : Sp) (g : Bool) : ∀ k env i q9,i ≠ k → (tAt tsDr k).sup.contains i = false → valDr b5 b6 b10 b11 b14 b15 ii kk m v s g k (upd env i q9)=valDr b5 b6 b10 b11 b14 b15 ii kk m v s g k env∧rowsDr b5 b6 b10 b11 b14 b15 ii kk m v s g k (upd env i q9)=rowsDr b5 b6 b10 b11 b14 b15 ii kk m v s g k env:=by
 intro k env i q hk hs
 have hu : ∀ j,j ≠ i → upd env i q j = env j:=fun j hj=>by unfold upd;rw [if_neg hj]
 match k,hk,hs with
 | 0,_,_=>exact ⟨rfl,rfl⟩
 | 1,_,_=>exact ⟨rfl,rfl⟩
 | 2,_,_=>exact ⟨rfl,rfl⟩
 | 3,_,_=>exact ⟨rfl,rfl⟩
 | 4,_,_=>exact ⟨rfl,rfl⟩
 | 5,_,_=>exact ⟨rfl,rfl⟩
 | 6,_,_=>exact ⟨rfl,rfl⟩
 | 7,_,_=>exact ⟨rfl,rfl⟩
 | 8,_,_=>exact ⟨rfl,rfl⟩
 | 9,_,_=>exact ⟨rfl,rfl⟩
 | 10,_,_=>exact ⟨rfl,rfl⟩
 | 11,_,_=>exact ⟨rfl,rfl⟩
 | 12,_,_=>exact ⟨rfl,rfl⟩
 | 13,_,_=>exact ⟨rfl,rfl⟩
 | 14,_,_=>exact ⟨rfl,rfl⟩
 | 15,_,_=>exact ⟨rfl,rfl⟩
 | 16,_,_=>exact ⟨rfl,rfl⟩
 | 17,hk,hs=>exact ⟨by simp only [valDr,hu 17 (fun e=>hk e.symm)],by simp only [rowsDr,hu 17 (fun e=>hk e.symm)]⟩
 | 18,hk,hs=>exact ⟨by simp only [valDr,hu 17 (by rintro rfl;cases hs)],by simp only [rowsDr,hu 17 (by rintro rfl;cases hs)]⟩
 | _ + 19,_,_=>exact ⟨rfl,rfl⟩
/-- a pinned chart, closed -/
structure Pn (R : Rm) (c : List Sp) (x : List Sp × Bool) : Prop where
 len : x.1.length = 48
 yes : x.2 = true → ClosedT R R.mats c x.1
 no : x.2 = false → ∀ z,Tru R R.mats z → ¬ Inn R c z
set_option maxHeartbeats 16000000 in
theorem rdiffer_spec (R : Rm) (p : Pl) (c : List Sp) (a b : Bx) (i k : Nat) (m : Int) (H : List Row) (hr : okRm R) (hR : RmOk H R p) (hm : matsThere R R.mats) (hlm : R.mats.length ≤ 100) (hc : c.length = 48) (hA : As R 0 c) (hta : there R a m) (htb : there R b m) (hi : R.boxes[i]? = some a) (hk : R.boxes[k]? = some b) :
  Fc Try.prog 60 [.agg (cRm R p).toArray,.agg (c.flatMap cSp).toArray,.int .i64 i,.int .i64 k,.int .i64 m] H (fun v H' => v = .agg (cSp (rng R R.mats ⟨a.id,m⟩ ⟨b.id,m⟩)).toArray∧H' = H):=by
 have hb4:=hr.b4
 have hm0:=there_bd hr hta
 have hil:=(List.getElem?_eq_some_iff.1 hi).1
 have hkl:=(List.getElem?_eq_some_iff.1 hk).1
 have ca : cel R ⟨a.id,m⟩ = i * 12 + m.toNat:=cel_box hr.bx hi m
 have cb : cel R ⟨b.id,m⟩ = k * 12 + m.toNat:=cel_box hr.bx hk m
 have hcl : (c.flatMap cSp).length = 96:=sp_len96 hc
 obtain ⟨_,hlo,hhi⟩:=sp_cells c (k * 12 + m.toNat) (by omega)
 obtain ⟨t,ht⟩ : ∃ t,t = sat c (k * 12 + m.toNat):=⟨_,rfl⟩
 rw [← ht,show (k * 12 + m.toNat) * 2 = 0 + k * 24 + m.toNat * 2 by omega] at hlo hhi
 have htk:=hA.good.ok (k * 12 + m.toNat)
 rw [← ht] at htk
 have hpin : ∀ v : Int,splice (c.flatMap cSp) (0 + k * 24 + m.toNat * 2) (cSp ⟨v,v⟩) = (pin c (k * 12 + m.toNat) v).flatMap cSp:=fun v=>by
  rw [show 0 + k * 24 + m.toNat * 2 = (k * 12 + m.toNat) * 2 by omega]
  exact sp_splice c (k * 12 + m.toNat) ⟨v,v⟩ (by omega)
 have hpl : ∀ v : Int,((pin c (k * 12 + m.toNat) v).flatMap cSp).length = 96:=fun v=>sp_len96 (by unfold pin;rw [List.length_set];exact hc)
 have hcs : ∀ (v : Int) S,t.lo ≤ v → v ≤ t.hi → RmOk S R p → Fc Try.prog 80 [.agg (cRm R p).toArray,.slice p.a3 R.mats.length p.c3,.agg ((pin c (k * 12 + m.toNat) v).flatMap cSp).toArray] S (fun u H' => ∃ x,Pn R (pin c (k * 12 + m.toNat) v) x∧u = .tuple #[.agg (x.1.flatMap cSp).toArray,.bool x.2]∧H' = S):=fun v S h1 h2 hS=>by
  obtain ⟨p1,p2,_⟩:=pin_ok hA.good (k:=k * 12 + m.toNat) (v:=v) (by omega) (by rw [← ht];exact ⟨h1,h2⟩)
  refine (closed_spec R p R.mats p.a3 p.c3 (pin c (k * 12 + m.toNat) v) S hr hS hS.mats hlm hm p1 p2).mono fun u H' ⟨l,hH,h⟩=>?_
  rcases h with ⟨h1,hv⟩ | ⟨h1,h2,hv⟩
  ·exact ⟨(l,true),⟨h1.len,fun _=>h1,(fun h=>by cases h)⟩,hv,hH⟩
  ·exact ⟨(l,false),⟨h1,(fun h=>by cases h),fun _=>h2⟩,hv,hH⟩
 refine Fc.mk (callable Try.call60) Try.func60 rfl Try.ntmps60 rfl ?_;dsimp only [fr]
 repeat' (first | (refine uP rfl ?_;(first | ((first | refine uN rfl ?_);(first | (refine uE (EvF.indexArray (i:=(k : Int)) (off:=0) (T:=104) (e:=102) (len:=4) rfl rfl rfl (te rfl) (te rfl) (by omega) (by omega)) rfl rfl ?_)|(refine uE (EvF.indexArray (i:=m) (off:=0 + k * 24) (T:=102) (e:=35) (len:=12) rfl rfl rfl (te rfl) (te rfl) (by omega) (by omega)) rfl rfl ?_)|(refine uE (uL rfl rfl (uO (te rfl) rfl (by repeat (first | exact qH _ | apply qT)) hlo)) rfl rfl ?_)|(refine uE (uM rfl rfl) rfl rfl ?_)|(refine uE (uA rfl rfl) rfl rfl ?_)|(refine uE (uF rfl rfl (te rfl) rfl (te rfl) (by decide)) rfl rfl ?_)|(refine Xg.st (StF.boxAgg rfl rfl) rfl rfl ?_;rintro _ _ ⟨bx,rfl,rfl⟩)|(refine Xg.st (StF.alloc rfl Try.zeroValue35 rfl) rfl rfl ?_;rintro _ _ ⟨bx,rfl,rfl⟩)))))|(refine uD rfl ?_;refine hK _ _ ?_;clear hK K) | refine uS rfl ?_ | refine uR rfl (fun K hK=>?_) | refine X.block rfl ?_)
 rename_i b5 b6 b10
 generalize bx = b11
 rw [hcl]
 refine X.lp rfl (fun q F' H' => ∃ (v : Int) (out : Sp) (any : Bool),q = (t.hi + 1 - v).toNat∧t.lo ≤ v∧v ≤ t.hi + 1∧Acc R R.mats ⟨a.id,m⟩ ⟨b.id,m⟩ t.lo v out any∧H' = ⟨b11,0,cSp out,some 35,2⟩::⟨b10,0,cSp ⟨0,0⟩,some 35,2⟩::⟨b6,0,c.flatMap cSp,some 104,96⟩::⟨b5,0,cRm R p,some 26,5⟩::H∧F' = [(2,.int .i64 i),(3,.int .i64 k),(4,.int .i64 m),(5,.pointer (some ⟨b5,0,none⟩)),(6,.pointer (some ⟨b6,0,none⟩)),(10,.pointer (some ⟨b10,0,none⟩)),(11,.pointer (some ⟨b11,0,none⟩)),(12,.bool any),(13,.int .i64 v)])
  (t.hi + 1 - t.lo).toNat [(2,.int .i64 i),(3,.int .i64 k),(4,.int .i64 m),(5,.pointer (some ⟨b5,0,none⟩)),(6,.pointer (some ⟨b6,0,none⟩)),(10,.pointer (some ⟨b10,0,none⟩)),(11,.pointer (some ⟨b11,0,none⟩)),(12,.bool false),(13,.int .i64 t.lo)] (⟨b11,0,cSp ⟨0,0⟩,some 35,2⟩::⟨b10,0,cSp ⟨0,0⟩,some 35,2⟩::⟨b6,0,c.flatMap cSp,some 104,96⟩::⟨b5,0,cRm R p,some 26,5⟩::H) (by repeat (first | exact uU _ | refine uV rfl ?_)) (qR _) ⟨t.lo,⟨0,0⟩,false,rfl,by omega,by omega,Acc.zero _ _ _ _ _ _,rfl,rfl⟩ ?_
 rintro _ _ _ ⟨v,out,any,rfl,hv1,hv2,hAc,rfl,rfl⟩
 repeat' (first | (refine uP rfl ?_;(first | ((first | refine uN rfl ?_);(first | (refine uE (EvF.indexArray (i:=(k : Int)) (off:=0) (T:=104) (e:=102) (len:=4) rfl rfl rfl (te rfl) (te rfl) (by omega) (by omega)) rfl rfl ?_)|(refine uE (EvF.indexArray (i:=m) (off:=0 + k * 24) (T:=102) (e:=35) (len:=12) rfl rfl rfl (te rfl) (te rfl) (by omega) (by omega)) rfl rfl ?_)|(refine uE (uL rfl rfl (uO (te rfl) rfl (by repeat (first | exact qH _ | apply qT)) hhi)) rfl rfl ?_)|(refine uE (uL rfl rfl (uW (T:=104) (cs:=c.flatMap cSp) (te rfl) rfl (by repeat (first | exact qH _ | apply qT)) hcl)) rfl rfl ?_)|(refine uE (uL rfl rfl (uW (T:=26) (cs:=cRm R p) (te rfl) rfl (by repeat (first | exact qH _ | apply qT)) rfl)) rfl rfl ?_)|(refine Xg.st (StF.alloc rfl Try.zeroValue104 rfl) rfl rfl ?_;rintro _ _ ⟨b14,rfl,rfl⟩)|(refine Xg.st0 (uZ (i:=0) (vs:=c.flatMap cSp) (cs:=zRc.flatMap cSp) rfl rfl rfl (te rfl) rfl hcl (sp_one _) (by rw [hcl,sp_len];rfl)) rfl ?_;rintro _ _ ⟨rfl,rfl⟩;dsimp only [List.set])|(refine uE (EvF.build (cs:=cSp ⟨v,v⟩) rfl (ArgsP.cons rfl (ArgsP.cons rfl ArgsP.nil)) (te rfl) (Places.cons (te rfl) (Places.cons (te rfl) Places.nil)) Try.zeroValue35 rfl) rfl rfl ?_)|(refine Xg.st0 (StF.storeAt (q:=0) (j:=0 + k * 24 + m.toNat * 2) (vs:=cSp ⟨v,v⟩) (cs:=c.flatMap cSp) rfl rfl rfl (te rfl) rfl rfl rfl (by rw [hcl];show 0 + k * 24 + m.toNat * 2 + 2 ≤ 96;omega)) rfl ?_;rintro _ _ ⟨rfl,rfl⟩;dsimp only [List.set];rw [hpin v])|(refine uE (uL rfl rfl (uW (T:=104) (cs:=(pin c (k * 12 + m.toNat) v).flatMap cSp) (te rfl) rfl (by repeat (first | exact qH _ | apply qT)) (hpl v))) rfl rfl ?_)|(refine uC (uT rfl (by (repeat (first | exact Args.nil | refine Args.cons rfl ?_));done)) rfl rfl (hcs v _ hv1 (by omega) (hR.sub (fun _ h=>by repeat (first | exact h | apply qT)))) ?_;rintro _ _ ⟨x,hx,rfl,rfl⟩)|(refine uE (uX rfl rfl rfl) rfl rfl ?_)|(refine Xg.st0 (uZ (i:=0) (vs:=x.1.flatMap cSp) (cs:=zRc.flatMap cSp) rfl rfl rfl (te rfl) rfl (sp_len96 hx.len) (sp_one _) (by rw [sp_len96 hx.len,sp_len];rfl)) rfl ?_;rintro _ _ ⟨rfl,rfl⟩;dsimp only [List.set])|(refine uE (uM rfl rfl) rfl rfl ?_)|(refine uE (uA rfl rfl) rfl rfl ?_)|(refine uE (uQ rfl rfl rfl rfl) rfl rfl ?_)|(refine uE (EvF.add64 rfl rfl rfl (by omega) (by omega)) rfl rfl ?_)|(refine uE (EvF.not rfl rfl) rfl rfl ?_)|(refine uE (uF rfl rfl (te rfl) rfl (te rfl) (by decide)) rfl rfl ?_)|(refine uE (uL rfl rfl (uO (te rfl) rfl (qT _ (qT _ (qT _ (qT _ (qH _))))) rfl)) rfl rfl ?_)|(refine uE (uL rfl rfl (uW (te rfl) rfl (qH _) rfl)) rfl rfl ?_)|(refine Xg.st0 (uZ (i:=1) rfl rfl rfl (te rfl) rfl rfl rfl rfl) rfl ?_;rintro _ _ ⟨rfl,rfl⟩;dsimp only [List.set])))))|(refine uD rfl ?_;refine hK _ _ ?_;clear hK K) | refine uS rfl ?_ | refine uR rfl (fun K hK=>?_) | refine X.block rfl ?_ | (refine X.brk rfl ?_;repeat (first | refine blockX_hit rfl ?_ | refine blockX_miss (by decide) ?_)) | refine X.skip rfl ?_ | refine X.ret rfl ?_ | (refine X.ite rfl rfl (fun hc=>?_);(first | (with_reducible refine Xb.case hc (fun h=>?_) (fun h=>?_))|(with_reducible refine Xb.caseB hc (fun h=>?_) (fun h=>?_))) <;> clear hc))
 ·rename_i hv3 bp
  exact ⟨_,_,⟨b11,0,cSp out,some 35,2⟩::⟨b10,0,cSp ⟨0,0⟩,some 35,2⟩::⟨b6,0,c.flatMap cSp,some 104,96⟩::⟨b5,0,cRm R p,some 26,5⟩::H,(by repeat (first | exact uU _ | refine uV rfl ?_)),(by repeat (first | exact qR _ | apply qK | apply qC)),⟨v + 1,out,any,rfl,by omega,by omega,hAc.skip (fun z hz he=>hx.no (by simpa using h) z hz (by rw [← cb];exact pin_inn hr hA.good htb hz he)),rfl,rfl⟩,by omega⟩
 ·rename_i hv3 bp
  generalize b14 = b15
  have hxl:=hx.len
  obtain ⟨s,hs⟩ : ∃ s,s = sat x.1 (i * 12 + m.toNat):=⟨_,rfl⟩
  obtain ⟨_,hslo,hshi⟩:=sp_cells x.1 (i * 12 + m.toNat) (by omega)
  rw [← hs,show (i * 12 + m.toNat) * 2 = 0 + i * 24 + m.toNat * 2 by omega] at hslo hshi
  have hX:=hx.yes (by simpa using h)
  have hsok:=And.intro (hX.sub (i * 12 + m.toNat)) (hX.full (i * 12 + m.toNat))
  rw [← hs] at hsok
  have hpo:=(pin_ok hA.good (k:=k * 12 + m.toNat) (v:=v) (by omega) (by rw [← ht];exact ⟨hv1,hv3⟩)).2.1 (i * 12 + m.toNat)
  have hsb : 0 ≤ s.lo∧s.lo ≤ s.hi∧s.hi ≤ 60:=by obtain ⟨q1,q2⟩:=hsok;omega
  have hX2:=hX
  rw [← cb] at hX2
  obtain ⟨e1,e2,e3⟩:=pin_closed hr hm hA.good hta htb (by rw [cb, ← ht];exact ⟨hv1,hv3⟩) hX2
  rw [ca, ← hs] at e1 e2 e3
  have hadd:=hAc.add (s:=⟨s.lo - v,s.hi - v⟩) e1 e2 e3
  refine X.regionOb tsDr [2,3,4,5,6,10,11,12,13,14,15] [(2,.int .i64 (i : Nat)),(3,.int .i64 (k : Nat)),(4,.int .i64 m),(5,.pointer (some ⟨b5,0,none⟩)),(6,.pointer (some ⟨b6,0,none⟩)),(10,.pointer (some ⟨b10,0,none⟩)),(11,.pointer (some ⟨b11,0,none⟩)),(12,.bool any),(13,.int .i64 v),(14,.pointer (some ⟨bp,0,none⟩)),(15,.pointer (some ⟨b15,0,none⟩))] (valDr b5 b6 b10 b11 bp b15 i k m v s any) (rowsDr b5 b6 b10 b11 bp b15 i k m v s any) (fun _=>(0,0)) (⟨b15,0,x.1.flatMap cSp,some 104,96⟩::⟨bp,0,(pin c (k * 12 + m.toNat) v).flatMap cSp,some 104,96⟩::⟨b11,0,cSp out,some 35,2⟩::⟨b10,0,cSp ⟨0,0⟩,some 35,2⟩::⟨b6,0,c.flatMap cSp,some 104,96⟩::⟨b5,0,cRm R p,some 26,5⟩::H) rfl mixed (by repeat (first | exact uU _ | refine uV rfl ?_)) rfl (by kernel_rfl) (locDr b5 b6 b10 b11 bp b15 i k m v s any) (qR _) ?_ ?_
  ·repeat' (first | exact AllF.done rfl | (refine AllF.step rfl ?_ ?_;·(first | fail | ((first | refine Ob.ng rfl ?_);(first | exact uK (fun env R hR=>by exact ⟨_,uM rfl rfl,rfl⟩) rfl (fun _=>rfl) | exact uK (fun env R hR=>by exact ⟨_,uF rfl rfl (te rfl) rfl (te rfl) (by decide),rfl⟩) rfl (fun _=>rfl)|((refine uK (fun env S hS=>⟨.pointer (some ⟨b15,0 + i * 24,none⟩),?_,rfl⟩) rfl (fun _=>rfl);exact EvF.indexArray (i:=(i : Int)) (off:=0) (b:=b15) (T:=104) (e:=102) (len:=4) rfl rfl rfl (te rfl) (te rfl) (by omega) (by omega)))|((refine uK (fun env S hS=>⟨.pointer (some ⟨b15,0 + i * 24 + m.toNat * 2,none⟩),?_,rfl⟩) rfl (fun _=>rfl);exact EvF.indexArray (i:=m) (off:=0 + i * 24) (b:=b15) (T:=102) (e:=35) (len:=12) rfl rfl rfl (te rfl) (te rfl) (by omega) (by omega)))|(exact uK (fun env S hS=>⟨_,uL rfl rfl (uO (te rfl) rfl (hS _ (qH _)) hslo),rfl⟩) rfl (fun _=>rfl))|(exact uK (fun env S hS=>⟨_,uL rfl rfl (uO (te rfl) rfl (hS _ (qH _)) hshi),rfl⟩) rfl (fun _=>rfl))|(exact uK (fun env S hS=>⟨_,EvF.build (cs:=cSp ⟨s.lo - v,s.hi - v⟩) rfl (ArgsP.cons rfl (ArgsP.cons rfl ArgsP.nil)) (te rfl) (Places.cons (te rfl) (Places.cons (te rfl) Places.nil)) Try.zeroValue35 rfl,rfl⟩) rfl (fun _=>rfl))|(exact fun env S hS=>(StF.alloc rfl Try.zeroValue35 rfl).op.mono (fun v H' ⟨b,hv,hH⟩=>⟨(b,0),fun _=>hv,by rw [hH];exact List.Perm.refl _⟩))|(exact fun env S hS=>(uZ (i:=0) (vs:=cSp ⟨s.lo - v,s.hi - v⟩) (cs:=cSp ⟨0,0⟩) rfl rfl rfl (te rfl) rfl rfl rfl rfl).op.mono (fun v H' ⟨hv,hH⟩=>⟨(0,0),fun h=>absurd rfl h,by rw [hH];exact List.Perm.refl _⟩))|(exact uK (fun env S hS=>⟨_,EvF.sub64 rfl rfl rfl (by omega) (by omega),rfl⟩) rfl (fun _=>rfl)))))))
  intro env t ha2 hv;refine ⟨_,ha2.cons (hv 17 17 (Nat.le_of_ble_eq_true rfl) rfl),?_⟩;clear hv ha2
  show X _ _ _ [(17,.pointer (some ⟨(env 17).1,0,none⟩)),(2,.int .i64 i),(3,.int .i64 k),(4,.int .i64 m),(5,.pointer (some ⟨b5,0,none⟩)),(6,.pointer (some ⟨b6,0,none⟩)),(10,.pointer (some ⟨b10,0,none⟩)),(11,.pointer (some ⟨b11,0,none⟩)),(12,.bool any),(13,.int .i64 v),(14,.pointer (some ⟨bp,0,none⟩)),(15,.pointer (some ⟨b15,0,none⟩))] (⟨(env 17).1,0,cSp ⟨s.lo - v,s.hi - v⟩,some 35,2⟩::⟨b15,0,x.1.flatMap cSp,some 104,96⟩::⟨bp,0,(pin c (k * 12 + m.toNat) v).flatMap cSp,some 104,96⟩::⟨b11,0,cSp out,some 35,2⟩::⟨b10,0,cSp ⟨0,0⟩,some 35,2⟩::⟨b6,0,c.flatMap cSp,some 104,96⟩::⟨b5,0,cRm R p,some 26,5⟩::H) _
  generalize (env 17).1 = b17
  clear env
  cases any with
  | false =>
   repeat' (first | (refine uP rfl ?_;(first | ((first | refine uN rfl ?_);(first | (refine uE (uM rfl rfl) rfl rfl ?_)|(refine uE (uA rfl rfl) rfl rfl ?_)|(refine uE (EvF.add64 rfl rfl rfl (by omega) (by omega)) rfl rfl ?_)|(refine uE (uL rfl rfl (uW (te rfl) rfl (qH _) rfl)) rfl rfl ?_)|(refine Xg.st0 (uZ (i:=3) rfl rfl rfl (te rfl) rfl rfl rfl rfl) rfl ?_;rintro _ _ ⟨rfl,rfl⟩;dsimp only [List.set])))))|(refine uD rfl ?_;refine hK _ _ ?_;clear hK K) | refine uS rfl ?_ | refine uR rfl (fun K hK=>?_) | refine X.skip rfl ?_ | (refine X.ite rfl rfl (fun hc=>?_);(first | (with_reducible refine Xb.f hc ?_)) <;> clear hc))
   all_goals try (exfalso;contradiction)
   exact ⟨_,_,⟨b11,0,cSp ⟨s.lo - v,s.hi - v⟩,some 35,2⟩::⟨b10,0,cSp ⟨0,0⟩,some 35,2⟩::⟨b6,0,c.flatMap cSp,some 104,96⟩::⟨b5,0,cRm R p,some 26,5⟩::H,(by repeat (first | exact uU _ | refine uV rfl ?_)),(by repeat (first | exact qR _ | apply qK | apply qC)),⟨v + 1,_,true,rfl,by omega,by omega,by simpa using hadd,rfl,rfl⟩,by omega⟩
  | true =>
   repeat' (first | (refine uP rfl ?_;(first | ((first | refine uN rfl ?_);(first | (refine uE (EvF.min64 rfl rfl rfl) rfl rfl ?_)|(refine uE (EvF.max64 rfl rfl rfl) rfl rfl ?_)|(refine uE (EvF.build (cs:=cSp ⟨min (s.lo - v) out.lo,max (s.hi - v) out.hi⟩) rfl (ArgsP.cons rfl (ArgsP.cons rfl ArgsP.nil)) (te rfl) (Places.cons (te rfl) (Places.cons (te rfl) Places.nil)) Try.zeroValue35 rfl) rfl rfl ?_)|(refine uE (uM rfl rfl) rfl rfl ?_)|(refine uE (uA rfl rfl) rfl rfl ?_)|(refine uE (EvF.add64 rfl rfl rfl (by omega) (by omega)) rfl rfl ?_)|(refine uE (uF rfl rfl (te rfl) rfl (te rfl) (by decide)) rfl rfl ?_)|(refine uE (uL rfl rfl (uO (te rfl) rfl (qH _) rfl)) rfl rfl ?_)|(refine uE (uL rfl rfl (uO (te rfl) rfl (qT _ (qT _ (qT _ (qH _)))) rfl)) rfl rfl ?_)|(refine uE (uL rfl rfl (uW (te rfl) rfl (qH _) rfl)) rfl rfl ?_)|(refine Xg.st0 (uZ (i:=0) rfl rfl rfl (te rfl) rfl rfl rfl rfl) rfl ?_;rintro _ _ ⟨rfl,rfl⟩;dsimp only [List.set])|(refine Xg.st0 (uZ (i:=3) rfl rfl rfl (te rfl) rfl rfl rfl rfl) rfl ?_;rintro _ _ ⟨rfl,rfl⟩;dsimp only [List.set])))))|(refine uD rfl ?_;refine hK _ _ ?_;clear hK K) | refine uS rfl ?_ | refine uR rfl (fun K hK=>?_)|(refine X.ite rfl rfl (fun hc=>?_);(first | (with_reducible refine Xb.t hc ?_)) <;> clear hc))
   all_goals try (exfalso;contradiction)
   exact ⟨_,_,⟨b11,0,cSp ⟨min (s.lo - v) out.lo,max (s.hi - v) out.hi⟩,some 35,2⟩::⟨b10,0,cSp ⟨0,0⟩,some 35,2⟩::⟨b6,0,c.flatMap cSp,some 104,96⟩::⟨b5,0,cRm R p,some 26,5⟩::H,(by repeat (first | exact uU _ | refine uV rfl ?_)),(by repeat (first | exact qR _ | apply qK | apply qC)),⟨v + 1,_,true,rfl,by omega,by omega,by simpa using hadd,rfl,rfl⟩,by omega⟩
 ·have hex:=hAc.ex hA.hT (fun z hz=>by
   have:=hA.good.inn z hz b m htb
   rw [cb, ← ht] at this
   unfold holds at this
   omega)
  refine ret_one (v := .agg (cSp out).toArray) (by simp) Try.results60 ⟨_,rfl,uW (te rfl) rfl (by repeat (first | exact qH _ | apply qT)) rfl⟩ (H' := H) (by repeat (first | exact qR _ | apply qK | apply qC)) ⟨?_,rfl⟩
  rw [rng_eq hex]
def tsDh : List TOp:=[⟨some 29,[],[],[]⟩,⟨some 30,[],[],[]⟩,⟨some 31,[],[],[]⟩,⟨some 32,[],[],[]⟩,⟨some 33,[2,3],[2,3],[]⟩,⟨some 34,[],[],[]⟩,⟨some 35,[],[],[]⟩,⟨some 36,[2,3,4,5,6],[5,6],[]⟩,⟨some 37,[],[],[]⟩,⟨some 38,[0,1,2,3,4,5,6,7,8],[0,1,4,7,8],[]⟩,⟨none,[0,1,2,3,4,5,6,7,8,9],[9],[12]⟩,⟨some 9,[0,1,2,3,4,5,6,7,8,9,10],[],[]⟩,⟨none,[],[],[]⟩]
def valDh (b4 b8 b10 ia ib : Nat) (R : Rm) (p : Pl) (c : List Sp) (x y m : Int) (s : Sp) (k : Nat) (env : Env) : Value :=
 match k with
 | 0 => .agg (cRm R p).toArray
 | 1 => .agg (c.flatMap cSp).toArray
 | 2 => .agg (cRm R p).toArray
 | 3 => .int .i64 x
 | 4 => .int .i64 (ia : Nat)
 | 5 => .agg (cRm R p).toArray
 | 6 => .int .i64 y
 | 7 => .int .i64 (ib : Nat)
 | 8 => .int .i64 m
 | 9 => .agg (cSp s).toArray
 | 10=>undef
 | 11 => .int .i64 0
 | _=>undef
def rowsDh (b4 b8 b10 ia ib : Nat) (R : Rm) (p : Pl) (c : List Sp) (x y m : Int) (s : Sp) (k : Nat) (env : Env) : List Row :=
 match k with
 | 10=>[⟨b8,0,cSp s,some 35,2⟩]
 | 12=>[⟨b8,0,cSp ⟨0,0⟩,some 35,2⟩]
 | _=>[]
theorem locDh (b4 b8 b10 ia ib : Nat) (R : Rm) (p : Pl) (c : List Sp) (x y m : Int) (s : Sp) : ∀ k env i q9,i ≠ k → (tAt tsDh k).sup.contains i = false → valDh b4 b8 b10 ia ib R p c x y m s k (upd env i q9)=valDh b4 b8 b10 ia ib R p c x y m s k env∧rowsDh b4 b8 b10 ia ib R p c x y m s k (upd env i q9)=rowsDh b4 b8 b10 ia ib R p c x y m s k env:=by
 intro k env i q hk hs
 have hu : ∀ j,j ≠ i → upd env i q j = env j:=fun j hj=>by unfold upd;rw [if_neg hj]
 match k,hk,hs with
 | 0,_,_=>exact ⟨rfl,rfl⟩
 | 1,_,_=>exact ⟨rfl,rfl⟩
 | 2,_,_=>exact ⟨rfl,rfl⟩
 | 3,_,_=>exact ⟨rfl,rfl⟩
 | 4,_,_=>exact ⟨rfl,rfl⟩
 | 5,_,_=>exact ⟨rfl,rfl⟩
 | 6,_,_=>exact ⟨rfl,rfl⟩
 | 7,_,_=>exact ⟨rfl,rfl⟩
 | 8,_,_=>exact ⟨rfl,rfl⟩
 | 9,_,_=>exact ⟨rfl,rfl⟩
 | 10,_,_=>exact ⟨rfl,rfl⟩
 | 11,_,_=>exact ⟨rfl,rfl⟩
 | 12,_,_=>exact ⟨rfl,rfl⟩
 | _ + 13,_,_=>exact ⟨rfl,rfl⟩
set_option maxHeartbeats 4000000 in
theorem rDiffer_spec (R : Rm) (p : Pl) (a b m : Int) (H : List Row) (hR : RmOk H R p) : Fc Try.prog 20 [.agg (cRm R p).toArray,.int .i64 a,.int .i64 b,.int .i64 m] H (fun v H' => v = .tuple #[.agg (cSp (difF R a b m).1).toArray,.int .i64 (difF R a b m).2]∧H' = H):=by
 obtain ⟨e,he⟩ : ∃ e,openE R [a,b] [m] = e:=⟨_,rfl⟩
 have has : ∀ (H' : List Row) (b1 : Nat),RmOk H' R p → ⟨b1,0,[.int .i64 a,.int .i64 b],some 3,2 * 1⟩ ∈ H' → Fc Try.prog 57 [.agg (cRm R p).toArray,.slice (some ⟨b1,0,none⟩) 2 2,.int .i64 m] H' (fun v H'' => ∃ c,c.length = 48∧(e = 0 → As R 0 c)∧v = .tuple #[.agg (c.flatMap cSp).toArray,.int .i64 e]∧H'' = H'):=fun H' b1 q1 q2=>by
  have:=rAsked_spec R p [a,b] (some ⟨b1,0,none⟩) 2 m H' q1 (SlE.ofRow (l:=[a,b]) q2 (fun _ _=>rfl)) (Nat.le_of_ble_eq_true rfl)
  rw [he] at this
  exact this
 by_cases h0 : e = 0
 ·subst h0
  obtain ⟨hok,_,_,hT⟩:=openE_ok he
  have hr:=hok.ok
  have hb4:=hr.b4
  have hlm : R.mats.length ≤ 100:=by have:=hok.1.2.2.2.2.2.2;omega
  obtain ⟨xa,ia,hta,rfl,hia,hixa,hila,hm0,hm1,hca⟩:=there_ix hr he (show a ∈ [a,b] from List.mem_cons_self)
  obtain ⟨xb,ib,htb,rfl,hib,hixb,hilb,_,_,hcb⟩:=there_ix hr he (show b ∈ [xa.id,b] from List.mem_cons_of_mem _ List.mem_cons_self)
  have hixsa:=fun H' hH' => index_spec R p xa.id H' hH'
  have hixsb:=fun H' hH' => index_spec R p xb.id H' hH'
  rw [hixa] at hixsa
  rw [hixb] at hixsb
  obtain ⟨r,hr9⟩ : ∃ r,r = difF R xa.id xb.id m:=⟨_,rfl⟩
  rw [← hr9]
  unfold difF at hr9
  rw [if_pos he] at hr9
  refine Fc.mk (callable Try.call20) Try.func20 rfl Try.ntmps20 rfl ?_;dsimp only [fr]
  repeat' (first | (refine uP rfl ?_;(first | ((first | refine uN rfl ?_);(first | (refine Xg.st (StF.buildTwo rfl el55 rfl rfl rfl rfl rfl rfl (by decide) (by decide)) rfl rfl ?_;rintro _ _ ⟨b1,rfl,rfl⟩)|(refine uE (uL rfl rfl (uW (T:=26) (cs:=cRm R p) (te rfl) rfl (by repeat (first | exact qH _ | apply qT)) rfl)) rfl rfl ?_)|(refine uC (uT rfl (by (repeat (first | exact Args.nil | refine Args.cons rfl ?_));done)) rfl rfl (has _ b1 (hR.sub (fun _ h=>by repeat (first | exact h | apply qT))) (qH _)) ?_;rintro _ _ ⟨c,hc,hA,rfl,rfl⟩)|(refine uE (uX rfl rfl rfl) rfl rfl ?_)|(refine Xg.st (StF.alloc rfl Try.zeroValue104 rfl) rfl rfl ?_;rintro _ _ ⟨b10,rfl,rfl⟩)|(refine Xg.st0 (uZ (i:=0) (vs:=c.flatMap cSp) (cs:=zRc.flatMap cSp) rfl rfl rfl (te rfl) rfl (sp_len96 hc) (sp_one _) (by rw [sp_len96 hc,sp_len];rfl)) rfl ?_;rintro _ _ ⟨rfl,rfl⟩;dsimp only [List.set])|(refine uE (EvF.build (cs:=cSp ⟨0,0⟩) rfl ArgsP.nil (te rfl) (Places.cons (te rfl) (Places.cons (te rfl) Places.nil)) Try.zeroValue35 rfl) rfl rfl ?_)|(refine uE (uM rfl rfl) rfl rfl ?_)|(refine uE (uA rfl rfl) rfl rfl ?_)|(refine uE (uQ rfl rfl rfl rfl) rfl rfl ?_)|(refine Xg.st (StF.boxAgg rfl rfl) rfl rfl ?_;rintro _ _ ⟨bx,rfl,rfl⟩)|(refine Xg.st (StF.alloc rfl Try.zeroValue35 rfl) rfl rfl ?_;rintro _ _ ⟨bx,rfl,rfl⟩)|(refine Xg.st0 (uZ (i:=2) rfl rfl rfl (te rfl) rfl rfl rfl rfl) rfl ?_;rintro _ _ ⟨rfl,rfl⟩;dsimp only [List.set])))))|(refine uD rfl ?_;refine hK _ _ ?_;clear hK K) | refine uS rfl ?_ | refine uR rfl (fun K hK=>?_) | refine X.skip rfl ?_ | refine X.ret rfl ?_ | (refine X.ite rfl rfl (fun hc=>?_);(first | (with_reducible refine Xb.case hc (fun h=>?_) (fun h=>?_))|(with_reducible refine Xb.caseN hc (fun h=>?_) (fun h=>?_))) <;> clear hc))
  all_goals try (exfalso;omega)
  ·rw [if_pos (by assumption)] at hr9
   subst hr9
   exact ret_two (v := .agg (cSp ⟨0,0⟩).toArray) (by simp) Try.results20 ⟨_,rfl,uW (te rfl) rfl (by repeat (first | exact qH _ | apply qT)) rfl⟩ rfl (H' := H) (by repeat (first | exact qR _ | apply qK | apply qC)) ⟨rfl,rfl⟩
  ·rw [if_neg (by assumption)] at hr9
   subst hr9
   rename_i b4 h9
   generalize bx = b8
   refine X.weakR (H' := ⟨b10,0,c.flatMap cSp,some 104,96⟩::⟨b8,0,cSp ⟨0,0⟩,some 35,2⟩::⟨b4,0,cRm R p,some 26,5⟩::H) (qK _ (qC _ (qR _))) ?_
   refine X.permH (H' := ⟨b8,0,cSp ⟨0,0⟩,some 35,2⟩::⟨b10,0,c.flatMap cSp,some 104,96⟩::⟨b4,0,cRm R p,some 26,5⟩::H) (List.Perm.swap _ _ _) ?_
   have hcl:=sp_len96 hc
   have hRs : ∀ S : List Row,(∀ r ∈ ⟨b10,0,c.flatMap cSp,some 104,96⟩::⟨b4,0,cRm R p,some 26,5⟩::H,r ∈ S) → RmOk S R p:=fun S hS=>hR.sub (fun r h=>hS r (List.mem_append_right [_,_] h))
   obtain ⟨s,hs⟩ : ∃ s,s = rng R R.mats ⟨xa.id,m⟩ ⟨xb.id,m⟩:=⟨_,rfl⟩
   have hds:=fun S hS=>rdiffer_spec R p c xa xb ia ib m S hr hS hok.mats hlm hc (hA rfl) hta htb hia hib
   rw [← hs] at hds ⊢
   refine X.regionOb tsDh [1,2,3,4,8,10] [(1,.int .i64 xa.id),(2,.int .i64 xb.id),(3,.int .i64 m),(4,.pointer (some ⟨b4,0,none⟩)),(8,.pointer (some ⟨b8,0,none⟩)),(10,.pointer (some ⟨b10,0,none⟩))] (valDh b4 b8 b10 ia ib R p c xa.id xb.id m s) (rowsDh b4 b8 b10 ia ib R p c xa.id xb.id m s) (fun _=>(0,0)) (⟨b10,0,c.flatMap cSp,some 104,96⟩::⟨b4,0,cRm R p,some 26,5⟩::H) rfl mixed (by repeat (first | exact uU _ | refine uV rfl ?_)) rfl (by kernel_rfl) (locDh b4 b8 b10 ia ib R p c xa.id xb.id m s) (qR _) ?_ ?_
   ·repeat' (first | exact AllF.done rfl | (refine AllF.step rfl ?_ ?_;·(first | fail | ((first | refine Ob.ng rfl ?_);(first | exact uK (fun env R hR=>by exact ⟨_,uM rfl rfl,rfl⟩) rfl (fun _=>rfl) | exact uK (fun env R hR=>by exact ⟨_,uA rfl rfl,rfl⟩) rfl (fun _=>rfl) | exact uK (fun env R hR=>by exact ⟨_,uL rfl rfl (uW (te rfl) rfl (hR _ (qT _ (qH _))) rfl),rfl⟩) rfl (fun _=>rfl)|(exact uK (fun env S hS=>⟨_,uL rfl rfl (uW (T:=104) (cs:=c.flatMap cSp) (te rfl) rfl (hS _ (qH _)) hcl),rfl⟩) rfl (fun _=>rfl))|(exact fun env S hS=>OpF.callV (Z:=[]) (uT rfl (Args.cons rfl (Args.cons rfl Args.nil))) (hixsa _ (hRs _ hS)) rfl rfl)|(exact fun env S hS=>OpF.callV (Z:=[]) (uT rfl (Args.cons rfl (Args.cons rfl Args.nil))) (hixsb _ (hRs _ hS)) rfl rfl)|(exact fun env S hS=>OpF.callV (Z:=[]) (uT rfl (Args.cons rfl (Args.cons rfl (Args.cons rfl (Args.cons rfl (Args.cons rfl Args.nil)))))) (hds _ (hRs _ hS)) rfl rfl)|(exact fun env S hS=>(uZ (i:=0) (vs:=cSp s) (cs:=cSp ⟨0,0⟩) rfl rfl rfl (te rfl) rfl rfl rfl rfl).op.mono (fun v H' ⟨hv,hH⟩=>⟨(0,0),fun h=>absurd rfl h,by rw [hH];exact List.Perm.refl _⟩)))))))
   intro env t ha2 hv;refine ⟨_,ha2.cons (hv 11 9 (Nat.le_of_ble_eq_true rfl) rfl),?_⟩;clear hv ha2
   show X _ _ _ [(9,.int .i64 0),(1,.int .i64 xa.id),(2,.int .i64 xb.id),(3,.int .i64 m),(4,.pointer (some ⟨b4,0,none⟩)),(8,.pointer (some ⟨b8,0,none⟩)),(10,.pointer (some ⟨b10,0,none⟩))] (⟨b8,0,cSp s,some 35,2⟩::⟨b10,0,c.flatMap cSp,some 104,96⟩::⟨b4,0,cRm R p,some 26,5⟩::H) _
   clear env
   repeat' (first | refine X.ret rfl ?_)
   exact ret_two (v := .agg (cSp s).toArray) (by simp) Try.results20 ⟨_,rfl,uW (te rfl) rfl (qH _) rfl⟩ rfl (H' := H) (by repeat (first | exact qR _ | apply qK | apply qC)) ⟨rfl,rfl⟩
 ·have hy : difF R a b m = (⟨0,0⟩,e):=by unfold difF;rw [if_neg (by rw [he];exact h0),he]
  rw [hy]
  refine Fc.mk (callable Try.call20) Try.func20 rfl Try.ntmps20 rfl ?_;dsimp only [fr]
  repeat' (first | (refine uP rfl ?_;(first | ((first | refine uN rfl ?_);(first | (refine Xg.st (StF.buildTwo rfl el55 rfl rfl rfl rfl rfl rfl (by decide) (by decide)) rfl rfl ?_;rintro _ _ ⟨b1,rfl,rfl⟩)|(refine uE (uL rfl rfl (uW (T:=26) (cs:=cRm R p) (te rfl) rfl (by repeat (first | exact qH _ | apply qT)) rfl)) rfl rfl ?_)|(refine uC (uT rfl (by (repeat (first | exact Args.nil | refine Args.cons rfl ?_));done)) rfl rfl (has _ b1 (hR.sub (fun _ h=>by repeat (first | exact h | apply qT))) (qH _)) ?_;rintro _ _ ⟨c,hc,hA,rfl,rfl⟩)|(refine uE (uX rfl rfl rfl) rfl rfl ?_)|(refine Xg.st (StF.alloc rfl Try.zeroValue104 rfl) rfl rfl ?_;rintro _ _ ⟨b8,rfl,rfl⟩)|(refine Xg.st0 (uZ (i:=0) (vs:=c.flatMap cSp) (cs:=zRc.flatMap cSp) rfl rfl rfl (te rfl) rfl (sp_len96 hc) (sp_one _) (by rw [sp_len96 hc,sp_len];rfl)) rfl ?_;rintro _ _ ⟨rfl,rfl⟩;dsimp only [List.set])|(refine uE (EvF.build (cs:=cSp ⟨0,0⟩) rfl ArgsP.nil (te rfl) (Places.cons (te rfl) (Places.cons (te rfl) Places.nil)) Try.zeroValue35 rfl) rfl rfl ?_)|(refine uE (uM rfl rfl) rfl rfl ?_)|(refine uE (uA rfl rfl) rfl rfl ?_)|(refine uE (uQ rfl rfl rfl rfl) rfl rfl ?_)|(refine Xg.st (StF.boxAgg rfl rfl) rfl rfl ?_;rintro _ _ ⟨bx,rfl,rfl⟩)|(refine Xg.st (StF.alloc rfl Try.zeroValue35 rfl) rfl rfl ?_;rintro _ _ ⟨bx,rfl,rfl⟩)|(refine Xg.st0 (uZ (i:=2) rfl rfl rfl (te rfl) rfl rfl rfl rfl) rfl ?_;rintro _ _ ⟨rfl,rfl⟩;dsimp only [List.set])))))|(refine uD rfl ?_;refine hK _ _ ?_;clear hK K)|(refine XQ.op rfl ?_;(first | ((first | refine Yo.ng rfl ?_);(first | (refine Yg.ev (uL rfl rfl (uW (T:=26) (cs:=cRm R p) (te rfl) rfl (by repeat (first | exact qH _ | apply qT)) rfl)) rfl rfl ?_))))) | refine uS rfl ?_ | refine uR rfl (fun K hK=>?_) | refine X.regionD rfl mixed (by kernel_rfl) (fun K hK=>?_) | refine X.skip rfl ?_ | refine X.ret rfl ?_ | (refine X.ite rfl rfl (fun hc=>?_);(first | (with_reducible refine Xb.case hc (fun h=>?_) (fun h=>?_))|(with_reducible refine Xb.caseN hc (fun h=>?_) (fun h=>?_))) <;> clear hc))
  all_goals try (exfalso;simp_all;done)
  exact ret_two (v := .agg (cSp ⟨0,0⟩).toArray) (by simp) Try.results20 ⟨_,rfl,uW (te rfl) rfl (by repeat (first | exact qH _ | apply qT)) rfl⟩ rfl (H' := H) (by repeat (first | exact qR _ | apply qK | apply qC)) ⟨rfl,rfl⟩
def knb (so no : Bool) : Int:=if no then (if so then 1 else 0) else 2
theorem lKnown_spec (so no : Bool) (H : List Row) : Fc Try.prog 64 [.bool so,.bool no] H (fun v H' => v = .int .u8 (knb so no)∧H' = H):=by
 cases so <;> cases no
 all_goals (refine Fc.mk (callable Try.call64) Try.func64 rfl Try.ntmps64 rfl ?_;dsimp only [fr])
 all_goals (repeat' (first | (refine uP rfl ?_;(first | ((first | refine uN rfl ?_);(first | (refine uE (uM rfl rfl) rfl rfl ?_)|(refine uE (uA rfl rfl) rfl rfl ?_)|(refine uE (uQ rfl rfl rfl rfl) rfl rfl ?_)|(refine uE (EvF.not rfl rfl) rfl rfl ?_)|(refine uE (uF rfl rfl (te rfl) rfl (te rfl) (by decide)) rfl rfl ?_)|(refine uE (uL rfl rfl (uO (te rfl) rfl (qH _) rfl)) rfl rfl ?_)|(refine Xg.st (StF.boxAgg rfl rfl) rfl rfl ?_;rintro _ _ ⟨bx,rfl,rfl⟩)))))|(refine uD rfl ?_;refine hK _ _ ?_;clear hK K) | refine uS rfl ?_ | refine uR rfl (fun K hK=>?_) | refine X.block rfl ?_ | refine X.skip rfl ?_ | refine X.ret rfl ?_ | (refine X.ite rfl rfl (fun hc=>?_);(first | (with_reducible refine Xb.case hc (fun h=>?_) (fun h=>?_))|(with_reducible refine Xb.caseB hc (fun h=>?_) (fun h=>?_))) <;> clear hc)))
 all_goals try (exfalso;contradiction)
 all_goals (refine ret_one (by simp) Try.results64 rfl (H' := H) (by repeat (first | exact qR _ | apply qK | apply qC)) ⟨rfl,rfl⟩)
def toldF (s : Sp) (n : Int) : Int:=if n ≤ s.lo then 2 else if n ≤ s.hi then 1 else 0
theorem knb_told (s : Sp) (n : Int) : knb (decide (n ≤ s.hi)) (decide (s.lo < n)) = toldF s n:=by
 unfold knb toldF
 by_cases h : n ≤ s.lo
 ·rw [if_pos h,decide_eq_false (by omega)];rfl
 ·rw [if_neg h,decide_eq_true (show s.lo < n by omega)]
  simp
def knP (y : Sp × Int) (n : Int) : Int × Int:=if y.2 = 0 then (toldF y.1 n,0) else (0,y.2)
set_option maxHeartbeats 4000000 in
theorem kKnown_spec (R : Rm) (p : Pl) (a m n : Int) (H : List Row) (hR : RmOk H R p) (h2 : R.boxes.length ≤ 1000000) : Fc Try.prog 24 [.agg (cRm R p).toArray,.int .i64 a,.int .i64 m,.int .i64 n] H (fun v H' => v = .tuple #[.int .u8 (knP (yelF R a m) n).1,.int .i64 (knP (yelF R a m) n).2]∧H' = H):=by
 obtain ⟨⟨ys,ye⟩,hy⟩ : ∃ y,y = yelF R a m:=⟨_,rfl⟩
 have kyel:=fun p' H' (h : RmOk H' R p')=>kYellow_spec R p' a m H' h h2
 rw [← hy] at kyel ⊢
 clear hy
 refine Fc.mk (callable Try.call24) Try.func24 rfl Try.ntmps24 rfl ?_;dsimp only [fr]
 repeat' (first | (refine uP rfl ?_;(first | ((first | refine uN rfl ?_);(first | (refine uE (uL rfl rfl (uW (T:=26) (cs:=cRm R p) (te rfl) rfl (by repeat (first | exact qH _ | apply qT)) rfl)) rfl rfl ?_)|(refine uC (uT rfl (by (repeat (first | exact Args.nil | refine Args.cons rfl ?_));done)) rfl rfl (kyel _ _ (hR.sub (fun _ h=>by repeat (first | exact h | apply qT)))) ?_;rintro _ H9 ⟨rfl,hH9⟩;subst H9)|(refine uC (uT rfl (by (repeat (first | exact Args.nil | refine Args.cons rfl ?_));done)) rfl rfl (lKnown_spec _ _ _) ?_;rintro _ H9 ⟨rfl,hH9⟩;subst H9)|(refine uE (uX rfl rfl rfl) rfl rfl ?_)|(refine uE (uM rfl rfl) rfl rfl ?_)|(refine uE (uA rfl rfl) rfl rfl ?_)|(refine uE (uQ rfl rfl rfl rfl) rfl rfl ?_)|(refine uE (uF rfl rfl (te rfl) rfl (te rfl) (by decide)) rfl rfl ?_)|(refine uE (uL rfl rfl (uO (te rfl) rfl (qH _) rfl)) rfl rfl ?_)|(refine Xg.st (StF.boxAgg rfl rfl) rfl rfl ?_;rintro _ _ ⟨bx,rfl,rfl⟩)|(refine Xg.st (StF.alloc rfl Try.zeroValue35 rfl) rfl rfl ?_;rintro _ _ ⟨bx,rfl,rfl⟩)|(refine Xg.st0 (uZ (i:=0) rfl rfl rfl (te rfl) rfl rfl rfl rfl) rfl ?_;rintro _ _ ⟨rfl,rfl⟩;dsimp only [List.set])))))|(refine uD rfl ?_;refine hK _ _ ?_;clear hK K) | refine uS rfl ?_ | refine uR rfl (fun K hK=>?_) | refine X.skip rfl ?_ | refine X.ret rfl ?_ | (refine X.ite rfl rfl (fun hc=>?_);(first | (with_reducible refine Xb.caseN hc (fun h=>?_) (fun h=>?_))) <;> clear hc))
 ·refine ret_two (by simp) Try.results24 rfl rfl (H' := H) (by repeat (first | exact qR _ | apply qK | apply qC)) ⟨?_,rfl⟩
  unfold knP
  rw [if_neg (by assumption)]
 ·refine ret_two (by simp) Try.results24 rfl rfl (H' := H) (by repeat (first | exact qR _ | apply qK | apply qC)) ⟨?_,rfl⟩
  unfold knP
  rw [if_pos (by assumption), ← knb_told]
set_option maxHeartbeats 4000000 in
theorem kOrder_spec (R : Rm) (p : Pl) (a b m : Int) (H : List Row) (hR : RmOk H R p) (h2 : R.boxes.length ≤ 1000000) : Fc Try.prog 26 [.agg (cRm R p).toArray,.int .i64 a,.int .i64 b,.int .i64 m] H (fun v H' => v = .tuple #[.int .u8 (knP (difF R a b m) 0).1,.int .i64 (knP (difF R a b m) 0).2]∧H' = H):=by
 obtain ⟨⟨ys,ye⟩,hy⟩ : ∃ y,y = difF R a b m:=⟨_,rfl⟩
 have kyel:=fun p' H' (h : RmOk H' R p')=>kDiffer_spec R p' a b m H' h h2
 rw [← hy] at kyel ⊢
 clear hy
 refine Fc.mk (callable Try.call26) Try.func26 rfl Try.ntmps26 rfl ?_;dsimp only [fr]
 repeat' (first | (refine uP rfl ?_;(first | ((first | refine uN rfl ?_);(first | (refine uE (uL rfl rfl (uW (T:=26) (cs:=cRm R p) (te rfl) rfl (by repeat (first | exact qH _ | apply qT)) rfl)) rfl rfl ?_)|(refine uC (uT rfl (by (repeat (first | exact Args.nil | refine Args.cons rfl ?_));done)) rfl rfl (kyel _ _ (hR.sub (fun _ h=>by repeat (first | exact h | apply qT)))) ?_;rintro _ H9 ⟨rfl,hH9⟩;subst H9)|(refine uC (uT rfl (by (repeat (first | exact Args.nil | refine Args.cons rfl ?_));done)) rfl rfl (lKnown_spec _ _ _) ?_;rintro _ H9 ⟨rfl,hH9⟩;subst H9)|(refine uE (uX rfl rfl rfl) rfl rfl ?_)|(refine uE (uM rfl rfl) rfl rfl ?_)|(refine uE (uA rfl rfl) rfl rfl ?_)|(refine uE (uQ rfl rfl rfl rfl) rfl rfl ?_)|(refine uE (uF rfl rfl (te rfl) rfl (te rfl) (by decide)) rfl rfl ?_)|(refine uE (uL rfl rfl (uO (te rfl) rfl (qH _) rfl)) rfl rfl ?_)|(refine Xg.st (StF.boxAgg rfl rfl) rfl rfl ?_;rintro _ _ ⟨bx,rfl,rfl⟩)|(refine Xg.st (StF.alloc rfl Try.zeroValue35 rfl) rfl rfl ?_;rintro _ _ ⟨bx,rfl,rfl⟩)|(refine Xg.st0 (uZ (i:=0) rfl rfl rfl (te rfl) rfl rfl rfl rfl) rfl ?_;rintro _ _ ⟨rfl,rfl⟩;dsimp only [List.set])))))|(refine uD rfl ?_;refine hK _ _ ?_;clear hK K) | refine uS rfl ?_ | refine uR rfl (fun K hK=>?_) | refine X.skip rfl ?_ | refine X.ret rfl ?_ | (refine X.ite rfl rfl (fun hc=>?_);(first | (with_reducible refine Xb.caseN hc (fun h=>?_) (fun h=>?_))) <;> clear hc))
 ·refine ret_two (by simp) Try.results26 rfl rfl (H' := H) (by repeat (first | exact qR _ | apply qK | apply qC)) ⟨?_,rfl⟩
  unfold knP
  rw [if_neg (by assumption)]
 ·refine ret_two (by simp) Try.results26 rfl rfl (H' := H) (by repeat (first | exact qR _ | apply qK | apply qC)) ⟨?_,rfl⟩
  unfold knP
  rw [if_pos (by assumption), ← knb_told]
def fstM (P : Nat → Bool) : Nat → Nat → Option Nat
 | _,0=>none
 | k,n + 1=>if P k then some k else fstM P (k + 1) n
theorem fstM_hit {P : Nat → Bool} {k n : Nat} (h : P k = true) (hn : 0 < n) : fstM P k n = some k:=by
 cases n with
 | zero=>omega
 | succ n=>unfold fstM;rw [h];rfl
theorem fstM_no {P : Nat → Bool} {k n : Nat} (h : P k = false) (hn : 0 < n) : fstM P k n = fstM P (k + 1) (n - 1):=by
 cases n with
 | zero=>omega
 | succ n =>
  conv=>lhs;unfold fstM
  rw [h];simp
open Classical in
noncomputable def sinP (R : Rm) (a : Int) (f : Sp → Bool) (k : Nat) : Bool:=decide (∃ b,there R b k∧b.id = a) && f (rng R R.mats ⟨a,k⟩ zp)
def sinO : Option Nat → Int × Int
 | some k=>(k,0)
 | none=>(0,6)
noncomputable def sinF (R : Rm) (a : Int) (f : Sp → Bool) : Int × Int:=if openE R [a] [] = 0 then sinO (fstM (sinP R a f) 0 R.months.toNat) else (0,openE R [a] [])
def sinS (sure : Bool) (n : Int) (s : Sp) : Bool:=decide (n ≤ if sure then s.lo else s.hi)
theorem Tru.mono {R : Rm} {M M' : List Mt} {z : Pk → Int} (h : Tru R M z) (hs : ∀ x ∈ M',x ∈ M) : Tru R M' z:=⟨h.zero,h.age,h.step,fun x hx=>h.mat x (hs x hx)⟩
theorem hasT.mono {R : Rm} {M M' : List Mt} (h : hasT R M) (hs : ∀ x ∈ M',x ∈ M) : hasT R M' := ⟨_,h.choose_spec.mono hs⟩
def thI (R : Rm) (m : Int) : List Int:=(R.boxes.filter (fun b=>decide (b.made ≤ m))).map (·.id)
theorem mem_thI {R : Rm} {m i : Int} (h : m ≤ R.months - 1) : i ∈ thI R m ↔ ∃ b,there R b m∧b.id = i:=by
 unfold thI
 constructor
 ·intro q
  obtain ⟨b,hb,rfl⟩:=List.mem_map.1 q
  have:=List.mem_filter.1 hb
  exact ⟨b,⟨this.1,of_decide_eq_true this.2,h⟩,rfl⟩
 ·rintro ⟨b,hb,rfl⟩
  exact List.mem_map.2 ⟨b,List.mem_filter.2 ⟨hb.1,decide_eq_true hb.2.1⟩,rfl⟩
noncomputable def stale (R : Rm) (m a : Int) : Bool:=(thI R m).any (fun b=>decide (0 < (rng R R.mats ⟨a,m⟩ ⟨b,m⟩).lo))
noncomputable def freL (R : Rm) (m : Int) : List Int:=(thI R m).filter (fun a => !stale R m a)
noncomputable def freF (R : Rm) (m : Int) : List Int × Int:=if openE R [] [m] = 0 then (freL R m,0) else ([],openE R [] [m])
def askI (w : Int → Int → Int) (x : Int) : List Int → Int × Int × Int → Int × Int × Int
 | [],acc=>acc
 | y::t,acc=>askI w x t (if acc.2.2 < w x y then (x,y,w x y) else acc)
def askO (w : Int → Int → Int) : List Int → Int × Int × Int → Int × Int × Int
 | [],acc=>acc
 | x::t,acc=>askO w t (askI w x t acc)
noncomputable def wid2 (R : Rm) (m a b : Int) : Int:=(rng R R.mats ⟨a,m⟩ ⟨b,m⟩).hi - (rng R R.mats ⟨a,m⟩ ⟨b,m⟩).lo
noncomputable def askF (R : Rm) (m : Int) : (Int × Int × Int) × Int:=if openE R [] [m] = 0 then (if (thI R m).length < 2 then ((0,0,0),6) else (askO (wid2 R m) (thI R m) (0,0, -1),0)) else ((0,0,0),openE R [] [m])
def dueS (L : Nat → List Int) : Nat → Nat → Int × List Int × Int
 | _,0=>(0,[],6)
 | k,q + 1=>if (L k).length = 0 then dueS L (k + 1) q else (k,L k,0)
noncomputable def dueL (R : Rm) (n : Int) (k : Nat) : List Int:=(R.boxes.filter (fun b=>decide (b.made ≤ (k : Int)) && decide (n < (rng R R.mats ⟨b.id,k⟩ zp).hi))).map (·.id)
def dueP (n : Int) (s : Sp) : Bool:=decide (n < s.hi)
noncomputable def lateL (R : Rm) (n : Int) (l : List Bx) (k : Nat) : List Int:=(l.filter (fun b=>decide (fstM (sinP R b.id (dueP n)) 0 R.months.toNat = some k))).map (·.id)
noncomputable def dueF (R : Rm) (n : Int) : Int × List Int × Int:=if openE R [] [] = 0 then dueS (dueL R n) 0 R.months.toNat else (0,[],openE R [] [])
theorem fstM_iff (P : Nat → Bool) : ∀ (q k j : Nat),fstM P k q = some j ↔ (k ≤ j∧j < k + q∧P j = true ∧ ∀ i,k ≤ i → i < j → P i = false)
 | 0,k,j=>by unfold fstM;simp;omega
 | q + 1,k,j=>by
  unfold fstM
  by_cases h : P k = true
  ·rw [if_pos h]
   constructor
   ·intro e;cases e;exact ⟨Nat.le_refl _,by omega,h,fun i h1 h2=>by omega⟩
   ·rintro ⟨h1,h2,h3,h4⟩
    by_cases e : k = j
    ·rw [e]
    ·have:=h4 k (Nat.le_refl _) (by omega);rw [h] at this;cases this
  ·rw [if_neg h,fstM_iff P q (k + 1) j]
   have hf : P k = false:=Bool.eq_false_iff.2 h
   constructor
   ·rintro ⟨h1,h2,h3,h4⟩
    refine ⟨by omega,by omega,h3,fun i g1 g2=>?_⟩
    by_cases e : i = k
    ·rw [e];exact hf
    ·exact h4 i (by omega) g2
   ·rintro ⟨h1,h2,h3,h4⟩
    refine ⟨?_,by omega,h3,fun i g1 g2=>h4 i (by omega) g2⟩
    by_cases e : k = j
    ·subst e;rw [hf] at h3;cases h3
    ·omega
theorem sinP_box {R : Rm} {f : Sp → Bool} {b : Bx} (hr : okRm R) (hb : b ∈ R.boxes) {k : Nat} (hk : (k : Int)<R.months) : sinP R b.id f k = (decide (b.made ≤ (k : Int)) && f (rng R R.mats ⟨b.id,k⟩ zp)):=by
 classical
 unfold sinP
 by_cases h : b.made ≤ (k : Int)
 ·rw [decide_eq_true h,decide_eq_true ⟨b,⟨hb,h,by omega⟩,rfl⟩]
 ·rw [decide_eq_false h,decide_eq_false]
  rintro ⟨c,hc,e⟩
  have:=rises_inj_bx hr.bx c hc.1 b hb e
  subst this
  exact h hc.2.1
theorem late_due {R : Rm} (hr : okRm R) (n : Int) : ∀ (q k : Nat),k + q = R.months.toNat → (∀ i,i < k → dueL R n i = []) → dueS (lateL R n R.boxes) k q = dueS (dueL R n) k q
 | 0,_,_,_=>rfl
 | q + 1,k,hk,h=>by
  have hkk : lateL R n R.boxes k = dueL R n k:=by
   unfold lateL dueL
   congr 1
   refine List.filter_congr fun b hb=>?_
   have hs:=sinP_box (f:=dueP n) hr hb (k:=k) (by omega)
   by_cases e : sinP R b.id (dueP n) k = true
   ·rw [decide_eq_true ((fstM_iff _ _ _ _).2 ⟨Nat.zero_le _,by omega,e,fun i _ hi=>?_⟩)]
    ·rw [← e,hs];rfl
    ·have h1:=h i hi
     unfold dueL at h1
     have h2:=List.map_eq_nil_iff.1 h1
     have h3:=List.filter_eq_nil_iff.1 h2 b hb
     rw [sinP_box hr hb (by omega)]
     exact Bool.eq_false_iff.2 h3
   ·rw [decide_eq_false (fun q' => e ((fstM_iff _ _ _ _).1 q').2.2.1)]
    have e' := Bool.eq_false_iff.2 e
    rw [← e',hs];rfl
  unfold dueS
  rw [hkk]
  split
  ·rename_i h0
   refine late_due hr n q (k + 1) (by omega) (fun i hi=>?_)
   by_cases e : i = k
   ·rw [e];exact List.length_eq_zero_iff.1 h0
   ·exact h i (by omega)
  ·rfl
theorem agesOf_month {R : Rm} {b : Bx} (hr : okRm R) (hb : b ∈ R.boxes) {m : Int} (hm : m ≤ R.months - 1) : ((agesOf R b).filter (fun p=>decide (p.month = m))).map (·.box)=if b.made ≤ m then [b.id] else []:=by
 have hn : ∀ (n : Nat),(((List.range n).map (fun (a : Nat)=>(⟨b.id,b.made + a⟩ : Pk))).filter (fun p=>decide (p.month = m))).map (·.box)=if b.made ≤ m∧m < b.made + n then [b.id] else []:=by
  intro n
  induction n with
  | zero=>rw [if_neg (by omega)];rfl
  | succ n ih =>
   rw [List.range_succ,List.map_append,List.filter_append,List.map_append,ih]
   simp only [List.map_cons,List.map_nil]
   by_cases e : b.made + (n : Int)=m
   ·rw [if_neg (by omega),if_pos (by omega),List.filter_cons_of_pos (by simpa using e)]
    rfl
   ·rw [List.filter_cons_of_neg (by simpa using e)]
    by_cases g : b.made ≤ m∧m < b.made + n
    ·rw [if_pos g,if_pos (by omega)];rfl
    ·rw [if_neg g,if_neg (by omega)];rfl
 unfold agesOf
 rw [hn]
 have:=okBoxes_mem _ _ _ hr.bx b hb
 unfold nAge
 by_cases e : b.made ≤ m
 ·rw [if_pos (by omega),if_pos e]
 ·rw [if_neg (by omega),if_neg e]
/-- the places behind the first one that are of a month -/
theorem plcs_month {R : Rm} (hr : okRm R) {m : Int} (hm : m ≤ R.months - 1) : (((plcs R).drop 1).filter (fun p=>decide (p.month = m))).map (·.box)=thI R m:=by
 have hg : ∀ (l : List Bx),(∀ b ∈ l,b ∈ R.boxes) → ((l.flatMap (agesOf R)).filter (fun p=>decide (p.month = m))).map (·.box)=(l.filter (fun b=>decide (b.made ≤ m))).map (·.id):=by
  intro l
  induction l with
  | nil=>intro _;rfl
  | cons b l ih =>
   intro h
   rw [List.flatMap_cons,List.filter_append,List.map_append,ih (fun c hc=>h c (List.mem_cons_of_mem _ hc)),agesOf_month hr (h b List.mem_cons_self) hm]
   by_cases e : b.made ≤ m
   ·rw [if_pos e,List.filter_cons_of_pos (by simpa using e)];rfl
   ·rw [if_neg e,List.filter_cons_of_neg (by simpa using e)];rfl
 exact hg R.boxes (fun _ h=>h)
def lonG {α : Type} (ok : List α → Bool) : List α → Nat → List α → Option (List α)
 | [],0,acc=>if ok acc = true then some acc else none
 | [],_ + 1,_=>none
 | _::_,0,acc=>if ok acc = true then some acc else none
 | x::t,m + 1,acc=>match lonG ok t m (acc++[x]) with
  | some r=>some r
  | none=>lonG ok t (m + 1) acc
theorem lonG_zero {α : Type} (ok : List α → Bool) (t acc : List α) : lonG ok t 0 acc = if ok acc = true then some acc else none:=by cases t <;> rfl
theorem lonG_short {α : Type} (ok : List α → Bool) : ∀ (t : List α) (m : Nat) (acc : List α),t.length < m → lonG ok t m acc = none
 | [],0,_,h=>by simp at h
 | [],_ + 1,_,_=>rfl
 | _::_,0,_,h=>by simp at h
 | x::t,m + 1,acc,h=>by
  simp only [List.length_cons] at h
  simp only [lonG]
  rw [lonG_short ok t m _ (by omega),lonG_short ok t (m + 1) _ (by omega)]
def fewG {α : Type} (ok : List α → Bool) (l : List α) : Nat → Nat → Option (List α)
 | 0,_=>none
 | k + 1,n=>match lonG ok l n [] with
  | some r=>some r
  | none=>fewG ok l k (n + 1)
theorem fewG_beyond {α : Type} (ok : List α → Bool) (l : List α) : ∀ k n,l.length < n → fewG ok l k n = none
 | 0,_,_=>rfl
 | k + 1,n,h=>by simp only [fewG];rw [lonG_short ok l n [] h,fewG_beyond ok l k (n + 1) (by omega)]
theorem fewG_more {α : Type} (ok : List α → Bool) (l : List α) : ∀ k k' n,k ≤ k' → l.length < n + k → fewG ok l k' n = fewG ok l k n
 | 0,k',n,_,h=>by rw [fewG_beyond ok l k' n (by omega)];rfl
 | k + 1,0,n,h1,_=>by omega
 | k + 1,k' + 1,n,h1,h=>by
  simp only [fewG]
  split
  ·rfl
  ·exact fewG_more ok l k k' (n + 1) (by omega) (by omega)
theorem fewG_min {α : Type} (ok : List α → Bool) (l : List α) (most : Nat) : fewG ok l (min most l.length + 1) 0 = fewG ok l (most + 1) 0:=by
 by_cases h : most ≤ l.length
 ·rw [Nat.min_eq_left h]
 ·exact (fewG_more ok l _ _ 0 (by omega) (by omega)).symm
def inM (M : List Mt) (l : List Int) : List Mt:=M.filter (fun x=>decide (x.number ∈ l))
def outM (M : List Mt) (l : List Int) : List Mt:=M.filter (fun x => !decide (x.number ∈ l))
open Classical in
noncomputable def prvM (R : Rm) (q : Pk) (s : Sp) (M : List Mt) : Bool:=decide (rng R M q zp = s)
noncomputable def prvN (R : Rm) (q : Pk) (s : Sp) (l : List Int) : Bool:=prvM R q s (inM R.mats l)
noncomputable def okW (R : Rm) (l : List Int) : Bool:=decide (hasT R (outM R.mats l))
noncomputable def whyL (R : Rm) (q : Pk) : List Int:=(fewG (prvN R q (rng R R.mats q zp)) (R.mats.map (·.number)) (R.mats.length + 1) 0).getD []
noncomputable def whyF (R : Rm) (a m : Int) : List Int × Int:=if openE R [a] [m] = 0 then (whyL R ⟨a,m⟩,0) else ([],openE R [a] [m])
noncomputable def rstL (R : Rm) (q : Pk) (M : List Mt) : List Int:=(M.filter (fun x => !prvM R q (rng R R.mats q zp) (outM R.mats [x.number]))).map (·.number)
noncomputable def rstF (R : Rm) (a m : Int) : List Int × Int:=if openE R [a] [m] = 0 then (rstL R ⟨a,m⟩ R.mats,0) else ([],openE R [a] [m])
open Classical in
noncomputable def wrgF (R : Rm) : List Int × Int:=if roomOk R then (match fewG (okW R) (R.mats.map (·.number)) 4 0 with
 | some r=>(r,0)
 | none=>([],4)) else ([],10)
def agesE : List Sp:=[⟨0,0⟩,⟨1,4⟩,⟨2,8⟩,⟨3,12⟩]
def roomE (M : List Mt) : Rm:=⟨4,5,agesE,[⟨1,0⟩,⟨2,1⟩],M⟩
def mt1 : Mt:=⟨1,2,1,2,3,5⟩
def mt2 : Mt:=⟨2,3,2,1,3,9⟩
theorem thereE {L : List Mt} {b : Bx} {m : Int} (h : there (roomE L) b m) : (b = ⟨1,0⟩∧(m = 0∨m = 1∨m = 2∨m = 3))∨(b = ⟨2,1⟩∧(m = 1∨m = 2∨m = 3)):=by
 obtain ⟨h1,h2,h3⟩:=h
 have h3' : m ≤ 4 - 1:=h3
 rcases List.mem_cons.1 h1 with rfl | h1
 ·have h2' : (0 : Int)≤m:=h2
  exact .inl ⟨rfl,by omega⟩
 ·rcases List.mem_cons.1 h1 with rfl | h1
  ·have h2' : (1 : Int)≤m:=h2
   exact .inr ⟨rfl,by omega⟩
  ·exact absurd h1 List.not_mem_nil
theorem thereE1 {L : List Mt} {m : Int} (h : 0 ≤ m∧m ≤ 3) : there (roomE L) ⟨1,0⟩ m:=⟨List.mem_cons_self,h.1,by show m ≤ 4 - 1;omega⟩
theorem thereE2 {L : List Mt} {m : Int} (h : 1 ≤ m∧m ≤ 3) : there (roomE L) ⟨2,1⟩ m:=⟨List.mem_cons_of_mem _ List.mem_cons_self,h.1,by show m ≤ 4 - 1;omega⟩
def zt (x0 x1 x2 x3 y1 y2 y3 : Int) : Pk → Int:=fun p=>if p.box = 1 then (if p.month = 0 then x0 else if p.month = 1 then x1 else if p.month = 2 then x2 else x3) else if p.box = 2 then (if p.month = 1 then y1 else if p.month = 2 then y2 else y3) else 0
structure VE (x0 x1 x2 x3 y1 y2 y3 : Int) : Prop where
 a0 : x0 = 0
 a1 : 1 ≤ x1∧x1 ≤ 4
 a2 : 2 ≤ x2∧x2 ≤ 8
 a3 : 3 ≤ x3∧x3 ≤ 12
 s0 : 0 ≤ x1 - x0∧x1 - x0 ≤ 5
 s1 : 0 ≤ x2 - x1∧x2 - x1 ≤ 5
 s2 : 0 ≤ x3 - x2∧x3 - x2 ≤ 5
 b1 : y1 = 0
 b2 : 1 ≤ y2∧y2 ≤ 4
 b3 : 2 ≤ y3∧y3 ≤ 8
 t1 : 0 ≤ y2 - y1∧y2 - y1 ≤ 5
 t2 : 0 ≤ y3 - y2∧y3 - y2 ≤ 5
theorem truE {L M : List Mt} {x0 x1 x2 x3 y1 y2 y3 : Int} (h : VE x0 x1 x2 x3 y1 y2 y3) (hM : ∀ x ∈ M,x.lo ≤ zt x0 x1 x2 x3 y1 y2 y3 ⟨x.a,x.month⟩ - zt x0 x1 x2 x3 y1 y2 y3 ⟨x.b,x.month⟩∧zt x0 x1 x2 x3 y1 y2 y3 ⟨x.a,x.month⟩ - zt x0 x1 x2 x3 y1 y2 y3 ⟨x.b,x.month⟩ ≤ x.hi) :
  Tru (roomE L) M (zt x0 x1 x2 x3 y1 y2 y3):=by
 obtain ⟨a0,a1,a2,a3,s0,s1,s2,b1,b2,b3,t1,t2⟩:=h
 refine ⟨rfl,fun b m hb=>?_,fun b m hb hb2=>?_,hM⟩
 ·rcases thereE hb with ⟨rfl,rfl | rfl | rfl | rfl⟩ | ⟨rfl,rfl | rfl | rfl⟩
  ·show (0 : Int)≤x0∧x0 ≤ 0;omega
  ·show (1 : Int)≤x1∧x1 ≤ 4;omega
  ·show (2 : Int)≤x2∧x2 ≤ 8;omega
  ·show (3 : Int)≤x3∧x3 ≤ 12;omega
  ·show (0 : Int)≤y1∧y1 ≤ 0;omega
  ·show (1 : Int)≤y2∧y2 ≤ 4;omega
  ·show (2 : Int)≤y3∧y3 ≤ 8;omega
 ·have hm3 : m + 1 ≤ 4 - 1:=hb2.2.2
  rcases thereE hb with ⟨rfl,rfl | rfl | rfl | rfl⟩ | ⟨rfl,rfl | rfl | rfl⟩
  ·show (0 : Int)≤x1 - x0∧x1 - x0 ≤ 5;omega
  ·show (0 : Int)≤x2 - x1∧x2 - x1 ≤ 5;omega
  ·show (0 : Int)≤x3 - x2∧x3 - x2 ≤ 5;omega
  ·omega
  ·show (0 : Int)≤y2 - y1∧y2 - y1 ≤ 5;omega
  ·show (0 : Int)≤y3 - y2∧y3 - y2 ≤ 5;omega
  ·omega
theorem veE {L M : List Mt} {z : Pk → Int} (h : Tru (roomE L) M z) : VE (z ⟨1,0⟩) (z ⟨1,1⟩) (z ⟨1,2⟩) (z ⟨1,3⟩) (z ⟨2,1⟩) (z ⟨2,2⟩) (z ⟨2,3⟩):=by
 have a0 : (0 : Int)≤z ⟨1,0⟩∧z ⟨1,0⟩ ≤ 0:=h.age ⟨1,0⟩ 0 (thereE1 (by omega))
 have a1 : (1 : Int)≤z ⟨1,1⟩∧z ⟨1,1⟩ ≤ 4:=h.age ⟨1,0⟩ 1 (thereE1 (by omega))
 have a2 : (2 : Int)≤z ⟨1,2⟩∧z ⟨1,2⟩ ≤ 8:=h.age ⟨1,0⟩ 2 (thereE1 (by omega))
 have a3 : (3 : Int)≤z ⟨1,3⟩∧z ⟨1,3⟩ ≤ 12:=h.age ⟨1,0⟩ 3 (thereE1 (by omega))
 have b1 : (0 : Int)≤z ⟨2,1⟩∧z ⟨2,1⟩ ≤ 0:=h.age ⟨2,1⟩ 1 (thereE2 (by omega))
 have b2 : (1 : Int)≤z ⟨2,2⟩∧z ⟨2,2⟩ ≤ 4:=h.age ⟨2,1⟩ 2 (thereE2 (by omega))
 have b3 : (2 : Int)≤z ⟨2,3⟩∧z ⟨2,3⟩ ≤ 8:=h.age ⟨2,1⟩ 3 (thereE2 (by omega))
 have s0 : (0 : Int)≤z ⟨1,1⟩ - z ⟨1,0⟩∧z ⟨1,1⟩ - z ⟨1,0⟩ ≤ 5:=h.step ⟨1,0⟩ 0 (thereE1 (by omega)) (thereE1 (by omega))
 have s1 : (0 : Int)≤z ⟨1,2⟩ - z ⟨1,1⟩∧z ⟨1,2⟩ - z ⟨1,1⟩ ≤ 5:=h.step ⟨1,0⟩ 1 (thereE1 (by omega)) (thereE1 (by omega))
 have s2 : (0 : Int)≤z ⟨1,3⟩ - z ⟨1,2⟩∧z ⟨1,3⟩ - z ⟨1,2⟩ ≤ 5:=h.step ⟨1,0⟩ 2 (thereE1 (by omega)) (thereE1 (by omega))
 have t1 : (0 : Int)≤z ⟨2,2⟩ - z ⟨2,1⟩∧z ⟨2,2⟩ - z ⟨2,1⟩ ≤ 5:=h.step ⟨2,1⟩ 1 (thereE2 (by omega)) (thereE2 (by omega))
 have t2 : (0 : Int)≤z ⟨2,3⟩ - z ⟨2,2⟩∧z ⟨2,3⟩ - z ⟨2,2⟩ ≤ 5:=h.step ⟨2,1⟩ 2 (thereE2 (by omega)) (thereE2 (by omega))
 exact ⟨by omega,a1,a2,a3,s0,s1,s2,by omega,b2,b3,t1,t2⟩
theorem mt1E {L M : List Mt} {z : Pk → Int} (h : Tru (roomE L) M z) (hm : mt1 ∈ M) : 3 ≤ z ⟨1,2⟩ - z ⟨2,2⟩∧z ⟨1,2⟩ - z ⟨2,2⟩ ≤ 5:=h.mat mt1 hm
theorem mt2E {L M : List Mt} {z : Pk → Int} (h : Tru (roomE L) M z) (hm : mt2 ∈ M) : 3 ≤ z ⟨2,3⟩ - z ⟨1,3⟩∧z ⟨2,3⟩ - z ⟨1,3⟩ ≤ 9:=h.mat mt2 hm
theorem only1 {P : Mt → Prop} {x : Mt} (h : P x) : ∀ y ∈ [x],P y:=fun y hy=>by rw [List.mem_singleton.1 hy];exact h
/-- by the first match: lowest and highest truth -/
theorem loE (L : List Mt) : Tru (roomE L) [mt1] (zt 0 1 4 4 0 1 2):=truE ⟨rfl,by omega,by omega,by omega,by omega,by omega,by omega,rfl,by omega,by omega,by omega,by omega⟩ (only1 (by decide))
theorem hiE (L : List Mt) : Tru (roomE L) [mt1] (zt 0 4 8 12 0 4 8):=truE ⟨rfl,by omega,by omega,by omega,by omega,by omega,by omega,rfl,by omega,by omega,by omega,by omega⟩ (only1 (by decide))
theorem loF (L : List Mt) : Tru (roomE L) [] (zt 0 1 2 3 0 1 2):=truE ⟨rfl,by omega,by omega,by omega,by omega,by omega,by omega,rfl,by omega,by omega,by omega,by omega⟩ (fun _ h=>absurd h List.not_mem_nil)
theorem hiF (L : List Mt) : Tru (roomE L) [] (zt 0 4 8 12 0 4 8):=truE ⟨rfl,by omega,by omega,by omega,by omega,by omega,by omega,rfl,by omega,by omega,by omega,by omega⟩ (fun _ h=>absurd h List.not_mem_nil)
theorem exE {L : List Mt} {a b : Pk} {s : Sp} (hall : ∀ z,Tru (roomE L) [mt1] z → s.lo ≤ z a - z b∧z a - z b ≤ s.hi) (hlo : ∃ z,Tru (roomE L) [mt1] z∧z a - z b = s.lo) (hhi : ∃ z,Tru (roomE L) [mt1] z∧z a - z b = s.hi) : rng (roomE L) [mt1] a b = s:=rng_eq ⟨hall,hlo,hhi⟩
theorem r10 (L : List Mt) : rng (roomE L) [mt1] ⟨1,0⟩ zp = ⟨0,0⟩:=exE (fun z hz=>by have:=(veE hz).a0;have:=hz.zero;dsimp only;omega) ⟨_,loE L,rfl⟩ ⟨_,hiE L,rfl⟩
theorem r11 (L : List Mt) : rng (roomE L) [mt1] ⟨1,1⟩ zp = ⟨1,4⟩:=exE (fun z hz=>by have:=(veE hz).a1;have:=hz.zero;dsimp only;omega) ⟨_,loE L,rfl⟩ ⟨_,hiE L,rfl⟩
theorem r12 (L : List Mt) : rng (roomE L) [mt1] ⟨1,2⟩ zp = ⟨4,8⟩:=exE (fun z hz=>by have:=(veE hz).a2;have:=(veE hz).b2;have:=mt1E hz List.mem_cons_self;have:=hz.zero;dsimp only;omega) ⟨_,loE L,rfl⟩ ⟨_,hiE L,rfl⟩
theorem r13 (L : List Mt) : rng (roomE L) [mt1] ⟨1,3⟩ zp = ⟨4,12⟩:=exE (fun z hz=>by have:=(veE hz).a3;have:=(veE hz).s2;have:=(veE hz).b2;have:=mt1E hz List.mem_cons_self;have:=hz.zero;dsimp only;omega) ⟨_,loE L,rfl⟩ ⟨_,hiE L,rfl⟩
theorem r21 (L : List Mt) : rng (roomE L) [mt1] ⟨2,1⟩ zp = ⟨0,0⟩:=exE (fun z hz=>by have:=(veE hz).b1;have:=hz.zero;dsimp only;omega) ⟨_,loE L,rfl⟩ ⟨_,hiE L,rfl⟩
theorem r22 (L : List Mt) : rng (roomE L) [mt1] ⟨2,2⟩ zp = ⟨1,4⟩:=exE (fun z hz=>by have:=(veE hz).b2;have:=hz.zero;dsimp only;omega) ⟨_,loE L,rfl⟩ ⟨_,hiE L,rfl⟩
theorem f12 (L : List Mt) : rng (roomE L) [] ⟨1,2⟩ zp = ⟨2,8⟩:=rng_eq ⟨fun z hz=>by have:=(veE hz).a2;have:=hz.zero;dsimp only;omega,⟨_,loF L,rfl⟩,⟨_,hiF L,rfl⟩⟩
/-- what two boxes differ by -/
theorem tE1 (L : List Mt) : Tru (roomE L) [mt1] (zt 0 1 4 4 0 1 6):=truE ⟨rfl,by omega,by omega,by omega,by omega,by omega,by omega,rfl,by omega,by omega,by omega,by omega⟩ (only1 (by decide))
theorem tE2 (L : List Mt) : Tru (roomE L) [mt1] (zt 0 4 7 12 0 2 2):=truE ⟨rfl,by omega,by omega,by omega,by omega,by omega,by omega,rfl,by omega,by omega,by omega,by omega⟩ (only1 (by decide))
theorem tE3 (L : List Mt) : Tru (roomE L) [mt1] (zt 0 4 6 6 0 1 2):=truE ⟨rfl,by omega,by omega,by omega,by omega,by omega,by omega,rfl,by omega,by omega,by omega,by omega⟩ (only1 (by decide))
theorem d3 (L : List Mt) : rng (roomE L) [mt1] ⟨1,3⟩ ⟨2,3⟩ = ⟨-2,10⟩:=exE (fun z hz=>by have h:=veE hz;have:=h.a3;have:=h.s2;have:=h.b3;have:=h.t2;have:=h.b2;have:=h.a2;have:=mt1E hz List.mem_cons_self;dsimp only;omega) ⟨_,tE1 L,rfl⟩ ⟨_,tE2 L,rfl⟩
theorem d2 (L : List Mt) : rng (roomE L) [mt1] ⟨1,2⟩ ⟨2,2⟩ = ⟨3,5⟩:=exE (fun z hz=>mt1E hz List.mem_cons_self) ⟨_,loE L,rfl⟩ ⟨_,tE3 L,rfl⟩
theorem d2' (L : List Mt) : rng (roomE L) [mt1] ⟨2,2⟩ ⟨1,2⟩ = ⟨-5, -3⟩:=exE (fun z hz=>by have:=mt1E hz List.mem_cons_self;dsimp only;omega) ⟨_,tE3 L,rfl⟩ ⟨_,loE L,rfl⟩
theorem hasE (L : List Mt) : hasT (roomE L) [mt1]:=⟨_,loE L⟩
theorem oddE (L : List Mt) : ¬ hasT (roomE L) [mt1,mt2]:=fun ⟨z,hz⟩=>by
 have h:=veE hz
 have:=h.s2
 have:=h.b3
 have:=h.t2
 have:=h.b2
 have:=mt1E hz List.mem_cons_self
 have:=mt2E hz (List.mem_cons_of_mem _ List.mem_cons_self)
 omega
theorem odd2E (L : List Mt) : hasT (roomE L) [mt2]:=⟨zt 0 1 2 3 0 4 8,truE ⟨rfl,by omega,by omega,by omega,by omega,by omega,by omega,rfl,by omega,by omega,by omega,by omega⟩ (only1 (by decide))⟩
theorem perhaps1_spec (s : Sp) (n : Int) (b : Nat) (ow : Option Kd) (cap : Nat) (H : List Row) (hm : ⟨b,0,[.int .i64 n],ow,cap⟩ ∈ H) : Fc Try.prog 67 ([.agg (cSp s).toArray]++[.pointer (some ⟨b,0,none⟩)]) H (fun v H' => v = .bool (sinS false n s)∧H' = H):=by
 show Fc Try.prog 67 [.agg (cSp s).toArray,.pointer (some ⟨b,0,none⟩)] H _
 refine Fc.mk (callable Try.call67) Try.func67 rfl Try.ntmps67 rfl ?_;dsimp only [fr]
 repeat' (first | (refine uP rfl ?_;(first | ((first | refine uN rfl ?_);(first | (refine uE (uL rfl rfl (uO (te rfl) rfl (qT _ hm) rfl)) rfl rfl ?_)|(refine uE (uA rfl rfl) rfl rfl ?_)|(refine uE (uQ rfl rfl rfl rfl) rfl rfl ?_)|(refine uE (uF rfl rfl (te rfl) rfl (te rfl) (by decide)) rfl rfl ?_)|(refine uE (uL rfl rfl (uO (te rfl) rfl (qH _) rfl)) rfl rfl ?_)|(refine Xg.st (StF.boxAgg rfl rfl) rfl rfl ?_;rintro _ _ ⟨bx,rfl,rfl⟩)))))|(refine uD rfl ?_;refine hK _ _ ?_;clear hK K) | refine uS rfl ?_ | refine uR rfl (fun K hK=>?_) | refine X.ret rfl ?_)
 exact ret_one (v := .bool (sinS false n s)) (by simp) Try.results67 rfl (H' := H) (by repeat (first | exact qR _ | apply qK | apply qC)) ⟨rfl,rfl⟩
theorem surely1_spec (s : Sp) (n : Int) (b : Nat) (ow : Option Kd) (cap : Nat) (H : List Row) (hm : ⟨b,0,[.int .i64 n],ow,cap⟩ ∈ H) : Fc Try.prog 69 ([.agg (cSp s).toArray]++[.pointer (some ⟨b,0,none⟩)]) H (fun v H' => v = .bool (sinS true n s)∧H' = H):=by
 show Fc Try.prog 69 [.agg (cSp s).toArray,.pointer (some ⟨b,0,none⟩)] H _
 refine Fc.mk (callable Try.call69) Try.func69 rfl Try.ntmps69 rfl ?_;dsimp only [fr]
 repeat' (first | (refine uP rfl ?_;(first | ((first | refine uN rfl ?_);(first | (refine uE (uL rfl rfl (uO (te rfl) rfl (qT _ hm) rfl)) rfl rfl ?_)|(refine uE (uA rfl rfl) rfl rfl ?_)|(refine uE (uQ rfl rfl rfl rfl) rfl rfl ?_)|(refine uE (uF rfl rfl (te rfl) rfl (te rfl) (by decide)) rfl rfl ?_)|(refine uE (uL rfl rfl (uO (te rfl) rfl (qH _) rfl)) rfl rfl ?_)|(refine Xg.st (StF.boxAgg rfl rfl) rfl rfl ?_;rintro _ _ ⟨bx,rfl,rfl⟩)))))|(refine uD rfl ?_;refine hK _ _ ?_;clear hK K) | refine uS rfl ?_ | refine uR rfl (fun K hK=>?_) | refine X.ret rfl ?_)
 exact ret_one (v := .bool (sinS true n s)) (by simp) Try.results69 rfl (H' := H) (by repeat (first | exact qR _ | apply qK | apply qC)) ⟨rfl,rfl⟩
def firV : Option Nat → Int
 | some k=>k
 | none=>0
set_option maxHeartbeats 4000000 in
theorem kfirst_spec (R : Rm) (p : Pl) (a : Option Addr) (c : Nat) (x : Int) (g : Nat) (cap : List Value) (f : Sp → Bool) (H : List Row) (hr : okRm R) (hm : matsThere R R.mats) (hC : CtOk H R p a) (hla : R.ages.length ≤ 1000) (hlm : R.mats.length ≤ 1000) (hpc : (plcs R).length ≤ c) (hT : hasT R R.mats) (hx : ∃ b ∈ R.boxes,b.id = x)
  (hf : ∀ s H',(∀ r ∈ H,r ∈ H') → Fc Try.prog g ([.agg (cSp s).toArray]++cap) H' (fun v H'' => v = .bool (f s)∧H'' = H')) :
  Fc Try.prog 70 [.agg (cCt R p a c).toArray,.int .i64 x,.func (.func g) #[] cap.toArray] H (fun v H' => v = .tuple #[.int .i64 (firV (fstM (sinP R x f) 0 R.months.toNat)),.bool (fstM (sinP R x f) 0 R.months.toNat).isSome]∧H' = H):=by
 have hm12:=hr.m12
 have hm1:=hr.m1
 obtain ⟨b0,hb0,rfl⟩:=hx
 have hb0x:=okBoxes_mem _ _ _ hr.bx b0 hb0
 obtain ⟨P,hP⟩ : ∃ P,P = sinP R b0.id f:=⟨_,rfl⟩
 obtain ⟨r,hr9⟩ : ∃ r,r = fstM P 0 R.months.toNat:=⟨_,rfl⟩
 have hin : ∀ m : Nat,(⟨b0.id,m⟩ : Pk) ∈ plcs R → P m = f (rng R R.mats ⟨b0.id,m⟩ zp):=fun m h=>by
  classical
  rw [hP];unfold sinP
  rw [decide_eq_true]
  ·rfl
  ·rcases mem_plcs h with h | ⟨b,h1,h2⟩
   ·have : b0.id = 0:=congrArg Pk.box h
    omega
   ·exact ⟨b,h1,h2.symm⟩
 have hout : ∀ m : Nat,(⟨b0.id,m⟩ : Pk) ∉ plcs R → P m = false:=fun m h=>by
  classical
  rw [hP];unfold sinP
  rw [decide_eq_false]
  ·rfl
  ·rintro ⟨b,h1,h2⟩
   exact h (by rw [← h2];exact plcs_mem h1)
 rw [← hP, ← hr9]
 clear hP
 refine Fc.mk (callable Try.call70) Try.func70 rfl Try.ntmps70 rfl ?_;dsimp only [fr]
 repeat' (first | (refine uP rfl ?_;(first | ((first | refine uN rfl ?_);(first | (refine uE (uM rfl rfl) rfl rfl ?_)|(refine uE (uA rfl rfl) rfl rfl ?_)|(refine uE (uF rfl rfl (te rfl) rfl (te rfl) (by decide)) rfl rfl ?_)|(refine uE (uL rfl rfl (uO (te rfl) rfl (qH _) rfl)) rfl rfl ?_)|(refine Xg.st (StF.boxAgg rfl rfl) rfl rfl ?_;rintro _ _ ⟨bx,rfl,rfl⟩)))))|(refine uD rfl ?_;refine hK _ _ ?_;clear hK K) | refine uS rfl ?_ | refine uR rfl (fun K hK=>?_) | refine X.block rfl ?_)
 refine X.lp rfl (fun q F' H' => ∃ (m : Nat),q = R.months.toNat - m∧(m : Int)≤R.months∧fstM P m (R.months.toNat - m)=r∧H' = ⟨bx,0,cCt R p a c,some 93,6⟩::H∧F' = [(1,.int .i64 b0.id),(2,.func (.func g) #[] cap.toArray),(3,.pointer (some ⟨bx,0,none⟩)),(11,.int .i64 R.months),(12,.int .i64 m)])
  R.months.toNat [(1,.int .i64 b0.id),(2,.func (.func g) #[] cap.toArray),(3,.pointer (some ⟨bx,0,none⟩)),(11,.int .i64 R.months),(12,.int .i64 (0 : Nat))] (⟨bx,0,cCt R p a c,some 93,6⟩::H) (by repeat (first | exact uU _ | refine uV rfl ?_)) (qR _) ⟨0,rfl,by omega,by rw [hr9];rfl,rfl,rfl⟩ ?_
 rintro _ _ _ ⟨m,rfl,hm2,hfm,rfl,rfl⟩
 by_cases hlt : (m : Int)<R.months
 ·by_cases hp : (⟨b0.id,m⟩ : Pk) ∈ plcs R
  ·have hPm:=hin m hp
   have hat:=fun H' hH' => at_spec R p a c b0.id m H' hr hH'
   rw [show atZ R ⟨b0.id,m⟩ = ((pidx R ⟨b0.id,m⟩ : Nat) : Int) by unfold atZ;rw [if_pos hp]] at hat
   have hye:=fun H' hC' => yellow_spec R p a c ⟨b0.id,m⟩ H' hr hm hC' hla hlm hpc hp hT
   obtain ⟨s,hs⟩ : ∃ s,s = rng R R.mats ⟨b0.id,m⟩ zp:=⟨_,rfl⟩
   rw [← hs] at hPm hye
   obtain ⟨w,hw⟩ : ∃ w,w = f s:=⟨_,rfl⟩
   have hfs:=hf s
   rw [← hw] at hfs hPm
   cases w with
   | true =>
    repeat' (first | (refine uP rfl ?_;(first | ((first | refine uN rfl ?_ | (refine Xo.g rfl rfl ?_;with_reducible refine Xw.tt ?_));(first | (refine uE (uQ (b:=true) rfl rfl rfl (congrArg some (decide_eq_true (by omega)))) rfl rfl ?_)|(refine uE (uL rfl rfl (uW (T:=93) (cs:=cCt R p a c) (te rfl) rfl (by repeat (first | exact qH _ | apply qT)) rfl)) rfl rfl ?_)|(refine uC (uT rfl (Args.cons rfl (Args.cons rfl (Args.cons rfl Args.nil)))) rfl rfl (hat _ (hC.sub (fun _ h=>by repeat (first | exact h | apply qT)))) ?_;rintro _ H9 ⟨rfl,hH9⟩;subst H9)|(refine uE (EvF.build (cs:=cPk ⟨b0.id,m⟩) rfl (ArgsP.cons rfl (ArgsP.cons rfl ArgsP.nil)) (te rfl) (Places.cons (te rfl) (Places.cons (te rfl) Places.nil)) Try.zeroValue101 rfl) rfl rfl ?_)|(refine uC (uT rfl (Args.cons rfl (Args.cons rfl Args.nil))) rfl rfl (hye _ (hC.sub (fun _ h=>by repeat (first | exact h | apply qT)))) ?_;rintro _ H9 ⟨rfl,hH9⟩;subst H9)|(refine uC (EnF.dyn0 rfl rfl (by (repeat (first | exact Args.nil | refine Args.cons rfl ?_));done)) rfl rfl (hfs _ (fun _ h=>by repeat (first | exact h | apply qT))) ?_;rintro _ H9 ⟨rfl,hH9⟩;subst H9)|(refine uE (uM rfl rfl) rfl rfl ?_)|(refine uE (uA rfl rfl) rfl rfl ?_)|(refine uE (EvF.pickT rfl rfl rfl) rfl rfl ?_)))))|(refine uD rfl ?_;refine hK _ _ ?_;clear hK K) | refine uS rfl ?_ | refine uR rfl (fun K hK=>?_) | refine X.block rfl ?_ | refine X.skip rfl ?_ | refine X.ret rfl ?_ | (refine X.ite rfl rfl (fun hc=>?_);(first | (with_reducible refine Xb.t hc ?_)) <;> clear hc))
    all_goals try (exfalso;contradiction)
    refine ret_two (by simp) Try.results70 rfl rfl (H' := H) (by repeat (first | exact qR _ | apply qK | apply qC)) ⟨?_,rfl⟩
    rw [← hfm,fstM_hit hPm (by omega)]
    rfl
   | false =>
    repeat' (first | (refine uP rfl ?_;(first | ((first | refine uN rfl ?_ | (refine Xo.g rfl rfl ?_;with_reducible refine Xw.tt ?_));(first | (refine uE (uQ (b:=true) rfl rfl rfl (congrArg some (decide_eq_true (by omega)))) rfl rfl ?_)|(refine uE (uL rfl rfl (uW (T:=93) (cs:=cCt R p a c) (te rfl) rfl (by repeat (first | exact qH _ | apply qT)) rfl)) rfl rfl ?_)|(refine uC (uT rfl (Args.cons rfl (Args.cons rfl (Args.cons rfl Args.nil)))) rfl rfl (hat _ (hC.sub (fun _ h=>by repeat (first | exact h | apply qT)))) ?_;rintro _ H9 ⟨rfl,hH9⟩;subst H9)|(refine uE (EvF.build (cs:=cPk ⟨b0.id,m⟩) rfl (ArgsP.cons rfl (ArgsP.cons rfl ArgsP.nil)) (te rfl) (Places.cons (te rfl) (Places.cons (te rfl) Places.nil)) Try.zeroValue101 rfl) rfl rfl ?_)|(refine uC (uT rfl (Args.cons rfl (Args.cons rfl Args.nil))) rfl rfl (hye _ (hC.sub (fun _ h=>by repeat (first | exact h | apply qT)))) ?_;rintro _ H9 ⟨rfl,hH9⟩;subst H9)|(refine uC (EnF.dyn0 rfl rfl (by (repeat (first | exact Args.nil | refine Args.cons rfl ?_));done)) rfl rfl (hfs _ (fun _ h=>by repeat (first | exact h | apply qT))) ?_;rintro _ H9 ⟨rfl,hH9⟩;subst H9)|(refine uE (uM rfl rfl) rfl rfl ?_)|(refine uE (uA rfl rfl) rfl rfl ?_)|(refine uE (EvF.pickT rfl rfl rfl) rfl rfl ?_)|(refine uE (EvF.add64 rfl rfl rfl (by omega) (by omega)) rfl rfl ?_)))))|(refine uD rfl ?_;refine hK _ _ ?_;clear hK K) | refine uS rfl ?_ | refine uR rfl (fun K hK=>?_) | refine X.block rfl ?_ | refine X.skip rfl ?_ | (refine X.ite rfl rfl (fun hc=>?_);(first | (with_reducible refine Xb.t hc ?_)|(with_reducible refine Xb.f hc ?_)) <;> clear hc))
    all_goals try (exfalso;contradiction)
    have hno:=fstM_no (n:=R.months.toNat - m) hPm (by omega)
    rw [Nat.sub_sub] at hno
    exact ⟨_,_,⟨bx,0,cCt R p a c,some 93,6⟩::H,(by repeat (first | exact uU _ | refine uV rfl ?_)),(by repeat (first | exact qR _ | apply qK | apply qC)),⟨m + 1,rfl,by omega,by rw [← hfm,hno],rfl,rfl⟩,by omega⟩
  ·have hPm:=hout m hp
   have hat:=fun H' hH' => at_spec R p a c b0.id m H' hr hH'
   rw [show atZ R ⟨b0.id,m⟩ = -1 by unfold atZ;rw [if_neg hp]] at hat
   repeat' (first | (refine uP rfl ?_;(first | ((first | refine uN rfl ?_);(first | (refine uE (uQ (b:=true) rfl rfl rfl (congrArg some (decide_eq_true (by omega)))) rfl rfl ?_)|(refine uE (uQ (b:=false) rfl rfl rfl (congrArg some (decide_eq_false (by omega)))) rfl rfl ?_)|(refine uE (uL rfl rfl (uW (T:=93) (cs:=cCt R p a c) (te rfl) rfl (by repeat (first | exact qH _ | apply qT)) rfl)) rfl rfl ?_)|(refine uC (uT rfl (Args.cons rfl (Args.cons rfl (Args.cons rfl Args.nil)))) rfl rfl (hat _ (hC.sub (fun _ h=>by repeat (first | exact h | apply qT)))) ?_;rintro _ H9 ⟨rfl,hH9⟩;subst H9)|(refine uE (uM rfl rfl) rfl rfl ?_)|(refine uE (uA rfl rfl) rfl rfl ?_)|(refine uE (EvF.pickF rfl rfl rfl) rfl rfl ?_)|(refine uE (EvF.add64 rfl rfl rfl (by omega) (by omega)) rfl rfl ?_)))|(refine Xo.g rfl rfl ?_;(first | (with_reducible refine Xw.ft rfl rfl ?_)))))|(refine uD rfl ?_;refine hK _ _ ?_;clear hK K) | refine uS rfl ?_ | refine uR rfl (fun K hK=>?_) | refine X.block rfl ?_ | refine X.skip rfl ?_ | (refine X.ite rfl rfl (fun hc=>?_);(first | (with_reducible refine Xb.t hc ?_)|(with_reducible refine Xb.f hc ?_)) <;> clear hc))
   all_goals try (exfalso;contradiction)
   have hno:=fstM_no (n:=R.months.toNat - m) hPm (by omega)
   rw [Nat.sub_sub] at hno
   exact ⟨_,_,⟨bx,0,cCt R p a c,some 93,6⟩::H,(by repeat (first | exact uU _ | refine uV rfl ?_)),(by repeat (first | exact qR _ | apply qK | apply qC)),⟨m + 1,rfl,by omega,by rw [← hfm,hno],rfl,rfl⟩,by omega⟩
 ·have e0 : R.months.toNat - m = 0:=by omega
  rw [e0] at hfm
  repeat' (first | (refine uP rfl ?_;(first | ((first | refine uN rfl ?_);(first | (refine uE (uQ (b:=false) rfl rfl rfl (congrArg some (decide_eq_false (by omega)))) rfl rfl ?_)|(refine uE (uA rfl rfl) rfl rfl ?_)))))|(refine uD rfl ?_;refine hK _ _ ?_;clear hK K) | refine uS rfl ?_ | refine uR rfl (fun K hK=>?_)|(refine X.brk rfl ?_;repeat (first | refine blockX_hit rfl ?_ | refine blockX_miss (by decide) ?_)) | refine X.ret rfl ?_ | (refine X.ite rfl rfl (fun hc=>?_);(first | (with_reducible refine Xb.f hc ?_)) <;> clear hc))
  all_goals try (exfalso;contradiction)
  refine ret_two (by simp) Try.results70 rfl rfl (H' := H) (by repeat (first | exact qR _ | apply qK | apply qC)) ⟨?_,rfl⟩
  rw [← hfm]
  rfl
theorem sinO_firV (r : Option Nat) : sinO r = (firV r,if r.isSome then 0 else 6):=by cases r <;> rfl
theorem told0_spec (c : List Value) (e l : Int) (gv : Value) (h : e ≠ 0) (hc : c.length = 6) (H : List Row) : Fc Try.prog 115 [.agg c.toArray,.int .i64 e,gv,.int .i64 l] H (fun v H' => v = .tuple #[.int .i64 0,.int .i64 e]∧H' = H):=by
 refine Fc.mk (callable Try.call115) Try.func115 rfl Try.ntmps115 rfl ?_;dsimp only [fr]
 repeat' (first | (refine uP rfl ?_;(first | ((first | refine uN rfl ?_);(first | (refine uE (uQ (b:=true) rfl rfl rfl (congrArg some (nd_t (by omega)))) rfl rfl ?_)|(refine uE (uM rfl rfl) rfl rfl ?_)|(refine uE (uA rfl rfl) rfl rfl ?_)|(refine Xg.st (StF.boxAgg rfl rfl) rfl rfl ?_;rintro _ _ ⟨bx,rfl,rfl⟩)))))|(refine uD rfl ?_;refine hK _ _ ?_;clear hK K) | refine uS rfl ?_ | refine uR rfl (fun K hK=>?_) | refine X.ret rfl ?_ | (refine X.ite rfl rfl (fun hc=>?_);(first | (with_reducible refine Xb.t hc ?_)) <;> clear hc))
 all_goals try (exfalso;contradiction)
 exact ret_two (by simp) Try.results115 rfl rfl (H' := H) (by (repeat (first | exact qR _ | apply qC));done) ⟨rfl,rfl⟩
theorem told1_spec (c : List Value) (g : Nat) (cap : List Value) (y l : Int) (w : Bool) (hc : c.length = 6) (H : List Row) (hf : ∀ b,Fc Try.prog g ([.agg c.toArray]++cap) (b::H) (fun v H' => v = .tuple #[.int .i64 y,.bool w]∧H' = b::H)) (hz : w = false → y = 0) : Fc Try.prog 115 [.agg c.toArray,.int .i64 0,.func (.func g) #[] cap.toArray,.int .i64 l] H (fun v H' => v = .tuple #[.int .i64 y,.int .i64 (if w then 0 else l)]∧H' = H):=by
 cases w with
 | false =>
  obtain rfl:=hz rfl
  refine Fc.mk (callable Try.call115) Try.func115 rfl Try.ntmps115 rfl ?_;dsimp only [fr]
  repeat' (first | (refine uP rfl ?_;(first | ((first | refine uN rfl ?_);(first | (refine uE (uQ (b:=false) rfl rfl rfl (congrArg some (nd_f (by omega)))) rfl rfl ?_)|(refine uE (uL rfl rfl (uW (cs:=c) (te rfl) rfl (qH _) hc)) rfl rfl ?_)|(refine uC (EnF.dyn0 rfl rfl (by (repeat (first | exact Args.nil | refine Args.cons rfl ?_));done)) rfl rfl (hf _) ?_;rintro _ H9 ⟨rfl,hH9⟩;subst H9)|(refine uE (uM rfl rfl) rfl rfl ?_)|(refine uE (uA rfl rfl) rfl rfl ?_)|(refine uE (EvF.not rfl rfl) rfl rfl ?_)|(refine uE (uX rfl rfl rfl) rfl rfl ?_)|(refine Xg.st (StF.boxAgg rfl rfl) rfl rfl ?_;rintro _ _ ⟨bx,rfl,rfl⟩)))))|(refine uD rfl ?_;refine hK _ _ ?_;clear hK K) | refine uS rfl ?_ | refine uR rfl (fun K hK=>?_) | refine X.skip rfl ?_ | refine X.ret rfl ?_ | (refine X.ite rfl rfl (fun hc=>?_);(first | (with_reducible refine Xb.f hc ?_)|(with_reducible refine Xb.caseB hc (fun h=>?_) (fun h=>?_))) <;> clear hc))
  all_goals try (exfalso;contradiction)
  exact ret_two (by simp) Try.results115 rfl rfl (H' := H) (by (repeat (first | exact qR _ | apply qC));done) ⟨rfl,rfl⟩
 | true =>
  refine Fc.mk (callable Try.call115) Try.func115 rfl Try.ntmps115 rfl ?_;dsimp only [fr]
  repeat' (first | (refine uP rfl ?_;(first | ((first | refine uN rfl ?_);(first | (refine uE (uQ (b:=false) rfl rfl rfl (congrArg some (nd_f (by omega)))) rfl rfl ?_)|(refine uE (uL rfl rfl (uW (cs:=c) (te rfl) rfl (qH _) hc)) rfl rfl ?_)|(refine uC (EnF.dyn0 rfl rfl (by (repeat (first | exact Args.nil | refine Args.cons rfl ?_));done)) rfl rfl (hf _) ?_;rintro _ H9 ⟨rfl,hH9⟩;subst H9)|(refine uE (uM rfl rfl) rfl rfl ?_)|(refine uE (uA rfl rfl) rfl rfl ?_)|(refine uE (EvF.not rfl rfl) rfl rfl ?_)|(refine uE (uX rfl rfl rfl) rfl rfl ?_)|(refine Xg.st (StF.boxAgg rfl rfl) rfl rfl ?_;rintro _ _ ⟨bx,rfl,rfl⟩)))))|(refine uD rfl ?_;refine hK _ _ ?_;clear hK K) | refine uS rfl ?_ | refine uR rfl (fun K hK=>?_) | refine X.skip rfl ?_ | refine X.ret rfl ?_ | (refine X.ite rfl rfl (fun hc=>?_);(first | (with_reducible refine Xb.f hc ?_)|(with_reducible refine Xb.caseB hc (fun h=>?_) (fun h=>?_))) <;> clear hc))
  all_goals try (exfalso;contradiction)
  exact ret_two (by simp) Try.results115 rfl rfl (H' := H) (by (repeat (first | exact qR _ | apply qC));done) ⟨rfl,rfl⟩
set_option maxHeartbeats 4000000 in
theorem since1_spec (c : List Value) (x y : Int) (w : Bool) (gv : Value) (b4 b5 : Nat) (o4 o5 : Option Kd) (k4 k5 : Nat) (hc : c.length = 6) (H : List Row) (h4 : ⟨b4,0,[.int .i64 x],o4,k4⟩ ∈ H) (h5 : ⟨b5,0,[gv],o5,k5⟩ ∈ H) (hf : ∀ b,Fc Try.prog 70 [.agg c.toArray,.int .i64 x,gv] (b::H) (fun v H' => v = .tuple #[.int .i64 y,.bool w]∧H' = b::H)) : Fc Try.prog 116 ([.agg c.toArray]++[.pointer (some ⟨b4,0,none⟩),.pointer (some ⟨b5,0,none⟩)]) H (fun v H' => v = .tuple #[.int .i64 y,.bool w]∧H' = H):=by
 show Fc Try.prog 116 [.agg c.toArray,.pointer (some ⟨b4,0,none⟩),.pointer (some ⟨b5,0,none⟩)] H _
 refine Fc.mk (callable Try.call116) Try.func116 rfl Try.ntmps116 rfl ?_;dsimp only [fr]
 repeat' (first | (refine uP rfl ?_;(first | ((first | refine uN rfl ?_);(first | (refine uE (uL rfl rfl (uW (cs:=c) (te rfl) rfl (qH _) hc)) rfl rfl ?_)|(refine uE (uL rfl rfl (uO (te rfl) rfl (qT _ h4) rfl)) rfl rfl ?_)|(refine uE (uL rfl rfl (uO (te rfl) rfl (qT _ h5) rfl)) rfl rfl ?_)|(refine uC (uT rfl (Args.cons rfl (Args.cons rfl (Args.cons rfl Args.nil)))) rfl rfl (hf _) ?_;rintro _ H9 ⟨rfl,hH9⟩;subst H9)|(refine uE (uX rfl rfl rfl) rfl rfl ?_)|(refine uE (uA rfl rfl) rfl rfl ?_)|(refine Xg.st (StF.boxAgg rfl rfl) rfl rfl ?_;rintro _ _ ⟨bx,rfl,rfl⟩)))))|(refine uD rfl ?_;refine hK _ _ ?_;clear hK K) | refine uS rfl ?_ | refine uR rfl (fun K hK=>?_) | refine X.ret rfl ?_)
 exact ret_two (by simp) Try.results116 rfl rfl (H' := H) (by (repeat (first | exact qR _ | apply qC));done) ⟨rfl,rfl⟩
set_option maxHeartbeats 4000000 in
theorem ksince_spec (R : Rm) (p : Pl) (x : Int) (g : Nat) (cap : List Value) (f : Sp → Bool) (H : List Row) (hR : RmOk H R p) (h2 : R.boxes.length ≤ 1000000)
  (hf : ∀ s H',(∀ r ∈ H,r ∈ H') → Fc Try.prog g ([.agg (cSp s).toArray]++cap) H' (fun v H'' => v = .bool (f s)∧H'' = H')) :
  Fc Try.prog 66 [.agg (cRm R p).toArray,.int .i64 x,.func (.func g) #[] cap.toArray] H (fun v H' => v = .tuple #[.int .i64 (sinF R x f).1,.int .i64 (sinF R x f).2]∧H' = H):=by
 obtain ⟨e,he⟩ : ∃ e,openE R [x] [] = e:=⟨_,rfl⟩
 have hbt : ∀ (H' : List Row) (b1 : Nat),⟨b1,0,[.int .i64 x],some 3,1 * 1⟩ ∈ H' → BtOk H' ⟨[x],some ⟨b1,0,none⟩,1,[],none,0⟩:=fun H' b1 q1=>⟨SlE.ofRow (l:=[x]) q1 (fun _ _=>rfl),sleNil,Nat.le_of_ble_eq_true rfl,Nat.le_of_ble_eq_true rfl⟩
 by_cases h0 : e = 0
 ·subst h0
  obtain ⟨hok,hall,_,hT⟩:=openE_ok he
  have hx:=hall x (List.mem_singleton.2 rfl)
  have hF : sinF R x f = sinO (fstM (sinP R x f) 0 R.months.toNat):=by unfold sinF;rw [if_pos he]
  rw [hF]
  have hfi:=fun H' b k hC hk (hs : ∀ r ∈ H,r ∈ H')=>kfirst_spec R p (some ⟨b,0,none⟩) k x g cap f H' hok.ok hok.mats hC hok.lens.ages hok.lens.mats hk hT hx (fun s H'' hs' => hf s H'' (fun r h=>hs' r (hs r h)))
  obtain ⟨r,hr9⟩ : ∃ r,r = fstM (sinP R x f) 0 R.months.toNat:=⟨_,rfl⟩
  rw [← hr9] at hfi ⊢
  clear hr9 hF
  rw [sinO_firV]
  obtain ⟨v,hv⟩ : ∃ v,v = firV r:=⟨_,rfl⟩
  obtain ⟨w,hw⟩ : ∃ w,w = r.isSome:=⟨_,rfl⟩
  have hz : w = false → v = 0:=fun h=>by
   rw [hw] at h
   cases r with
   | none=>rw [hv];rfl
   | some k=>cases h
  rw [← hv, ← hw] at hfi ⊢
  clear hv hw
  refine Fc.mk (callable Try.call66) Try.func66 rfl Try.ntmps66 rfl ?_;dsimp only [fr]
  repeat' (first | (refine uP rfl ?_;(first | ((first | refine uN rfl ?_);(first | (refine Xg.st (StF.buildOne (v0 := .int .i64 x) rfl el55 rfl rfl rfl (by decide) (by decide)) rfl rfl ?_;rintro _ _ ⟨b1,rfl,rfl⟩)|(refine uE (EvF.build (cs:=cBt ⟨[x],some ⟨b1,0,none⟩,1,[],none,0⟩) rfl (ArgsP.cons rfl ArgsP.nil) (te rfl) (Places.cons (te rfl) (Places.cons (te rfl) Places.nil)) Try.zeroValue98 rfl) rfl rfl ?_)|(refine uC (uT rfl (by (repeat (first | exact Args.nil | refine Args.cons rfl ?_));done)) rfl rfl (openY (hR.sub (fun _ h=>by repeat (first | exact h | apply qT))) (hbt _ b1 (qH _)) h2 he) ?_;rintro _ _ ⟨b,k,hbk,rfl,rfl⟩)|(refine Xg.st (StF.alloc rfl Try.zeroValue93 rfl) rfl rfl ?_;rintro _ _ ⟨b8,rfl,rfl⟩)|(refine Xg.st0 (uZ (i:=0) (vs:=cCt R p (some ⟨b,0,none⟩) k) rfl rfl rfl (te rfl) rfl rfl rfl rfl) rfl ?_;rintro _ _ ⟨rfl,rfl⟩;dsimp only [List.set])|(refine uE (uL rfl rfl (uW (T:=93) (cs:=cCt R p (some ⟨b,0,none⟩) k) (te rfl) rfl (qH _) rfl)) rfl rfl ?_)|(refine uE (EvF.makeFunc (fl:=[]) rfl Args.nil (Args.cons rfl (Args.cons rfl Args.nil))) rfl rfl ?_)|(refine uC (uT rfl (Args.cons rfl (Args.cons rfl (Args.cons rfl (Args.cons rfl Args.nil))))) rfl rfl (told1_spec (cCt R p (some ⟨b,0,none⟩) k) 116 _ v 6 w rfl _ (fun r=>since1_spec (cCt R p (some ⟨b,0,none⟩) k) x v w _ _ _ _ _ _ _ rfl _ (by repeat (first | exact qH _ | apply qT)) (by repeat (first | exact qH _ | apply qT)) (fun r2=>hfi _ b k ⟨hR.sub (fun _ h=>by repeat (first | exact h | apply qT)),SlE.ofRow (l:=plcs R) (by repeat (first | exact qH _ | apply qT)) (fun _ _=>rfl)⟩ hbk (fun _ h=>by repeat (first | exact h | apply qT)))) hz) ?_;rintro _ _ ⟨rfl,rfl⟩)|(refine uE (uX rfl rfl rfl) rfl rfl ?_)|(refine uE (uM rfl rfl) rfl rfl ?_)|(refine uE (uA rfl rfl) rfl rfl ?_)|(refine uE (uL rfl rfl (uO (te rfl) rfl (qT _ (qH _)) rfl)) rfl rfl ?_)|(refine uE (uL rfl rfl (uW (te rfl) rfl (qT _ (qT _ (qH _))) rfl)) rfl rfl ?_)|(refine Xg.st (StF.boxAgg rfl rfl) rfl rfl ?_;rintro _ _ ⟨bx,rfl,rfl⟩)|(refine Xg.st (StF.boxOne rfl rfl rfl) rfl rfl ?_;rintro _ _ ⟨bx,rfl,rfl⟩)))))|(refine uD rfl ?_;refine hK _ _ ?_;clear hK K) | refine uS rfl ?_ | refine uR rfl (fun K hK=>?_) | refine X.ret rfl ?_)
  exact ret_two (by simp) Try.results66 rfl rfl (H' := H) (by (repeat (first | exact qR _ | apply qC));done) ⟨rfl,rfl⟩
 ·have hF : sinF R x f = (0,e):=by unfold sinF;rw [if_neg (by rw [he];exact h0),he]
  rw [hF]
  refine Fc.mk (callable Try.call66) Try.func66 rfl Try.ntmps66 rfl ?_;dsimp only [fr]
  repeat' (first | (refine uP rfl ?_;(first | ((first | refine uN rfl ?_);(first | (refine Xg.st (StF.buildOne (v0 := .int .i64 x) rfl el55 rfl rfl rfl (by decide) (by decide)) rfl rfl ?_;rintro _ _ ⟨b1,rfl,rfl⟩)|(refine uE (EvF.build (cs:=cBt ⟨[x],some ⟨b1,0,none⟩,1,[],none,0⟩) rfl (ArgsP.cons rfl ArgsP.nil) (te rfl) (Places.cons (te rfl) (Places.cons (te rfl) Places.nil)) Try.zeroValue98 rfl) rfl rfl ?_)|(refine uC (uT rfl (Args.cons rfl (Args.cons rfl Args.nil))) rfl rfl (openN (hR.sub (fun _ h=>by repeat (first | exact h | apply qT))) (hbt _ b1 (qH _)) h2 he h0) ?_;rintro _ H9 ⟨rfl,hH9⟩;subst H9)|(refine Xg.st (StF.alloc rfl Try.zeroValue93 rfl) rfl rfl ?_;rintro _ _ ⟨b8,rfl,rfl⟩)|(refine Xg.st0 (uZ (i:=0) (vs:=zCt) rfl rfl rfl (te rfl) rfl rfl rfl rfl) rfl ?_;rintro _ _ ⟨rfl,rfl⟩;dsimp only [List.set])|(refine uE (uL rfl rfl (uW (T:=93) (cs:=zCt) (te rfl) rfl (qH _) rfl)) rfl rfl ?_)|(refine uE (EvF.makeFunc (fl:=[]) rfl Args.nil (Args.cons rfl (Args.cons rfl Args.nil))) rfl rfl ?_)|(refine uC (uT rfl (Args.cons rfl (Args.cons rfl (Args.cons rfl (Args.cons rfl Args.nil))))) rfl rfl (told0_spec zCt e 6 _ h0 rfl _) ?_;rintro _ _ ⟨rfl,rfl⟩)|(refine uE (uX rfl rfl rfl) rfl rfl ?_)|(refine uE (uM rfl rfl) rfl rfl ?_)|(refine uE (uA rfl rfl) rfl rfl ?_)|(refine uE (uL rfl rfl (uO (te rfl) rfl (qT _ (qH _)) rfl)) rfl rfl ?_)|(refine uE (uL rfl rfl (uW (te rfl) rfl (qT _ (qT _ (qH _))) rfl)) rfl rfl ?_)|(refine Xg.st (StF.boxAgg rfl rfl) rfl rfl ?_;rintro _ _ ⟨bx,rfl,rfl⟩)|(refine Xg.st (StF.boxOne rfl rfl rfl) rfl rfl ?_;rintro _ _ ⟨bx,rfl,rfl⟩)))))|(refine uD rfl ?_;refine hK _ _ ?_;clear hK K) | refine uS rfl ?_ | refine uR rfl (fun K hK=>?_) | refine X.ret rfl ?_)
  all_goals try (exfalso;omega)
  exact ret_two (by simp) Try.results66 rfl rfl (H' := H) (by (repeat (first | exact qR _ | apply qC));done) ⟨rfl,rfl⟩
set_option maxHeartbeats 4000000 in
theorem kPerhaps_spec (R : Rm) (p : Pl) (x n : Int) (H : List Row) (hR : RmOk H R p) (h2 : R.boxes.length ≤ 1000000) : Fc Try.prog 28 [.agg (cRm R p).toArray,.int .i64 x,.int .i64 n] H (fun v H' => v = .tuple #[.int .i64 (sinF R x (sinS false n)).1,.int .i64 (sinF R x (sinS false n)).2]∧H' = H):=by
 have hks:=fun b H' hR' hm=>ksince_spec R p x 67 [.pointer (some ⟨b,0,none⟩)] (sinS false n) H' hR' h2 (fun s H'' hs=>perhaps1_spec s n b (some 3) 1 H'' (hs _ hm))
 obtain ⟨⟨y1,y2⟩,hy⟩ : ∃ y,y = sinF R x (sinS false n):=⟨_,rfl⟩
 rw [← hy] at hks ⊢
 clear hy
 refine Fc.mk (callable Try.call28) Try.func28 rfl Try.ntmps28 rfl ?_;dsimp only [fr]
 repeat' (first | (refine uP rfl ?_;(first | ((first | refine uN rfl ?_);(first | (refine uE (EvF.makeFunc (fl:=[]) rfl Args.nil (Args.cons rfl Args.nil)) rfl rfl ?_)|(refine uC (uT rfl (Args.cons rfl (Args.cons rfl (Args.cons rfl Args.nil)))) rfl rfl (hks _ _ (hR.sub (fun _ h=>by repeat (first | exact h | apply qT))) (qH _)) ?_;rintro _ H9 ⟨rfl,hH9⟩;subst H9)|(refine uE (uX rfl rfl rfl) rfl rfl ?_)|(refine uE (uM rfl rfl) rfl rfl ?_)|(refine uE (uA rfl rfl) rfl rfl ?_)|(refine uE (uL rfl rfl (uW (te rfl) rfl (qT _ (qH _)) rfl)) rfl rfl ?_)|(refine Xg.st (StF.boxAgg rfl rfl) rfl rfl ?_;rintro _ _ ⟨bx,rfl,rfl⟩)|(refine Xg.st (StF.boxOne rfl rfl rfl) rfl rfl ?_;rintro _ _ ⟨bx,rfl,rfl⟩)))))|(refine uD rfl ?_;refine hK _ _ ?_;clear hK K) | refine uS rfl ?_ | refine uR rfl (fun K hK=>?_) | refine X.ret rfl ?_)
 exact ret_two (by simp) Try.results28 rfl rfl (H' := H) (by repeat (first | exact qR _ | apply qK | apply qC)) ⟨rfl,rfl⟩
set_option maxHeartbeats 4000000 in
theorem kSurely_spec (R : Rm) (p : Pl) (x n : Int) (H : List Row) (hR : RmOk H R p) (h2 : R.boxes.length ≤ 1000000) : Fc Try.prog 30 [.agg (cRm R p).toArray,.int .i64 x,.int .i64 n] H (fun v H' => v = .tuple #[.int .i64 (sinF R x (sinS true n)).1,.int .i64 (sinF R x (sinS true n)).2]∧H' = H):=by
 have hks:=fun b H' hR' hm=>ksince_spec R p x 69 [.pointer (some ⟨b,0,none⟩)] (sinS true n) H' hR' h2 (fun s H'' hs=>surely1_spec s n b (some 3) 1 H'' (hs _ hm))
 obtain ⟨⟨y1,y2⟩,hy⟩ : ∃ y,y = sinF R x (sinS true n):=⟨_,rfl⟩
 rw [← hy] at hks ⊢
 clear hy
 refine Fc.mk (callable Try.call30) Try.func30 rfl Try.ntmps30 rfl ?_;dsimp only [fr]
 repeat' (first | (refine uP rfl ?_;(first | ((first | refine uN rfl ?_);(first | (refine uE (EvF.makeFunc (fl:=[]) rfl Args.nil (Args.cons rfl Args.nil)) rfl rfl ?_)|(refine uC (uT rfl (Args.cons rfl (Args.cons rfl (Args.cons rfl Args.nil)))) rfl rfl (hks _ _ (hR.sub (fun _ h=>by repeat (first | exact h | apply qT))) (qH _)) ?_;rintro _ H9 ⟨rfl,hH9⟩;subst H9)|(refine uE (uX rfl rfl rfl) rfl rfl ?_)|(refine uE (uM rfl rfl) rfl rfl ?_)|(refine uE (uA rfl rfl) rfl rfl ?_)|(refine uE (uL rfl rfl (uW (te rfl) rfl (qT _ (qH _)) rfl)) rfl rfl ?_)|(refine Xg.st (StF.boxAgg rfl rfl) rfl rfl ?_;rintro _ _ ⟨bx,rfl,rfl⟩)|(refine Xg.st (StF.boxOne rfl rfl rfl) rfl rfl ?_;rintro _ _ ⟨bx,rfl,rfl⟩)))))|(refine uD rfl ?_;refine hK _ _ ?_;clear hK K) | refine uS rfl ?_ | refine uR rfl (fun K hK=>?_) | refine X.ret rfl ?_)
 exact ret_two (by simp) Try.results30 rfl rfl (H' := H) (by repeat (first | exact qR _ | apply qK | apply qC)) ⟨rfl,rfl⟩
def RE : Rm:=roomE [mt1]
def RO : Rm:=roomE [mt1,mt2]
theorem okRE : roomOk RE:=by decide
theorem okRO : roomOk RO:=by decide
theorem eE {l t : List Int} (hl : ∀ a ∈ l,a = 1∨a = 2) (ht : ∀ m ∈ t,0 ≤ m∧m ≤ 3∧(2 ∈ l → 1 ≤ m)) : openE RE l t = 0:=by
 unfold openE
 have h2 : allThere RE l:=fun a ha=>by
  rcases hl a ha with rfl | rfl
  ·exact ⟨⟨1,0⟩,List.mem_cons_self,rfl⟩
  ·exact ⟨⟨2,1⟩,List.mem_cons_of_mem _ List.mem_cons_self,rfl⟩
 have h3 : inTime RE l t:=fun m hm=>by
  have:=ht m hm
  refine ⟨⟨by omega,by show m ≤ 4 - 1;omega⟩,?_⟩
  rintro ⟨b,hb,hb1,hb2⟩
  rcases List.mem_cons.1 hb with rfl | hb
  ·have : (0 : Int) > m:=hb1;omega
  ·rcases List.mem_cons.1 hb with rfl | hb
   ·have h4 : (1 : Int) > m:=hb1
    have:=this.2.2 hb2;omega
   ·exact absurd hb List.not_mem_nil
 rw [if_pos okRE,if_pos h2,if_pos h3,if_pos (show hasT RE RE.mats from hasE [mt1])]
theorem eE1 (m : Int) (h : 0 ≤ m∧m ≤ 3) : openE RE [1] [m] = 0:=eE (fun a ha => .inl (List.mem_singleton.1 ha)) (fun q hq=>by rw [List.mem_singleton.1 hq];exact ⟨h.1,h.2,fun h=>by simp at h⟩)
theorem eE12 (l : List Int) (hl : ∀ a ∈ l,a = 1∨a = 2) (m : Int) (h : 1 ≤ m∧m ≤ 3) : openE RE l [m] = 0:=eE hl (fun q hq=>by rw [List.mem_singleton.1 hq];exact ⟨by omega,h.2,fun _=>h.1⟩)
theorem two12 : ∀ a ∈ [(1 : Int),2],a = 1∨a = 2:=by decide
theorem two21 : ∀ a ∈ [(2 : Int),1],a = 1∨a = 2:=by decide
theorem vYel : yelF RE 1 3 = (⟨4,12⟩,0):=by
 unfold yelF
 rw [if_pos (eE1 3 (by omega)),show rng RE RE.mats ⟨1,3⟩ zp = ⟨4,12⟩ from r13 [mt1]]
theorem vDif : difF RE 1 2 3 = (⟨-2,10⟩,0):=by
 unfold difF
 rw [if_pos (eE12 _ two12 3 (by omega)),if_neg (by decide),show rng RE RE.mats ⟨1,3⟩ ⟨2,3⟩ = ⟨-2,10⟩ from d3 [mt1]]
theorem vKno : knP (yelF RE 1 3) 12 = (1,0):=by rw [vYel];rfl
theorem vOrd : knP (difF RE 2 1 2) 0 = (0,0):=by
 have : difF RE 2 1 2 = (⟨-5, -3⟩,0):=by
  unfold difF
  rw [if_pos (eE12 _ two21 2 (by omega)),if_neg (by decide),show rng RE RE.mats ⟨2,2⟩ ⟨1,2⟩ = ⟨-5, -3⟩ from d2' [mt1]]
 rw [this];rfl
open Classical in
theorem sE {f : Sp → Bool} {k : Nat} {s : Sp} (hk : k ≤ 3) (h : rng RE [mt1] ⟨1,(k : Int)⟩ zp = s) : sinP RE 1 f k = f s:=by
 unfold sinP
 rw [decide_eq_true ⟨⟨1,0⟩,thereE1 ⟨by omega,by omega⟩,rfl⟩,Bool.true_and,show RE.mats = [mt1] from rfl,h]
theorem vSin {f : Sp → Bool} (h0 : f ⟨0,0⟩ = false) (h1 : f ⟨1,4⟩ = false) (h2 : f ⟨4,8⟩ = true) : sinF RE 1 f = (2,0):=by
 have e0 : sinP RE 1 f 0 = false:=(sE (k:=0) (by omega) (r10 [mt1])).trans h0
 have e1 : sinP RE 1 f 1 = false:=(sE (k:=1) (by omega) (r11 [mt1])).trans h1
 have e2 : sinP RE 1 f 2 = true:=(sE (k:=2) (by omega) (r12 [mt1])).trans h2
 unfold sinF
 rw [if_pos (eE (fun a ha => .inl (List.mem_singleton.1 ha)) (fun m hm=>absurd hm List.not_mem_nil))]
 have : fstM (sinP RE 1 f) 0 4 = some 2:=by simp [fstM,e0,e1,e2]
 rw [show RE.months.toNat = 4 from rfl,this]
 rfl
theorem vPer : sinF RE 1 (sinS false 8)=(2,0):=vSin (by decide) (by decide) (by decide)
theorem vSur : sinF RE 1 (sinS true 4)=(2,0):=vSin (by decide) (by decide) (by decide)
theorem filt2 (P : Bx → Bool) : (([⟨1,0⟩,⟨2,1⟩] : List Bx).filter P).map (·.id)=(if P ⟨1,0⟩ = true then [1] else [])++(if P ⟨2,1⟩ = true then [2] else []):=by
 cases h1 : P ⟨1,0⟩ <;> cases h2 : P ⟨2,1⟩ <;> simp [List.filter,h1,h2]
theorem dE {k : Nat} {s t : Sp} (h1 : rng RE [mt1] ⟨1,(k : Int)⟩ zp = s) (h2 : 1 ≤ k → rng RE [mt1] ⟨2,(k : Int)⟩ zp = t) : dueL RE 7 k = (if 7 < s.hi then [1] else [])++(if 1 ≤ k∧7 < t.hi then [2] else []):=by
 unfold dueL
 show (([⟨1,0⟩,⟨2,1⟩] : List Bx).filter _).map _ = _
 rw [filt2]
 dsimp only
 rw [show RE.mats = [mt1] from rfl,h1]
 congr 1
 ·simp
 ·by_cases hk : 1 ≤ k
  ·rw [h2 hk]
   have : (1 : Int)≤k:=by omega
   simp [hk,this]
  ·have : ¬ (1 : Int)≤k:=by omega
   simp [hk,this]
theorem vDue : dueF RE 7 = (2,[1],0):=by
 unfold dueF
 rw [if_pos (eE (fun a ha=>absurd ha List.not_mem_nil) (fun m hm=>absurd hm List.not_mem_nil))]
 have e0 : dueL RE 7 0 = []:=(dE (k:=0) (t:=⟨0,0⟩) (r10 [mt1]) (fun h=>by omega)).trans (by decide)
 have e1 : dueL RE 7 1 = []:=(dE (k:=1) (r11 [mt1]) (fun _=>r21 [mt1])).trans (by decide)
 have e2 : dueL RE 7 2 = [1]:=(dE (k:=2) (r12 [mt1]) (fun _=>r22 [mt1])).trans (by decide)
 show dueS (dueL RE 7) 0 4 = _
 simp [dueS,e0,e1,e2]
theorem thE {m : Int} (h : 1 ≤ m) : thI RE m = [1,2]:=by
 unfold thI
 show (([⟨1,0⟩,⟨2,1⟩] : List Bx).filter _).map _ = _
 rw [filt2]
 dsimp only
 rw [if_pos (decide_eq_true (by omega)),if_pos (decide_eq_true h)]
 rfl
theorem selfE (q : Pk) : rng RE [mt1] q q = ⟨0,0⟩:=exE (fun z _=>by dsimp only;omega) ⟨_,loE [mt1],by dsimp only;omega⟩ ⟨_,loE [mt1],by dsimp only;omega⟩
theorem vFre : freF RE 2 = ([2],0):=by
 unfold freF
 rw [if_pos (eE (fun a ha=>absurd ha List.not_mem_nil) (fun m hm=>by rw [List.mem_singleton.1 hm];exact ⟨by omega,by omega,fun h=>absurd h List.not_mem_nil⟩))]
 have s1 : stale RE 2 1 = true:=by
  unfold stale
  rw [thE (by omega),show RE.mats = [mt1] from rfl]
  simp [selfE,show rng RE [mt1] ⟨1,2⟩ ⟨2,2⟩ = ⟨3,5⟩ from d2 [mt1]]
 have s2 : stale RE 2 2 = false:=by
  unfold stale
  rw [thE (by omega),show RE.mats = [mt1] from rfl]
  simp [selfE,show rng RE [mt1] ⟨2,2⟩ ⟨1,2⟩ = ⟨-5, -3⟩ from d2' [mt1]]
 unfold freL
 rw [thE (by omega)]
 simp [List.filter,s1,s2]
theorem vAsk : askF RE 3 = ((1,2,12),0):=by
 unfold askF
 rw [if_pos (eE (fun a ha=>absurd ha List.not_mem_nil) (fun m hm=>by rw [List.mem_singleton.1 hm];exact ⟨by omega,by omega,fun h=>absurd h List.not_mem_nil⟩)),thE (by omega),if_neg (by decide)]
 have w : wid2 RE 3 1 2 = 12:=by
  unfold wid2
  rw [show rng RE RE.mats ⟨1,3⟩ ⟨2,3⟩ = ⟨-2,10⟩ from d3 [mt1]]
  rfl
 simp [askO,askI,w]
theorem pN0 : prvM RE ⟨1,2⟩ ⟨4,8⟩ [] = false:=by
 unfold prvM
 rw [show rng RE [] ⟨1,2⟩ zp = ⟨2,8⟩ from f12 [mt1]]
 exact decide_eq_false (by intro h;cases h)
theorem pN1 : prvM RE ⟨1,2⟩ ⟨4,8⟩ [mt1] = true:=by
 unfold prvM
 rw [show rng RE [mt1] ⟨1,2⟩ zp = ⟨4,8⟩ from r12 [mt1]]
 exact decide_eq_true rfl
theorem vWhy : whyF RE 1 2 = ([1],0):=by
 unfold whyF
 rw [if_pos (eE1 2 (by omega))]
 have h0 : prvN RE ⟨1,2⟩ ⟨4,8⟩ [] = false:=pN0
 have h1 : prvN RE ⟨1,2⟩ ⟨4,8⟩ [1] = true:=pN1
 unfold whyL
 rw [show rng RE RE.mats ⟨1,2⟩ zp = ⟨4,8⟩ from r12 [mt1],show RE.mats.map (·.number) = [1] from rfl,show RE.mats.length + 1 = 2 from rfl]
 simp [fewG,lonG,h0,h1]
theorem vRst : rstF RE 1 2 = ([1],0):=by
 unfold rstF
 rw [if_pos (eE1 2 (by omega))]
 unfold rstL
 rw [show rng RE RE.mats ⟨1,2⟩ zp = ⟨4,8⟩ from r12 [mt1]]
 have h0 : prvM RE ⟨1,2⟩ ⟨4,8⟩ (outM [mt1] [mt1.number]) = false:=pN0
 show (([mt1].filter _).map _,_)=_
 rw [List.filter_cons_of_pos (by show (!prvM RE ⟨1,2⟩ ⟨4,8⟩ (outM [mt1] [mt1.number])) = true;rw [h0];rfl)]
 rfl
theorem vCan : canF RO = .tuple #[.bool false,.int .i64 0]:=by
 unfold canF
 rw [if_pos okRO,decide_eq_false (show ¬ hasT RO RO.mats from oddE [mt1,mt2])]
theorem vWrg : wrgF RO = ([1],0):=by
 unfold wrgF
 rw [if_pos okRO]
 have h0 : okW RO [] = false:=by unfold okW;exact decide_eq_false (oddE [mt1,mt2])
 have h1 : okW RO [1] = true:=by unfold okW;exact decide_eq_true (odd2E [mt1,mt2])
 rw [show RO.mats.map (·.number) = [1,2] from rfl]
 simp [fewG,lonG,h0,h1]
def ts71 : List TOp:=[⟨some 24,[],[],[]⟩,⟨some 25,[],[],[]⟩,⟨some 26,[],[],[]⟩,⟨some 27,[1,2],[1,2],[]⟩,⟨some 28,[1,2,3],[3],[]⟩,⟨some 29,[1,2,3,4],[4],[]⟩,⟨some 30,[0,1,2,3,4,5],[0,5],[9]⟩,⟨none,[0,1,2,3,4,5,6],[6],[8]⟩,⟨none,[],[],[]⟩,⟨none,[],[],[]⟩]
def rd71 (k : Nat) : List Nat:=match k with
 | 0=>[8]
 | 6=>[5]
 | _=>[]
def TrvI (l : List Int) (out : Value) (Z : List Row) : Prop:=(l = []∧out = .slice none 0 0∧Z = []) ∨ ∃ b q,out = .slice (some ⟨b,0,none⟩) l.length q∧Z = [⟨b,0,l.flatMap cI,some 3,q * 1⟩]
theorem TrvI.sl {l : List Int} {out : Value} {Z H : List Row} (h : TrvI l out Z) : ∃ a c,out = .slice a l.length c∧SlE (Z++H) a cI 1 l:=by
 rcases h with ⟨rfl,rfl,rfl⟩ | ⟨b,q,rfl,rfl⟩
 ·exact ⟨none,0,rfl,sleNil⟩
 ·exact ⟨_,_,rfl,SlE.ofRow (qH _) (fun _ _=>rfl)⟩
def val71I (out : Value) (lb lo n c : Nat) (ll : Nat) (i : Nat) (e : Int) (k : Nat) (env : Env) : Value :=
 match k with
 | 0=>out
 | 1 => .slice (some ⟨lb,lo,none⟩) ll c
 | 2 => .int .i64 i
 | 3 => .pointer (some ⟨lb,lo + i * 1,none⟩)
 | 4 => .int .i64 e
 | 5 => .slice (some ⟨(env 5).1,0,none⟩) 1 1
 | 6 => .slice (some ⟨(env 6).1,0,none⟩) (n + 1) (env 6).2
 | _=>undef
def rows71I (bt : Nat) (out : Value) (Z : List Row) (acc : List Int) (e : Int) (k : Nat) (env : Env) : List Row :=
 match k with
 | 5=>[⟨(env 5).1,0,cI e,some 3,1 * 1⟩]
 | 6=>[⟨(env 6).1,0,acc.flatMap cI++cI e,some 3,(env 6).2 * 1⟩]
 | 7=>[⟨bt,0,[.slice (some ⟨(env 6).1,0,none⟩) (acc.length + 1) (env 6).2],some 55,1⟩]
 | 8=>[⟨bt,0,[out],some 55,1⟩]
 | 9=>Z
 | _=>[]
theorem loc71I (bt : Nat) (out : Value) (Z : List Row) (acc : List Int) (lb lo c ll j : Nat) (e : Int) : ∀ k env i q9,i ≠ k → (tAt ts71 k).sup.contains i = false → val71I out lb lo acc.length c ll j e k (upd env i q9)=val71I out lb lo acc.length c ll j e k env∧rows71I bt out Z acc e k (upd env i q9)=rows71I bt out Z acc e k env:=by
 intro k env i q hk hs
 have hu : ∀ j,j ≠ i → upd env i q j = env j:=fun j hj=>by unfold upd;rw [if_neg hj]
 match k,hk,hs with
 | 0,_,_=>exact ⟨rfl,rfl⟩
 | 1,_,_=>exact ⟨rfl,rfl⟩
 | 2,_,_=>exact ⟨rfl,rfl⟩
 | 3,_,_=>exact ⟨rfl,rfl⟩
 | 4,_,_=>exact ⟨rfl,rfl⟩
 | 5,hk,hs=>exact ⟨by simp only [val71I,hu 5 (fun e=>hk e.symm)],by simp only [rows71I,hu 5 (fun e=>hk e.symm)]⟩
 | 6,hk,hs=>exact ⟨by simp only [val71I,hu 6 (fun e=>hk e.symm)],by simp only [rows71I,hu 6 (fun e=>hk e.symm)]⟩
 | 7,hk,hs=>exact ⟨by simp only [val71I,hu 6 (by rintro rfl;cases hs)],by simp only [rows71I,hu 6 (by rintro rfl;cases hs)]⟩
 | 8,_,_=>exact ⟨rfl,rfl⟩
 | 9,_,_=>exact ⟨rfl,rfl⟩
 | _ + 10,_,_=>exact ⟨rfl,rfl⟩
set_option maxHeartbeats 8000000 in
theorem longer_specI (ok : List Int → Bool) (l : List Int) (a : Option Addr) (c g : Nat) (cap : List Value) (bt br bl bg : Nat) (w1 w2 w3 : Option Kd) (k1 k2 k3 : Nat) (H0 : List Row) (hl : SlE H0 a cI 1 l) (hb : l.length ≤ 1000000)
  (mr : ⟨br,0,[.func (.func g) #[] cap.toArray],w1,k1⟩ ∈ H0) (ml : ⟨bl,0,[.slice a l.length c],w2,k2⟩ ∈ H0) (mg : ⟨bg,0,[.func (.func 120) #[] #[.pointer (some ⟨br,0,none⟩),.pointer (some ⟨bt,0,none⟩),.pointer (some ⟨bl,0,none⟩),.pointer (some ⟨bg,0,none⟩)]],w3,k3⟩ ∈ H0)
  (hr : ∀ acc a' c' H',(∀ r ∈ H0,r ∈ H') → SlE H' a' cI 1 acc → acc.length ≤ 1000000 → Fc Try.prog g ([.slice a' acc.length c']++cap) H' (fun v H'' => v = .bool (ok acc)∧H'' = H')) :
  ∀ (m f0 : Nat) (mi fi : Int) (acc : List Int) (out : Value) (Z : List Row),mi = m → fi = f0 → f0 ≤ l.length → acc.length + m ≤ 1000000 → TrvI acc out Z →
  Fc Try.prog 120 ([.int .i64 fi,.int .i64 mi]++[.pointer (some ⟨br,0,none⟩),.pointer (some ⟨bt,0,none⟩),.pointer (some ⟨bl,0,none⟩),.pointer (some ⟨bg,0,none⟩)]) (⟨bt,0,[out],some 55,1⟩::(Z++H0))
   (fun v H' => ∃ out' Z',((∃ r,lonG ok (l.drop f0) m acc = some r∧v = .bool true∧TrvI r out' Z')∨(lonG ok (l.drop f0) m acc = none∧v = .bool false∧TrvI acc out' Z'))∧H' = ⟨bt,0,[out'],some 55,1⟩::(Z'++H0)):=by
 intro m
 induction m with
 | zero =>
  intro f0 mi fi acc out Z hmi hfi hfr hacc hT
  subst hmi
  obtain ⟨a',c',rfl,hs⟩:=hT.sl (H:=H0)
  show Fc Try.prog 120 [.int .i64 fi,.int .i64 ((0 : Nat) : Int),.pointer (some ⟨br,0,none⟩),.pointer (some ⟨bt,0,none⟩),.pointer (some ⟨bl,0,none⟩),.pointer (some ⟨bg,0,none⟩)] _ _
  refine Fc.mk (callable Try.call120) Try.func120 rfl Try.ntmps120 rfl ?_;dsimp only [fr]
  repeat' (first | (refine uP rfl ?_;(first | ((first | refine uN rfl ?_);(first | (refine uE (uL rfl rfl (uO (te rfl) rfl (qT _ (List.mem_append_right _ mr)) rfl)) rfl rfl ?_)|(refine uC (EnF.dyn0 rfl rfl (by (repeat (first | exact Args.nil | refine Args.cons rfl ?_));done)) rfl rfl (hr acc a' c' _ (fun _ h=>qT _ (List.mem_append_right _ h)) (hs.sub (fun _ h=>qT _ h)) (by omega)) ?_;rintro _ H9 ⟨rfl,hH9⟩;subst H9)|(refine uE (uM rfl rfl) rfl rfl ?_)|(refine uE (uA rfl rfl) rfl rfl ?_)|(refine uE (uQ rfl rfl rfl rfl) rfl rfl ?_)|(refine uE (uL rfl rfl (uO (te rfl) rfl (qH _) rfl)) rfl rfl ?_)))))|(refine uD rfl ?_;refine hK _ _ ?_;clear hK K) | refine uS rfl ?_ | refine uR rfl (fun K hK=>?_) | refine X.block rfl ?_ | refine X.skip rfl ?_ | refine X.ret rfl ?_ | (refine X.ite rfl rfl (fun hc=>?_);(first | (with_reducible refine Xb.case hc (fun h=>?_) (fun h=>?_))) <;> clear hc))
  ·refine ret_one (by simp) Try.results120 rfl (H' := _) (qR _) ⟨_,Z,?_,rfl⟩
   rw [lonG_zero]
   by_cases hk : ok acc = true
   ·exact .inl ⟨acc,by rw [if_pos hk],by rw [hk],hT⟩
   ·exact .inr ⟨by rw [if_neg hk],by rw [Bool.eq_false_iff.2 hk],hT⟩
  ·exfalso;omega
 | succ m ih =>
  intro f0 mi fi acc out Z hmi hfi hfr hacc hT
  subst hfi
  show Fc Try.prog 120 [.int .i64 (f0 : Int),.int .i64 mi,.pointer (some ⟨br,0,none⟩),.pointer (some ⟨bt,0,none⟩),.pointer (some ⟨bl,0,none⟩),.pointer (some ⟨bg,0,none⟩)] _ _
  refine Fc.mk (callable Try.call120) Try.func120 rfl Try.ntmps120 rfl ?_;dsimp only [fr]
  repeat' (first | (refine uP rfl ?_;(first | ((first | refine uN rfl ?_);(first | (refine uE (uM rfl rfl) rfl rfl ?_)|(refine uE (uA rfl rfl) rfl rfl ?_)|(refine uE (uQ rfl rfl rfl rfl) rfl rfl ?_)))))|(refine uD rfl ?_;refine hK _ _ ?_;clear hK K) | refine uS rfl ?_ | refine uR rfl (fun K hK=>?_) | refine X.block rfl ?_ | refine X.skip rfl ?_ | (refine X.ite rfl rfl (fun hc=>?_);(first | (with_reducible refine Xb.case hc (fun h=>?_) (fun h=>?_))) <;> clear hc))
  ·exfalso;omega
  refine X.lp rfl (fun q F' H' => ∃ (i : Nat) (out : Value) (Z : List Row),q = l.length + 1 - i∧i ≤ l.length∧TrvI acc out Z∧lonG ok (l.drop f0) (m + 1) acc = lonG ok (l.drop i) (m + 1) acc∧⟨bt,0,[out],some 55,1⟩::(Z++H0)=H' ∧
    F' = [(1,.int .i64 mi),(2,.pointer (some ⟨br,0,none⟩)),(3,.pointer (some ⟨bt,0,none⟩)),(4,.pointer (some ⟨bl,0,none⟩)),(5,.pointer (some ⟨bg,0,none⟩)),(9,.int .i64 i)])
   (l.length + 1 - f0) [(1,.int .i64 mi),(2,.pointer (some ⟨br,0,none⟩)),(3,.pointer (some ⟨bt,0,none⟩)),(4,.pointer (some ⟨bl,0,none⟩)),(5,.pointer (some ⟨bg,0,none⟩)),(9,.int .i64 f0)] _ (by repeat (first | exact uU _ | refine uV rfl ?_)) (qR _) ⟨f0,out,Z,rfl,hfr,hT,rfl,rfl,rfl⟩ ?_
  clear hT
  rintro _ _ H2 ⟨i,out,Z,rfl,hi,hT,hlon,hH,rfl⟩
  subst hH
  repeat' (first | (refine uP rfl ?_;(first | ((first | refine uN rfl ?_);(first | (refine uE (uL rfl rfl (uO (te rfl) rfl (qT _ (List.mem_append_right _ ml)) rfl)) rfl rfl ?_)|(refine uE (uM rfl rfl) rfl rfl ?_)|(refine uE (uA rfl rfl) rfl rfl ?_)|(refine uE (uQ rfl rfl rfl rfl) rfl rfl ?_)|(refine uE (EvF.add64 rfl rfl rfl (by omega) (by omega)) rfl rfl ?_)|(refine uE (uY rfl rfl (te rfl)) rfl rfl ?_)))))|(refine uD rfl ?_;refine hK _ _ ?_;clear hK K) | refine uS rfl ?_ | refine uR rfl (fun K hK=>?_) | refine X.block rfl ?_ | (refine X.brk rfl ?_;repeat (first | refine blockX_hit rfl ?_ | refine blockX_miss (by decide) ?_)) | refine X.skip rfl ?_ | refine X.ret rfl ?_ | (refine X.ite rfl rfl (fun hc=>?_);(first | (with_reducible refine Xb.case hc (fun h=>?_) (fun h=>?_))) <;> clear hc))
  ·obtain ⟨lb,lo,e,rfl,he⟩:=hl.elem (i:=i) (by omega)
   have hil:=(List.getElem?_eq_some_iff.1 he).1
   have hle : (acc++[e]).length = acc.length + 1:=by rw [List.length_append];rfl
   have hfm : acc.flatMap cI++cI e = (acc++[e]).flatMap cI:=by rw [List.flatMap_append,List.flatMap_singleton]
   have hal : (acc.flatMap cI).length = acc.length * 1:=lenI acc
   refine X.regionRd ts71 rd71 [3,4,9,1,2,5] [(3,.pointer (some ⟨bt,0,none⟩)),(4,.pointer (some ⟨bl,0,none⟩)),(9,.int .i64 i),(1,.int .i64 mi),(2,.pointer (some ⟨br,0,none⟩)),(5,.pointer (some ⟨bg,0,none⟩))]
    (val71I out lb lo acc.length c l.length i e) (rows71I bt out Z acc e) (fun _=>(0,0)) H0 rfl mixed (by repeat (first | exact uU _ | refine uV rfl ?_)) rfl (by kernel_rfl) (by kernel_rfl) (loc71I bt out Z acc lb lo c l.length i e) (by show List.Sublist ((⟨bt,0,[out],some 55,1⟩::(Z++[]))++H0) _;rw [List.append_nil];exact qR _) ?_ ?_
   ·repeat' (first | exact AllF.done rfl | (refine AllF.step rfl ?_ ?_;·(first | exact (Ob.ng rfl (uK (fun env R hR=>by exact ⟨_,uM rfl rfl,rfl⟩) rfl (fun _=>rfl))).toR | (refine ObR.ng rfl ?_;(first | (exact fun env S hS hrd=>(StF.ofEv (uL rfl rfl (uO (te rfl) rfl (hrd 8 (qH _) _ (qH _)) rfl))).op.mono (fun v H' ⟨hv,hH⟩=>⟨(0,0),fun _=>hv,by rw [hH];exact List.Perm.refl _⟩))|(exact fun env S hS hrd=>(StF.ofEv (uL rfl rfl (uO (te rfl) rfl (hS _ ml) rfl))).op.mono (fun v H' ⟨hv,hH⟩=>⟨(0,0),fun _=>hv,by rw [hH];exact List.Perm.refl _⟩))|((refine fun env S hS hrd=>(StF.ofEv (v := .pointer (some ⟨lb,lo + i * 1,none⟩)) ?_).op.mono (fun v H' ⟨hv,hH⟩=>⟨(0,0),fun _=>hv,by rw [hH];exact List.Perm.refl _⟩);refine uJ (T:=55) (e:=3) (i:=(i : Int)) (off:=lo) (b:=lb) (len:=l.length) (ti:=⟨.int .i64,1,8⟩) rfl rfl rfl (te rfl) (te rfl) ?_ ?_ <;> omega))|(exact fun env S hS hrd=>(StF.ofEv (v := .int .i64 e) (uL rfl rfl (LoadV.el0 (n:=i) hl he (te rfl) rfl (fun _ h=>hS _ h) rfl))).op.mono (fun v H' ⟨hv,hH⟩=>⟨(0,0),fun _=>hv,by rw [hH];exact List.Perm.refl _⟩))|(exact fun env S hS hrd=>(StF.buildOne (v0 := .int .i64 e) rfl el55 rfl rfl rfl (by decide) (by decide)).op.mono (fun v H' ⟨b,hv,hH⟩=>⟨(b,0),fun _=>hv,by rw [hH];exact List.Perm.refl _⟩))|(exact fun env S hS hrd=>(StF.storeOne (i:=0) rfl rfl rfl rfl (te rfl) rfl rfl (Nat.le_of_ble_eq_true rfl)).op.mono (fun v H' ⟨hv,hH⟩=>⟨(0,0),fun h=>absurd rfl h,by rw [hH];exact List.Perm.refl _⟩))|((rcases hT with ⟨rfl,rfl,rfl⟩ | ⟨b,q,rfl,rfl⟩ <;> first | exact fun env S hS hrd=>(StF.appendNew rfl el55 rfl rfl (by decide) rfl (Rd.own (hrd 5 (qH _) _ (qH _))) (by decide)).op.mono (fun v H' ⟨b,c,hv,hH⟩=>⟨(b,c),fun _=>hv,by rw [hH];exact List.Perm.refl _⟩) | exact fun env S hS hrd=>(StF.appendOwn (i:=0) rfl el55 rfl rfl rfl hal rfl (Rd.own (qT _ (hrd 5 (qH _) _ (qH _)))) rfl (by omega)).op.mono (fun v H' ⟨b,c,hv,hH⟩=>⟨(b,c),fun _=>hv,by rw [hH];exact List.Perm.refl _⟩))))))))
   ·intro env t ha hv
    refine ⟨_,ha,?_⟩
    show X _ _ _ _ (⟨(env 5).1,0,cI e,some 3,1 * 1⟩::⟨(env 6).1,0,acc.flatMap cI++cI e,some 3,(env 6).2 * 1⟩::⟨bt,0,[.slice (some ⟨(env 6).1,0,none⟩) (acc.length + 1) (env 6).2],some 55,1⟩::H0) _
    rw [hfm]
    refine X.weakR (List.sublist_cons_self _ _) ?_
    refine X.permH (H' := ⟨bt,0,[.slice (some ⟨(env 6).1,0,none⟩) (acc.length + 1) (env 6).2],some 55,1⟩::⟨(env 6).1,0,(acc++[e]).flatMap cI,some 3,(env 6).2 * 1⟩::H0) (List.Perm.swap _ _ _) ?_
    clear hT
    repeat' (first | (refine uP rfl ?_;(first | ((first | refine uN rfl ?_);(first | (refine uE (uL rfl rfl (uO (te rfl) rfl (qT _ (qT _ mg)) rfl)) rfl rfl ?_)|(refine uC (EnF.dyn0 rfl rfl (by (repeat (first | exact Args.nil | refine Args.cons rfl ?_));done)) rfl rfl (ih (i + 1) _ _ (acc++[e]) _ [⟨(env 6).1,0,(acc++[e]).flatMap cI,some 3,(env 6).2 * 1⟩] (by omega) (by omega) (by omega) (by omega) (.inr ⟨_,_,by rw [hle],rfl⟩)) ?_;rintro _ _ ⟨out',Z',(⟨r,hlr,rfl,hT'⟩ | ⟨hln,rfl,⟨h0,_,_⟩ | ⟨b',q',rfl,rfl⟩⟩),rfl⟩;rotate_left;·exact absurd h0 (by simp))|(refine uE (uM rfl rfl) rfl rfl ?_)|(refine uE (uA rfl rfl) rfl rfl ?_)|(refine uE (EvF.add64 rfl rfl rfl (by omega) (by omega)) rfl rfl ?_)|(refine uE (EvF.sub64 rfl rfl rfl (by omega) (by omega)) rfl rfl ?_)|(refine uE (uY rfl rfl (te rfl)) rfl rfl ?_)|(refine uE (uL rfl rfl (uO (te rfl) rfl (qH _) rfl)) rfl rfl ?_)))))|(refine uD rfl ?_;refine hK _ _ ?_;clear hK K) | refine uS rfl ?_ | refine uR rfl (fun K hK=>?_) | refine X.skip rfl ?_ | refine X.ret rfl ?_ | (refine X.ite rfl rfl (fun hc=>?_);(first | (with_reducible refine Xb.t hc ?_)|(with_reducible refine Xb.f hc ?_)) <;> clear hc))
    ·refine XO.reveal (q:=1) rfl (fun rest hrest=>?_)
     have hcap : (acc++[e]).length ≤ q' := by
      rw [List.length_append,lenI] at hrest
      omega
     refine XO.forget (q:=1) (cs:=acc.flatMap cI) (cs' := cI e++rest) (by show some (⟨b',0,(acc++[e]).flatMap cI++rest,some 3,q' * 1⟩ : Row)=_;rw [← hfm,List.append_assoc];rfl) ?_
     dsimp only [List.set,List.cons_append,List.nil_append]
     repeat' (first | (refine uP rfl ?_;(first | ((first | refine uN rfl ?_);(first | (refine uE (EvF.sliceTo (hh:=acc.length) rfl rfl (te rfl) (te rfl) (congrArg (fun z=>some (Value.int .i64 z)) (by omega : (((acc++[e]).length : Nat) : Int) - 1 = (acc.length : Int))) (by omega)) rfl rfl ?_)|(refine uE (uM rfl rfl) rfl rfl ?_)|(refine uE (uA rfl rfl) rfl rfl ?_)|(refine uE (EvF.add64 rfl rfl rfl (by omega) (by omega)) rfl rfl ?_)|(refine Xg.st0 (StF.storeOne (i:=0) rfl rfl rfl rfl (te rfl) rfl rfl (Nat.le_of_ble_eq_true rfl)) rfl ?_;rintro _ _ ⟨rfl,rfl⟩;dsimp only [List.set])))))|(refine uD rfl ?_;refine hK _ _ ?_;clear hK K) | refine uR rfl (fun K hK=>?_))
     refine ⟨_,_,_,(by repeat (first | exact uU _ | refine uV rfl ?_)),qR _,⟨i + 1,_,[⟨b',0,acc.flatMap cI,some 3,q' * 1⟩],rfl,by omega,.inr ⟨b',q',rfl,rfl⟩,?_,rfl,rfl⟩,by omega⟩
     rw [hlon,drop_cons he]
     simp only [lonG,hln]
    ·refine ret_one (by simp) Try.results120 rfl (H' := _) (qR _) ⟨out',Z',.inl ⟨r,?_,rfl,hT'⟩,rfl⟩
     rw [hlon,drop_cons he]
     simp only [lonG,hlr]
  ·refine ret_one (by simp) Try.results120 rfl (H' := _) (qR _) ⟨out,Z,.inr ⟨?_,rfl,hT⟩,rfl⟩
   rw [hlon]
   exact lonG_short ok _ _ _ (by rw [List.length_drop];omega)
set_option maxHeartbeats 8000000 in
theorem fewest_specI (ok : List Int → Bool) (l : List Int) (a : Option Addr) (c most g : Nat) (cap : List Value) (H : List Row) (hl : SlE H a cI 1 l) (hb : l.length ≤ 1000000) (hm : most ≤ 1000)
  (hr : ∀ acc a' c' H',(∀ r ∈ H,r ∈ H') → SlE H' a' cI 1 acc → acc.length ≤ 1000000 → Fc Try.prog g ([.slice a' acc.length c']++cap) H' (fun v H'' => v = .bool (ok acc)∧H'' = H')) :
  Fc Try.prog 82 [.slice a l.length c,.int .i64 (most : Nat),.func (.func g) #[] cap.toArray] H
   (fun v H' => ∃ out Z,TrvI ((fewG ok l (min most l.length + 1) 0).getD []) out Z∧v = .tuple #[out,.bool (fewG ok l (min most l.length + 1) 0).isSome]∧H' = Z++H):=by
 refine Fc.mk (callable Try.call82) Try.func82 rfl Try.ntmps82 rfl ?_;dsimp only [fr]
 repeat' (first | (refine uP rfl ?_;(first | ((first | refine uN rfl ?_);(first | (refine uE (EvF.makeFunc (fl:=[]) rfl Args.nil (Args.cons rfl (Args.cons rfl (Args.cons rfl (Args.cons rfl Args.nil))))) rfl rfl ?_)|(refine uE (uM rfl rfl) rfl rfl ?_)|(refine uE (uA rfl rfl) rfl rfl ?_)|(refine uE (EvF.add64 rfl rfl rfl (by omega) (by omega)) rfl rfl ?_)|(refine uE (uY rfl rfl (te rfl)) rfl rfl ?_)|(refine uE (uL rfl rfl (uO (te rfl) rfl (qT _ (qT _ (qT _ (qH _)))) rfl)) rfl rfl ?_)|(refine uE (EvF.min64 rfl rfl rfl) rfl rfl ?_)|(refine Xg.st (StF.boxOne rfl rfl rfl) rfl rfl ?_;rintro _ _ ⟨bx,rfl,rfl⟩)|(refine Xg.st (StF.alloc rfl Try.zeroValue55 rfl) rfl rfl ?_;rintro _ _ ⟨bx,rfl,rfl⟩)|(refine Xg.st (StF.alloc rfl Try.zeroValue173 rfl) rfl rfl ?_;rintro _ _ ⟨bx,rfl,rfl⟩)|(refine Xg.st0 (StF.storeOne (i:=0) rfl rfl rfl rfl (te rfl) rfl rfl (Nat.le_of_ble_eq_true rfl)) rfl ?_;rintro _ _ ⟨rfl,rfl⟩;dsimp only [List.set])))))|(refine uD rfl ?_;refine hK _ _ ?_;clear hK K) | refine uS rfl ?_ | refine uR rfl (fun K hK=>?_) | refine X.block rfl ?_)
 rename_i bl br bt;rename Nat=>bg
 refine X.permH (List.Perm.swap _ _ _) ?_
 have hlg:=longer_specI ok l a c g cap bt br bl bg (some 136) (some 55) (some 173) 1 1 1 (⟨bg,0,[.func (.func 120) #[] #[.pointer (some ⟨br,0,none⟩),.pointer (some ⟨bt,0,none⟩),.pointer (some ⟨bl,0,none⟩),.pointer (some ⟨bg,0,none⟩)]],some 173,1⟩::⟨br,0,[.func (.func g) #[] cap.toArray],some 136,1⟩::⟨bl,0,[.slice a l.length c],some 55,1⟩::H)
  (hl.sub (fun _ h=>qT _ (qT _ (qT _ h)))) hb (qT _ (qH _)) (qT _ (qT _ (qH _))) (qH _) (fun acc a' c' H' hs=>hr acc a' c' H' (fun r h=>hs r (qT _ (qT _ (qT _ h)))))
 refine X.lp rfl (fun q F' H' => ∃ (k : Nat) (out : Value) (Z : List Row),q = min most l.length + 1 - k∧k ≤ min most l.length + 1∧TrvI [] out Z∧fewG ok l (min most l.length + 1) 0 = fewG ok l (min most l.length + 1 - k) k ∧
   ⟨bt,0,[out],some 55,1⟩::(Z++(⟨bg,0,[.func (.func 120) #[] #[.pointer (some ⟨br,0,none⟩),.pointer (some ⟨bt,0,none⟩),.pointer (some ⟨bl,0,none⟩),.pointer (some ⟨bg,0,none⟩)]],some 173,1⟩::⟨br,0,[.func (.func g) #[] cap.toArray],some 136,1⟩::⟨bl,0,[.slice a l.length c],some 55,1⟩::H)) = H' ∧
   F' = [(8,.pointer (some ⟨bt,0,none⟩)),(9,.pointer (some ⟨bg,0,none⟩)),(16,.int .i64 (min (most : Int) (l.length : Int) + 1)),(17,.int .i64 k)])
  (min most l.length + 1) [(8,.pointer (some ⟨bt,0,none⟩)),(9,.pointer (some ⟨bg,0,none⟩)),(16,.int .i64 (min (most : Int) (l.length : Int) + 1)),(17,.int .i64 (0 : Nat))] _ (by repeat (first | exact uU _ | refine uV rfl ?_)) (qR _) ⟨0,_,[],rfl,by omega,.inl ⟨rfl,rfl,rfl⟩,rfl,rfl,rfl⟩ ?_
 rintro _ _ H2 ⟨k,out,Z,rfl,hk,hT,hf,hH,rfl⟩
 subst hH
 repeat' (first | (refine uP rfl ?_;(first | ((first | refine uN rfl ?_);(first | (refine uE (uL rfl rfl (uO (te rfl) rfl (qT _ (List.mem_append_right _ (qH _))) rfl)) rfl rfl ?_)|(refine uC (EnF.dyn0 rfl rfl (by (repeat (first | exact Args.nil | refine Args.cons rfl ?_));done)) rfl rfl (hlg k 0 _ _ [] out Z rfl rfl (by omega) (by simp only [List.length_nil];omega) hT) ?_;rintro _ _ ⟨out',Z',(⟨r,hlr,rfl,hT'⟩ | ⟨hln,rfl,hT'⟩),rfl⟩)|(refine uE (uM rfl rfl) rfl rfl ?_)|(refine uE (uA rfl rfl) rfl rfl ?_)|(refine uE (uQ rfl rfl rfl rfl) rfl rfl ?_)|(refine uE (EvF.add64 rfl rfl rfl (by omega) (by omega)) rfl rfl ?_)|(refine uE (uL rfl rfl (uO (te rfl) rfl (qH _) rfl)) rfl rfl ?_)))))|(refine uD rfl ?_;refine hK _ _ ?_;clear hK K) | refine uS rfl ?_ | refine uR rfl (fun K hK=>?_) | refine X.block rfl ?_ | (refine X.brk rfl ?_;repeat (first | refine blockX_hit rfl ?_ | refine blockX_miss (by decide) ?_)) | refine X.skip rfl ?_ | refine X.ret rfl ?_ | (refine X.ite rfl rfl (fun hc=>?_);(first | (with_reducible refine Xb.t hc ?_)|(with_reducible refine Xb.f hc ?_)|(with_reducible refine Xb.case hc (fun h=>?_) (fun h=>?_))) <;> clear hc))
 ·obtain ⟨j,hj⟩ : ∃ j,min most l.length + 1 - k = j + 1:=⟨min most l.length - k,by omega⟩
  rw [List.drop_zero] at hlr
  have hfr : fewG ok l (min most l.length + 1) 0 = some r:=by rw [hf,hj];simp only [fewG,hlr]
  rw [hfr]
  exact ret_two (by simp) Try.results82 rfl rfl (H' := Z'++H) (qC _ (List.Sublist.append (qR _) (qC _ (qC _ (List.sublist_cons_self _ _))))) ⟨out',Z',hT',rfl,rfl⟩
 ·obtain ⟨j,hj⟩ : ∃ j,min most l.length + 1 - k = j + 1:=⟨min most l.length - k,by omega⟩
  rw [List.drop_zero] at hln
  refine ⟨_,_,_,(by repeat (first | exact uU _ | refine uV rfl ?_)),qR _,⟨k + 1,out',Z',rfl,by omega,hT',?_,rfl,rfl⟩,by omega⟩
  rw [hf,hj,show min most l.length + 1 - (k + 1)=j by omega]
  simp only [fewG,hln]
 ·have hk' : min most l.length + 1 - k = 0:=by omega
  have hfn : fewG ok l (min most l.length + 1) 0 = none:=by rw [hf,hk'];rfl
  rw [hfn]
  exact ret_two (by simp) Try.results82 rfl rfl (H' := H) (qC _ ((qC _ (qC _ (List.sublist_cons_self _ _))).trans (List.sublist_append_right _ _))) ⟨_,[],.inl ⟨rfl,rfl,rfl⟩,rfl,rfl⟩
theorem StF.storeSp {P : Program} {n : Nat} {H : List Row} {F : FS} {o : Oper} {T : TypeId} {a x : Operand} {q b j cap : Nat} {el : TypeId} {cs : List Value} {y : Int} {ti : TI} (h : o.op = .store T a x) (hx : evF F a = some (.pointer (some ⟨b,j,none⟩))) (hv : evF F x = some (.int .i64 y)) (hT : tiOf P T = some ti) (hi : H[q]? = some ⟨b,0,cs,some el,cap⟩)
  (hn : 1 = ti.size) (hl : j + 1 ≤ cs.length) : StF P n H F o (fun u H' => u = undef∧H' = H.set q ⟨b,0,splice cs j (cI y),some el,cap⟩):=by
 unfold StF
 intro t ha
 exact StepOp.store h (ha.ev hx) hT (by rw [ha.ev hv];rfl) hi hn rfl hl
theorem filter_snoc_tInt {p : Int → Bool} {l : List Int} {j : Nat} {e : Int} (he : l[j]? = some e) (hp : p e = true) : (l.take (j + 1)).filter (fun e => !p e)=(l.take j).filter (fun e => !p e):=by
 rw [take_snoc he,List.filter_append];simp [hp]
theorem filter_snoc_fInt {p : Int → Bool} {l : List Int} {j : Nat} {e : Int} (he : l[j]? = some e) (hp : p e = false) : (l.take (j + 1)).filter (fun e => !p e)=(l.take j).filter (fun e => !p e)++[e]:=by
 rw [take_snoc he,List.filter_append];simp [hp]
theorem honeInt (z : Value) (w : World) (h : (zeroValue 3).run Try.prog w = .ok z w) : z.cells.all (·.oneCell') = true:=by
 rw [Try.zeroValue3] at h
 cases h
 first | decide | simp [Value.cells,Value.oneCell'] | kernel_rfl
set_option maxHeartbeats 4000000 in
theorem deleteFunc_specInt (l : List Int) (b c g : Nat) (p : Int → Bool) (cap : List Value) (H : List Row) (hb : l.length ≤ 1000000) (hf : ∀ Z,∀ e ∈ l,Fc Try.prog g ([.int .i64 e]++cap) (Z++H) (fun v H' => v = .bool (p e)∧H' = Z++H)) :
  Fc Try.prog 78 [.slice (some ⟨b,0,none⟩) l.length c,.func (.func g) #[] cap.toArray] (⟨b,0,l.flatMap cI,some 3,c * 1⟩::H)
   (fun v H' => v = .slice (some ⟨b,0,none⟩) (l.filter (fun e => !p e)).length c∧H' = ⟨b,0,(l.filter (fun e => !p e)).flatMap cI,some 3,c * 1⟩::H):=by
 have hlen:=lenI l
 refine Fc.mk (callable Try.call78) Try.func78 rfl Try.ntmps78 rfl ?_;dsimp only [fr]
 refine X.reveal (q:=0) rfl (fun rest hrest=>?_)
 refine X.forget (q:=0) (cs:=l.flatMap cI) (cs' := rest) rfl ?_
 dsimp only [List.set]
 have hlc : l.length ≤ c:=by
  rw [List.length_append,hlen] at hrest
  omega
 clear hrest
 repeat' (first | (refine uP rfl ?_;(first | ((first | refine uN rfl ?_);(first | (refine uC (uT rfl (by (repeat (first | exact Args.nil | refine Args.cons rfl ?_));done)) rfl rfl (indexFunc_specI l _ _ g p cap _ (SlE.ofRow (qH _) (fun _ _=>rfl)) (by omega) (fun e he=>hf [_] e he)) ?_;rintro _ H9 ⟨⟨z,rfl,hz⟩,hH9⟩;subst H9;rcases hz with ⟨rfl,hz⟩ | ⟨k,e0,rfl,he0,hp0,hz⟩;rotate_left;have hk0:=(List.getElem?_eq_some_iff.1 he0).1;rotate_right)|(refine uE (uM rfl rfl) rfl rfl ?_)|(refine uE (uA rfl rfl) rfl rfl ?_)|(refine uE (uQ rfl rfl rfl rfl) rfl rfl ?_)|(refine uE (EvF.add64 rfl rfl rfl (by omega) (by omega)) rfl rfl ?_)))))|(refine uD rfl ?_;refine hK _ _ ?_;clear hK K) | refine uS rfl ?_ | refine uR rfl (fun K hK=>?_) | refine X.block rfl ?_ | refine X.skip rfl ?_ | refine X.ret rfl ?_ | (refine X.ite rfl rfl (fun hc=>?_);(first | (with_reducible refine Xb.case hc (fun h=>?_) (fun h=>?_))) <;> clear hc))
 any_goals (exfalso;omega)
 ·have e1 : l.filter (fun e => !p e)=l:=List.filter_eq_self.2 (fun e he=>by simp [hz e he])
  refine ret_one (by simp) Try.results78 rfl (H' := ⟨b,0,l.flatMap cI,some 3,c * 1⟩::H) (qR _) ?_
  rw [e1]
  exact ⟨rfl,rfl⟩
 have e1 : (l.take k).filter (fun e => !p e)=l.take k:=List.filter_eq_self.2 (fun e he=>by
  obtain ⟨i,hi⟩:=List.getElem?_of_mem he
  rw [List.getElem?_take] at hi
  split at hi
  ·simp [hz i e (by assumption) hi]
  ·cases hi)
 refine X.lp rfl (fun q F' H' => ∃ (i j : Nat) (M : List Value),q = l.length - j∧j ≤ l.length∧i < j∧i = ((l.take j).filter (fun e => !p e)).length∧M.length = (j - i) * 1 ∧
   ⟨b,0,((l.take j).filter (fun e => !p e)).flatMap cI++M++(l.drop j).flatMap cI,some 3,c * 1⟩::H = H' ∧
   F' = [(0,.slice (some ⟨b,0,none⟩) l.length c),(1,.func (.func g) #[] cap.toArray),(5,.int .i64 i),(6,.int .i64 j)])
  (l.length - (k + 1)) [(0,.slice (some ⟨b,0,none⟩) l.length c),(1,.func (.func g) #[] cap.toArray),(5,.int .i64 k),(6,.int .i64 (k + 1 : Nat))] _ (by repeat (first | exact uU _ | refine uV rfl ?_)) (qR _) ⟨k,k + 1,cI e0,rfl,by omega,by omega,?_,?_,?_,rfl⟩ ?_
 ·rw [filter_snoc_tInt he0 hp0,e1,List.length_take];omega
 ·show 1 = _;omega
 ·rw [filter_snoc_tInt he0 hp0,e1]
  congr 2
  rw [show l.flatMap cI = (l.take k++l.drop k).flatMap cI by rw [List.take_append_drop],drop_cons he0,List.flatMap_append,List.flatMap_cons,List.append_assoc]
 rintro _ _ H2 ⟨i,j,M,rfl,hj,hij,hi,hM,hH,rfl⟩
 subst hH
 have hF : (((l.take j).filter (fun e => !p e)).flatMap cI).length = i * 1:=by rw [lenI, ← hi]
 repeat' (first | (refine uP rfl ?_;(first | ((first | refine uN rfl ?_);(first | (refine uE (uM rfl rfl) rfl rfl ?_)|(refine uE (uQ rfl rfl rfl rfl) rfl rfl ?_)|(refine uE (uY rfl rfl (te rfl)) rfl rfl ?_)|(refine uE (uJ rfl rfl rfl (te rfl) (te rfl) (by omega) (by omega)) rfl rfl ?_)))))|(refine uD rfl ?_;refine hK _ _ ?_;clear hK K) | refine uS rfl ?_ | refine uR rfl (fun K hK=>?_) | refine X.block rfl ?_ | (refine X.brk rfl ?_;repeat (first | refine blockX_hit rfl ?_ | refine blockX_miss (by decide) ?_)) | refine X.skip rfl ?_ | (refine X.ite rfl rfl (fun hc=>?_);(first | (with_reducible refine Xb.case hc (fun h=>?_) (fun h=>?_))) <;> clear hc))
 ·have hjl : j < l.length:=by omega
  obtain ⟨e,he⟩ : ∃ e,l[j]? = some e:=⟨_,List.getElem?_eq_getElem hjl⟩
  rw [drop_cons he,List.flatMap_cons]
  have hload : (((l.take j).filter (fun e => !p e)).flatMap cI++M++(cI e++(l.drop (j + 1)).flatMap cI))[0 + (j : Int).toNat * 1]? = some (.int .i64 e):=by
   rw [List.getElem?_append_right (by rw [List.length_append,hF,hM];show _ ≤ 0 + j * 1;omega),List.length_append,hF,hM,show 0 + (j : Int).toNat * 1 - (i * 1 + (j - i) * 1)=0 by show 0 + j * 1 - _ = 0;omega]
   rfl
  repeat' (first | (refine uP rfl ?_;(first | ((first | refine uN rfl ?_);(first | (refine uE (uL rfl rfl (uO (te rfl) rfl (qH _) hload)) rfl rfl ?_)|(refine uC (EnF.dyn0 rfl rfl (by (repeat (first | exact Args.nil | refine Args.cons rfl ?_));done)) rfl rfl (hf [_] e (List.mem_of_getElem? he)) ?_;rintro _ H9 ⟨rfl,hH9⟩;subst H9)|(refine Xg.st0 (StF.storeSp (q:=0) rfl rfl rfl (te rfl) rfl rfl (by rw [List.length_append,List.length_append,hF,hM];show 0 + i * 1 + 1 ≤ _;omega)) rfl ?_;rintro _ _ ⟨rfl,rfl⟩;dsimp only [List.set])|(refine uE (uM rfl rfl) rfl rfl ?_)|(refine uE (uA rfl rfl) rfl rfl ?_)|(refine uE (EvF.add64 rfl rfl rfl (by omega) (by omega)) rfl rfl ?_)|(refine uE (EvF.not rfl rfl) rfl rfl ?_)|(refine uE (uJ rfl rfl rfl (te rfl) (te rfl) (by omega) (by omega)) rfl rfl ?_)))))|(refine uD rfl ?_;refine hK _ _ ?_;clear hK K) | refine uS rfl ?_ | refine uR rfl (fun K hK=>?_) | refine X.skip rfl ?_ | (refine X.ite rfl rfl (fun hc=>?_);(first | (with_reducible refine Xb.caseB hc (fun h=>?_) (fun h=>?_))) <;> clear hc))
  ·have hp : p e = false:=by simpa using h
   refine ⟨_,[(0,.slice (some ⟨b,0,none⟩) l.length c),(1,.func (.func g) #[] cap.toArray),(5,.int .i64 (i + 1 : Nat)),(6,.int .i64 (j + 1 : Nat))],_,(by repeat (first | exact uU _ | refine uV rfl ?_)),?_,⟨i + 1,j + 1,M.drop 1++cI e,rfl,by omega,by omega,?_,?_,rfl,rfl⟩,by omega⟩
   ·rw [filter_snoc_fInt he hp,List.flatMap_append]
    have:=splice_at (xs:=((l.take j).filter (fun e => !p e)).flatMap cI) (ys:=M.take 1) (zs:=M.drop 1++(cI e++(l.drop (j + 1)).flatMap cI)) (vs:=cI e) (j:=0 + (i : Int).toNat * 1) (by rw [hF];show _ = 0 + i * 1;omega) (by rw [List.length_take,hM];show 1 = _;omega)
    rw [show ((l.take j).filter (fun e => !p e)).flatMap cI++M.take 1++(M.drop 1++(cI e++(l.drop (j + 1)).flatMap cI)) = ((l.take j).filter (fun e => !p e)).flatMap cI++M++(cI e++(l.drop (j + 1)).flatMap cI) by
     rw [List.append_assoc, ← List.append_assoc (M.take 1),List.take_append_drop,List.append_assoc]] at this
    rw [this]
    rw [show ((l.take j).filter (fun e => !p e)).flatMap cI++cI e++(M.drop 1++(cI e++(l.drop (j + 1)).flatMap cI)) = ((l.take j).filter (fun e => !p e)).flatMap cI++[e].flatMap cI++(M.drop 1++cI e)++(l.drop (j + 1)).flatMap cI by
     rw [List.flatMap_singleton];simp only [List.append_assoc]]
    exact (by repeat (first | exact qR _ | apply qK | apply qC))
   ·rw [filter_snoc_fInt he hp,List.length_append, ← hi];rfl
   ·rw [List.length_append,List.length_drop,hM];show _ + 1 = _;omega
  ·have hp : p e = true:=by simpa using h
   refine ⟨_,[(0,.slice (some ⟨b,0,none⟩) l.length c),(1,.func (.func g) #[] cap.toArray),(5,.int .i64 i),(6,.int .i64 (j + 1 : Nat))],_,(by repeat (first | exact uU _ | refine uV rfl ?_)),?_,⟨i,j + 1,M++cI e,rfl,by omega,by omega,?_,?_,rfl,rfl⟩,by omega⟩
   ·rw [filter_snoc_tInt he hp,List.append_assoc,List.append_assoc,List.append_assoc]
    exact (by repeat (first | exact qR _ | apply qK | apply qC))
   ·rw [filter_snoc_tInt he hp];exact hi
   ·rw [List.length_append,hM];show _ + 1 = _;omega
 ·obtain rfl : j = l.length:=by omega
  rw [List.take_length] at hi hF ⊢
  rw [List.drop_length,List.flatMap_nil,List.append_nil]
  repeat' (first | (refine uP rfl ?_;(first | ((first | refine uN rfl ?_);(first | (refine uE (EvF.sliceFromL (lo:=i) rfl rfl (te rfl) (te rfl) rfl (by omega) (by omega) (by omega)) rfl rfl ?_)|(refine Xg.st0 (StF.clear (q:=0) rfl el55 rfl rfl (by rw [List.length_append,hF,hM];show 0 + i * 1 + _ ≤ _;omega) honeInt) rfl ?_;rintro _ _ ⟨zs,hzs,rfl⟩;dsimp only [List.set])|(refine uE (uM rfl rfl) rfl rfl ?_)))))|(refine uD rfl ?_;refine hK _ _ ?_;clear hK K) | refine uS rfl ?_ | refine uR rfl (fun K hK=>?_))
  have e2 : splice ((l.filter (fun e => !p e)).flatMap cI++M) (0 + i * 1) zs = (l.filter (fun e => !p e)).flatMap cI++zs:=by
   have:=splice_at (xs:=(l.filter (fun e => !p e)).flatMap cI) (ys:=M) (zs:=[]) (vs:=zs) (j:=0 + i * 1) (by rw [hF];omega) (by rw [hzs,hM])
   rwa [List.append_nil,List.append_nil] at this
  rw [e2]
  refine XO.forget (q:=0) rfl ?_
  dsimp only [List.set]
  repeat' (first | (refine uP rfl ?_;(first | ((first | refine uN rfl ?_);(first | (refine uE (EvF.sliceTo (hh:=i) rfl rfl (te rfl) (te rfl) rfl (by omega)) rfl rfl ?_)|(refine uE (uA rfl rfl) rfl rfl ?_)))))|(refine uD rfl ?_;refine hK _ _ ?_;clear hK K) | refine X.ret rfl ?_)
  refine ret_one (by simp) Try.results78 rfl (H' := ⟨b,0,(l.filter (fun e => !p e)).flatMap cI,some 3,c * 1⟩::H) (qR _) ⟨?_,rfl⟩
  rw [hi]
end Go.Proofs.Ytmfppdpkalelhaa
