/- Own work: Rooms: places, bounds, truths.; contracts of functions, from rows of what is known of the memory; contracts of functions, from rows of what is known of the memory; contracts of functions, from rows of what is known of the memory; Own work: iterators that are deterministic. No condition.; contracts of functions, from rows of what is known of the memory; contracts of functions, from rows of what is known of the memory; contracts of functions, from rows of what is known of the memory; contracts of functions, from rows of what is known of the memory -/
import Derived.Test.YtmfppdpkalelhaaGreatW03
section
set_option linter.unusedVariables false
set_option linter.unusedSimpArgs false
namespace Go.Proofs.YtmfppdpkalelhaaGreat
open Go Go.Fw
set_option maxRecDepth 10000
structure Pk where
 box : Int
 month : Int
theorem Pk.ext' {p q : Pk} (h1 : p.box = q.box) (h2 : p.month = q.month) : p = q:=by cases p;cases q;simp_all
noncomputable instance : DecidableEq Pk:=fun _ _=>Classical.propDecidable _
def nAge (R : Rm) (b : Bx) : Nat:=(R.months - b.made).toNat
def agesOf (R : Rm) (b : Bx) : List Pk:=(List.range (nAge R b)).map (fun (a : Nat)=>⟨b.id,b.made + a⟩)
def plcs (R : Rm) : List Pk:=⟨0,0⟩::R.boxes.flatMap (agesOf R)
noncomputable def pidx (R : Rm) (p : Pk) : Nat:=(plcs R).findIdx (fun q=>decide (q = p))
structure Bd where
 a : Nat
 b : Nat
 s : Sp
def zp : Pk:=⟨0,0⟩
noncomputable def bdA (R : Rm) : List Bd:=R.boxes.flatMap (fun x=>(List.range (nAge R x)).map (fun (k : Nat)=>⟨pidx R ⟨x.id,x.made⟩ + k,0,R.ages.getD k ⟨0,0⟩⟩))
noncomputable def bdS1 (R : Rm) (i : Nat) : List Bd:=if (plcs R).getD i zp = ⟨((plcs R).getD (i + 1) zp).box,((plcs R).getD (i + 1) zp).month - 1⟩ then [⟨i + 1,i,⟨0,R.step⟩⟩] else []
noncomputable def bdS (R : Rm) : List Bd:=(List.range ((plcs R).length - 1)).flatMap (bdS1 R)
noncomputable def bdM (R : Rm) (M : List Mt) : List Bd:=M.map (fun x=>⟨pidx R ⟨x.a,x.month⟩,pidx R ⟨x.b,x.month⟩,⟨x.lo,x.hi⟩⟩)
noncomputable def bds (R : Rm) (M : List Mt) : List Bd:=bdA R++bdS R++bdM R M
def edges (B : List Bd) : List Ed:=B.flatMap (fun x=>[⟨x.a,x.b,x.s.hi⟩,⟨x.b,x.a, -x.s.lo⟩])
def there (R : Rm) (b : Bx) (m : Int) : Prop:=b ∈ R.boxes∧b.made ≤ m∧m ≤ R.months - 1
/-- a truth: by how much each box has yellowed in each month -/
structure Tru (R : Rm) (M : List Mt) (z : Pk → Int) : Prop where
 zero : z zp = 0
 age : ∀ b m,there R b m → (R.ages.getD (m - b.made).toNat ⟨0,0⟩).lo ≤ z ⟨b.id,m⟩∧z ⟨b.id,m⟩ ≤ (R.ages.getD (m - b.made).toNat ⟨0,0⟩).hi
 step : ∀ b m,there R b m → there R b (m + 1) → 0 ≤ z ⟨b.id,m + 1⟩ - z ⟨b.id,m⟩∧z ⟨b.id,m + 1⟩ - z ⟨b.id,m⟩ ≤ R.step
 mat : ∀ x ∈ M,x.lo ≤ z ⟨x.a,x.month⟩ - z ⟨x.b,x.month⟩∧z ⟨x.a,x.month⟩ - z ⟨x.b,x.month⟩ ≤ x.hi
theorem okBoxes_mem (m : Int) : ∀ (l : List Bx) (p : Int),okBoxes m p l → ∀ b ∈ l,p < b.id∧b.id ≤ 9999∧0 ≤ b.made∧b.made ≤ m - 1
 | [],_,_,_,h=>absurd h List.not_mem_nil
 | c::l,p,h,b,hb=>by
  rcases List.mem_cons.1 hb with rfl | hb
  ·exact ⟨by have:=h.1;omega,h.2.1,h.2.2.1,h.2.2.2.1⟩
  ·obtain ⟨h1,h2⟩:=okBoxes_mem m l c.id h.2.2.2.2 b hb
   exact ⟨by have:=h.1;omega,h2⟩
theorem okBoxes_pw (m : Int) : ∀ (l : List Bx) (p : Int),okBoxes m p l → l.Pairwise (fun a b=>a.id < b.id)
 | [],_,_=>List.Pairwise.nil
 | c::l,p,h=>List.Pairwise.cons (fun b hb=>(okBoxes_mem m l c.id h.2.2.2.2 b hb).1) (okBoxes_pw m l c.id h.2.2.2.2)
theorem mem_agesOf {R : Rm} {b : Bx} {q : Pk} (h : q ∈ agesOf R b) : q.box = b.id∧b.made ≤ q.month∧q.month ≤ R.months - 1:=by
 unfold agesOf nAge at h
 obtain ⟨a,ha,rfl⟩:=List.mem_map.1 h
 have:=List.mem_range.1 ha
 exact ⟨rfl,by show _ ≤ b.made + (a : Int);omega,by show b.made + (a : Int)≤_;omega⟩
theorem agesOf_mem {R : Rm} {b : Bx} {m : Int} (h1 : b.made ≤ m) (h2 : m ≤ R.months - 1) : (⟨b.id,m⟩ : Pk) ∈ agesOf R b:=by
 unfold agesOf nAge
 refine List.mem_map.2 ⟨(m - b.made).toNat,List.mem_range.2 (by omega),?_⟩
 exact Pk.ext' rfl (by show b.made + (((m - b.made).toNat : Nat) : Int)=m;omega)
theorem plcs_mem {R : Rm} {b : Bx} {m : Int} (h : there R b m) : (⟨b.id,m⟩ : Pk) ∈ plcs R:=List.mem_cons_of_mem _ (List.mem_flatMap.2 ⟨b,h.1,agesOf_mem h.2.1 h.2.2⟩)
theorem mem_plcs {R : Rm} {q : Pk} (h : q ∈ plcs R) : q = zp ∨ ∃ b,there R b q.month∧q.box = b.id:=by
 rcases List.mem_cons.1 h with rfl | h
 ·exact .inl rfl
 ·obtain ⟨b,hb,hq⟩:=List.mem_flatMap.1 h
  obtain ⟨h1,h2,h3⟩:=mem_agesOf hq
  exact .inr ⟨b,⟨hb,h2,h3⟩,h1⟩
theorem pw_inj : ∀ (l : List Bx),l.Pairwise (fun a b=>a.id < b.id) → ∀ x ∈ l,∀ y ∈ l,x.id = y.id → x = y
 | [],_,_,h,_,_,_=>absurd h List.not_mem_nil
 | c::l,h,x,hx,y,hy,e=>by
  have h1:=List.pairwise_cons.1 h
  rcases List.mem_cons.1 hx with rfl | hx'
  ·rcases List.mem_cons.1 hy with rfl | hy'
   ·rfl
   ·have:=h1.1 y hy';omega
  ·rcases List.mem_cons.1 hy with rfl | hy'
   ·have:=h1.1 x hx';omega
   ·exact pw_inj l h1.2 x hx' y hy' e
theorem rises_inj_bx {R : Rm} (h : okBoxes R.months 0 R.boxes) : ∀ x ∈ R.boxes,∀ y ∈ R.boxes,x.id = y.id → x = y:=pw_inj _ (okBoxes_pw _ _ _ h)
theorem plcs_nodup {R : Rm} (h : okBoxes R.months 0 R.boxes) : (plcs R).Nodup:=by
 refine List.nodup_cons.2 ⟨fun hm=>?_,?_⟩
 ·obtain ⟨b,hb,hq⟩:=List.mem_flatMap.1 hm
  have h1:=(mem_agesOf hq).1
  have h2:=(okBoxes_mem _ _ _ h b hb).1
  dsimp only at h1
  omega
 ·refine List.pairwise_flatMap.2 ⟨fun b _=>?_,?_⟩
  ·unfold agesOf
   refine List.pairwise_map.2 (List.Pairwise.imp ?_ List.nodup_range)
   intro a c hac he
   injection he with _ he2
   exact hac (by omega)
  ·refine List.Pairwise.imp ?_ (okBoxes_pw _ _ _ h)
   intro a b hab x hx y hy e
   subst e
   have h1:=(mem_agesOf hx).1
   have h2:=(mem_agesOf hy).1
   omega
theorem nodup_get {α : Type} : ∀ {l : List α} {i j : Nat} {x : α},l.Nodup → l[i]? = some x → l[j]? = some x → i = j:=by
 intro l i j x hn hi hj
 obtain ⟨h1,e1⟩:=List.getElem?_eq_some_iff.1 hi
 obtain ⟨h2,e2⟩:=List.getElem?_eq_some_iff.1 hj
 exact (List.getElem_inj hn).1 (e1.trans e2.symm)
theorem pidx_get {R : Rm} {p : Pk} (h : p ∈ plcs R) : (plcs R)[pidx R p]? = some p:=by
 have hl : pidx R p < (plcs R).length:=List.findIdx_lt_length_of_exists ⟨p,h,by simp⟩
 have:=List.findIdx_getElem (w:=hl)
 rw [List.getElem?_eq_getElem hl]
 exact congrArg some (of_decide_eq_true this)
theorem pidx_lt {R : Rm} {p : Pk} (h : p ∈ plcs R) : pidx R p < (plcs R).length:=List.findIdx_lt_length_of_exists ⟨p,h,by simp⟩
theorem pidx_eq {R : Rm} {p : Pk} {i : Nat} (hb : okBoxes R.months 0 R.boxes) (h : (plcs R)[i]? = some p) : pidx R p = i:=nodup_get (plcs_nodup hb) (pidx_get (List.mem_of_getElem? h)) h
theorem flat_at {α β : Type} (f : α → List β) : ∀ (l : List α) (b : α),b ∈ l → ∃ off,∀ (k : Nat) (y : β),(f b)[k]? = some y → (l.flatMap f)[off + k]? = some y
 | [],b,h=>absurd h List.not_mem_nil
 | c::l,b,h=>by
  rcases List.mem_cons.1 h with rfl | h
  ·refine ⟨0,fun k y hk=>?_⟩
   rw [List.flatMap_cons,Nat.zero_add,List.getElem?_append_left (List.getElem?_eq_some_iff.1 hk).1];exact hk
  ·obtain ⟨off,ho⟩:=flat_at f l b h
   refine ⟨(f c).length + off,fun k y hk=>?_⟩
   rw [List.flatMap_cons,Nat.add_assoc,List.getElem?_append_right (by omega),Nat.add_sub_cancel_left]
   exact ho k y hk
/-- the places of a box lie one behind the other -/
theorem plcs_off {R : Rm} {b : Bx} (hb : b ∈ R.boxes) : ∃ off,∀ k : Nat,k < nAge R b → (plcs R)[off + k]? = some ⟨b.id,b.made + k⟩:=by
 obtain ⟨off,ho⟩:=flat_at (agesOf R) R.boxes b hb
 refine ⟨off + 1,fun k hk=>?_⟩
 rw [show off + 1 + k = (off + k) + 1 by omega]
 unfold plcs
 rw [List.getElem?_cons_succ]
 refine ho k _ ?_
 unfold agesOf
 rw [List.getElem?_map,List.getElem?_range hk]
 rfl
theorem pidx_off {R : Rm} {b : Bx} (ho : okBoxes R.months 0 R.boxes) (hb : b ∈ R.boxes) {k : Nat} (hk : k < nAge R b) : pidx R ⟨b.id,b.made + k⟩ = pidx R ⟨b.id,b.made⟩ + k:=by
 obtain ⟨off,hoff⟩:=plcs_off hb
 have h0:=hoff 0 (by omega)
 have h1:=pidx_eq ho (hoff k hk)
 have h2 : pidx R ⟨b.id,b.made⟩ = off:=by
  have:=pidx_eq ho h0
  rw [show b.made + ((0 : Nat) : Int)=b.made by omega] at this
  omega
 omega
theorem pidx_get_off {R : Rm} {b : Bx} (ho : okBoxes R.months 0 R.boxes) (hb : b ∈ R.boxes) {k : Nat} (hk : k < nAge R b) : (plcs R)[pidx R ⟨b.id,b.made⟩ + k]? = some ⟨b.id,b.made + k⟩:=by
 have hm : there R b (b.made + k):=⟨hb,by omega,by unfold nAge at hk;omega⟩
 rw [← pidx_off ho hb hk]
 exact pidx_get (plcs_mem hm)
theorem pidx_zero (R : Rm) : pidx R zp = 0:=by
 unfold pidx plcs
 rw [List.findIdx_cons]
 have : decide ((⟨0,0⟩ : Pk)=zp)=true:=decide_eq_true rfl
 rw [this]
 rfl
/-- the matches that a chart holds: of boxes that are there -/
def matsThere (R : Rm) (M : List Mt) : Prop := ∀ x ∈ M,(∃ b,there R b x.month∧b.id = x.a)∧(∃ b,there R b x.month∧b.id = x.b) ∧ -60 ≤ x.lo∧x.lo ≤ x.hi∧x.hi ≤ 60
theorem matsThere.a {R : Rm} {M : List Mt} (h : matsThere R M) {x : Mt} (hx : x ∈ M) : (⟨x.a,x.month⟩ : Pk) ∈ plcs R:=by
 obtain ⟨b,hb,e⟩:=(h x hx).1
 rw [← e];exact plcs_mem hb
theorem matsThere.b {R : Rm} {M : List Mt} (h : matsThere R M) {x : Mt} (hx : x ∈ M) : (⟨x.b,x.month⟩ : Pk) ∈ plcs R:=by
 obtain ⟨b,hb,e⟩:=(h x hx).2.1
 rw [← e];exact plcs_mem hb
theorem there_nAge {R : Rm} {b : Bx} {m : Int} (h : there R b m) : (m - b.made).toNat < nAge R b:=by
 have:=h.2.1
 have:=h.2.2
 unfold nAge
 omega
def fitB (x : Nat → Int) (B : List Bd) : Prop := ∀ d ∈ B,d.s.lo ≤ x d.a - x d.b∧x d.a - x d.b ≤ d.s.hi
theorem fitB_edges {x : Nat → Int} {B : List Bd} : fitE x (edges B) ↔ fitB x B:=by
 unfold fitE fitB edges
 constructor
 ·intro h d hd
  have h1:=h ⟨d.a,d.b,d.s.hi⟩ (List.mem_flatMap.2 ⟨d,hd,List.mem_cons_self⟩)
  have h2:=h ⟨d.b,d.a, -d.s.lo⟩ (List.mem_flatMap.2 ⟨d,hd,List.mem_cons_of_mem _ List.mem_cons_self⟩)
  dsimp only at h1 h2
  omega
 ·intro h e he
  obtain ⟨d,hd,he⟩:=List.mem_flatMap.1 he
  have:=h d hd
  simp only [List.mem_cons,List.not_mem_nil,or_false] at he
  rcases he with rfl | rfl <;> dsimp only <;> omega
/-- what a truth tells of places, in their order -/
theorem Tru.fit {R : Rm} {M : List Mt} {z : Pk → Int} (ho : okBoxes R.months 0 R.boxes) (hm : matsThere R M) (h : Tru R M z) : fitB (fun k=>z ((plcs R).getD k zp)) (bds R M):=by
 intro d hd
 unfold bds at hd
 rcases List.mem_append.1 hd with hd | hd
 ·rcases List.mem_append.1 hd with hd | hd
  ·obtain ⟨b,hb,hd⟩:=List.mem_flatMap.1 hd
   obtain ⟨k,hk,rfl⟩:=List.mem_map.1 hd
   have hk:=List.mem_range.1 hk
   have hg:=pidx_get_off ho hb hk
   have ht : there R b (b.made + k):=⟨hb,by omega,by unfold nAge at hk;omega⟩
   have:=h.age b _ ht
   rw [show (b.made + (k : Int) - b.made).toNat = k by omega] at this
   simp only [List.getD_eq_getElem?_getD (l:=plcs R),hg,Option.getD_some]
   have h0 : (plcs R)[0]?.getD zp = zp:=rfl
   rw [h0,h.zero]
   omega
  ·obtain ⟨i,hi,hd⟩:=List.mem_flatMap.1 hd
   unfold bdS1 at hd
   split at hd
   ·rename_i he
    simp only [List.mem_cons,List.not_mem_nil,or_false] at hd
    subst hd
    have hi:=List.mem_range.1 hi
    have g0 : (plcs R)[i]? = some ((plcs R).getD i zp):=by simp [List.getD_eq_getElem?_getD,List.getElem?_eq_getElem (show i < (plcs R).length by omega)]
    have g1 : (plcs R)[i + 1]? = some ((plcs R).getD (i + 1) zp):=by simp [List.getD_eq_getElem?_getD,List.getElem?_eq_getElem (show i + 1 < (plcs R).length by omega)]
    obtain ⟨p,hp⟩ : ∃ p,p = (plcs R).getD (i + 1) zp:=⟨_,rfl⟩
    dsimp only
    rw [← hp] at he g1 ⊢
    rw [he] at g0 ⊢
    rcases mem_plcs (List.mem_of_getElem? g1) with rfl | ⟨b,hb,hpb⟩
    ·exact absurd (nodup_get (plcs_nodup ho) g1 (show (plcs R)[0]? = some zp from rfl)) (by omega)
    ·rcases mem_plcs (List.mem_of_getElem? g0) with e0 | ⟨c,hc,hpc⟩
     ·have e1 : p.box = 0:=congrArg Pk.box e0
      have:=(okBoxes_mem _ _ _ ho b hb.1).1
      omega
     ·dsimp only at hc hpc
      obtain ⟨pb,pm⟩:=p
      dsimp only at hb hpb hc hpc he ⊢
      subst hpb
      have hbc : b = c:=by
       have:=okBoxes_pw _ _ _ ho
       exact rises_inj_bx ho b hb.1 c hc.1 hpc
      subst hbc
      have:=h.step b (pm - 1) hc (by rw [show pm - 1 + 1 = pm by omega];exact hb)
      rw [show pm - 1 + 1 = pm by omega] at this
      omega
   ·exact absurd hd List.not_mem_nil
 ·obtain ⟨x,hx,rfl⟩:=List.mem_map.1 hd
  have g1:=pidx_get (hm.a hx)
  have g2:=pidx_get (hm.b hx)
  have:=h.mat x hx
  simp only [List.getD_eq_getElem?_getD,g1,g2,Option.getD_some]
  omega
/-- numbers of the places that fit make a truth -/
theorem fit_tru {R : Rm} {M : List Mt} {x : Nat → Int} (ho : okBoxes R.months 0 R.boxes) (h : fitB x (bds R M)) : Tru R M (fun p=>x (pidx R p) - x 0) where
 zero:=by rw [pidx_zero];omega
 age:=by
  intro b m ht
  have hk:=there_nAge ht
  have:=h ⟨pidx R ⟨b.id,b.made⟩ + (m - b.made).toNat,0,R.ages.getD (m - b.made).toNat ⟨0,0⟩⟩ (List.mem_append_left _ (List.mem_append_left _ (List.mem_flatMap.2 ⟨b,ht.1,List.mem_map.2 ⟨_,List.mem_range.2 hk,rfl⟩⟩)))
  have e:=pidx_off ho ht.1 hk
  have h1:=ht.2.1
  rw [show b.made + (((m - b.made).toNat : Nat) : Int)=m by omega] at e
  rw [e]
  exact this
 step:=by
  intro b m h1 h2
  have k1:=there_nAge h1
  have k2:=there_nAge h2
  have q1:=h1.2.1
  have e1:=pidx_off ho h1.1 k1
  have e2:=pidx_off ho h2.1 k2
  have g1:=pidx_get (plcs_mem h1)
  have g2:=pidx_get (plcs_mem h2)
  have l2:=pidx_lt (plcs_mem h2)
  rw [show b.made + (((m - b.made).toNat : Nat) : Int)=m by omega] at e1
  rw [show b.made + (((m + 1 - b.made).toNat : Nat) : Int)=m + 1 by omega] at e2
  have e3 : pidx R ⟨b.id,m + 1⟩ = pidx R ⟨b.id,m⟩ + 1:=by omega
  rw [e3] at g2 l2
  have:=h ⟨pidx R ⟨b.id,m⟩ + 1,pidx R ⟨b.id,m⟩,⟨0,R.step⟩⟩ (List.mem_append_left _ (List.mem_append_right _ (List.mem_flatMap.2 ⟨pidx R ⟨b.id,m⟩,List.mem_range.2 (by omega),by
   unfold bdS1
   rw [if_pos (by simp only [List.getD_eq_getElem?_getD,g1,g2,Option.getD_some];exact Pk.ext' rfl (by show m = m + 1 - 1;omega))]
   exact List.mem_cons_self⟩)))
  dsimp only at this ⊢
  rw [e3]
  omega
 mat:=by
  intro y hy
  have:=h ⟨pidx R ⟨y.a,y.month⟩,pidx R ⟨y.b,y.month⟩,⟨y.lo,y.hi⟩⟩ (List.mem_append_right _ (List.mem_map.2 ⟨y,hy,rfl⟩))
  dsimp only at this ⊢
  omega
end Go.Proofs.YtmfppdpkalelhaaGreat
end
section
set_option linter.unusedVariables false
set_option linter.unusedSimpArgs false
namespace Go.Proofs.YtmfppdpkalelhaaGreat
open Go Go.Fw
set_option maxRecDepth 10000
open Classical in
noncomputable def mostL (es : List Ed) : Nat → List Int → Option (List Int)
 | 0,_=>none
 | j + 1,l=>if fitE (gt0 (rnd es l)) es then some (rnd es l) else mostL es j (rnd es l)
theorem mostL_none {es : List Ed} : ∀ (n : Nat) (l : List Int),mostL es n l = none → ∀ j,1 ≤ j → j ≤ n → ¬ fitE (gt0 (itR es j l)) es
 | 0,_,_,j,h1,h2=>absurd h1 (by omega)
 | n + 1,l,h,j,h1,h2=>by
  unfold mostL at h
  split at h
  ·cases h
  ·rename_i hf
   by_cases e : j = 1
   ·subst e;exact hf
   ·have:=mostL_none n (rnd es l) h (j - 1) (by omega) (by omega)
    rwa [show itR es (j - 1) (rnd es l)=itR es j l by rw [show j = (j - 1) + 1 by omega];rfl] at this
theorem mostL_some {es : List Ed} : ∀ (n : Nat) (l t : List Int),inE l.length es → mostL es n l = some t → t.length = l.length∧fitE (gt0 t) es∧(∀ i,gt0 t i ≤ gt0 l i) ∧ ∀ y,fitE y es → geL y l → geL y t
 | 0,_,_,_,h=>by unfold mostL at h;cases h
 | n + 1,l,t,hi,h=>by
  unfold mostL at h
  have hl:=rnd_len es l
  split at h
  ·rename_i hf
   cases h
   exact ⟨hl,hf,rnd_le es l hi,fun y hy hg=>rnd_ge es l hy hi hg⟩
  ·obtain ⟨h1,h2,h3,h4⟩:=mostL_some n (rnd es l) t (by rw [hl];exact hi) h
   exact ⟨by omega,h2,fun i=>Int.le_trans (h3 i) (rnd_le es l hi i),fun y hy hg=>h4 y hy (rnd_ge es l hy hi hg)⟩
def start (n k : Nat) : List Int:=(List.replicate n (1048576 : Int)).set k 0
theorem start_len (n k : Nat) : (start n k).length = n:=by unfold start;simp
theorem start_at {n k i : Nat} (hk : k < n) (hi : i < n) : gt0 (start n k) i = if i = k then 0 else 1048576:=by
 unfold gt0 start
 simp only [List.getD_eq_getElem?_getD]
 by_cases e : i = k
 ·subst e;rw [if_pos rfl,List.getElem?_set_self (by simpa using hk)];rfl
 ·rw [if_neg e,List.getElem?_set_ne (fun q=>e q.symm),List.getElem?_replicate,if_pos hi];rfl
noncomputable def mostR (R : Rm) (M : List Mt) (k : Nat) : Option (List Int):=mostL (edges (bds R M)) (plcs R).length (start (plcs R).length k)
theorem bds_in {R : Rm} {M : List Mt} (ho : okBoxes R.months 0 R.boxes) (hm : matsThere R M) : ∀ d ∈ bds R M,d.a < (plcs R).length∧d.b < (plcs R).length:=by
 intro d hd
 unfold bds at hd
 rcases List.mem_append.1 hd with hd | hd
 ·rcases List.mem_append.1 hd with hd | hd
  ·obtain ⟨b,hb,hd⟩:=List.mem_flatMap.1 hd
   obtain ⟨k,hk,rfl⟩:=List.mem_map.1 hd
   exact ⟨(List.getElem?_eq_some_iff.1 (pidx_get_off ho hb (List.mem_range.1 hk))).1,Nat.succ_pos _⟩
  ·obtain ⟨i,hi,hd⟩:=List.mem_flatMap.1 hd
   have:=List.mem_range.1 hi
   unfold bdS1 at hd
   split at hd
   ·simp only [List.mem_cons,List.not_mem_nil,or_false] at hd
    subst hd
    dsimp only;omega
   ·exact absurd hd List.not_mem_nil
 ·obtain ⟨x,hx,rfl⟩:=List.mem_map.1 hd
  exact ⟨pidx_lt (hm.a hx),pidx_lt (hm.b hx)⟩
theorem edges_in {R : Rm} {M : List Mt} (ho : okBoxes R.months 0 R.boxes) (hm : matsThere R M) : inE (plcs R).length (edges (bds R M)):=by
 intro e he
 obtain ⟨d,hd,he⟩:=List.mem_flatMap.1 he
 have:=bds_in ho hm d hd
 simp only [List.mem_cons,List.not_mem_nil,or_false] at he
 rcases he with rfl | rfl
 ·exact this
 ·exact ⟨this.2,this.1⟩
/-- a room whose boxes and ages are as they must be -/
structure okRm (R : Rm) : Prop where
 bx : okBoxes R.months 0 R.boxes
 ages : okAges R.ages
 len : (R.ages.length : Int)=R.months
 m1 : 1 ≤ R.months
 m12 : R.months ≤ 12
 s0 : 0 ≤ R.step
 s60 : R.step ≤ 60
 b4 : R.boxes.length ≤ 4
theorem roomOk.ok {R : Rm} (h : roomOk R) : okRm R:=⟨h.2.2.1,h.2.1,h.1.2.2.2.2.1,h.1.1,h.1.2.1,h.1.2.2.1,h.1.2.2.2.1,h.1.2.2.2.2.2.1⟩
theorem okRm.age {R : Rm} (h : okRm R) {b : Bx} {m : Int} (ht : there R b m) : 0 ≤ (R.ages.getD (m - b.made).toNat ⟨0,0⟩).lo∧(R.ages.getD (m - b.made).toNat ⟨0,0⟩).lo ≤ (R.ages.getD (m - b.made).toNat ⟨0,0⟩).hi∧(R.ages.getD (m - b.made).toNat ⟨0,0⟩).hi ≤ 60:=by
 have h1:=(okBoxes_mem _ _ _ h.bx b ht.1)
 have h2:=h.len
 have h3:=ht.2.2
 have hl : (m - b.made).toNat < R.ages.length:=by omega
 have:=h.ages (R.ages.getD (m - b.made).toNat ⟨0,0⟩) (by simp [List.getD_eq_getElem?_getD,List.getElem?_eq_getElem hl])
 exact this
theorem Tru.in60 {R : Rm} {M : List Mt} {z : Pk → Int} (hr : okRm R) (h : Tru R M z) {p : Pk} (hp : p ∈ plcs R) : 0 ≤ z p∧z p ≤ 60:=by
 rcases mem_plcs hp with rfl | ⟨b,hb,e⟩
 ·rw [h.zero];omega
 ·obtain ⟨pb,pm⟩:=p
  dsimp only at hb e
  subst e
  have:=h.age b pm hb
  have:=hr.age hb
  omega
theorem at_mem {R : Rm} {k : Nat} (h : k < (plcs R).length) : (plcs R).getD k zp ∈ plcs R:=by
 simp [List.getD_eq_getElem?_getD,List.getElem?_eq_getElem h]
theorem fitB_shift {x : Nat → Int} {B : List Bd} {c : Int} (h : fitB x B) : fitB (fun k=>x k - c) B:=fun d hd=>by
 have:=h d hd
 dsimp only
 omega
theorem most_none {R : Rm} {M : List Mt} {k : Nat} (hr : okRm R) (hm : matsThere R M) (hk : k < (plcs R).length) (h : mostR R M k = none) : ¬ ∃ z,Tru R M z:=by
 rintro ⟨z,hz⟩
 have hl : (start (plcs R).length k).length = (plcs R).length:=start_len _ _
 have hf:=fitB_edges.2 (fitB_shift (c:=z ((plcs R).getD k zp)) (hz.fit hr.bx hm))
 have hd:=rounds_done hf (l:=start (plcs R).length k) (by rw [hl];exact edges_in hr.bx hm) (fun i hi=>by
  rw [hl] at hi
  rw [start_at hk hi]
  have h1:=hz.in60 hr (at_mem hi)
  have h2:=hz.in60 hr (at_mem hk)
  split
  ·rename_i e;subst e;omega
  ·omega)
 rw [hl] at hd
 exact mostL_none _ _ h (plcs R).length (by omega) (Nat.le_refl _) hd
structure MostP (R : Rm) (M : List Mt) (k : Nat) (t : List Int) : Prop where
 len : t.length = (plcs R).length
 fit : fitB (gt0 t) (bds R M)
 at0 : gt0 t k = 0
 top : ∀ z,Tru R M z → ∀ i,i < (plcs R).length → z ((plcs R).getD i zp) - z ((plcs R).getD k zp)≤gt0 t i
theorem most_some {R : Rm} {M : List Mt} {k : Nat} {t : List Int} (hr : okRm R) (hm : matsThere R M) (hk : k < (plcs R).length) (h : mostR R M k = some t) : MostP R M k t:=by
 have hl : (start (plcs R).length k).length = (plcs R).length:=start_len _ _
 obtain ⟨h1,h2,h3,h4⟩:=mostL_some _ _ t (by rw [hl];exact edges_in hr.bx hm) h
 have hfit:=fitB_edges.1 h2
 have hT:=fit_tru hr.bx hfit
 have hge : ∀ z,Tru R M z → ∀ i,i < (plcs R).length → z ((plcs R).getD i zp) - z ((plcs R).getD k zp)≤gt0 t i:=by
  intro z hz i hi
  refine h4 (fun i=>z ((plcs R).getD i zp) - z ((plcs R).getD k zp)) (fitB_edges.2 (fitB_shift (hz.fit hr.bx hm))) (fun i hi=>?_) i (by rw [h1,hl];exact hi)
  rw [hl] at hi
  rw [start_at hk hi]
  have h1:=hz.in60 hr (at_mem hi)
  have h2:=hz.in60 hr (at_mem hk)
  dsimp only
  split
  ·rename_i e;subst e;omega
  ·omega
 refine ⟨by rw [h1,hl],hfit,?_,hge⟩
 have q1:=h3 k
 rw [start_at hk hk,if_pos rfl] at q1
 have q2:=hge _ hT k hk
 omega
/-- the numbers between which what a has less what b has lies in all truths -/
structure ExR (R : Rm) (M : List Mt) (a b : Pk) (s : Sp) : Prop where
 all : ∀ z,Tru R M z → s.lo ≤ z a - z b∧z a - z b ≤ s.hi
 lo : ∃ z,Tru R M z∧z a - z b = s.lo
 hi : ∃ z,Tru R M z∧z a - z b = s.hi
theorem ExR.uniq {R : Rm} {M : List Mt} {a b : Pk} {s t : Sp} (h : ExR R M a b s) (g : ExR R M a b t) : s = t:=by
 obtain ⟨z1,q1,e1⟩:=h.lo
 obtain ⟨z2,q2,e2⟩:=h.hi
 obtain ⟨z3,q3,e3⟩:=g.lo
 obtain ⟨z4,q4,e4⟩:=g.hi
 have a1:=g.all z1 q1
 have a2:=g.all z2 q2
 have a3:=h.all z3 q3
 have a4:=h.all z4 q4
 obtain ⟨s1,s2⟩:=s
 obtain ⟨t1,t2⟩:=t
 dsimp only at *
 congr 1 <;> omega
open Classical in
noncomputable def rng (R : Rm) (M : List Mt) (a b : Pk) : Sp:=if h : ∃ s,ExR R M a b s then h.choose else ⟨0,0⟩
theorem rng_eq {R : Rm} {M : List Mt} {a b : Pk} {s : Sp} (h : ExR R M a b s) : rng R M a b = s:=by
 unfold rng
 rw [dif_pos ⟨s,h⟩]
 exact (Exists.choose_spec (p:=fun s=>ExR R M a b s) ⟨s,h⟩).uniq h
theorem ExR.rng {R : Rm} {M : List Mt} {a b : Pk} {s : Sp} (h : ExR R M a b s) : ExR R M a b (rng R M a b):=by rw [rng_eq h];exact h
def hasT (R : Rm) (M : List Mt) : Prop := ∃ z,Tru R M z
theorem MostP.tru {R : Rm} {M : List Mt} {k : Nat} {t : List Int} (hr : okRm R) (h : MostP R M k t) : Tru R M (fun p=>gt0 t (pidx R p) - gt0 t 0):=fit_tru hr.bx h.fit
theorem most_rng {R : Rm} {M : List Mt} {a b : Pk} {ta tb : List Int} (hr : okRm R) (ha : a ∈ plcs R) (hb : b ∈ plcs R) (h1 : MostP R M (pidx R b) tb) (h2 : MostP R M (pidx R a) ta) :
  ExR R M a b ⟨-(gt0 ta (pidx R b)),gt0 tb (pidx R a)⟩:=by
 have ga : (plcs R).getD (pidx R a) zp = a:=by simp [List.getD_eq_getElem?_getD,pidx_get ha]
 have gb : (plcs R).getD (pidx R b) zp = b:=by simp [List.getD_eq_getElem?_getD,pidx_get hb]
 refine ⟨fun z hz=>?_,⟨_,h2.tru hr,?_⟩,⟨_,h1.tru hr,?_⟩⟩
 ·have q1:=h1.top z hz _ (pidx_lt ha)
  have q2:=h2.top z hz _ (pidx_lt hb)
  rw [ga,gb] at q1 q2
  dsimp only
  omega
 ·have:=h2.at0
  dsimp only
  omega
 ·have:=h1.at0
  dsimp only
  omega
theorem hasT_rng {R : Rm} {M : List Mt} {a b : Pk} (hr : okRm R) (hm : matsThere R M) (ha : a ∈ plcs R) (hb : b ∈ plcs R) (h : hasT R M) : ExR R M a b (rng R M a b):=by
 cases q1 : mostR R M (pidx R b) with
 | none=>exact absurd h (most_none hr hm (pidx_lt hb) q1)
 | some tb =>
  cases q2 : mostR R M (pidx R a) with
  | none=>exact absurd h (most_none hr hm (pidx_lt ha) q2)
  | some ta=>exact (most_rng hr ha hb (most_some hr hm (pidx_lt hb) q1) (most_some hr hm (pidx_lt ha) q2)).rng
end Go.Proofs.YtmfppdpkalelhaaGreat
end
section
set_option linter.unusedVariables false
set_option linter.unusedSimpArgs false
namespace Go.Proofs.YtmfppdpkalelhaaGreat
open Go Go.Fw
set_option maxRecDepth 10000
noncomputable instance : DecidableEq Sp:=fun _ _=>Classical.propDecidable _
def sat (l : List Sp) (k : Nat) : Sp:=l.getD k ⟨0,0⟩
def cut (s t : Sp) : Sp:=⟨max s.lo t.lo,min s.hi t.hi⟩
def nar (l : List Sp) (k : Nat) (t : Sp) : List Sp:=l.set k (cut (sat l k) t)
def wid (l : List Sp) : Int:=(l.map (fun s=>s.hi - s.lo)).sum
theorem wid_set : ∀ (l : List Sp) (k : Nat) (s : Sp),k < l.length → wid (l.set k s)=wid l - ((sat l k).hi - (sat l k).lo) + (s.hi - s.lo)
 | [],k,_,h=>absurd h (Nat.not_lt_zero _)
 | a::l,0,s,_=>by
  unfold wid sat
  simp only [List.set_cons_zero,List.map_cons,List.sum_cons,List.getD_cons_zero]
  omega
 | a::l,k + 1,s,h=>by
  have:=wid_set l k s (by simpa using h)
  unfold wid sat at *
  simp only [List.set_cons_succ,List.map_cons,List.sum_cons,List.getD_cons_succ]
  omega
theorem wid_nonneg : ∀ (l : List Sp),(∀ s ∈ l,s.lo ≤ s.hi) → 0 ≤ wid l
 | [],_=>Int.le_refl _
 | a::l,h=>by
  have h1:=wid_nonneg l (fun s hs=>h s (List.mem_cons_of_mem _ hs))
  have h2:=h a List.mem_cons_self
  unfold wid at *
  simp only [List.map_cons,List.sum_cons]
  omega
theorem sat_set {l : List Sp} {k j : Nat} {s : Sp} (h : k < l.length) : sat (l.set k s) j = if j = k then s else sat l j:=by
 unfold sat
 simp only [List.getD_eq_getElem?_getD]
 by_cases e : j = k
 ·subst e;rw [if_pos rfl,List.getElem?_set_self h];rfl
 ·rw [if_neg e,List.getElem?_set_ne (fun q=>e q.symm)]
theorem sat_get {l : List Sp} {k : Nat} (h : k < l.length) : l[k]? = some (sat l k):=by
 unfold sat
 simp [List.getD_eq_getElem?_getD,List.getElem?_eq_getElem h]
theorem set_sat {l : List Sp} {k : Nat} (h : k < l.length) : l.set k (sat l k)=l:=by
 apply List.ext_getElem?
 intro i
 by_cases e : i = k
 ·subst e;rw [List.getElem?_set_self h,sat_get h]
 ·rw [List.getElem?_set_ne (fun q=>e q.symm)]
def cel (R : Rm) (p : Pk) : Nat:=(index R.boxes p.box).toNat * 12 + p.month.toNat
def holds (s : Sp) (n : Int) : Prop:=s.lo ≤ n∧n ≤ s.hi
def Inn (R : Rm) (l : List Sp) (z : Pk → Int) : Prop := ∀ b m,there R b m → holds (sat l (cel R ⟨b.id,m⟩)) (z ⟨b.id,m⟩)
theorem index_pw : ∀ (l : List Bx),l.Pairwise (fun a b=>a.id < b.id) → ∀ (i : Nat) (b : Bx),l[i]? = some b → index l b.id = i
 | [],_,i,b,h=>by simp at h
 | c::l,hp,0,b,h=>by simp at h;subst h;simp [index]
 | c::l,hp,i + 1,b,h=>by
  have h1:=List.pairwise_cons.1 hp
  simp at h
  have h2:=h1.1 b (List.mem_of_getElem? h)
  have h3:=index_pw l h1.2 i b h
  unfold index
  rw [if_neg (by omega),if_neg (by omega),h3]
  omega
theorem index_box {R : Rm} (ho : okBoxes R.months 0 R.boxes) {i : Nat} {b : Bx} (h : R.boxes[i]? = some b) : index R.boxes b.id = i:=index_pw _ (okBoxes_pw _ _ _ ho) i b h
theorem cel_box {R : Rm} (ho : okBoxes R.months 0 R.boxes) {i : Nat} {b : Bx} (h : R.boxes[i]? = some b) (m : Int) : cel R ⟨b.id,m⟩ = i * 12 + m.toNat:=by
 unfold cel
 rw [show (⟨b.id,m⟩ : Pk).box = b.id from rfl,index_box ho h]
 rfl
theorem box_at {R : Rm} {b : Bx} (h : b ∈ R.boxes) : ∃ i : Nat,R.boxes[i]? = some b:=by
 obtain ⟨i,hi,e⟩:=List.mem_iff_getElem.1 h
 exact ⟨i,by rw [List.getElem?_eq_getElem hi,e]⟩
theorem there_bd {R : Rm} (hr : okRm R) {b : Bx} {m : Int} (h : there R b m) : 0 ≤ m∧m ≤ 11:=by
 have h1:=okBoxes_mem _ _ _ hr.bx b h.1
 have h2:=h.2.1
 have h3:=h.2.2
 have h4:=hr.m12
 omega
theorem cel_lt {R : Rm} (hr : okRm R) {b : Bx} {m : Int} (h : there R b m) : cel R ⟨b.id,m⟩ < 48:=by
 obtain ⟨i,hi⟩:=box_at h.1
 have h1:=there_bd hr h
 have h2:=(List.getElem?_eq_some_iff.1 hi).1
 have h3:=hr.b4
 rw [cel_box hr.bx hi]
 omega
theorem cel_inj {R : Rm} (hr : okRm R) {b c : Bx} {m n : Int} (h : there R b m) (g : there R c n) (e : cel R ⟨b.id,m⟩ = cel R ⟨c.id,n⟩) : b = c∧m = n:=by
 obtain ⟨i,hi⟩:=box_at h.1
 obtain ⟨j,hj⟩:=box_at g.1
 have h1:=there_bd hr h
 have h2:=there_bd hr g
 rw [cel_box hr.bx hi,cel_box hr.bx hj] at e
 have e1 : i = j:=by omega
 subst e1
 rw [hi] at hj
 cases hj
 exact ⟨rfl,by omega⟩
theorem cut_sub (s t : Sp) : s.lo ≤ (cut s t).lo∧(cut s t).hi ≤ s.hi:=by unfold cut;dsimp only;omega
theorem cut_holds {s t : Sp} {n : Int} (h : holds s n) (g : holds t n) : holds (cut s t) n:=by unfold holds cut at *;dsimp only;omega
theorem cut_same {s t : Sp} (h : cut s t = s) : t.lo ≤ s.lo∧s.hi ≤ t.hi:=by
 have h1:=congrArg Sp.lo h
 have h2:=congrArg Sp.hi h
 unfold cut at h1 h2
 dsimp only at h1 h2
 omega
theorem cut_wid {s t : Sp} (h : cut s t ≠ s) : (cut s t).hi - (cut s t).lo < s.hi - s.lo:=by
 obtain ⟨a,b⟩:=s
 unfold cut at *
 dsimp only at *
 by_cases h1 : t.lo ≤ a
 ·by_cases h2 : b ≤ t.hi
  ·refine absurd ?_ h
   congr 1 <;> omega
  ·omega
 ·omega
/-- what is so while a chart is narrowed: l0 is the chart as the round began -/
structure Nv (R : Rm) (M : List Mt) (l0 cur : List Sp) (ag : Bool) (n : Nat) : Prop where
 len0 : l0.length = 48
 len : cur.length = 48
 sub : ∀ k,(sat l0 k).lo ≤ (sat cur k).lo∧(sat cur k).hi ≤ (sat l0 k).hi
 keep : ∀ z,Tru R M z → Inn R l0 z → Inn R cur z
 no : ag = false → cur = l0
 yes : ag = true → wid cur < wid l0
 bd : ∀ k, -(60 * ((n : Int) + 1)) ≤ (sat cur k).lo∧(sat cur k).lo ≤ 60 * ((n : Int) + 1) ∧ -(60 * ((n : Int) + 1)) ≤ (sat cur k).hi∧(sat cur k).hi ≤ 60 * ((n : Int) + 1)
theorem Nv.narrow {R : Rm} {M : List Mt} {l0 cur : List Sp} {ag : Bool} {n : Nat} (h : Nv R M l0 cur ag n) {k : Nat} {t : Sp} (hk : k < 48)
  (ht : -(60 * ((n : Int) + 2)) ≤ t.lo∧t.lo ≤ 60 * ((n : Int) + 2) ∧ -(60 * ((n : Int) + 2)) ≤ t.hi∧t.hi ≤ 60 * ((n : Int) + 2))
  (hz : ∀ z,Tru R M z → Inn R l0 z → Inn R cur z → ∀ b m,there R b m → cel R ⟨b.id,m⟩ = k → holds t (z ⟨b.id,m⟩)) (c : Bool) (hc : c = true ↔ cut (sat cur k) t ≠ sat cur k) :
  Nv R M l0 (nar cur k t) (ag || c) (n + 1):=by
 have hl:=h.len
 have hs : ∀ j,sat (nar cur k t) j = if j = k then cut (sat cur k) t else sat cur j:=fun j=>sat_set (by omega)
 have hw : wid (nar cur k t)=wid cur - ((sat cur k).hi - (sat cur k).lo) + ((cut (sat cur k) t).hi - (cut (sat cur k) t).lo):=wid_set cur k _ (by omega)
 have hcs:=cut_sub (sat cur k) t
 refine ⟨h.len0,by unfold nar;rw [List.length_set];exact hl,fun j=>?_,fun z hT hI b m ht' => ?_,fun hf=>?_,fun hf=>?_,fun j=>?_⟩
 ·rw [hs]
  have:=h.sub j
  split
  ·rename_i e;subst e;omega
  ·exact this
 ·have h1:=h.keep z hT hI
  rw [hs]
  split
  ·rename_i e;rw [← e];exact cut_holds (h1 b m ht') (hz z hT hI h1 b m ht' e)
  ·exact h1 b m ht'
 ·cases ag
  ·cases c
   ·have : cut (sat cur k) t = sat cur k:=Classical.byContradiction fun q=>by have:=hc.2 q;cases this
    unfold nar
    rw [this,set_sat (by omega)]
    exact h.no rfl
   ·cases hf
  ·cases hf
 ·cases ag
  ·cases c
   ·cases hf
   ·have:=cut_wid (hc.1 rfl)
    have:=h.no rfl
    subst this
    omega
  ·have h1:=h.yes rfl
   by_cases q : cut (sat cur k) t = sat cur k
   ·rw [hw,q];omega
   ·have:=cut_wid q
    omega
 ·rw [hs]
  have h1:=h.bd j
  have h2:=h.bd k
  split
  ·unfold cut;dsimp only;omega
  ·omega
theorem Nv.start {R : Rm} {M : List Mt} {l : List Sp} (hl : l.length = 48) (hb : ∀ k,0 ≤ (sat l k).lo∧(sat l k).lo ≤ (sat l k).hi∧(sat l k).hi ≤ 60) : Nv R M l l false 0 :=
 ⟨hl,hl,fun _=>⟨Int.le_refl _,Int.le_refl _⟩,fun _ _ h=>h,fun _=>rfl,(fun h=>by cases h),fun k=>by have:=hb k;omega⟩
/-- a constraint holds of a chart's ends -/
def Fits (l : List Sp) (p q : Nat) (lo hi : Int) : Prop:=lo ≤ (sat l p).lo - (sat l q).lo∧(sat l p).lo - (sat l q).lo ≤ hi∧lo ≤ (sat l p).hi - (sat l q).hi∧(sat l p).hi - (sat l q).hi ≤ hi
theorem fits_of {l : List Sp} {p q : Nat} {lo hi : Int} (h1 : cut (sat l p) ⟨(sat l q).lo + lo,(sat l q).hi + hi⟩ = sat l p) (h2 : cut (sat l q) ⟨(sat l p).lo - hi,(sat l p).hi - lo⟩ = sat l q) : Fits l p q lo hi:=by
 have:=cut_same h1
 have:=cut_same h2
 dsimp only at *
 unfold Fits
 omega
/-- all constraints hold -/
structure Fixed (R : Rm) (M : List Mt) (l : List Sp) : Prop where
 step : ∀ b m,there R b m → there R b (m + 1) → Fits l (cel R ⟨b.id,m + 1⟩) (cel R ⟨b.id,m⟩) 0 R.step
 mat : ∀ x ∈ M,Fits l (cel R ⟨x.a,x.month⟩) (cel R ⟨x.b,x.month⟩) x.lo x.hi
open Classical in
noncomputable def zlo (R : Rm) (l : List Sp) (p : Pk) : Int:=if p = zp then 0 else (sat l (cel R p)).lo
open Classical in
noncomputable def zhi (R : Rm) (l : List Sp) (p : Pk) : Int:=if p = zp then 0 else (sat l (cel R p)).hi
/-- within the ages -/
def inAges (R : Rm) (l : List Sp) : Prop := ∀ b m,there R b m → (R.ages.getD (m - b.made).toNat ⟨0,0⟩).lo ≤ (sat l (cel R ⟨b.id,m⟩)).lo∧(sat l (cel R ⟨b.id,m⟩)).hi ≤ (R.ages.getD (m - b.made).toNat ⟨0,0⟩).hi∧(sat l (cel R ⟨b.id,m⟩)).lo ≤ (sat l (cel R ⟨b.id,m⟩)).hi
theorem ne_zp {R : Rm} (hr : okRm R) {b : Bx} {m : Int} (h : there R b m) : (⟨b.id,m⟩ : Pk) ≠ zp:=fun e=>by
 have:=(okBoxes_mem _ _ _ hr.bx b h.1).1
 have e1 : b.id = 0:=congrArg Pk.box e
 omega
theorem mats_ne {R : Rm} (hr : okRm R) {M : List Mt} (hm : matsThere R M) {x : Mt} (hx : x ∈ M) : (⟨x.a,x.month⟩ : Pk) ≠ zp∧(⟨x.b,x.month⟩ : Pk) ≠ zp:=by
 obtain ⟨⟨b,hb,e⟩,⟨c,hc,f⟩,_⟩:=hm x hx
 rw [← e, ← f]
 exact ⟨ne_zp hr hb,ne_zp hr hc⟩
theorem Fixed.zlo {R : Rm} {M : List Mt} {l : List Sp} (hr : okRm R) (hm : matsThere R M) (h : Fixed R M l) (ha : inAges R l) : Tru R M (zlo R l) where
 zero:=by unfold Proofs.YtmfppdpkalelhaaGreat.zlo;rw [if_pos rfl]
 age:=by
  intro b m ht
  have:=ha b m ht
  unfold Proofs.YtmfppdpkalelhaaGreat.zlo
  rw [if_neg (ne_zp hr ht)]
  omega
 step:=by
  intro b m h1 h2
  have:=h.step b m h1 h2
  unfold Proofs.YtmfppdpkalelhaaGreat.zlo
  unfold Fits at this
  rw [if_neg (ne_zp hr h1),if_neg (ne_zp hr h2)]
  omega
 mat:=by
  intro x hx
  have:=h.mat x hx
  obtain ⟨n1,n2⟩:=mats_ne hr hm hx
  unfold Proofs.YtmfppdpkalelhaaGreat.zlo
  unfold Fits at this
  rw [if_neg n1,if_neg n2]
  omega
theorem Fixed.zhi {R : Rm} {M : List Mt} {l : List Sp} (hr : okRm R) (hm : matsThere R M) (h : Fixed R M l) (ha : inAges R l) : Tru R M (zhi R l) where
 zero:=by unfold Proofs.YtmfppdpkalelhaaGreat.zhi;rw [if_pos rfl]
 age:=by
  intro b m ht
  have:=ha b m ht
  unfold Proofs.YtmfppdpkalelhaaGreat.zhi
  rw [if_neg (ne_zp hr ht)]
  omega
 step:=by
  intro b m h1 h2
  have:=h.step b m h1 h2
  unfold Proofs.YtmfppdpkalelhaaGreat.zhi
  unfold Fits at this
  rw [if_neg (ne_zp hr h1),if_neg (ne_zp hr h2)]
  omega
 mat:=by
  intro x hx
  have:=h.mat x hx
  obtain ⟨n1,n2⟩:=mats_ne hr hm hx
  unfold Proofs.YtmfppdpkalelhaaGreat.zhi
  unfold Fits at this
  rw [if_neg n1,if_neg n2]
  omega
/-- what the closing of a chart yields -/
structure ClosedT (R : Rm) (M : List Mt) (c l : List Sp) : Prop where
 len : l.length = 48
 sub : ∀ k,(sat c k).lo ≤ (sat l k).lo∧(sat l k).hi ≤ (sat c k).hi
 full : ∀ k,(sat l k).lo ≤ (sat l k).hi
 fix : Fixed R M l
 keep : ∀ z,Tru R M z → Inn R c z → Inn R l z
theorem ClosedT.ages {R : Rm} {M : List Mt} {c l : List Sp} (h : ClosedT R M c l) (ha : inAges R c) : inAges R l:=by
 intro b m ht
 have h1:=ha b m ht
 have h2:=h.sub (cel R ⟨b.id,m⟩)
 have h3:=h.full (cel R ⟨b.id,m⟩)
 omega
/-- all that a closed chart tells of places -/
theorem ClosedT.ex {R : Rm} {M : List Mt} {c l : List Sp} (hr : okRm R) (hm : matsThere R M) (h : ClosedT R M c l) (ha : inAges R c) (hc : ∀ z,Tru R M z → Inn R c z) {b : Bx} {m : Int} (ht : there R b m) : ExR R M ⟨b.id,m⟩ zp (sat l (cel R ⟨b.id,m⟩)):=by
 have hi:=h.ages ha
 refine ⟨fun z hz=>?_,⟨_,h.fix.zlo hr hm hi,?_⟩,⟨_,h.fix.zhi hr hm hi,?_⟩⟩
 ·have:=h.keep z hz (hc z hz) b m ht
  rw [hz.zero]
  unfold holds at this
  omega
 ·rw [(h.fix.zlo hr hm hi).zero]
  unfold Proofs.YtmfppdpkalelhaaGreat.zlo
  rw [if_neg (ne_zp hr ht)];omega
 ·rw [(h.fix.zhi hr hm hi).zero]
  unfold Proofs.YtmfppdpkalelhaaGreat.zhi
  rw [if_neg (ne_zp hr ht)];omega
end Go.Proofs.YtmfppdpkalelhaaGreat
end
section
set_option linter.unusedVariables false
set_option linter.unusedSimpArgs false
namespace Go.Proofs.YtmfppdpkalelhaaGreat
open Go Go.Fw
set_option maxRecDepth 10000
structure Acc (R : Rm) (M : List Mt) (a b : Pk) (lo v : Int) (out : Sp) (any : Bool) : Prop where
 no : any = false → ∀ z,Tru R M z → lo ≤ z b → z b < v → False
 all : any = true → ∀ z,Tru R M z → lo ≤ z b → z b < v → out.lo ≤ z a - z b∧z a - z b ≤ out.hi
 atlo : any = true → ∃ z,Tru R M z∧z a - z b = out.lo
 athi : any = true → ∃ z,Tru R M z∧z a - z b = out.hi
theorem Acc.zero (R : Rm) (M : List Mt) (a b : Pk) (lo : Int) (out : Sp) : Acc R M a b lo lo out false :=
 ⟨fun _ z _ h1 h2=>by omega,(fun h=>by cases h),(fun h=>by cases h),(fun h=>by cases h)⟩
theorem Acc.skip {R : Rm} {M : List Mt} {a b : Pk} {lo v : Int} {out : Sp} {any : Bool} (h : Acc R M a b lo v out any) (hn : ∀ z,Tru R M z → z b = v → False) : Acc R M a b lo (v + 1) out any:=by
 refine ⟨fun ha z hz h1 h2=>?_,fun ha z hz h1 h2=>?_,h.atlo,h.athi⟩
 ·by_cases e : z b = v
  ·exact hn z hz e
  ·exact h.no ha z hz h1 (by omega)
 ·by_cases e : z b = v
  ·exact (hn z hz e).elim
  ·exact h.all ha z hz h1 (by omega)
theorem Acc.add {R : Rm} {M : List Mt} {a b : Pk} {lo v : Int} {out s : Sp} {any : Bool} (h : Acc R M a b lo v out any) (hs : ∀ z,Tru R M z → z b = v → s.lo ≤ z a - z b∧z a - z b ≤ s.hi)
  (hl : ∃ z,Tru R M z∧z a - z b = s.lo) (hh : ∃ z,Tru R M z∧z a - z b = s.hi) : Acc R M a b lo (v + 1) (if any then ⟨min s.lo out.lo,max s.hi out.hi⟩ else s) true:=by
 cases any
 ·refine ⟨(fun h=>by cases h),fun _ z hz h1 h2=>?_,fun _=>hl,fun _=>hh⟩
  by_cases e : z b = v
  ·exact hs z hz e
  ·exact (h.no rfl z hz h1 (by omega)).elim
 ·refine ⟨(fun h=>by cases h),fun _ z hz h1 h2=>?_,fun _=>?_,fun _=>?_⟩
  ·show min s.lo out.lo ≤ _∧_ ≤ max s.hi out.hi
   by_cases e : z b = v
   ·have:=hs z hz e;omega
   ·have:=h.all rfl z hz h1 (by omega);omega
  ·show ∃ z,Tru R M z∧z a - z b = min s.lo out.lo
   obtain ⟨z1,t1,e1⟩:=hl
   obtain ⟨z2,t2,e2⟩:=h.atlo rfl
   by_cases q : s.lo ≤ out.lo
   ·exact ⟨z1,t1,by omega⟩
   ·exact ⟨z2,t2,by omega⟩
  ·show ∃ z,Tru R M z∧z a - z b = max s.hi out.hi
   obtain ⟨z1,t1,e1⟩:=hh
   obtain ⟨z2,t2,e2⟩:=h.athi rfl
   by_cases q : out.hi ≤ s.hi
   ·exact ⟨z1,t1,by omega⟩
   ·exact ⟨z2,t2,by omega⟩
theorem Acc.ex {R : Rm} {M : List Mt} {a b : Pk} {lo v : Int} {out : Sp} {any : Bool} (h : Acc R M a b lo v out any) (hT : hasT R M) (hb : ∀ z,Tru R M z → lo ≤ z b∧z b < v) : ExR R M a b out:=by
 obtain ⟨z0,h0⟩:=hT
 have ha : any = true:=by
  cases any
  ·exact (h.no rfl z0 h0 (hb z0 h0).1 (hb z0 h0).2).elim
  ·rfl
 exact ⟨fun z hz=>h.all ha z hz (hb z hz).1 (hb z hz).2,h.atlo ha,h.athi ha⟩
/-- the chart by ages -/
structure FirstC (R : Rm) (l : List Sp) : Prop where
 len : l.length = 48
 at_ : ∀ b m,there R b m → sat l (cel R ⟨b.id,m⟩) = R.ages.getD (m - b.made).toNat ⟨0,0⟩
 ok : ∀ k,0 ≤ (sat l k).lo∧(sat l k).lo ≤ (sat l k).hi∧(sat l k).hi ≤ 60
theorem FirstC.ages {R : Rm} {l : List Sp} (hr : okRm R) (h : FirstC R l) : inAges R l:=by
 intro b m ht
 rw [h.at_ b m ht]
 have:=hr.age ht
 omega
theorem FirstC.inn {R : Rm} {M : List Mt} {l : List Sp} (h : FirstC R l) : ∀ z,Tru R M z → Inn R l z:=fun z hz b m ht=>by
 rw [h.at_ b m ht]
 exact hz.age b m ht
/-- a chart that is good to go on from: within ages, full, with all truths -/
structure GoodC (R : Rm) (M : List Mt) (c : List Sp) : Prop where
 len : c.length = 48
 ages : inAges R c
 inn : ∀ z,Tru R M z → Inn R c z
 ok : ∀ k,0 ≤ (sat c k).lo∧(sat c k).lo ≤ (sat c k).hi∧(sat c k).hi ≤ 60
theorem FirstC.good {R : Rm} {M : List Mt} {l : List Sp} (hr : okRm R) (h : FirstC R l) : GoodC R M l:=⟨h.len,h.ages hr,h.inn,h.ok⟩
theorem ClosedT.good {R : Rm} {M : List Mt} {c l : List Sp} (h : ClosedT R M c l) (g : GoodC R M c) : GoodC R M l :=
 ⟨h.len,h.ages g.ages,fun z hz=>h.keep z hz (g.inn z hz),fun k=>by
  have h1:=h.sub k
  have h2:=h.full k
  have h3:=g.ok k
  omega⟩
end Go.Proofs.YtmfppdpkalelhaaGreat
end
section
set_option linter.unusedVariables false
namespace Go.Fw
open Go Go.RowKit
def allOk {α : Type} (ok : List α → Bool) (pre : List α) : Prop := ∀ q,q <+: pre → q ≠ [] → ok q = true
/-- what an iterator does, if each round's end is known -/
def Itd (P : Program) {α : Type} (f : FuncId) (cap : List Value) (E : List Row) (xs : List α) (encs : α → List Value) : Prop :=
 Callable P f ∧ ∀ (l : Nat) (h : List α → List Row) (ok : List α → Bool) (hx : List α → List Row),
  (∀ pre x,(pre++[x]) <+: xs → allOk ok pre → ∀ E',Yc P l (encs x) (h pre++E') (fun v H' => v = .bool (ok (pre++[x]))∧H' = (if ok (pre++[x]) then h (pre++[x]) else hx (pre++[x]))++E')) →
  Fc P f (.func (.yield l) #[] #[]::cap) (h []++E) (fun _ H' => (allOk ok xs∧H' = h xs++E) ∨ ∃ pre,pre <+: xs∧ok pre = false∧H' = hx pre++E)
theorem XT.rangeD {P : Program} {n : Nat} {c : Code} {F : FS} {Ds : List Nat} {H : List Row} {Q : QTT} {α : Type} {g : Operand} {ps : List Nat} {assign body : Code} {f : FuncId} {cap : List Value} {E : List Row} {xs : List α} {encs : α → List Value}
  (h : c = .rangeFunc g ps.toArray assign body) (hg : evF F g = some (.func (.func f) #[] cap.toArray)) (hI : Itd P f cap E xs encs) (hps : ps.all (fun p=>Nat.blt p n)=true) (hen : ∀ x,(encs x).length = ps.length)
  (hb : List α → List Row) (ok : List α → Bool) (hx : List α → List Row) (cx : Code) (hH : H = hb []++E)
  (hround : ∀ pre x,(pre++[x]) <+: xs → allOk ok pre → ∀ Z,X P n assign (zipF ps (encs x) F) (hb pre++Z) (fun e F1 H1=>e = .normal ∧ ∃ Hb1,(Hb1++Z).Sublist H1 ∧ ∀ Z',X P n body F1 (Hb1++Z') (bodyX (fun Hb=>ok (pre++[x]) = true∧Hb = hb (pre++[x])) (fun c Hb=>c = cx∧ok (pre++[x]) = false∧Hb = hx (pre++[x])) Z')))
  (hdone : ∀ D,allOk ok xs → Q .normal F (D::Ds) (hb xs++E))
  (hret : ∀ D pre,cx = .ret → pre <+: xs → ok pre = false → Q .ret F (D::Ds) (hx pre++E))
  (hexit : ∀ D id pre,cx = .exit id → pre <+: xs → ok pre = false → Q (.exit id) F (D::Ds) (hx pre++E))
  (honly : cx = .ret ∨ ∃ id,cx = .exit id) : XT P n c F Ds H Q:=by
 subst h hH
 unfold XT
 intro t ha B w0 w hS
 obtain ⟨M,hM⟩ : ∃ M,M = Ds.map dRow:=⟨_,rfl⟩
 have hS : St B w0 ((M++hb [])++E) w:=hS.perm (by rw [hM,List.append_assoc];exact List.perm_append_comm)
 refine wpIn_rangeFunc ?_
 intro fn _
 obtain ⟨hcall,hit⟩:=hI
 obtain ⟨rec,hrec⟩ : ∃ rec : LoopState → Option Code → Loop,rec = fun st pe=>{ state:=st,pending:=pe,fn,tmps:=t.toArray,params:=ps.toArray,assign,body,defers:=w.heap.size }:=⟨_,rfl⟩
 have hg' : Act.eval ⟨t.toArray,Ds.map dMk⟩ g = .func (.func f) #[] cap.toArray:=by rw [eval_ev];exact ha.ev hg
 have hS1:=hS.allocObj (.deferred (some []))
 have hS2:=hS1.allocObj (.loop (rec .ready none))
 refine ⟨w.heap.size + 1,[dMk w.heap.size],(w.alloc (.deferred (some []))).alloc (.loop (rec .ready none)),{ target := .fn (.func f) cap.toArray,args := #[.func (.yield (w.heap.size + 1)) #[] #[]] },(w.alloc (.deferred (some []))).alloc (.loop (rec .ready none)),f,
  #[.func (.yield (w.heap.size + 1)) #[] #[]]++cap.toArray,(w.alloc (.deferred (some []))).alloc (.loop (rec .ready none)),?_,?_,fun _ _=>trivial,?_,(fun h=>by cases h),?_⟩
 ·rw [hrec];exact run_enterLoop_outer fn _ _ _ _
 ·simp only [resolve,hg']
  simp [Deferred.ofValue,Act.eval]
 ·unfold Callable at hcall
  simp [invoke]
  exact hcall _ _
 have hsz : (w.alloc (.deferred (some []))).heap.size = w.heap.size + 1:=size_alloc' _ _
 rw [hsz] at hS2
 -- the round
 have key:=hit (w.heap.size + 1)
  (fun pre=>lRow (w.heap.size + 1) (rec .ready none)::dRow w.heap.size::(M++hb pre)) ok
  (fun pre=>lRow (w.heap.size + 1) (rec .done (some cx))::dRow w.heap.size::(M++hx pre)) ?_
 ·unfold Fc at key
  have hc:=key.2 B w0 _ hS2
  have e1 : (#[Value.func (.yield (w.heap.size + 1)) #[] #[]]++cap.toArray)=(Value.func (.yield (w.heap.size + 1)) #[] #[]::cap).toArray:=by simp
  rw [e1]
  refine (callsIn_wide (n:=0)).2 (hc.mono ?_)
  rintro e w' ⟨v,H',rfl,hJ,hS'⟩
  rcases hJ with ⟨hok,rfl⟩ | ⟨pre,hpx,hno,rfl⟩
  ·have hl : w'.heap[w.heap.size + 1]? = some (.loop (rec .ready none)):=hS'.obj (List.mem_cons_self ..)
   have hS3:=(hS'.putObj (.loop { rec .ready none with state := .exhausted })).tail
   refine ⟨none,w'.putObj (w.heap.size + 1) (.loop { rec .ready none with state := .exhausted }),?_,?_⟩
   ·have:=run_endLoop (P:=P) hl (by rw [hrec];simp)
    rw [this];rw [hrec]
   ·refine ⟨w.heap.size::Ds,F,hb xs++E,rfl,?_,hdone _ hok,?_⟩
    ·simpa using ha
    ·refine hS3.perm ?_
     rw [List.map_cons, ← hM]
     exact (mvM _ _ _ _).symm
  ·have hl : w'.heap[w.heap.size + 1]? = some (.loop (rec .done (some cx))):=hS'.obj (List.mem_cons_self ..)
   have hS3:=(hS'.putObj (.loop { rec .done (some cx) with state := .exhausted })).tail
   refine ⟨some cx,w'.putObj (w.heap.size + 1) (.loop { rec .done (some cx) with state := .exhausted }),?_,?_⟩
   ·have:=run_endLoop (P:=P) hl (by rw [hrec];simp)
    rw [this];rw [hrec]
   ·have hS4 : St B w0 ((hx pre++E)++(w.heap.size::Ds).map dRow) (w'.putObj (w.heap.size + 1) (.loop { rec .done (some cx) with state := .exhausted })):=by
     refine hS3.perm ?_
     rw [List.map_cons, ← hM]
     exact (mvM _ _ _ _).symm
    rcases honly with hc | ⟨id,hc⟩
    ·rw [hc];exact wpIn_ret ⟨w.heap.size::Ds,F,hx pre++E,rfl,by simpa using ha,hret _ _ hc hpx hno,by rw [hc] at hS4;exact hS4⟩
    ·rw [hc];exact wpIn_exit ⟨w.heap.size::Ds,F,hx pre++E,rfl,by simpa using ha,hexit _ _ _ hc hpx hno,by rw [hc] at hS4;exact hS4⟩
 ·rintro pre x hpre hall E'
  unfold Yc
  intro B w0 w' hS'
  have hl : w'.heap[w.heap.size + 1]? = some (.loop (rec .ready none)):=hS'.obj (List.mem_cons_self ..)
  have hy:=run_yield (P:=P) (args:=(encs x).toArray) hl (by rw [hrec];simp [hen])
  rw [hrec] at hy
  refine ⟨_,_,_,_,hy,roundIn_of_wpIn (F:=Fence.wide) trivial ?_⟩
  have hag:=ag_zipF ps (encs x) F t.toArray (by simpa using ha) hps
  have hx:=hround pre x hpre hall (lRow (w.heap.size + 1) (rec .ready none)::dRow w.heap.size::(M++E'))
  unfold X W at hx
  have hx1:=hx _ hag (some (w.heap.size + 1)) [] B w0 w' (hS'.perm (mvN _ _ _ _ _).symm)
  refine wpIn_mono (F:=Fence.wide.inRound (w.heap.size + 1)) (by rw [Array.toArray_toList] at hx1;exact hx1) ?_
  rintro e a1 w1 ⟨hd1,H1,⟨F1,ha1,he1,Hb1,hs1,hbody⟩,hS1'⟩
  subst he1
  have hS1'' : St B w0 (lRow (w.heap.size + 1) (rec .ready none)::(Hb1++(dRow w.heap.size::(M++E')))) w1:=(hS1'.sub hs1).perm (by simpa using List.perm_middle.symm)
  have hl1 : w1.heap[w.heap.size + 1]? = some (.loop (rec .ready none)):=hS1''.obj (List.mem_cons_self ..)
  have hS1b:=hS1''.putObj (.loop { rec .ready none with state := .busy })
  have hb1:=hbody (lRow (w.heap.size + 1) { rec .ready none with state := .busy }::dRow w.heap.size::(M++E'))
  have hb2:=hb1 _ ha1 (some (w.heap.size + 1)) [] B w0 _ (hS1b.perm (by simp [lRow]))
  refine ⟨_,run_beginRound hl1 (by rw [hrec]),?_⟩
  rw [act_eta hd1]
  refine wpIn_mono (F:=Fence.wide.inRound (w.heap.size + 1)) hb2 ?_
  rintro e a2 w2 ⟨hd2,H2,⟨F2,ha2,Hb2,hs2,hq⟩,hS2'⟩
  have hS2'' : St B w0 (lRow (w.heap.size + 1) { rec .ready none with state := .busy }::(Hb2++(dRow w.heap.size::(M++E')))) w2:=(hS2'.sub hs2).perm (by simpa using List.perm_middle.symm)
  have hl2 : w2.heap[w.heap.size + 1]? = some (.loop { rec .ready none with state := .busy }):=hS2''.obj (List.mem_cons_self ..)
  have fin : ∀ jump : Option Code,∃ w3,(Instr.endRound (w.heap.size + 1) jump).run P w2 = .ok (.bool jump.isNone) w3∧St B w0 ((lRow (w.heap.size + 1) (rec (if jump.isNone then .ready else .done) jump)::dRow w.heap.size::(M++Hb2))++E') w3:=by
   intro jump
   have h1:=run_endRound (P:=P) jump hl2
   have h2:=hS2''.putObj (.loop { { rec .ready none with state:=LoopState.busy } with state:=if jump.isNone then .ready else .done,pending:=jump })
   have h3 : ({ { rec .ready none with state:=LoopState.busy } with state:=if jump.isNone then .ready else .done,pending:=jump } : Loop)=rec (if jump.isNone then .ready else .done) jump:=by rw [hrec]
   rw [h3] at h2
   have h4 : (Instr.endRound (w.heap.size + 1) jump).run P w2 = .ok (.bool jump.isNone) (w2.putObj (w.heap.size + 1) (.loop (rec (if jump.isNone then .ready else .done) jump))):=by rw [h1];rw [hrec]
   refine ⟨_,h4,h2.perm ?_⟩
   simp only [lRow,List.cons_append]
   refine List.Perm.cons _ ?_
   exact (mvO _ _ _ _).symm
  cases e with
  | normal =>
   obtain ⟨w3,h1,h2⟩:=fin none
   obtain ⟨hq1,hq2⟩:=hq
   subst hq2
   refine ⟨_,w3,h1,_,_,rfl,⟨by rw [hq1];rfl,?_⟩,h2⟩
   rw [hq1];rfl
  | ret =>
   obtain ⟨w3,h1,h2⟩:=fin (some .ret)
   obtain ⟨hq0,hq1,hq2⟩:=hq
   subst hq2
   refine ⟨_,w3,h1,_,_,rfl,⟨by rw [hq1];rfl,?_⟩,h2⟩
   rw [hq1, ← hq0];rfl
  | exit id =>
   obtain ⟨w3,h1,h2⟩:=fin (some (.exit id))
   obtain ⟨hq0,hq1,hq2⟩:=hq
   subst hq2
   refine ⟨_,w3,h1,_,_,rfl,⟨by rw [hq1];rfl,?_⟩,h2⟩
   rw [hq1, ← hq0];rfl
  | goto l=>exact hq.elim
  | panic ch=>exact hq.elim
  | outgrown=>exact hq.elim
theorem X.capLe {P : Program} {n : Nat} {c : Code} {F : FS} {H : List Row} {Q : QX} {q b cap : Nat} {el : TypeId} {cs : List Value} (hi : H[q]? = some ⟨b,0,cs,some el,cap⟩) (k : cs.length ≤ cap → X P n c F H Q) : X P n c F H Q:=by
 unfold X W at k ⊢
 intro t ha ρ ds B w0 w hS
 obtain ⟨_,_,r,_,h2⟩:=hS.ok _ (List.mem_of_getElem? hi)
 have h3 : cs.length + r.length = cap:=by rw [← List.length_append];exact h2
 exact k (by omega) t ha ρ ds B w0 w hS
theorem XO.capLe {P : Program} {n : Nat} {ops : Array Oper} {i : Nat} {F : FS} {H : List Row} {N : FS → List Row → Prop} {q b cap : Nat} {el : TypeId} {cs : List Value} (hi : H[q]? = some ⟨b,0,cs,some el,cap⟩) (k : cs.length ≤ cap → XO P n ops i F H N) : XO P n ops i F H N:=by
 unfold XO WO at k ⊢
 intro t ha ρ ds B w0 w hS
 obtain ⟨_,_,r,_,h2⟩:=hS.ok _ (List.mem_of_getElem? hi)
 have h3 : cs.length + r.length = cap:=by rw [← List.length_append];exact h2
 exact k (by omega) t ha ρ ds B w0 w hS
theorem nd_f {p : Prop} [Decidable p] (h : p) : (!decide p)=false:=by rw [decide_eq_true h];rfl
theorem nd_t {p : Prop} [Decidable p] (h : ¬ p) : (!decide p)=true:=by rw [decide_eq_false h];rfl
/-- yield is called in a region that draws its order -/
theorem OpF.yield {P : Program} {n : Nat} {H : List Row} {F : FS} {o : Oper} {g : Operand} {l : Nat} {al : List Operand} {tys : Array TypeId} {vs : List Value} {R : Value → List Row → Prop} (h : o.op = .call { callee := .value g,args:=al.toArray,argTypes:=tys })
  (hg : evF F g = some (.func (.yield l) #[] #[])) (hv : Args F al vs) (hY : Yc P l vs H R) : OpF P n H F o R:=by
 intro t ha ρ ds B w0 w hS k Q hk
 unfold Yc at hY
 obtain ⟨fn,tmps,assign,body,h1,h2⟩:=hY B w0 w hS
 have hrun : (execOp (Fw.ev t) o).run P w = .ok (.round l fn tmps assign body) w:=by
  have e:=ha.ev hg
  have e2:=hv.ev ha
  simp [execOp,h,resolve,e,Deferred.ofValue,invoke,e2,callFunc,h1]
 unfold Oper.wpIn
 refine ⟨fun _ _=>trivial,?_⟩
 rw [eval_ev,sem_round hrun,Oper.uponIn_round]
 refine ⟨(fun h=>by cases h),?_⟩
 refine RoundIn.mono (F:=wf ρ) h2 ?_
 rintro e w' ⟨v,H',rfl,hR,hS'⟩
 simp only [put_act]
 exact hk v w' H' hS' hR
end Go.Fw
end
section
set_option linter.unusedVariables false
namespace Go.Fw
open Go Go.RowKit
def reFs (ts : List TOp) (F0 : FS) (i : Nat) : List (Nat × Nat × Value) → FS
 | []=>F0
 | e::l=>match (tAt ts e.1).sup.contains i with | true=>(e.2.1,e.2.2)::reFs ts F0 i l | false=>reFs ts F0 i l
theorem wpAny_ob6 {P : Program} {n : Nat} {ops : Array Oper} {ts : List TOp} {dom : List Nat} {F0 : FS} {sm : List Nat} (hd : F0.map (·.1)=dom) (hok : okReg3 sm ops ts dom n = true) (rd : Nat → List Nat) (hrd : okRd ts rd ops.size = true) (val : Nat → Env → Value) (rows : Nat → Env → List Row)
  (hloc : ∀ k env i p,i ≠ k → (tAt ts k).sup.contains i = false → val k (upd env i p)=val k env∧rows k (upd env i p)=rows k env)
  (hsm : ∀ i d,sm.contains i = true → (tAt ts i).dst = some d → ∀ env v,lk F0 d = some v → val i env = v)
  {re : List (Nat × Nat × Value)} (hre : ∀ e ∈ re,(tAt ts e.1).dst = some e.2.1∧e.1 < ops.size)
  (R0 : List Row) (hob : ∀ i o,opAt ops.toList i = some o → ObR P n ts rd val rows (reFs ts F0 i re) R0 i o)
  {Q : QT} (hQ : ∀ env t,Ag n F0 t → (∀ i d,i < ops.size → (tAt ts i).dst = some d → t[d]? = some (val i env)) → Q .normal t ((alive ts).flatMap (fun k=>rows k env)++R0))
  {ρ : Option Nat} {ds : List Deferred} {B : Nat} {w0 : World} :
  ∀ (fuel : Nat) (listed : Array Bool) (U A : List Nat) (t : List Value) (H : List Row) (w : World) (env : Env),listed.size = ops.size → U.length = fuel → U.Nodup → (∀ k,k ∈ U ↔ k < ops.size∧listed.getD k true = false) →
   (∀ k,k < ops.size → listed.getD k true = true → ∀ j,(tAt ts k).sup.contains j = true → listed.getD j true = true) →
   A.Nodup → (∀ k,k ∈ A ↔ k < ts.length∧listed.getD k true = true ∧ ∀ j,j < ops.size → listed.getD j true = true → k ∉ (tAt ts j).kills) →
   Ag n F0 t → (∀ e ∈ re,listed.getD e.1 true = false → t[e.2.1]? = some e.2.2) → (∀ k d,k < ops.size → listed.getD k true = true → (tAt ts k).dst = some d → t[d]? = some (val k env)) →
   St B w0 H w → H.Perm (R0++A.flatMap (fun k=>rows k env)) → wpAnyIn (wf ρ) 0 P .any ops (lift ds B w0 Q) fuel listed ⟨t.toArray,ds⟩ w:=by
 unfold okReg3 at hok
 simp only [Bool.and_eq_true,decide_eq_true_eq] at hok
 obtain ⟨⟨⟨hlen,hops⟩,hkn⟩,hps⟩:=hok
 have hopAt : ∀ i o,ops[i]? = some o → okOp3 sm ts dom n ops.size i o = true:=by
  intro i o hi
  have:=List.all_eq_true.1 hops (o,i) (by
   rw [List.mem_zipIdx_iff_getElem?];simpa using hi)
  exact this
 intro fuel
 induction fuel with
 | zero =>
  intro listed U A t H w env hls hUl hUn hU hcl hAn hA hag hr0 hv hS hH
  have hU0 : U = []:=List.eq_nil_of_length_eq_zero hUl
  subst hU0
  have hall : ∀ k,listed.getD k true = true:=by
   intro k
   cases hk : listed.getD k true with
   | true=>rfl
   | false =>
    by_cases h1 : k < ops.size
    ·exact absurd ((hU k).2 ⟨h1,hk⟩) (by simp)
    ·rw [Array.getD_eq_getD_getElem?,Array.getElem?_eq_none (by omega)] at hk;cases hk
  refine ⟨?_,rfl,_,?_,hS.perm (H' := (alive ts).flatMap (fun k=>rows k env)++R0) ?_⟩
  ·unfold Region.ready
   rw [List.filter_eq_nil_iff]
   intro k _
   rw [hall];simp
  ·have:=hQ env t hag (fun i d hi hd=>hv i d hi (hall i) hd)
   simpa using this
  ·refine List.perm_append_comm.trans ((List.Perm.append_left R0 (List.Perm.flatMap_right _ ?_)).trans hH.symm)
   refine perm_of_mem ((List.nodup_range).sublist List.filter_sublist) hAn fun k=>?_
   rw [hA,alive,List.mem_filter,List.mem_range]
   simp only [hall,true_and,Bool.not_eq_true',List.contains_eq_mem,decide_eq_false_iff_not,true_implies]
   refine and_congr_right fun _=>⟨fun h j _ hj=>h (tAt_mem hj),fun h hm=>?_⟩
   obtain ⟨T,hT,hk⟩:=List.mem_flatMap.1 hm
   obtain ⟨j,hj,rfl⟩:=List.mem_iff_getElem.1 hT
   by_cases hj' : j < ops.size
   ·exact h j hj' (by unfold tAt;simp [List.getD,hj,hk])
   ·have:=List.all_eq_true.1 hps ts[j] (by
     rw [List.mem_iff_getElem?]
     exact ⟨j - ops.size,by rw [List.getElem?_drop,show ops.size + (j - ops.size)=j by omega,List.getElem?_eq_getElem hj]⟩)
    simp only [Bool.and_eq_true,List.isEmpty_iff] at this
    rw [this.1] at hk;cases hk
 | succ fuel ih =>
  intro listed U A t H w env hls hUl hUn hU hcl hAn hA hag hr0 hv hS hH
  have hge : ∀ k,ops.size ≤ k → listed.getD k true = true:=fun k hk=>by rw [Array.getD_eq_getD_getElem?,Array.getElem?_eq_none (by omega)];rfl
  have hgd : ∀ k,k < ops.size → listed.getD k false = listed.getD k true:=fun k hk=>by
   rw [Array.getD_eq_getD_getElem?,Array.getD_eq_getD_getElem?,Array.getElem?_eq_getElem (by omega)];rfl
  refine ⟨fun h0=>?_,fun i hi=>?_⟩
  ·exfalso
   have key : ∀ m,m ∈ U → False:=by
    intro m
    induction m using Nat.strongRecOn with
    | _ m ihm =>
     intro hm
     obtain ⟨hms,hml⟩:=(hU m).1 hm
     obtain ⟨o,ho⟩ : ∃ o,ops[m]? = some o:=⟨ops[m],Array.getElem?_eq_getElem hms⟩
     have hc:=hopAt m o ho
     unfold okOp3 at hc
     simp only [Bool.and_eq_true] at hc
     obtain ⟨⟨⟨⟨_,haf⟩,_⟩,_⟩,_⟩:=hc
     by_cases hal : o.after.all (fun e => !Region.binds .any e || listed.getD e.on false)=true
     ·have : m ∈ Region.ready .any ops listed:=by
       unfold Region.ready
       rw [List.mem_filter]
       refine ⟨List.mem_range.2 hms,?_⟩
       rw [hml,ho]
       simp only [Option.map_some,Option.getD_some,Bool.not_false,Bool.true_and]
       exact hal
      rw [h0] at this;cases this
     ·have : ∃ e ∈ o.after, ¬ ((!Region.binds .any e || listed.getD e.on false)=true):=by
       rw [Array.all_eq_true_iff_forall_mem] at hal
       simpa using hal
      obtain ⟨e,he,hne⟩:=this
      have h1:=List.all_eq_true.1 haf e (Array.mem_toList_iff.2 he)
      simp only [Bool.or_eq_true,Bool.not_eq_true',not_or,Bool.not_eq_false,Bool.not_eq_true] at hne h1
      have h2 : e.on < m:=by
       rcases h1 with h1 | h1
       ·rw [hne.1] at h1;cases h1
       ·simpa using h1
      refine ihm e.on h2 ((hU e.on).2 ⟨by omega,?_⟩)
      rw [← hgd e.on (by omega)];exact hne.2
   cases U with
   | nil=>simp at hUl
   | cons u U=>exact key u (List.mem_cons_self ..)
  ·unfold Region.ready at hi
   rw [List.mem_filter,List.mem_range] at hi
   obtain ⟨his,hi2⟩:=hi
   obtain ⟨o,ho⟩ : ∃ o,ops[i]? = some o:=⟨ops[i],Array.getElem?_eq_getElem his⟩
   simp only [ho,Option.map_some,Option.getD_some,Bool.and_eq_true,Bool.not_eq_true'] at hi2
   obtain ⟨hil,hia⟩:=hi2
   have hc:=hopAt i o ho
   unfold okOp3 at hc
   simp only [Bool.and_eq_true] at hc
   obtain ⟨⟨⟨⟨⟨⟨hgu,hdst⟩,hds⟩,haf⟩,hsup⟩,hdeps⟩,hkil⟩:=hc
   have hdst' : o.dst = (tAt ts i).dst:=by simpa using hdst
   rw [Array.all_eq_true_iff_forall_mem] at hia
   have hson : ∀ j,(tAt ts i).sup.contains j = true → j < i∧listed.getD j true = true:=by
    intro j hj
    have h1:=List.all_eq_true.1 hsup j (by simpa using hj)
    simp only [Bool.and_eq_true,decide_eq_true_eq,List.any_eq_true] at h1
    obtain ⟨hji,e,he',hb,h2⟩:=h1
    have he:=Array.mem_toList_iff.1 he'
    refine ⟨hji,?_⟩
    have h3:=hia e he
    rw [hb] at h3
    have h4:=List.all_eq_true.1 haf e he'
    rw [hb] at h4
    simp only [Bool.not_true,Bool.false_or,decide_eq_true_eq] at h3 h4
    rw [hgd e.on (by omega)] at h3
    simp only [Bool.or_eq_true,beq_iff_eq] at h2
    rcases h2 with h2 | h2
    ·rw [← h2];exact h3
    ·exact hcl e.on (by omega) h3 j h2
   have hks : ∀ k ∈ (tAt ts i).kills,k ∈ A:=by
    intro k hk
    rw [hA]
    have h1:=List.all_eq_true.1 hkil k hk
    simp only [Bool.or_eq_true,decide_eq_true_eq] at h1
    refine ⟨?_,?_,fun j hj hjl hkj=>?_⟩
    ·rcases h1 with h1 | h1
     ·have:=(hson k h1).1;omega
     ·omega
    ·rcases h1 with h1 | h1
     ·exact (hson k h1).2
     ·exact hge k h1.1
    ·have:=kills_once hkn hk hkj
     subst this
     rw [hil] at hjl;cases hjl
   have hkin : (tAt ts i).kills.Nodup:=by
    unfold tAt List.getD
    cases hti : ts[i]? with
    | none=>simp
    | some T =>
     simp only [Option.getD_some]
     exact kills_nodup hkn (List.mem_of_getElem? hti)
   obtain ⟨A',hp,hA'n,hA'm⟩:=take_out _ A hkin hAn hks
   have hH1 : ((tAt ts i).kills.flatMap (fun k=>rows k env)++(R0++A'.flatMap (fun k=>rows k env))).Perm H:=by
    refine List.Perm.trans ?_ hH.symm
    refine List.Perm.trans ?_ (List.Perm.append_left R0 (List.Perm.flatMap_right _ hp.symm))
    rw [List.flatMap_append, ← List.append_assoc, ← List.append_assoc]
    exact List.Perm.append_right _ List.perm_append_comm
   have hdp : ∀ k ∈ (tAt ts i).deps,∀ d,(tAt ts k).dst = some d → t[d]? = some (val k env):=by
    intro k hk d hd
    have h1:=List.all_eq_true.1 hdeps k hk
    obtain ⟨h2,h3⟩:=hson k h1
    exact hv k d (by omega) h3 hd
   have hag' : Ag n (reFs ts F0 i re) t:=by
    have hgen : ∀ l : List (Nat × Nat × Value),(∀ e ∈ l,e.1 < ops.size) → (∀ e ∈ l,listed.getD e.1 true = false → t[e.2.1]? = some e.2.2) → Ag n (reFs ts F0 i l) t:=by
     intro l
     induction l with
     | nil=>exact fun _ _=>hag
     | cons e l ihl =>
      intro ha hb
      have hl' := ihl (fun e' he' => ha e' (List.mem_cons_of_mem _ he')) (fun e' he' => hb e' (List.mem_cons_of_mem _ he'))
      unfold reFs
      cases hci : (tAt ts e.1).sup.contains i with
      | false=>exact hl'
      | true =>
       refine hl'.cons (hb e List.mem_cons_self ?_)
       cases hx : listed.getD e.1 true with
       | false=>rfl
       | true=>have:=hcl e.1 (ha e List.mem_cons_self) hx i hci;rw [hil] at this;cases this
    exact hgen re (fun e he=>(hre e he).2) hr0
   have hst:=hob i o (by rw [opAt_eq];simpa using ho)
   have hreads : ∀ k ∈ rd i,∀ r ∈ rows k env,r ∈ R0++A'.flatMap (fun k=>rows k env):=by
    intro k hk r hr
    refine List.mem_append_right _ (List.mem_flatMap.2 ⟨k,?_,hr⟩)
    have h1:=List.all_eq_true.1 (List.all_eq_true.1 hrd i (List.mem_range.2 his)) k hk
    simp only [Bool.and_eq_true,Bool.or_eq_true,decide_eq_true_eq,Bool.not_eq_true'] at h1
    obtain ⟨⟨h1,h2⟩,h3⟩:=h1
    rw [hA'm,hA]
    refine ⟨⟨?_,?_,fun j hj hjl hkj=>?_⟩,by simpa using h2⟩
    ·rcases h1 with h1 | h1
     ·have:=(hson k h1).1;omega
     ·omega
    ·rcases h1 with h1 | h1
     ·exact (hson k h1).2
     ·exact hge k h1.1
    ·have h4:=List.all_eq_true.1 h3 j (List.mem_range.2 hj)
     simp only [Bool.or_eq_true,Bool.not_eq_true'] at h4
     rcases h4 with h4 | h4
     ·rw [List.contains_iff_mem.2 hkj] at h4;cases h4
     ·have:=hcl j hj hjl i h4
      rw [hil] at this;cases this
   have hyv : ∀ j ww,o.guard = some (j,ww) → (tAt ts j).dst ≠ none → yielded ops t.toArray j = bv (val j env):=by
    intro j ww hg hj
    rw [hg] at hgu
    obtain ⟨h1,h2⟩:=hson j hgu
    obtain ⟨d,hd'⟩:=Option.ne_none_iff_exists'.1 hj
    have hoj : ops[j]? = some ops[j]:=Array.getElem?_eq_getElem (by omega)
    have hcj:=hopAt j _ hoj
    unfold okOp3 at hcj
    simp only [Bool.and_eq_true] at hcj
    have hdj : (ops[j]).dst = (tAt ts j).dst:=by simpa using hcj.1.1.1.1.1.2
    exact yielded_bv hoj (by rw [hdj,hd']) (hv j d (by omega) h2 hd')
   have hnext : ∀ (v : Value) (w' : World) (H' : List Row),St B w0 H' w' → (∃ p,((tAt ts i).dst ≠ none → v = val i (upd env i p))∧H'.Perm (rows i (upd env i p)++(R0++A'.flatMap (fun k=>rows k env)))) → wpAnyIn (wf ρ) 0 P .any ops (lift ds B w0 Q) fuel (listed.setIfInBounds i true) ⟨(put t o.dst v).toArray,ds⟩ w' := by
    rintro v w' H' hS' ⟨p,hval,hH'⟩
    have hl' : ∀ k,(listed.setIfInBounds i true).getD k true = if k = i then true else listed.getD k true:=by
     intro k
     rw [Array.getD_eq_getD_getElem?,Array.getD_eq_getD_getElem?,Array.getElem?_setIfInBounds]
     by_cases hki : k = i
     ·subst hki;simp;split <;> rfl
     ·rw [if_neg (fun e=>hki e.symm),if_neg hki]
    have hnot : ∀ k,listed.getD k true = true → (tAt ts k).sup.contains i = false:=by
     intro k hk
     by_cases hks' : k < ops.size
     ·cases hcs : (tAt ts k).sup.contains i with
      | false=>rfl
      | true=>have:=hcl k hks' hk i hcs;rw [hil] at this;cases this
     ·by_cases hkt : k < ts.length
      ·have:=List.all_eq_true.1 hps ts[k] (by
        rw [List.mem_iff_getElem?]
        exact ⟨k - ops.size,by rw [List.getElem?_drop,show ops.size + (k - ops.size)=k by omega,List.getElem?_eq_getElem hkt]⟩)
       simp only [Bool.and_eq_true,List.isEmpty_iff] at this
       have e : tAt ts k = ts[k]:=by unfold tAt;simp [List.getD,hkt]
       rw [e,this.2];rfl
      ·have e : tAt ts k = ⟨none,[],[],[]⟩:=by unfold tAt;simp [List.getD,List.getElem?_eq_none (by omega : ts.length ≤ k)]
       rw [e];rfl
    have hiA : i ∉ A:=fun h=>by have:=((hA i).1 h).2.1;rw [hil] at this;cases this
    refine ih (listed.setIfInBounds i true) (U.erase i) (i::A') (put t o.dst v) H' w' (upd env i p) (by simpa using hls) ?_ (hUn.sublist List.erase_sublist) ?_ ?_ ?_ ?_ ?_ ?_ ?_ hS' ?_
    ·rw [List.length_erase_of_mem ((hU i).2 ⟨his,hil⟩)];omega
    ·intro k
     rw [hUn.mem_erase_iff,hU,hl']
     by_cases hki : k = i
     ·simp [hki]
     ·simp [hki]
    ·intro k hk hkl j hj
     rw [hl'] at hkl ⊢
     split
     ·rfl
     ·by_cases hki : k = i
      ·subst hki;exact (hson j hj).2
      ·rw [if_neg hki] at hkl;exact hcl k hk hkl j hj
    ·exact List.nodup_cons.2 ⟨fun h=>hiA ((hA'm i).1 h).1,hA'n⟩
    ·intro k
     rw [List.mem_cons,hA'm,hA,hl']
     by_cases hki : k = i
     ·subst hki
      simp only [true_or,if_true,true_and,true_iff]
      refine ⟨by omega,fun j hj hjl hkj=>?_⟩
      have h1 : ops[j]? = some ops[j]:=Array.getElem?_eq_getElem hj
      have hcj:=hopAt j _ h1
      unfold okOp3 at hcj
      simp only [Bool.and_eq_true] at hcj
      have h2:=List.all_eq_true.1 hcj.2 k hkj
      simp only [Bool.or_eq_true,decide_eq_true_eq] at h2
      rw [hl'] at hjl
      rcases h2 with h2 | h2
      ·by_cases hjk : j = k
       ·subst hjk;have:=(hson j h2).1;omega
       ·rw [if_neg hjk] at hjl
        have:=hcl j hj hjl k h2
        rw [hil] at this;cases this
      ·omega
     ·simp only [hki,false_or,if_false]
      constructor
      ·rintro ⟨⟨h1,h2,h3⟩,h4⟩
       refine ⟨h1,h2,fun j hj hjl=>?_⟩
       rw [hl'] at hjl
       by_cases hji : j = i
       ·subst hji;exact h4
       ·rw [if_neg hji] at hjl;exact h3 j hj hjl
      ·rintro ⟨h1,h2,h3⟩
       exact ⟨⟨h1,h2,fun j hj hjl=>h3 j hj (by rw [hl'];split;rfl;exact hjl)⟩,h3 i his (by rw [hl',if_pos rfl])⟩
    ·cases hdd : o.dst with
     | none=>exact hag
     | some d =>
      rw [hdst'] at hdd
      rw [hdd] at hds
      simp only [Bool.and_eq_true,decide_eq_true_eq] at hds
      refine ⟨by simpa [put] using hag.1,fun s u hs=>?_⟩
      have h1:=hag.2 s u hs
      simp only [put,List.getElem?_set]
      by_cases hsd : d = s
      ·subst hsd
       have : d ∈ dom:=by
        rw [← hd]
        exact lk_mem hs
       have h2:=hds.1.2
       have hsi : sm.contains i = true:=by simpa [this] using h2
       have e : v = u:=(hval (by rw [hdd];simp)).trans (hsm i d hsi hdd _ u hs)
       rw [if_pos rfl,e]
       exact if_pos (by rw [hag.1];exact hds.1.1)
      ·rw [if_neg hsd]
       exact h1
    ·rintro ⟨i0,d0,u0⟩ he0 hl0
     have hi0 : i0 < ops.size:=(hre _ he0).2
     have hre0 : (tAt ts i0).dst = some d0:=(hre _ he0).1
     dsimp only at hl0 ⊢
     rw [hl'] at hl0
     by_cases hii : i0 = i
     ·rw [if_pos hii] at hl0;cases hl0
     ·rw [if_neg hii] at hl0
      have h1 : t[d0]? = some u0:=hr0 _ he0 hl0
      cases hdd : o.dst with
      | none=>exact h1
      | some d' =>
       simp only [put,List.getElem?_set]
       rw [if_neg]
       ·exact h1
       ·rintro rfl
        rw [hdst'] at hdd
        rcases Nat.lt_or_gt_of_ne hii with hlt | hlt
        ·rw [hdd] at hds
         simp only [Bool.and_eq_true] at hds
         have:=List.all_eq_true.1 hds.2 i0 (List.mem_range.2 hlt)
         simp [hre0] at this
        ·have hck:=hopAt i0 _ (Array.getElem?_eq_getElem hi0)
         unfold okOp3 at hck
         simp only [Bool.and_eq_true] at hck
         have hdk:=hck.1.1.1.1.2
         rw [hre0] at hdk
         simp only [Bool.and_eq_true] at hdk
         have:=List.all_eq_true.1 hdk.2 i (List.mem_range.2 hlt)
         simp [hdd] at this
    ·intro k d hk hkl hkd
     rw [hl'] at hkl
     by_cases hki : k = i
     ·subst hki
      rw [hdst',hkd]
      rw [hkd] at hds
      simp only [Bool.and_eq_true,decide_eq_true_eq] at hds
      simp only [put,List.getElem?_set,if_true]
      rw [if_pos (by rw [hag.1];exact hds.1.1),hval (by rw [hkd];simp)]
     ·rw [if_neg hki] at hkl
      rw [(hloc k env i p (fun e=>hki e.symm) (hnot k hkl)).1]
      have h1:=hv k d hk hkl hkd
      cases hdd : o.dst with
      | none=>exact h1
      | some d' =>
       simp only [put,List.getElem?_set]
       rw [if_neg]
       ·exact h1
       ·rintro rfl
        rw [hdst'] at hdd
        rcases Nat.lt_or_gt_of_ne hki with hlt | hlt
        ·rw [hdd] at hds
         simp only [Bool.and_eq_true] at hds
         have:=List.all_eq_true.1 hds.2 k (List.mem_range.2 hlt)
         simp [hkd] at this
        ·have hck:=hopAt k _ (Array.getElem?_eq_getElem hk)
         unfold okOp3 at hck
         simp only [Bool.and_eq_true] at hck
         have hdk:=hck.1.1.1.1.2
         rw [hkd] at hdk
         simp only [Bool.and_eq_true] at hdk
         have:=List.all_eq_true.1 hdk.2 i (List.mem_range.2 hlt)
         simp [hdd] at this
    ·refine hH'.trans ?_
     have e : A'.flatMap (fun k=>rows k (upd env i p)) = A'.flatMap (fun k=>rows k env):=by
      have : ∀ k ∈ A',rows k (upd env i p)=rows k env:=fun k hk=>by
       have h1:=(hA'm k).1 hk
       have h2:=((hA k).1 h1.1).2.1
       exact (hloc k env i p (fun e=>hiA (e ▸ h1.1)) (hnot k h2)).2
      exact flatMap_congr' this
     rw [List.flatMap_cons,e, ← List.append_assoc, ← List.append_assoc]
     exact List.Perm.append_right _ List.perm_append_comm
   unfold wpOpIn
   simp only [ho]
   rcases hst with ⟨hgr,hst⟩ | ⟨j,ww,hg,hj,hbv,hki,hvi,hri⟩
   ·have hwant : Region.wanted o (yielded ops t.toArray)=true:=by
     unfold Region.wanted
     rcases hgr with hgr | ⟨j,ww,hg,hj,hb⟩
     ·rw [hgr]
     ·rw [hg];simp only [hyv j ww hg hj,hb];simp
    simp only [hwant,if_true]
    exact hst env (R0++A'.flatMap (fun k=>rows k env)) (fun r hr=>List.mem_append_left _ hr) hreads t (ag_fdeps hag' _ hdp) ρ ds B w0 w (hS.perm hH1) _ _ hnext
   ·have hwant : Region.wanted o (yielded ops t.toArray)=false:=by
     unfold Region.wanted
     rw [hg];simp only [hyv j ww hg hj]
     simpa using hbv env
    simp only [hwant,Bool.false_eq_true,if_false]
    rw [put_act]
    refine ⟨fun _ _=>trivial,hnext undef w _ hS ⟨(0,0),fun _=>(hvi _).symm,?_⟩⟩
    --,fun _=>(hvi _).symm,?_⟩
    rw [hri,List.nil_append]
    rw [hki] at hH1
    simpa using hH1.symm
theorem X.regionRs {P : Program} {n : Nat} {c : Code} {F : FS} {H : List Row} {Q : QX} (sm : List Nat) (ts : List TOp) (rd : Nat → List Nat) (dom : List Nat) (F0 : FS) (val : Nat → Env → Value) (rows : Nat → Env → List Row) (env0 : Env) (R0 : List Row)
  (h : c = .region (cid c) (cops c) true) (hm : P.follows .mixedOrders = true) (hsub : Sub F0 F) (hd : F0.map (·.1)=dom) (hok : okReg3 sm (cops c) ts dom n = true) (hrd : okRd ts rd (cops c).size = true)
  (hloc : ∀ k env i p,i ≠ k → (tAt ts k).sup.contains i = false → val k (upd env i p)=val k env∧rows k (upd env i p)=rows k env)
  (hsm : ∀ i d,sm.contains i = true → (tAt ts i).dst = some d → ∀ env v,lk F0 d = some v → val i env = v)
  (hH : (((List.range ts.length).drop (cops c).size).flatMap (fun k=>rows k env0)++R0).Sublist H)
  (re : List (Nat × Nat × Value)) (hre : ∀ e ∈ re,(tAt ts e.1).dst = some e.2.1∧e.1 < (cops c).size) (h0 : ∀ e ∈ re,lk F e.2.1 = some e.2.2)
  (hob' : AllF (cops c).toList 0 fun i o=>ObR P n ts rd val rows (reFs ts F0 i re) R0 i o)
  (hQ : ∀ env t,Ag n F0 t → (∀ i d,i < (cops c).size → (tAt ts i).dst = some d → t[d]? = some (val i env)) → exQ n Q .normal t ((alive ts).flatMap (fun k=>rows k env)++R0)) : X P n c F H Q:=by
 have hob:=fun i o ho=>hob' i o (Nat.zero_le i) ho
 unfold X W
 intro t ha ρ ds B w0 w hS
 rw [h]
 refine wpIn_region_any hm ?_
 have hlen : (cops c).size ≤ ts.length:=by
  have:=hok
  unfold okReg3 at this
  simp only [Bool.and_eq_true,decide_eq_true_eq] at this
  exact this.1.1.1
 have hl : ∀ k d,(Array.replicate (cops c).size false).getD k d = if k < (cops c).size then false else d:=by
  intro k d
  rw [Array.getD_eq_getD_getElem?,Array.getElem?_replicate]
  split <;> rfl
 have hdm : ∀ k,k ∈ (List.range ts.length).drop (cops c).size ↔ (cops c).size ≤ k∧k < ts.length:=by
  intro k
  rw [List.mem_iff_getElem?]
  constructor
  ·rintro ⟨j,hj⟩
   rw [List.getElem?_drop] at hj
   have:=List.getElem?_eq_some_iff.1 hj
   obtain ⟨h1,h2⟩:=this
   simp at h1 h2
   omega
  ·rintro ⟨h1,h2⟩
   exact ⟨k - (cops c).size,by rw [List.getElem?_drop,show (cops c).size + (k - (cops c).size)=k by omega,List.getElem?_range h2]⟩
 refine wpAny_ob6 hd hok rd hrd val rows hloc hsm hre R0 hob hQ (cops c).size _ (List.range (cops c).size) ((List.range ts.length).drop (cops c).size) t _ _ env0 (by simp) (by simp) List.nodup_range ?_ ?_ ((List.nodup_range).sublist (List.drop_sublist _ _)) ?_ (ha.sub hsub) (fun e he _=>ha.2 e.2.1 e.2.2 (h0 e he)) ?_ ((hS.drewN 1).sub hH) List.perm_append_comm
 ·intro k
  rw [List.mem_range,hl]
  by_cases hk : k < (cops c).size <;> simp [hk]
 ·intro k hk hkl
  rw [hl,if_pos hk] at hkl
  cases hkl
 ·intro k
  rw [hdm,hl]
  constructor
  ·rintro ⟨h1,h2⟩
   refine ⟨h2,by rw [if_neg (by omega)],fun j hj hjl=>?_⟩
   rw [hl,if_pos hj] at hjl
   cases hjl
  ·rintro ⟨h1,h2,_⟩
   refine ⟨?_,h1⟩
   by_cases hk : k < (cops c).size
   ·rw [if_pos hk] at h2;cases h2
   ·omega
 ·intro k d hk hkl
  rw [hl,if_pos hk] at hkl
  cases hkl
end Go.Fw
end
section
set_option linter.unusedVariables false
set_option linter.unusedSimpArgs false
namespace Go.Proofs.YtmfppdpkalelhaaGreat
open Go Go.Fw
set_option maxRecDepth 10000
theorem sp_cells : ∀ (l : List Sp) (k : Nat),k < l.length → ((l.flatMap cSp).drop (k * 2)).take 2 = cSp (sat l k)∧(l.flatMap cSp)[k * 2]? = some (.int .i64 (sat l k).lo)∧(l.flatMap cSp)[k * 2 + 1]? = some (.int .i64 (sat l k).hi)
 | [],k,h=>absurd h (Nat.not_lt_zero _)
 | s::l,0,_=>by
  refine ⟨?_,rfl,rfl⟩
  rfl
 | s::l,k + 1,h=>by
  obtain ⟨h1,h2,h3⟩:=sp_cells l k (by simpa using h)
  have e : sat (s::l) (k + 1)=sat l k:=rfl
  rw [e]
  have hc : (s::l).flatMap cSp = .int .i64 s.lo :: .int .i64 s.hi::l.flatMap cSp:=rfl
  rw [hc,show (k + 1) * 2 = k * 2 + 1 + 1 by omega]
  exact ⟨by simpa using h1,by simpa using h2,by simpa using h3⟩
theorem sp_set : ∀ (l : List Sp) (k : Nat) (v : Int),k < l.length → (l.flatMap cSp).set (k * 2) (.int .i64 v)=(l.set k ⟨v,(sat l k).hi⟩).flatMap cSp∧(l.flatMap cSp).set (k * 2 + 1) (.int .i64 v)=(l.set k ⟨(sat l k).lo,v⟩).flatMap cSp
 | [],k,_,h=>absurd h (Nat.not_lt_zero _)
 | s::l,0,v,_=>⟨rfl,rfl⟩
 | s::l,k + 1,v,h=>by
  obtain ⟨h1,h2⟩:=sp_set l k v (by simpa using h)
  have e : sat (s::l) (k + 1)=sat l k:=rfl
  have hc : (s::l).flatMap cSp = .int .i64 s.lo :: .int .i64 s.hi::l.flatMap cSp:=rfl
  rw [e,hc,show (k + 1) * 2 = k * 2 + 1 + 1 by omega]
  simp only [List.set_cons_succ]
  rw [h1,h2]
  exact ⟨rfl,rfl⟩
theorem sp_splice : ∀ (l : List Sp) (k : Nat) (s : Sp),k < l.length → splice (l.flatMap cSp) (k * 2) (cSp s)=(l.set k s).flatMap cSp
 | [],k,_,h=>absurd h (Nat.not_lt_zero _)
 | x::l,0,s,_=>rfl
 | x::l,k + 1,s,h=>by
  have h1:=sp_splice l k s (by simpa using h)
  have hc : (x::l).flatMap cSp = .int .i64 x.lo :: .int .i64 x.hi::l.flatMap cSp:=rfl
  have hl2 : (cSp s).length = 2:=rfl
  unfold splice at h1 ⊢
  rw [hl2] at h1 ⊢
  rw [hc,show (k + 1) * 2 = k * 2 + 1 + 1 by omega,show k * 2 + 1 + 1 + 2 = (k * 2 + 2) + 1 + 1 by omega]
  simp only [List.take_succ_cons,List.drop_succ_cons,List.cons_append,List.set_cons_succ]
  rw [h1]
  rfl
theorem sp_one (l : List Sp) : (l.flatMap cSp).all (·.oneCell') = true:=by
 rw [List.all_eq_true]
 intro v hv
 obtain ⟨s,_,h⟩:=List.mem_flatMap.1 hv
 simp only [cSp,List.mem_cons,List.not_mem_nil,or_false] at h
 rcases h with rfl | rfl <;> rfl
theorem sp_len (l : List Sp) : (l.flatMap cSp).length = l.length * 2:=flat_len (fun _ _=>rfl)
def tsNa : List TOp:=[⟨some 11,[],[],[]⟩,⟨some 12,[],[],[]⟩,⟨some 13,[],[],[]⟩,⟨some 14,[2],[2],[]⟩,⟨some 15,[2,3],[3],[]⟩,⟨some 16,[2,3,4],[4],[]⟩,⟨some 17,[],[],[]⟩,⟨some 18,[2,3,4,5,6],[5,6],[]⟩,⟨some 19,[],[],[]⟩,⟨some 20,[8],[8],[]⟩,⟨some 21,[8,9],[9],[]⟩,⟨some 22,[8,9,10],[10],[]⟩,⟨some 23,[],[],[]⟩,⟨some 24,[8,9,10,11,12],[11,12],[]⟩,⟨some 25,[0,2,3,4,5,6,7,8,9,10,11],[0],[]⟩,⟨some 26,[0,2,3,4,5,6,7,8,9,10,11,14],[14],[]⟩,⟨none,[0,2,3,4,5,6,7,8,9,10,11,14,15],[15,7],[20]⟩,⟨some 27,[0,1,2,3,4,5,6,7,8,9,10,11,12,13,14,15,16],[1],[]⟩,⟨some 28,[0,1,2,3,4,5,6,7,8,9,10,11,12,13,14,15,16,17],[17],[]⟩,⟨none,[0,1,2,3,4,5,6,7,8,9,10,11,12,13,14,15,16,17,18],[18,13],[16]⟩,⟨none,[],[],[]⟩]
def valNa (b k2 cap b7 : Nat) (T : Nat) (l : List Sp) (kk : Nat) (s : Sp) (lo hi : Int) (k : Nat) (env : Env) : Value :=
 match k with
 | 0 => .pointer (some ⟨b,k2,none⟩)
 | 1 => .pointer (some ⟨b,k2,none⟩)
 | 2 => .pointer (some ⟨b,k2,none⟩)
 | 3 => .pointer (some ⟨b,k2,none⟩)
 | 4 => .pointer (some ⟨b,k2,none⟩)
 | 5 => .int .i64 s.lo
 | 6 => .int .i64 lo
 | 7 => .int .i64 (max s.lo lo)
 | 8 => .pointer (some ⟨b,k2,none⟩)
 | 9 => .pointer (some ⟨b,k2,none⟩)
 | 10 => .pointer (some ⟨b,k2 + 1,none⟩)
 | 11 => .int .i64 s.hi
 | 12 => .int .i64 hi
 | 13 => .int .i64 (min s.hi hi)
 | 14 => .pointer (some ⟨b,k2,none⟩)
 | 15 => .pointer (some ⟨b,k2,none⟩)
 | 16=>undef
 | 17 => .pointer (some ⟨b,k2,none⟩)
 | 18 => .pointer (some ⟨b,k2 + 1,none⟩)
 | 19=>undef
 | _=>undef
def rowsNa (b k2 cap b7 : Nat) (T : Nat) (l : List Sp) (kk : Nat) (s : Sp) (lo hi : Int) (k : Nat) (env : Env) : List Row :=
 match k with
 | 16=>[⟨b,0,(l.set kk ⟨max s.lo lo,s.hi⟩).flatMap cSp,some T,cap⟩]
 | 19=>[⟨b,0,(l.set kk ⟨max s.lo lo,min s.hi hi⟩).flatMap cSp,some T,cap⟩]
 | 20=>[⟨b,0,l.flatMap cSp,some T,cap⟩]
 | _=>[]
theorem locNa (b k2 cap b7 : Nat) (T : Nat) (l : List Sp) (kk : Nat) (s : Sp) (lo hi : Int) : ∀ k env i q9,i ≠ k → (tAt tsNa k).sup.contains i = false → valNa b k2 cap b7 T l kk s lo hi k (upd env i q9)=valNa b k2 cap b7 T l kk s lo hi k env∧rowsNa b k2 cap b7 T l kk s lo hi k (upd env i q9)=rowsNa b k2 cap b7 T l kk s lo hi k env:=by
 intro k env i q hk hs
 have hu : ∀ j,j ≠ i → upd env i q j = env j:=fun j hj=>by unfold upd;rw [if_neg hj]
 match k,hk,hs with
 | 0,_,_=>exact ⟨rfl,rfl⟩
 | 1,_,_=>exact ⟨rfl,rfl⟩
 | 2,_,_=>exact ⟨rfl,rfl⟩
 | 3,_,_=>exact ⟨rfl,rfl⟩
 | 4,_,_=>exact ⟨rfl,rfl⟩
 | 5,_,_=>exact ⟨rfl,rfl⟩
 | 6,_,_=>exact ⟨rfl,rfl⟩
 | 7,_,_=>exact ⟨rfl,rfl⟩
 | 8,_,_=>exact ⟨rfl,rfl⟩
 | 9,_,_=>exact ⟨rfl,rfl⟩
 | 10,_,_=>exact ⟨rfl,rfl⟩
 | 11,_,_=>exact ⟨rfl,rfl⟩
 | 12,_,_=>exact ⟨rfl,rfl⟩
 | 13,_,_=>exact ⟨rfl,rfl⟩
 | 14,_,_=>exact ⟨rfl,rfl⟩
 | 15,_,_=>exact ⟨rfl,rfl⟩
 | 16,_,_=>exact ⟨rfl,rfl⟩
 | 17,_,_=>exact ⟨rfl,rfl⟩
 | 18,_,_=>exact ⟨rfl,rfl⟩
 | 19,_,_=>exact ⟨rfl,rfl⟩
 | 20,_,_=>exact ⟨rfl,rfl⟩
 | _ + 21,_,_=>exact ⟨rfl,rfl⟩
def rdNa (k : Nat) : List Nat:=match k with
 | 5=>[20]
 | 11=>[20]
 | _=>[]
def tsNb : List TOp:=[⟨some 29,[],[],[]⟩,⟨some 30,[0],[0],[]⟩,⟨some 31,[0,1],[1],[]⟩,⟨some 32,[],[],[]⟩,⟨some 33,[0,1,2,3],[2,3],[]⟩,⟨some 6,[0,1,2,3,4],[4],[]⟩]
def valNb (b k2 b7 : Nat) (x y : Sp) (w : Bool) (k : Nat) (env : Env) : Value :=
 match k with
 | 0 => .pointer (some ⟨b,k2,none⟩)
 | 1 => .pointer (some ⟨b,k2,none⟩)
 | 2 => .agg (cSp x).toArray
 | 3 => .agg (cSp y).toArray
 | 4 => .bool w
 | 5 => .bool w
 | _=>undef
def rowsNb (b k2 b7 : Nat) (x y : Sp) (w : Bool) (k : Nat) (env : Env) : List Row :=
 match k with
 | _=>[]
theorem locNb (b k2 b7 : Nat) (x y : Sp) (w : Bool) : ∀ k env i q9,i ≠ k → (tAt tsNb k).sup.contains i = false → valNb b k2 b7 x y w k (upd env i q9)=valNb b k2 b7 x y w k env∧rowsNb b k2 b7 x y w k (upd env i q9)=rowsNb b k2 b7 x y w k env:=by
 intro k env i q hk hs
 have hu : ∀ j,j ≠ i → upd env i q j = env j:=fun j hj=>by unfold upd;rw [if_neg hj]
 match k,hk,hs with
 | 0,_,_=>exact ⟨rfl,rfl⟩
 | 1,_,_=>exact ⟨rfl,rfl⟩
 | 2,_,_=>exact ⟨rfl,rfl⟩
 | 3,_,_=>exact ⟨rfl,rfl⟩
 | 4,_,_=>exact ⟨rfl,rfl⟩
 | 5,_,_=>exact ⟨rfl,rfl⟩
 | _ + 6,_,_=>exact ⟨rfl,rfl⟩
set_option maxHeartbeats 8000000 in
theorem narrow_spec (l : List Sp) (k b cap T : Nat) (lo hi : Int) (H : List Row) (hk : k < l.length) :
  Fc Tryz.prog 131 [.pointer (some ⟨b,k * 2,none⟩),.int .i64 lo,.int .i64 hi] (⟨b,0,l.flatMap cSp,some T,cap⟩::H)
   (fun v H' => v = .bool (decide (cut (sat l k) ⟨lo,hi⟩ ≠ sat l k))∧H' = ⟨b,0,(nar l k ⟨lo,hi⟩).flatMap cSp,some T,cap⟩::H):=by
 obtain ⟨hc1,hc2,hc3⟩:=sp_cells l k hk
 obtain ⟨s,hs⟩ : ∃ s,s = sat l k:=⟨_,rfl⟩
 rw [← hs] at hc1 hc2 hc3
 have hlen:=sp_len l
 obtain ⟨k2,hk2⟩ : ∃ k2,k2 = k * 2:=⟨_,rfl⟩
 rw [← hk2] at hc1 hc2 hc3 ⊢
 have e1 : (l.flatMap cSp).set k2 (.int .i64 (max s.lo lo)) = (l.set k ⟨max s.lo lo,s.hi⟩).flatMap cSp:=by rw [hk2,hs];exact (sp_set l k _ hk).1
 have hl1 : (l.set k ⟨max s.lo lo,s.hi⟩).length = l.length:=List.length_set
 have e2 : ((l.set k ⟨max s.lo lo,s.hi⟩).flatMap cSp).set (k2 + 1) (.int .i64 (min s.hi hi)) = (l.set k ⟨max s.lo lo,min s.hi hi⟩).flatMap cSp:=by
  have h1:=(sp_set (l.set k ⟨max s.lo lo,s.hi⟩) k (min s.hi hi) (by omega)).2
  rw [sat_set hk,if_pos rfl,List.set_set] at h1
  rw [hk2];exact h1
 have hn : (l.set k ⟨max s.lo lo,min s.hi hi⟩) = nar l k ⟨lo,hi⟩:=by unfold nar cut;rw [← hs]
 have hln : (nar l k ⟨lo,hi⟩).length = l.length:=List.length_set
 obtain ⟨hd1,_,_⟩:=sp_cells (nar l k ⟨lo,hi⟩) k (by omega)
 have hsn : sat (nar l k ⟨lo,hi⟩) k = cut s ⟨lo,hi⟩:=by unfold nar;rw [sat_set hk,if_pos rfl, ← hs]
 rw [hsn, ← hk2] at hd1
 refine Fc.mk (callable Tryz.call131) Tryz.func131 rfl Tryz.ntmps131 rfl ?_;dsimp only [fr]
 repeat' (first | (refine uP rfl ?_;(first | ((first | refine uN rfl ?_);(first | (refine uE (EvF.nilCheck rfl rfl) rfl rfl ?_)|(refine uE (uL rfl rfl (LoadV.ownAgg (te rfl) rfl (qH _) hc1 rfl)) rfl rfl ?_)|(refine uE (uM rfl rfl) rfl rfl ?_)|(refine uE (uA rfl rfl) rfl rfl ?_)|(refine Xg.st (StF.alloc rfl Tryz.zeroValue24 rfl) rfl rfl ?_;rintro _ _ ⟨bx,rfl,rfl⟩)|(refine Xg.st0 (StF.storeAll (i:=0) rfl rfl rfl (te rfl) rfl rfl rfl rfl) rfl ?_;rintro _ _ ⟨rfl,rfl⟩;dsimp only [List.set])))))|(refine uD rfl ?_;refine hK _ _ ?_;clear hK K) | refine uS rfl ?_ | refine uR rfl (fun K hK=>?_))
 rename Nat=>b7
 refine X.permH (H' := ⟨b,0,l.flatMap cSp,some T,cap⟩::⟨b7,0,cSp s,some 24,2⟩::H) (List.Perm.swap _ _ _) ?_
 refine X.regionRd tsNa rdNa [0,1,2,7] [(0,.pointer (some ⟨b,k2,none⟩)),(1,.int .i64 lo),(2,.int .i64 hi),(7,.pointer (some ⟨b7,0,none⟩))] (valNa b k2 cap b7 T l k s lo hi) (rowsNa b k2 cap b7 T l k s lo hi) (fun _=>(0,0)) (⟨b7,0,cSp s,some 24,2⟩::H) rfl mixed (by repeat (first | exact uU _ | refine uV rfl ?_)) rfl (by kernel_rfl) (by kernel_rfl) (locNa b k2 cap b7 T l k s lo hi) (qR _) ?_ ?_
 ·repeat' (first | exact AllF.done rfl | (refine AllF.step rfl ?_ ?_;·(first | exact (Ob.ng rfl (ObK.pure (fun env R hR=>by exact ⟨_,uM rfl rfl,rfl⟩) rfl (fun _=>rfl))).toR | exact (Ob.ng rfl (ObK.pure (fun env R hR=>by exact ⟨_,uF rfl rfl (te rfl) rfl (te rfl) (by decide),rfl⟩) rfl (fun _=>rfl))).toR | (refine ObR.ng rfl ?_;(first | (exact fun env S hS hrd=>(StF.ofEv (EvF.nilCheck rfl rfl)).op.mono (fun v H' ⟨hv,hH⟩=>⟨(0,0),fun _=>hv,by rw [hH];exact List.Perm.refl _⟩))|(exact fun env S hS hrd=>(StF.ofEv (uL rfl rfl (uO (te rfl) rfl (hrd 20 (qH _) _ (qH _)) hc2))).op.mono (fun v H' ⟨hv,hH⟩=>⟨(0,0),fun _=>hv,by rw [hH];exact List.Perm.refl _⟩))|(exact fun env S hS hrd=>(StF.ofEv (uL rfl rfl (uO (te rfl) rfl (hrd 20 (qH _) _ (qH _)) hc3))).op.mono (fun v H' ⟨hv,hH⟩=>⟨(0,0),fun _=>hv,by rw [hH];exact List.Perm.refl _⟩))|(exact fun env S hS hrd=>(StF.ofEv (EvF.max64 rfl rfl rfl)).op.mono (fun v H' ⟨hv,hH⟩=>⟨(0,0),fun _=>hv,by rw [hH];exact List.Perm.refl _⟩))|(exact fun env S hS hrd=>(StF.ofEv (EvF.min64 rfl rfl rfl)).op.mono (fun v H' ⟨hv,hH⟩=>⟨(0,0),fun _=>hv,by rw [hH];exact List.Perm.refl _⟩))|(exact fun env S hS hrd=>(StF.storeOne (i:=0) (cs:=l.flatMap cSp) (j:=k2) rfl rfl rfl rfl (te rfl) rfl rfl (by omega)).op.mono (fun v H' ⟨hv,hH⟩=>⟨(0,0),fun h=>absurd rfl h,by rw [hH];show List.Perm (⟨b,0,(l.flatMap cSp).set k2 (.int .i64 (max s.lo lo)),some T,cap⟩::S) _;rw [e1];exact List.Perm.refl _⟩))|(exact fun env S hS hrd=>(StF.storeOne (i:=0) (cs:=(l.set k ⟨max s.lo lo,s.hi⟩).flatMap cSp) (j:=k2 + 1) rfl rfl rfl rfl (te rfl) rfl rfl (by rw [sp_len];omega)).op.mono (fun v H' ⟨hv,hH⟩=>⟨(0,0),fun h=>absurd rfl h,by rw [hH];show List.Perm (⟨b,0,((l.set k ⟨max s.lo lo,s.hi⟩).flatMap cSp).set (k2 + 1) (.int .i64 (min s.hi hi)),some T,cap⟩::S) _;rw [e2];exact List.Perm.refl _⟩)))))))
 intro env t ha2 hv
 refine ⟨_,ha2,?_⟩
 clear hv ha2
 show X _ _ _ _ (⟨b,0,(l.set k ⟨max s.lo lo,min s.hi hi⟩).flatMap cSp,some T,cap⟩::⟨b7,0,cSp s,some 24,2⟩::H) _
 rw [hn]
 clear env
 obtain ⟨w,hw⟩ : ∃ w,w = decide (cut s ⟨lo,hi⟩ ≠ s):=⟨_,rfl⟩
 rw [← hs, ← hw]
 have hwv : (!decide (cut s ⟨lo,hi⟩ = s)) = w:=by rw [hw];simp
 refine uS rfl ?_
 refine X.regionOb tsNb [0,7] [(0,.pointer (some ⟨b,k2,none⟩)),(7,.pointer (some ⟨b7,0,none⟩))] (valNb b k2 b7 (cut s ⟨lo,hi⟩) s w) (rowsNb b k2 b7 (cut s ⟨lo,hi⟩) s w) (fun _=>(0,0)) (⟨b,0,(nar l k ⟨lo,hi⟩).flatMap cSp,some T,cap⟩::⟨b7,0,cSp s,some 24,2⟩::H) rfl mixed (by repeat (first | exact uU _ | refine uV rfl ?_)) rfl (by kernel_rfl) (locNb b k2 b7 (cut s ⟨lo,hi⟩) s w) (qR _) ?_ ?_
 ·repeat' (first | exact AllF.done rfl | (refine AllF.step rfl ?_ ?_;·(first | fail | ((first | refine Ob.ng rfl ?_);(first | exact ObK.pure (fun env R hR=>by exact ⟨_,uM rfl rfl,rfl⟩) rfl (fun _=>rfl) | exact ObK.pure (fun env R hR=>by exact ⟨_,uA rfl rfl,rfl⟩) rfl (fun _=>rfl) | exact ObK.pure (fun env R hR=>by exact ⟨_,uL rfl rfl (uW (te rfl) rfl (hR _ (qT _ (qH _))) rfl),rfl⟩) rfl (fun _=>rfl)|(exact ObK.pure (fun env S hS=>⟨_,EvF.nilCheck rfl rfl,rfl⟩) rfl (fun _=>rfl))|(exact ObK.pure (fun env S hS=>⟨_,uL rfl rfl (LoadV.ownAgg (te rfl) rfl (hS _ (qH _)) hd1 rfl),rfl⟩) rfl (fun _=>rfl))|(exact ObK.pure (fun env S hS=>⟨_,EvF.eqSt rfl rfl rfl (by kernel_rfl) (fun w=>eqSp 9998 (cut s ⟨lo,hi⟩) s w) rfl,congrArg Value.bool hwv⟩) rfl (fun _=>rfl)))))))
 intro env t ha2 hv
 refine ⟨_,ha2.cons (hv 5 6 (Nat.le_of_ble_eq_true rfl) rfl),?_⟩
 clear hv ha2
 repeat' (first | refine X.ret rfl ?_)
 exact ret_one (by simp) Tryz.results131 rfl (H' := ⟨b,0,(nar l k ⟨lo,hi⟩).flatMap cSp,some T,cap⟩::H) (by repeat (first | exact qR _ | apply qK | apply qC)) ⟨rfl,rfl⟩
end Go.Proofs.YtmfppdpkalelhaaGreat
end
section
set_option linter.unusedVariables false
set_option linter.unusedSimpArgs false
namespace Go.Proofs.YtmfppdpkalelhaaGreat
open Go Go.Fw
set_option maxRecDepth 10000
def tsFi : List TOp:=[⟨some 23,[],[],[]⟩,⟨some 24,[],[],[]⟩,⟨some 25,[],[],[]⟩,⟨some 26,[2],[2],[]⟩,⟨some 27,[],[],[]⟩,⟨some 28,[],[],[]⟩,⟨some 29,[5],[5],[]⟩,⟨some 30,[4,5,6],[4,6],[]⟩,⟨some 31,[2,3,4,5,6,7],[3,7],[]⟩,⟨some 32,[2,3,4,5,6,7,8],[8],[]⟩,⟨some 33,[0],[0],[]⟩,⟨some 34,[0,1,2,3,4,5,6,7,8,9,10],[10,1],[]⟩,⟨none,[0,1,2,3,4,5,6,7,8,9,10,11],[11,9],[13]⟩,⟨none,[],[],[]⟩]
def valFi (b1 b2 b3 b5 ii m j ab ao : Nat) (R : Rm) (p : Pl) (e : Bx) (l : List Sp) (s : Sp) (v8 v9 v10 : Value) (k : Nat) (env : Env) : Value :=
 match k with
 | 0 => .int .i64 (ii : Nat)
 | 1 => .int .i64 (m : Nat)
 | 2 => .pointer (some ⟨b1,2,none⟩)
 | 3 => .slice (some ⟨ab,ao,none⟩) R.ages.length p.c1
 | 4 => .int .i64 (m : Nat)
 | 5 => .pointer (some ⟨b5,1,none⟩)
 | 6 => .int .i64 e.made
 | 7 => .int .i64 ((m : Nat) - e.made)
 | 8 => .pointer (some ⟨ab,ao + j * 2,none⟩)
 | 9 => .agg (cSp s).toArray
 | 10 => .pointer (some ⟨b3,0 + ii * 24,none⟩)
 | 11 => .pointer (some ⟨b3,0 + ii * 24 + m * 2,none⟩)
 | 12=>undef
 | _=>undef
def rowsFi (b1 b2 b3 b5 ii m j ab ao : Nat) (R : Rm) (p : Pl) (e : Bx) (l : List Sp) (s : Sp) (v8 v9 v10 : Value) (k : Nat) (env : Env) : List Row :=
 match k with
 | 12=>[⟨b3,0,(l.set (ii * 12 + m) s).flatMap cSp,some 149,96⟩]
 | 13=>[⟨b3,0,l.flatMap cSp,some 149,96⟩]
 | _=>[]
theorem locFi (b1 b2 b3 b5 ii m j ab ao : Nat) (R : Rm) (p : Pl) (e : Bx) (l : List Sp) (s : Sp) (v8 v9 v10 : Value) : ∀ k env i q9,i ≠ k → (tAt tsFi k).sup.contains i = false → valFi b1 b2 b3 b5 ii m j ab ao R p e l s v8 v9 v10 k (upd env i q9)=valFi b1 b2 b3 b5 ii m j ab ao R p e l s v8 v9 v10 k env∧rowsFi b1 b2 b3 b5 ii m j ab ao R p e l s v8 v9 v10 k (upd env i q9)=rowsFi b1 b2 b3 b5 ii m j ab ao R p e l s v8 v9 v10 k env:=by
 intro k env i q hk hs
 have hu : ∀ j,j ≠ i → upd env i q j = env j:=fun j hj=>by unfold upd;rw [if_neg hj]
 match k,hk,hs with
 | 0,_,_=>exact ⟨rfl,rfl⟩
 | 1,_,_=>exact ⟨rfl,rfl⟩
 | 2,_,_=>exact ⟨rfl,rfl⟩
 | 3,_,_=>exact ⟨rfl,rfl⟩
 | 4,_,_=>exact ⟨rfl,rfl⟩
 | 5,_,_=>exact ⟨rfl,rfl⟩
 | 6,_,_=>exact ⟨rfl,rfl⟩
 | 7,_,_=>exact ⟨rfl,rfl⟩
 | 8,_,_=>exact ⟨rfl,rfl⟩
 | 9,_,_=>exact ⟨rfl,rfl⟩
 | 10,_,_=>exact ⟨rfl,rfl⟩
 | 11,_,_=>exact ⟨rfl,rfl⟩
 | 12,_,_=>exact ⟨rfl,rfl⟩
 | 13,_,_=>exact ⟨rfl,rfl⟩
 | _ + 14,_,_=>exact ⟨rfl,rfl⟩
def zRc : List Sp:=List.replicate 48 ⟨0,0⟩
/-- the chart by ages, as far as boxes and months have been gone through -/
structure FirP (R : Rm) (l : List Sp) (i : Nat) (m : Int) : Prop where
 len : l.length = 48
 ok : ∀ k,0 ≤ (sat l k).lo∧(sat l k).lo ≤ (sat l k).hi∧(sat l k).hi ≤ 60
 at_ : ∀ (j : Nat) (b : Bx) (q : Int),R.boxes[j]? = some b → there R b q → (j < i∨(j = i∧q < m)) → sat l (j * 12 + q.toNat)=R.ages.getD (q - b.made).toNat ⟨0,0⟩
theorem zRc_at (k : Nat) : sat zRc k = ⟨0,0⟩:=by
 unfold sat zRc
 simp only [List.getD_eq_getElem?_getD,List.getElem?_replicate]
 split <;> rfl
theorem FirP.set {R : Rm} {l : List Sp} {i m : Nat} {e : Bx} (hr : okRm R) (h : FirP R l i m) (he : R.boxes[i]? = some e) (ht : there R e m) : FirP R (l.set (i * 12 + m) (R.ages.getD ((m : Int) - e.made).toNat ⟨0,0⟩)) i (m + 1 : Nat):=by
 have hl:=h.len
 have h2:=(List.getElem?_eq_some_iff.1 he).1
 have h3:=hr.b4
 have h4:=there_bd hr ht
 have hk : i * 12 + m < l.length:=by omega
 have ha:=hr.age ht
 refine ⟨by rw [List.length_set];exact hl,fun k=>?_,fun j b q hj hb hq=>?_⟩
 ·rw [sat_set hk]
  split
  ·omega
  ·exact h.ok k
 ·have h5:=there_bd hr hb
  rw [sat_set hk]
  by_cases e1 : j * 12 + q.toNat = i * 12 + m
  ·rw [if_pos e1]
   have e2 : j = i:=by omega
   subst e2
   rw [he] at hj
   cases hj
   rw [show q = (m : Int) by omega]
  ·rw [if_neg e1]
   exact h.at_ j b q hj hb (by omega)
theorem FirP.next {R : Rm} {l : List Sp} {i : Nat} {m : Int} (hr : okRm R) (h : FirP R l i m) (hm : R.months ≤ m) : FirP R l (i + 1) 0 :=
 ⟨h.len,h.ok,fun j b q hj hb hq=>h.at_ j b q hj hb (by
  have:=hb.2.2
  have:=there_bd hr hb
  rcases hq with hq | ⟨_,hq⟩
  ·by_cases e : j = i
   ·exact .inr ⟨e,by omega⟩
   ·exact .inl (by omega)
  ·exact .inl (by omega))⟩
theorem FirP.start {R : Rm} {l : List Sp} {i : Nat} {e : Bx} (hr : okRm R) (h : FirP R l i 0) (he : R.boxes[i]? = some e) : FirP R l i e.made :=
 ⟨h.len,h.ok,fun j b q hj hb hq=>h.at_ j b q hj hb (by
  rcases hq with hq | ⟨rfl,hq⟩
  ·exact .inl hq
  ·rw [he] at hj
   cases hj
   have:=hb.2.1
   omega)⟩
theorem FirP.done {R : Rm} {l : List Sp} {m : Int} (hr : okRm R) (h : FirP R l R.boxes.length m) : FirstC R l :=
 ⟨h.len,fun b q ht=>by
  obtain ⟨j,hj⟩:=box_at ht.1
  rw [cel_box hr.bx hj]
  exact h.at_ j b q hj ht (.inl (List.getElem?_eq_some_iff.1 hj).1),h.ok⟩
set_option maxHeartbeats 8000000 in
theorem first_spec (R : Rm) (p : Pl) (H : List Row) (hr : okRm R) (hR : RmOk H R p) :
  Fc Tryz.prog 125 [.agg (cRm R p).toArray] H (fun v H' => ∃ l,FirstC R l∧v = .agg (l.flatMap cSp).toArray∧H' = H):=by
 have hb4:=hr.b4
 have hm12:=hr.m12
 have hlen:=hr.len
 have hm1:=hr.m1
 obtain ⟨b0,o0,s0,ha0,_⟩:=hR.ages.elem (i:=0) (by omega)
 obtain ⟨a1,c1,a2,c2,a3,c3⟩:=p
 simp only at ha0
 subst ha0
 refine Fc.mk (callable Tryz.call125) Tryz.func125 rfl Tryz.ntmps125 rfl ?_;dsimp only [fr]
 repeat' (first | (refine uP rfl ?_;(first | ((first | refine uN rfl ?_);(first | (refine uE (uM rfl rfl) rfl rfl ?_)|(refine uE (uF rfl rfl (te rfl) rfl (te rfl) (by decide)) rfl rfl ?_)|(refine uE (EvF.lenSlice rfl rfl (te rfl)) rfl rfl ?_)|(refine uE (uL rfl rfl (uO (te rfl) rfl (qT _ (qT _ (qH _))) rfl)) rfl rfl ?_)|(refine Xg.st (StF.boxAgg rfl rfl) rfl rfl ?_;rintro _ _ ⟨bx,rfl,rfl⟩)|(refine Xg.st (StF.alloc rfl Tryz.zeroValue149 rfl) rfl rfl ?_;rintro _ _ ⟨bx,rfl,rfl⟩)))))|(refine uD rfl ?_;refine hK _ _ ?_;clear hK K) | refine uS rfl ?_ | refine uR rfl (fun K hK=>?_) | refine X.block rfl ?_)
 rename_i b1 b2
 generalize bx = b3
 refine X.lp rfl (fun q F' H' => ∃ (i : Nat) (l : List Sp),q = R.boxes.length - i∧i ≤ R.boxes.length∧FirP R l i 0∧H' = ⟨b3,0,l.flatMap cSp,some 149,96⟩::⟨b2,0,zRc.flatMap cSp,some 149,96⟩::⟨b1,0,cRm R ⟨some ⟨b0,o0,none⟩,c1,a2,c2,a3,c3⟩,some 32,5⟩::H ∧
   F' = [(1,.pointer (some ⟨b1,0,none⟩)),(2,.pointer (some ⟨b2,0,none⟩)),(3,.pointer (some ⟨b3,0,none⟩)),(8,.slice a2 R.boxes.length c2),(9,.int .i64 R.boxes.length),(10,.int .i64 i)])
  R.boxes.length [(1,.pointer (some ⟨b1,0,none⟩)),(2,.pointer (some ⟨b2,0,none⟩)),(3,.pointer (some ⟨b3,0,none⟩)),(8,.slice a2 R.boxes.length c2),(9,.int .i64 R.boxes.length),(10,.int .i64 (0 : Nat))] (⟨b3,0,zRc.flatMap cSp,some 149,96⟩::⟨b2,0,zRc.flatMap cSp,some 149,96⟩::⟨b1,0,cRm R ⟨some ⟨b0,o0,none⟩,c1,a2,c2,a3,c3⟩,some 32,5⟩::H) (by repeat (first | exact uU _ | refine uV rfl ?_)) (by repeat (first | exact qR _ | apply qK | apply qC)) ⟨0,zRc,by omega,by omega,⟨rfl,fun k=>by rw [zRc_at];exact ⟨by decide,by decide,by decide⟩,fun j b q hj hb hq=>by
   have:=(okBoxes_mem _ _ _ hr.bx b hb.1).2.2.1
   have:=hb.2.1
   omega⟩,rfl,rfl⟩ ?_
 rintro _ _ _ ⟨i,l,rfl,hi,hl,rfl,rfl⟩
 repeat' (first | (refine uP rfl ?_;(first | ((first | refine uN rfl ?_);(first | (refine uE (uM rfl rfl) rfl rfl ?_)|(refine uE (uQ rfl rfl rfl rfl) rfl rfl ?_)))))|(refine uD rfl ?_;refine hK _ _ ?_;clear hK K) | refine uS rfl ?_ | refine uR rfl (fun K hK=>?_) | refine X.block rfl ?_ | (refine X.brk rfl ?_;repeat (first | refine blockX_hit rfl ?_ | refine blockX_miss (by decide) ?_)) | refine X.skip rfl ?_ | (refine X.ite rfl rfl (fun hc=>?_);(first | (with_reducible refine Xb.case hc (fun h=>?_) (fun h=>?_))) <;> clear hc))
 ·obtain ⟨bb,off,e,rfl,he⟩:=hR.boxes.elem (i:=i) (by omega)
  have hmem:=List.mem_of_getElem? he
  have hbx:=okBoxes_mem _ _ _ hr.bx e hmem
  obtain ⟨m0,hm0⟩ : ∃ m0 : Nat,(m0 : Int)=e.made:=⟨e.made.toNat,by omega⟩
  repeat' (first | (refine uP rfl ?_;(first | ((first | refine uN rfl ?_);(first | (refine uE (uL rfl rfl (LoadV.elA0 (hR.boxes.sub (fun _ h=>by repeat (first | exact h | apply qT))) he (te rfl) rfl (fun _ hm=>hm) rfl)) rfl rfl ?_)|(refine uE (uA rfl rfl) rfl rfl ?_)|(refine uE (uF rfl rfl (te rfl) rfl (te rfl) (by decide)) rfl rfl ?_)|(refine uE (EvF.indexSlice rfl rfl rfl (te rfl) (te rfl) (by omega) (by omega)) rfl rfl ?_)|(refine uE (uL rfl rfl (uO (te rfl) rfl (qH _) rfl)) rfl rfl ?_)|(refine Xg.st (StF.alloc rfl Tryz.zeroValue24 rfl) rfl rfl ?_;rintro _ _ ⟨bx,rfl,rfl⟩)|(refine Xg.st0 (StF.storeAll (i:=0) rfl rfl rfl (te rfl) rfl rfl rfl rfl) rfl ?_;rintro _ _ ⟨rfl,rfl⟩;dsimp only [List.set])))))|(refine uD rfl ?_;refine hK _ _ ?_;clear hK K) | refine uS rfl ?_ | refine uR rfl (fun K hK=>?_) | refine X.block rfl ?_)
  rename Nat=>b5
  refine X.permH (H' := ⟨b3,0,l.flatMap cSp,some 149,96⟩::⟨b5,0,cBx e,some 47,2⟩::⟨b2,0,zRc.flatMap cSp,some 149,96⟩::⟨b1,0,cRm R ⟨some ⟨b0,o0,none⟩,c1,some ⟨bb,off,none⟩,c2,a3,c3⟩,some 32,5⟩::H) (List.Perm.swap _ _ _) ?_
  refine X.lp rfl (fun q F' H' => ∃ (m : Nat) (l : List Sp),q = R.months.toNat - m∧(m : Int)≤R.months∧e.made ≤ m∧FirP R l i m∧H' = ⟨b3,0,l.flatMap cSp,some 149,96⟩::⟨b5,0,cBx e,some 47,2⟩::⟨b2,0,zRc.flatMap cSp,some 149,96⟩::⟨b1,0,cRm R ⟨some ⟨b0,o0,none⟩,c1,some ⟨bb,off,none⟩,c2,a3,c3⟩,some 32,5⟩::H ∧
    F' = [(1,.pointer (some ⟨b1,0,none⟩)),(2,.pointer (some ⟨b2,0,none⟩)),(3,.pointer (some ⟨b3,0,none⟩)),(4,.int .i64 i),(5,.pointer (some ⟨b5,0,none⟩)),(6,.int .i64 m),(8,.slice (some ⟨bb,off,none⟩) R.boxes.length c2),(9,.int .i64 R.boxes.length),(10,.int .i64 i)])
   (R.months.toNat - m0) [(1,.pointer (some ⟨b1,0,none⟩)),(2,.pointer (some ⟨b2,0,none⟩)),(3,.pointer (some ⟨b3,0,none⟩)),(4,.int .i64 i),(5,.pointer (some ⟨b5,0,none⟩)),(6,.int .i64 m0),(8,.slice (some ⟨bb,off,none⟩) R.boxes.length c2),(9,.int .i64 R.boxes.length),(10,.int .i64 i)] _ (by rw [hm0];exact (by repeat (first | exact uU _ | refine uV rfl ?_))) (qR _) ⟨m0,l,rfl,by omega,by omega,by rw [hm0];exact hl.start hr he,rfl,rfl⟩ ?_
  rintro _ _ _ ⟨m,l,rfl,hm,hme,hl,rfl,rfl⟩
  repeat' (first | (refine uP rfl ?_;(first | ((first | refine uN rfl ?_);(first | (refine uE (uM rfl rfl) rfl rfl ?_)|(refine uE (uQ rfl rfl rfl rfl) rfl rfl ?_)|(refine uE (EvF.add64 rfl rfl rfl (by omega) (by omega)) rfl rfl ?_)|(refine uE (uF rfl rfl (te rfl) rfl (te rfl) (by decide)) rfl rfl ?_)|(refine uE (uL rfl rfl (uO (te rfl) rfl (qT _ (qT _ (qT _ (qH _)))) rfl)) rfl rfl ?_)))))|(refine uD rfl ?_;refine hK _ _ ?_;clear hK K) | refine uS rfl ?_ | refine uR rfl (fun K hK=>?_) | refine X.block rfl ?_ | (refine X.brk rfl ?_;repeat (first | refine blockX_hit rfl ?_ | refine blockX_miss (by decide) ?_)) | refine X.skip rfl ?_ | (refine X.ite rfl rfl (fun hc=>?_);(first | (with_reducible refine Xb.case hc (fun h=>?_) (fun h=>?_))) <;> clear hc))
  ·have hml : (m : Int)<R.months:=by omega
   have ht : there R e m:=⟨hmem,hme,by omega⟩
   obtain ⟨j,hj⟩ : ∃ j : Nat,(j : Int)=(m : Int) - e.made:=⟨((m : Int) - e.made).toNat,by omega⟩
   obtain ⟨ab,ao,s,hab,hs⟩:=hR.ages.elem (i:=j) (by omega)
   cases hab
   have hsg : R.ages.getD ((m : Int) - e.made).toNat ⟨0,0⟩ = s:=by rw [← hj];simp [List.getD_eq_getElem?_getD,hs]
   have hnx:=hl.set hr he ht
   rw [hsg] at hnx
   have hll:=hl.len
   have hil : i < R.boxes.length:=by omega
   have hst : (l.flatMap cSp).length = 96:=by rw [sp_len,hll]
   have hsp : splice (l.flatMap cSp) (0 + i * 24 + m * 2) (cSp s)=(l.set (i * 12 + m) s).flatMap cSp:=by
    rw [show 0 + i * 24 + m * 2 = (i * 12 + m) * 2 by omega]
    exact sp_splice l (i * 12 + m) s (by omega)
   refine X.regionOb tsFi [1,2,3,4,5,6,8,9,10] [(1,.pointer (some ⟨b1,0,none⟩)),(2,.pointer (some ⟨b2,0,none⟩)),(3,.pointer (some ⟨b3,0,none⟩)),(4,.int .i64 (i : Nat)),(5,.pointer (some ⟨b5,0,none⟩)),(6,.int .i64 (m : Nat)),(8,(.slice (some ⟨bb,off,none⟩) R.boxes.length c2)),(9,(.int .i64 R.boxes.length)),(10,(.int .i64 i))] (valFi b1 b2 b3 b5 i m j b0 o0 R ⟨some ⟨b0,o0,none⟩,c1,some ⟨bb,off,none⟩,c2,a3,c3⟩ e l s (.slice (some ⟨bb,off,none⟩) R.boxes.length c2) (.int .i64 R.boxes.length) (.int .i64 i)) (rowsFi b1 b2 b3 b5 i m j b0 o0 R ⟨some ⟨b0,o0,none⟩,c1,some ⟨bb,off,none⟩,c2,a3,c3⟩ e l s (.slice (some ⟨bb,off,none⟩) R.boxes.length c2) (.int .i64 R.boxes.length) (.int .i64 i)) (fun _=>(0,0)) (⟨b5,0,cBx e,some 47,2⟩::⟨b2,0,zRc.flatMap cSp,some 149,96⟩::⟨b1,0,cRm R ⟨some ⟨b0,o0,none⟩,c1,some ⟨bb,off,none⟩,c2,a3,c3⟩,some 32,5⟩::H) rfl mixed (by repeat (first | exact uU _ | refine uV rfl ?_)) rfl (by kernel_rfl) (locFi b1 b2 b3 b5 i m j b0 o0 R ⟨some ⟨b0,o0,none⟩,c1,some ⟨bb,off,none⟩,c2,a3,c3⟩ e l s (.slice (some ⟨bb,off,none⟩) R.boxes.length c2) (.int .i64 R.boxes.length) (.int .i64 i)) (qR _) ?_ ?_
   ·repeat' (first | exact AllF.done rfl | (refine AllF.step rfl ?_ ?_;·(first | fail | ((first | refine Ob.ng rfl ?_);(first | exact ObK.pure (fun env R hR=>by exact ⟨_,uM rfl rfl,rfl⟩) rfl (fun _=>rfl) | exact ObK.pure (fun env R hR=>by exact ⟨_,uF rfl rfl (te rfl) rfl (te rfl) (by decide),rfl⟩) rfl (fun _=>rfl) | exact ObK.pure (fun env R hR=>by exact ⟨_,uL rfl rfl (uO (te rfl) rfl (hR _ (qH _)) rfl),rfl⟩) rfl (fun _=>rfl) | exact ObK.pure (fun env R hR=>by exact ⟨_,uL rfl rfl (uO (te rfl) rfl (hR _ (qT _ (qT _ (qH _)))) rfl),rfl⟩) rfl (fun _=>rfl)|((refine ObK.pure (fun env S hS=>⟨.pointer (some ⟨b0,o0 + ((m : Int) - e.made).toNat * 2,none⟩),?_,by rw [← hj];rfl⟩) rfl (fun _=>rfl);exact EvF.indexSlice (i:=(m : Int) - e.made) (off:=o0) (b:=b0) (T:=28) (e:=24) (len:=R.ages.length) rfl rfl rfl (te rfl) (te rfl) (by omega) (by omega)))|(exact ObK.pure (fun env S hS=>⟨_,uL rfl rfl (LoadV.elA0 (hR.ages.sub (fun _ h=>hS _ (List.mem_append_right [_,_,_] h))) hs (te rfl) rfl (fun _ h=>h) rfl),rfl⟩) rfl (fun _=>rfl))|((refine ObK.pure (fun env S hS=>⟨.pointer (some ⟨b3,0 + i * 24,none⟩),?_,rfl⟩) rfl (fun _=>rfl);exact EvF.indexArray (i:=(i : Int)) (off:=0) (b:=b3) (T:=149) (e:=147) (len:=4) rfl rfl rfl (te rfl) (te rfl) (by omega) (by omega)))|((refine ObK.pure (fun env S hS=>⟨.pointer (some ⟨b3,0 + i * 24 + m * 2,none⟩),?_,rfl⟩) rfl (fun _=>rfl);exact EvF.indexArray (i:=(m : Int)) (off:=0 + i * 24) (b:=b3) (T:=147) (e:=24) (len:=12) rfl rfl rfl (te rfl) (te rfl) (by omega) (by omega)))|(exact fun env S hS=>(StF.storeAt (q:=0) (j:=0 + i * 24 + m * 2) (vs:=cSp s) (cs:=l.flatMap cSp) rfl rfl rfl (te rfl) rfl rfl rfl (by rw [hst];show 0 + i * 24 + m * 2 + 2 ≤ 96;omega)).op.mono (fun v H' ⟨hv,hH⟩=>⟨(0,0),fun h=>absurd rfl h,by rw [hH];show List.Perm (⟨b3,0,splice (l.flatMap cSp) (0 + i * 24 + m * 2) (cSp s),some 149,96⟩::S) _;rw [hsp];exact List.Perm.refl _⟩))|(exact ObK.pure (fun env S hS=>⟨_,EvF.sub64 rfl rfl rfl (by omega) (by omega),rfl⟩) rfl (fun _=>rfl)))))))
   intro env t ha2 hv
   refine ⟨_,ha2,?_⟩
   clear hv ha2
   show X _ _ _ _ (⟨b3,0,(l.set (i * 12 + m) s).flatMap cSp,some 149,96⟩::⟨b5,0,cBx e,some 47,2⟩::⟨b2,0,zRc.flatMap cSp,some 149,96⟩::⟨b1,0,cRm R ⟨some ⟨b0,o0,none⟩,c1,some ⟨bb,off,none⟩,c2,a3,c3⟩,some 32,5⟩::H) _
   clear env
   repeat' (first | (refine uP rfl ?_;(first | ((first | refine uN rfl ?_);(first | (refine uE (uM rfl rfl) rfl rfl ?_)|(refine uE (uA rfl rfl) rfl rfl ?_)|(refine uE (EvF.add64 rfl rfl rfl (by omega) (by omega)) rfl rfl ?_)))))|(refine uD rfl ?_;refine hK _ _ ?_;clear hK K) | refine uR rfl (fun K hK=>?_))
   exact ⟨_,[(1,.pointer (some ⟨b1,0,none⟩)),(2,.pointer (some ⟨b2,0,none⟩)),(3,.pointer (some ⟨b3,0,none⟩)),(4,.int .i64 i),(5,.pointer (some ⟨b5,0,none⟩)),(6,.int .i64 (m + 1 : Nat)),(8,.slice (some ⟨bb,off,none⟩) R.boxes.length c2),(9,.int .i64 R.boxes.length),(10,.int .i64 i)],_,(by repeat (first | exact uU _ | refine uV rfl ?_)),(by repeat (first | exact qR _ | apply qK | apply qC)),⟨m + 1,_,rfl,by omega,by omega,hnx,rfl,rfl⟩,by omega⟩
  ·have hm2 : (m : Int)=R.months:=by omega
   refine ⟨_,[(1,.pointer (some ⟨b1,0,none⟩)),(2,.pointer (some ⟨b2,0,none⟩)),(3,.pointer (some ⟨b3,0,none⟩)),(8,.slice (some ⟨bb,off,none⟩) R.boxes.length c2),(9,.int .i64 R.boxes.length),(10,.int .i64 (i + 1 : Nat))],⟨b3,0,l.flatMap cSp,some 149,96⟩::⟨b2,0,zRc.flatMap cSp,some 149,96⟩::⟨b1,0,cRm R ⟨some ⟨b0,o0,none⟩,c1,some ⟨bb,off,none⟩,c2,a3,c3⟩,some 32,5⟩::H,(by repeat (first | exact uU _ | refine uV rfl ?_)),(by repeat (first | exact qR _ | apply qK | apply qC)),⟨i + 1,l,rfl,by omega,hl.next hr (by omega),rfl,rfl⟩,by omega⟩
 ·have hi2 : i = R.boxes.length:=by omega
  subst hi2
  have hll : (l.flatMap cSp).length = 96:=by rw [sp_len,hl.len]
  repeat' (first | (refine uP rfl ?_;(first | ((first | refine uN rfl ?_);(first | (refine uE (uL rfl rfl (uW (te rfl) rfl (qH _) hll)) rfl rfl ?_)|(refine Xg.st0 (StF.storeAll (i:=1) (vs:=l.flatMap cSp) (cs:=zRc.flatMap cSp) rfl rfl rfl (te rfl) rfl hll (sp_one l) (by rw [hll,sp_len];rfl)) rfl ?_;rintro _ _ ⟨rfl,rfl⟩;dsimp only [List.set])))))|(refine uD rfl ?_;refine hK _ _ ?_;clear hK K) | refine X.ret rfl ?_)
  exact ret_one (v := .agg (l.flatMap cSp).toArray) (by simp) Tryz.results125 ⟨_,rfl,uW (te rfl) rfl (qT _ (qH _)) hll⟩ (H' := H) (by repeat (first | exact qR _ | apply qK | apply qC)) ⟨l,hl.done hr,rfl,rfl⟩
end Go.Proofs.YtmfppdpkalelhaaGreat
end
section
set_option linter.unusedVariables false
set_option linter.unusedSimpArgs false
namespace Go.Proofs.YtmfppdpkalelhaaGreat
open Go Go.Fw
set_option maxRecDepth 10000
theorem X.toN {P : Program} {n : Nat} {c d : Code} {F F1 : FS} {H H1 : List Row} {Q : QX} (h : X P n c F H (fun e F' H' => e = .normal∧Sub F1 F'∧H1.Sublist H')) (k : X P n d F1 H1 Q) : X P n c F H (thenX (fun F H=>X P n d F H Q) Q):=by
 unfold X at h k ⊢
 intro t ha
 refine (h t ha).mono ?_
 rintro e t' H' ⟨F',ha',rfl,h2,h3⟩
 refine ⟨F',ha',?_⟩
 have:=X.weak (P:=P) (n:=n) (c:=d) (Q:=Q) h2 h3 (by unfold X;exact k)
 unfold X at this
 exact this
theorem X.toQ {P : Program} {n : Nat} {c : Code} {F F1 : FS} {H H1 : List Row} {Q : QX} (h : X P n c F H (fun e F' H' => e = .normal∧Sub F1 F'∧H1.Sublist H')) (k : ∀ F' H',Sub F1 F' → H1.Sublist H' → Q .normal F' H') : X P n c F H Q:=by
 unfold X at h ⊢
 intro t ha
 refine (h t ha).mono ?_
 rintro e t' H' ⟨F',ha',rfl,h2,h3⟩
 exact ⟨F',ha',k F' H' h2 h3⟩
/-- only cells of months in the house are narrowed -/
def Same (R : Rm) (l0 cur : List Sp) : Prop := ∀ k,(∀ b m,there R b m → cel R ⟨b.id,m⟩ ≠ k) → sat cur k = sat l0 k
theorem Same.nar {R : Rm} {l0 cur : List Sp} {b : Bx} {m : Int} {k : Nat} {t : Sp} (h : Same R l0 cur) (hl : cur.length = 48) (ht : there R b m) (hk : cel R ⟨b.id,m⟩ = k) (h48 : k < 48) : Same R l0 (nar cur k t):=by
 intro j hj
 unfold Proofs.YtmfppdpkalelhaaGreat.nar
 rw [sat_set (by omega),if_neg (fun e=>hj b m ht (by rw [hk,e]))]
 exact h j hj
/-- between the rounds of the closing -/
structure Cl (R : Rm) (M : List Mt) (c cur : List Sp) (ag : Bool) : Prop where
 len : cur.length = 48
 sub : ∀ k,(sat c k).lo ≤ (sat cur k).lo∧(sat cur k).hi ≤ (sat c k).hi
 ok : ∀ k,0 ≤ (sat cur k).lo∧(sat cur k).lo ≤ (sat cur k).hi∧(sat cur k).hi ≤ 60
 keep : ∀ z,Tru R M z → Inn R c z → Inn R cur z
 fix : ag = false → Fixed R M cur
/-- within a round, in the months -/
structure Mo (R : Rm) (M : List Mt) (l0 cur : List Sp) (ag : Bool) (i : Nat) (m : Int) : Prop where
 nv : ∃ n : Nat,(n : Int)≤24 * i + 2 * m∧Nv R M l0 cur ag n
 same : Same R l0 cur
 no : ag = false → ∀ (j : Nat) (b : Bx) (q : Int),R.boxes[j]? = some b → there R b q → there R b (q + 1) → (j < i∨(j = i∧q < m)) → Fits l0 (j * 12 + (q + 1).toNat) (j * 12 + q.toNat) 0 R.step
/-- within a round, in the matches -/
structure Ma (R : Rm) (M : List Mt) (l0 cur : List Sp) (ag : Bool) (k : Nat) : Prop where
 nv : ∃ n : Nat,n ≤ 200 + 2 * k∧Nv R M l0 cur ag n
 same : Same R l0 cur
 step : ag = false → ∀ b m,there R b m → there R b (m + 1) → Fits l0 (cel R ⟨b.id,m + 1⟩) (cel R ⟨b.id,m⟩) 0 R.step
 mat : ag = false → ∀ (j : Nat) (x : Mt),M[j]? = some x → j < k → Fits l0 (cel R ⟨x.a,x.month⟩) (cel R ⟨x.b,x.month⟩) x.lo x.hi
theorem Mo.next {R : Rm} {M : List Mt} {l0 cur : List Sp} {ag : Bool} {i : Nat} {m : Int} (hr : okRm R) (h : Mo R M l0 cur ag i m) (hm : m ≤ 12) (h2 : R.months ≤ m + 1) : Mo R M l0 cur ag (i + 1) 0 :=
 ⟨by obtain ⟨n,h1,h3⟩:=h.nv;exact ⟨n,by omega,h3⟩,h.same,fun e j b q hj hb hb2 hq=>h.no e j b q hj hb hb2 (by
  have:=hb2.2.2
  have:=there_bd hr hb
  rcases hq with hq | ⟨_,hq⟩
  ·by_cases e : j = i
   ·exact .inr ⟨e,by omega⟩
   ·exact .inl (by omega)
  ·exact .inl (by omega))⟩
theorem Mo.start {R : Rm} {M : List Mt} {l0 cur : List Sp} {ag : Bool} {i : Nat} {e : Bx} (hr : okRm R) (h : Mo R M l0 cur ag i 0) (he : R.boxes[i]? = some e) : Mo R M l0 cur ag i e.made :=
 ⟨by
  have:=(okBoxes_mem _ _ _ hr.bx e (List.mem_of_getElem? he)).2.2.1
  obtain ⟨n,h1,h3⟩:=h.nv
  exact ⟨n,by omega,h3⟩,h.same,fun ea j b q hj hb hb2 hq=>h.no ea j b q hj hb hb2 (by
  rcases hq with hq | ⟨rfl,hq⟩
  ·exact .inl hq
  ·rw [he] at hj
   cases hj
   have:=hb.2.1
   omega)⟩
theorem Mo.ma {R : Rm} {M : List Mt} {l0 cur : List Sp} {ag : Bool} {i : Nat} {m : Int} (hr : okRm R) (h : Mo R M l0 cur ag i m) (hi : i = R.boxes.length) (hm : m ≤ 12) : Ma R M l0 cur ag 0:=by
 have:=hr.b4
 obtain ⟨n,h1,h3⟩:=h.nv
 refine ⟨⟨n,by omega,h3⟩,h.same,fun e b q h1 h2=>?_,fun _ _ _ _ h=>absurd h (Nat.not_lt_zero _)⟩
 obtain ⟨j,hj⟩:=box_at h1.1
 have:=h.no e j b q hj h1 h2 (.inl (by rw [hi];exact (List.getElem?_eq_some_iff.1 hj).1))
 rw [cel_box hr.bx hj,cel_box hr.bx hj]
 exact this
/-- one month's two narrowings -/
theorem Mo.set {R : Rm} {M : List Mt} {l0 cur : List Sp} {ag : Bool} {i m : Nat} {e : Bx} {x y : Sp} (hr : okRm R) (h : Mo R M l0 cur ag i m) (he : R.boxes[i]? = some e) (ht : there R e m) (ht2 : there R e ((m : Int) + 1))
  (hx : x = sat cur (i * 12 + m)) (hy : y = sat cur (i * 12 + (m + 1))) (l1 l2 : List Sp) (w1 w2 : Bool)
  (hl1 : l1 = nar cur (i * 12 + m) ⟨y.lo - R.step,y.hi⟩) (hl2 : l2 = nar l1 (i * 12 + (m + 1)) ⟨x.lo,x.hi + R.step⟩)
  (hw1 : w1 = decide (cut (sat cur (i * 12 + m)) ⟨y.lo - R.step,y.hi⟩ ≠ sat cur (i * 12 + m))) (hw2 : w2 = decide (cut (sat l1 (i * 12 + (m + 1))) ⟨x.lo,x.hi + R.step⟩ ≠ sat l1 (i * 12 + (m + 1)))) :
  Mo R M l0 l2 ((ag || w1) || w2) i (m + 1 : Nat):=by
 obtain ⟨n,h1,h3⟩:=h.nv
 have hb4:=hr.b4
 have hil:=(List.getElem?_eq_some_iff.1 he).1
 have hbd:=there_bd hr ht2
 have hs0:=hr.s0
 have hs60:=hr.s60
 have hc1 : cel R ⟨e.id,(m : Int)⟩ = i * 12 + m:=cel_box hr.bx he m
 have hc2 : cel R ⟨e.id,(m : Int) + 1⟩ = i * 12 + (m + 1):=cel_box hr.bx he ((m : Int) + 1)
 have bx:=h3.bd (i * 12 + m)
 have by_:=h3.bd (i * 12 + (m + 1))
 rw [← hx] at bx
 rw [← hy] at by_
 have hn1 : Nv R M l0 l1 (ag || w1) (n + 1):=by
  rw [hl1]
  refine h3.narrow (by omega) (by dsimp only;omega) (fun z hz _ hI b q hb hq=>?_) w1 (by rw [hw1];exact decide_eq_true_iff)
  rw [← hc1] at hq
  obtain ⟨rfl,rfl⟩:=cel_inj hr hb ht hq
  have k1:=hz.step b m ht ht2
  have k2:=hI b _ ht2
  rw [hc2, ← hy] at k2
  unfold holds at k2 ⊢
  dsimp only
  omega
 have hn2 : Nv R M l0 l2 ((ag || w1) || w2) (n + 1 + 1):=by
  rw [hl2]
  have hk:=hn1.keep
  refine hn1.narrow (by omega) (by dsimp only;omega) (fun z hz hI0 hI b q hb hq=>?_) w2 (by rw [hw2];exact decide_eq_true_iff)
  rw [← hc2] at hq
  obtain ⟨rfl,rfl⟩:=cel_inj hr hb ht2 hq
  have k1:=hz.step b m ht ht2
  have k2:=h3.keep z hz hI0 b _ ht
  rw [hc1, ← hx] at k2
  unfold holds at k2 ⊢
  dsimp only
  omega
 refine ⟨⟨n + 1 + 1,by omega,hn2⟩,by rw [hl2];refine Same.nar ?_ hn1.len ht2 hc2 (by omega);rw [hl1];exact h.same.nar h3.len ht hc1 (by omega),fun ea j b q hj hb hb2 hq=>?_⟩
 have ea1 : ag = false:=by cases ag <;> simp_all
 have ew1 : w1 = false:=by cases w1 <;> simp_all
 have ew2 : w2 = false:=by cases w2 <;> simp_all
 have h5:=there_bd hr hb
 by_cases e1 : j < i∨(j = i∧q < m)
 ·exact h.no ea1 j b q hj hb hb2 e1
 ·have e2 : j = i∧q = m:=by omega
  obtain ⟨rfl,rfl⟩:=e2
  have q0:=h3.no ea1
  subst q0
  have q1:=hn1.no (by rw [ea1,ew1];rfl)
  rw [ew1] at hw1
  rw [ew2,q1] at hw2
  have f1:=of_decide_eq_false hw1.symm
  have f2:=of_decide_eq_false hw2.symm
  have f1:=Classical.byContradiction f1
  have f2:=Classical.byContradiction f2
  rw [hy] at f1
  rw [hx] at f2
  have r1:=cut_same f1
  have r2:=cut_same f2
  dsimp only at r1 r2
  have t1 : ((m : Int) + 1).toNat = m + 1:=by omega
  have t2 : (m : Int).toNat = m:=by omega
  rw [t1,t2]
  unfold Fits
  omega
/-- one match's two narrowings -/
theorem Ma.set {R : Rm} {M : List Mt} {l0 cur : List Sp} {ag : Bool} {k : Nat} {x : Mt} {u v : Sp} (hr : okRm R) (hm : matsThere R M) (h : Ma R M l0 cur ag k) (hk : k ≤ 100) (he : M[k]? = some x)
  (hu : u = sat cur (cel R ⟨x.a,x.month⟩)) (hv : v = sat cur (cel R ⟨x.b,x.month⟩)) (l1 l2 : List Sp) (w1 w2 : Bool)
  (hl1 : l1 = nar cur (cel R ⟨x.a,x.month⟩) ⟨v.lo + x.lo,v.hi + x.hi⟩) (hl2 : l2 = nar l1 (cel R ⟨x.b,x.month⟩) ⟨u.lo - x.hi,u.hi - x.lo⟩)
  (hw1 : w1 = decide (cut (sat cur (cel R ⟨x.a,x.month⟩)) ⟨v.lo + x.lo,v.hi + x.hi⟩ ≠ sat cur (cel R ⟨x.a,x.month⟩))) (hw2 : w2 = decide (cut (sat l1 (cel R ⟨x.b,x.month⟩)) ⟨u.lo - x.hi,u.hi - x.lo⟩ ≠ sat l1 (cel R ⟨x.b,x.month⟩))) :
  Ma R M l0 l2 ((ag || w1) || w2) (k + 1):=by
 obtain ⟨n,h1,h3⟩:=h.nv
 have hxm:=List.mem_of_getElem? he
 obtain ⟨⟨ba,hta,ea⟩,⟨bb,htb,eb⟩,h60⟩:=hm x hxm
 have hlt1:=cel_lt hr hta
 have hlt2:=cel_lt hr htb
 rw [ea] at hlt1
 rw [eb] at hlt2
 have bu:=h3.bd (cel R ⟨x.a,x.month⟩)
 have bv:=h3.bd (cel R ⟨x.b,x.month⟩)
 rw [← hu] at bu
 rw [← hv] at bv
 have hn1 : Nv R M l0 l1 (ag || w1) (n + 1):=by
  rw [hl1]
  refine h3.narrow hlt1 (by dsimp only;omega) (fun z hz _ hI b q hb hq=>?_) w1 (by rw [hw1];exact decide_eq_true_iff)
  rw [← ea] at hq
  obtain ⟨rfl,rfl⟩:=cel_inj hr hb hta hq
  have k1:=hz.mat x hxm
  have k2:=hI bb _ htb
  rw [eb, ← hv] at k2
  rw [ea]
  unfold holds at k2 ⊢
  dsimp only
  omega
 have hn2 : Nv R M l0 l2 ((ag || w1) || w2) (n + 1 + 1):=by
  rw [hl2]
  refine hn1.narrow hlt2 (by dsimp only;omega) (fun z hz hI0 hI b q hb hq=>?_) w2 (by rw [hw2];exact decide_eq_true_iff)
  rw [← eb] at hq
  obtain ⟨rfl,rfl⟩:=cel_inj hr hb htb hq
  have k1:=hz.mat x hxm
  have k2:=h3.keep z hz hI0 ba _ hta
  rw [ea, ← hu] at k2
  rw [eb]
  unfold holds at k2 ⊢
  dsimp only
  omega
 have hz : ((ag || w1) || w2)=false → ag = false∧w1 = false∧w2 = false:=by cases ag <;> cases w1 <;> cases w2 <;> simp
 refine ⟨⟨n + 1 + 1,by omega,hn2⟩,by rw [hl2];refine Same.nar ?_ hn1.len htb (by rw [eb]) hlt2;rw [hl1];exact h.same.nar h3.len hta (by rw [ea]) hlt1,fun e=>h.step (hz e).1,fun e j y hj hq=>?_⟩
 obtain ⟨ea1,ew1,ew2⟩:=hz e
 by_cases e1 : j < k
 ·exact h.mat ea1 j y hj e1
 ·have e2 : j = k:=by omega
  subst e2
  rw [he] at hj
  cases hj
  have q0:=h3.no ea1
  subst q0
  have q1:=hn1.no (by rw [ea1,ew1];rfl)
  rw [ew1] at hw1
  rw [ew2,q1] at hw2
  have f1:=Classical.byContradiction (of_decide_eq_false hw1.symm)
  have f2:=Classical.byContradiction (of_decide_eq_false hw2.symm)
  rw [hv] at f1
  rw [hu] at f2
  exact fits_of f1 f2
theorem Cl.start {R : Rm} {M : List Mt} {c l0 : List Sp} {a : Bool} (ok0 : ∀ b ∈ R.boxes,0 ≤ b.made) (h : Cl R M c l0 a) : Mo R M l0 l0 false 0 0 :=
 ⟨⟨0,by omega,Nv.start h.len h.ok⟩,fun _ _=>rfl,fun _ j b q _ hb _ hq=>by
  have:=hb.2.1
  rcases hq with hq | ⟨_,hq⟩
  ·exact absurd hq (Nat.not_lt_zero _)
  ·have:=(show (0:Int)≤b.made from (ok0 b hb.1));omega⟩
theorem Cl.next {R : Rm} {M : List Mt} {c l0 cur : List Sp} {a ag : Bool} (hr : okRm R) (h : Cl R M c l0 a) (hq : Ma R M l0 cur ag M.length) (hf : ∀ b m,there R b m → (sat cur (cel R ⟨b.id,m⟩)).lo ≤ (sat cur (cel R ⟨b.id,m⟩)).hi) : Cl R M c cur ag∧0 ≤ wid cur∧(ag = true → wid cur < wid l0):=by
 obtain ⟨n,h1,h3⟩:=hq.nv
 have hok : ∀ k,0 ≤ (sat cur k).lo∧(sat cur k).lo ≤ (sat cur k).hi∧(sat cur k).hi ≤ 60:=fun k=>by
  have k1:=h3.sub k
  have k2:=h.ok k
  by_cases e : ∃ b m,there R b m∧cel R ⟨b.id,m⟩ = k
  ·obtain ⟨b,m,ht,rfl⟩:=e
   have:=hf b m ht
   omega
  ·have:=hq.same k (fun b m ht e' => e ⟨b,m,ht,e'⟩)
   rw [this];exact k2
 refine ⟨⟨h3.len,fun k=>?_,hok,fun z hz hI=>h3.keep z hz (h.keep z hz hI),fun e=>?_⟩,wid_nonneg cur (fun s hs=>?_),h3.yes⟩
 ·have k1:=h3.sub k
  have k2:=h.sub k
  omega
 ·have e0:=h3.no e
  subst e0
  refine ⟨hq.step e,fun x hx=>?_⟩
  obtain ⟨j,hj,ex⟩:=List.mem_iff_getElem.1 hx
  exact hq.mat e j x (by rw [List.getElem?_eq_getElem hj,ex]) hj
 ·obtain ⟨j,hj,ex⟩:=List.mem_iff_getElem.1 hs
  have:=hok j
  have e2 : sat cur j = s:=by
   have:=sat_get hj
   rw [List.getElem?_eq_getElem hj,ex] at this
   exact (Option.some.inj this).symm
  rw [e2] at this
  exact this.2.1
theorem Cl.done {R : Rm} {M : List Mt} {c cur : List Sp} (h : Cl R M c cur false) : ClosedT R M c cur:=⟨h.len,h.sub,fun k=>(h.ok k).2.1,h.fix rfl,h.keep⟩
theorem Cl.fail {R : Rm} {M : List Mt} {c l0 cur : List Sp} {a ag : Bool} (h : Cl R M c l0 a) (hq : Ma R M l0 cur ag M.length) {b : Bx} {m : Int} (ht : there R b m) (hf : (sat cur (cel R ⟨b.id,m⟩)).hi < (sat cur (cel R ⟨b.id,m⟩)).lo) : cur.length = 48 ∧ ∀ z,Tru R M z → ¬ Inn R c z:=by
 obtain ⟨n,_,h3⟩:=hq.nv
 refine ⟨h3.len,fun z hz hI=>?_⟩
 have:=h3.keep z hz (h.keep z hz hI) b m ht
 unfold holds at this
 omega
/-- the check, as far as it has gone -/
def Ch (R : Rm) (cur : List Sp) (i : Nat) (m : Int) : Prop := ∀ (j : Nat) (b : Bx) (q : Int),R.boxes[j]? = some b → there R b q → (j < i∨(j = i∧q < m)) → (sat cur (j * 12 + q.toNat)).lo ≤ (sat cur (j * 12 + q.toNat)).hi
theorem Ch.zero {R : Rm} {cur : List Sp} (ok0 : ∀ b ∈ R.boxes,0 ≤ b.made) : Ch R cur 0 0:=fun j b q _ hb hq=>by
 have:=ok0 b hb.1
 have:=hb.2.1
 rcases hq with hq | ⟨_,hq⟩
 ·exact absurd hq (Nat.not_lt_zero _)
 ·omega
theorem Ch.start {R : Rm} {cur : List Sp} {i : Nat} {e : Bx} (h : Ch R cur i 0) (he : R.boxes[i]? = some e) (h0 : 0 ≤ e.made) : Ch R cur i e.made:=fun j b q hj hb hq=>h j b q hj hb (by
 rcases hq with hq | ⟨rfl,hq⟩
 ·exact .inl hq
 ·rw [he] at hj
  cases hj
  have:=hb.2.1
  omega)
theorem Ch.next {R : Rm} {cur : List Sp} {i : Nat} {m : Int} (hr : okRm R) (h : Ch R cur i m) (hm : R.months ≤ m) : Ch R cur (i + 1) 0:=fun j b q hj hb hq=>h j b q hj hb (by
 have:=hb.2.2
 have:=there_bd hr hb
 rcases hq with hq | ⟨_,hq⟩
 ·by_cases e : j = i
  ·exact .inr ⟨e,by omega⟩
  ·exact .inl (by omega)
 ·exact .inl (by omega))
theorem Ch.set {R : Rm} {cur : List Sp} {i m : Nat} (h : Ch R cur i m) (hs : (sat cur (i * 12 + m)).lo ≤ (sat cur (i * 12 + m)).hi) : Ch R cur i (m + 1 : Nat):=fun j b q hj hb hq=>by
 by_cases e1 : j < i∨(j = i∧q < m)
 ·exact h j b q hj hb e1
 ·have e2 : j = i∧q = m:=by omega
  obtain ⟨rfl,rfl⟩:=e2
  exact hs
theorem Ch.done {R : Rm} {cur : List Sp} {m : Int} (hr : okRm R) (h : Ch R cur R.boxes.length m) : ∀ b m,there R b m → (sat cur (cel R ⟨b.id,m⟩)).lo ≤ (sat cur (cel R ⟨b.id,m⟩)).hi:=fun b q hb=>by
 obtain ⟨j,hj⟩:=box_at hb.1
 rw [cel_box hr.bx hj]
 exact h j b q hj hb (.inl (List.getElem?_eq_some_iff.1 hj).1)
end Go.Proofs.YtmfppdpkalelhaaGreat
end
