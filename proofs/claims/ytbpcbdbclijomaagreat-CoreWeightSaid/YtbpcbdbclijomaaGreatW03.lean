/- Own work: Own work: what came in, opened as rows that are only read. No condition.; contracts of functions, from rows of what is known of the memory; contracts of functions, from rows of what is known of the memory; contracts of functions, from rows of what is known of the memory; contracts of functions, from rows of what is known of the memory; contracts of functions, from rows of what is known of the memory; contracts of functions, from rows of what is known of the memory; contracts of functions, from rows of what is known of the memory; contracts of functions, from rows of what is known of the memory; contracts of functions, from rows of what is known of the memory; contracts of functions, from rows of what is known of the memory; contracts of functions, from rows of what is known of the memory;  -/
import Derived.Test.YtbpcbdbclijomaaGreatW02
import Derived.Deep.Slices
import Derived.ChangeSame
import Derived.Maps.RangeRun
import Derived.Laws.Entries
set_option linter.unusedVariables false
set_option linter.unusedSimpArgs false
namespace Go.Fw
open Go Go.RowKit Go.ChangeShapes Go.WideShapes Go.Deep
theorem flat_at {α : Type} {enc : α → List Value} {sz : Nat} : ∀ {l : List α},(∀ e ∈ l,(enc e).length = sz) → ∀ (i : Nat) (e : α) (j : Nat) (v : Value),l[i]? = some e → (enc e)[j]? = some v → (l.flatMap enc)[i * sz + j]? = some v
 | [],_,i,e,j,v,hi,_=>by simp at hi
 | q::l,hl,i,e,j,v,hi,hj=>by
  rw [List.flatMap_cons,List.getElem?_append]
  have hq:=hl q (List.mem_cons_self ..)
  cases i with
  | zero =>
   simp only [List.getElem?_cons_zero,Option.some.injEq] at hi
   subst hi
   rw [if_pos (by have:=(List.getElem?_eq_some_iff.1 hj).1;omega)]
   simpa using hj
  | succ i =>
   rw [if_neg (by rw [hq,Nat.add_mul];omega),hq,show (i + 1) * sz + j - sz = i * sz + j by rw [Nat.add_mul];omega]
   exact flat_at (fun e he=>hl e (List.mem_cons_of_mem _ he)) i e j v (by simpa using hi) hj
section
variable {H : Type} {enc : TypeId × Value → H} {P : Program} {w : World} {base : Nat} {spare : Nat → Bool} {held : Bool}
theorem cellsOf_ti {T : TypeId} {ti : TI} (h : tiOf P T = some ti) : P.cellsOf T = ti.size:=by
 obtain ⟨i,d,hi,_,_,hs,_⟩:=ti_spec h
 simp [Program.cellsOf,hi,hs]
theorem trod_st {T : TypeId} {fs : List (Nat × TypeId)} {s y fuel : Nat} {cs : List Value} {x : DataW H × List MemPlace} (hT : tiOf P T = some ⟨.st fs,s,y⟩) (h : DataW.trod enc P w base spare held fuel T cs = some x) :
  cs.length = s ∧ ∀ (i o F : Nat) (ti : TI),fs[i]? = some (o,F) → tiOf P F = some ti → ∃ n x',DataW.trod enc P w base spare held n F ((cs.drop o).take ti.size)=some x' := by
 obtain ⟨fa,hu,hm⟩:=ti_struct hT
 obtain ⟨xs,n,_,_,hl,hxl,hf⟩:=DataW.trod_struct hu h
 refine ⟨by rw [hl,cellsOf_ti hT],fun i o F ti hi hF=>?_⟩
 rw [← hm] at hi
 simp only [List.getElem?_map,Option.map_eq_some_iff] at hi
 obtain ⟨f,h1,h2⟩:=hi
 simp only [Prod.mk.injEq] at h2
 obtain ⟨rfl,rfl⟩:=h2
 have h3:=hf i f (by simpa using h1)
 rw [cellsOf_ti hF] at h3
 have hlt : i < xs.length:=by
  have:=(List.getElem?_eq_some_iff.1 h1).1
  rw [hxl];simpa using this
 exact ⟨n,xs[i],by rw [h3,List.getElem?_eq_getElem hlt]⟩
theorem trod_i {T : TypeId} {k : IntKind} {s y fuel : Nat} {cs : List Value} {x : DataW H × List MemPlace} (hT : tiOf P T = some ⟨.int k,s,y⟩) (h : DataW.trod enc P w base spare held fuel T cs = some x) : ∃ n,cs = [.int k n]∧(Lit.int k n).wf = true:=by
 obtain ⟨i,d,_,hd,hk,_,_⟩:=ti_spec hT
 cases d <;> simp only [tkOf,reduceCtorEq,TK.int.injEq] at hk
 subst hk
 obtain ⟨n,h1,_,h2⟩:=DataW.trod_int hd h
 exact ⟨n,h1,h2⟩
/-- What is known of a slice that came in. -/
def InSl {α : Type} (w : World) (a : Option Addr) (e : α → List Value) (sz : Nat) (l : List α) : Prop :=
 (∀ q ∈ l,(e q).length = sz)∧l.length ≤ maxLen∧(0 < l.length → ∃ b off,a = some ⟨b,off,none⟩∧b < w.heap.size ∧ ∀ i q j v,l[i]? = some q → (e q)[j]? = some v → w.cell? ⟨b,off + (i * sz + j),none⟩ = some v)
theorem open_sl {α : Type} [Inhabited α] {e : α → List Value} {ok : α → Prop} {T E sz s y : Nat} {ti : TI} {fuel : Nat} {v : Value} {x : DataW H × List MemPlace} (hT : tiOf P T = some ⟨.sl E,s,y⟩) (hE : tiOf P E = some ti) (hsz : ti.size = sz) (hpos : 0 < sz)
  (hel : ∀ n cs x,DataW.trod enc P w base spare held n E cs = some x → ∃ q : α,cs = e q∧ok q) (hlen : ∀ q,(e q).length = sz) (h : DataW.trod enc P w base spare held fuel T [v] = some x) :
  ∃ (l : List α) (a : Option Addr) (c : Nat),v = .slice a l.length c∧InSl w a e sz l∧(∀ q ∈ l,ok q)∧l.length ≤ c:=by
 rcases open_slice (ti_slice hT) h with ⟨hc,_⟩ | ⟨a,len,cap,m,n,D,Pl,hcs,_,hl,hm,hmm,_,hi⟩
 ·simp only [List.cons.injEq,and_true] at hc
  subst hc
  exact ⟨[],none,0,rfl,⟨by simp,by simp,by simp⟩,by simp,Nat.le_refl _⟩
 ·simp only [List.cons.injEq,and_true] at hcs
  subst hcs
  have hlm : len ≤ m:=by rw [hmm];split <;> omega
  have hex : ∀ i,∃ q : α,i < len → ok q∧w.cells? base (a.add (i * sz)) sz = some (e q):=by
   intro i
   by_cases hil : i < len
   ·obtain ⟨cs',h1,h2⟩:=hi i (by omega)
    obtain ⟨q,rfl,hq⟩:=hel _ _ _ h2
    rw [cellsOf_ti hE,hsz] at h1
    exact ⟨q,fun _=>⟨hq,h1⟩⟩
   ·exact ⟨default,fun h=>absurd h hil⟩
  let f : Nat → α:=fun i=>Classical.choose (hex i)
  have hf : ∀ i,i < len → ok (f i)∧w.cells? base (a.add (i * sz)) sz = some (e (f i)):=fun i=>Classical.choose_spec (hex i)
  refine ⟨(List.range len).map f,some a,cap,by simp,⟨fun q _=>hlen q,by simp;omega,fun hp=>?_⟩,?_,by simp;omega⟩
  ·simp only [List.length_map,List.length_range] at hp
   have h0:=(hf 0 hp).2
   obtain ⟨_,_,hat⟩:=World.cells?_some h0
   have hc0:=hat 0 hpos
   have hv0 : (e (f 0))[0]? = some ((e (f 0))[0]'(by rw [hlen];exact hpos)):=List.getElem?_eq_getElem _
   rw [hv0,Nat.zero_mul] at hc0
   have hadd : ((a.add 0).add 0)=a:=rfl
   rw [hadd] at hc0
   obtain ⟨b,off,sp⟩:=a
   have hsp : sp = none:=by
    cases sp with
    | none=>rfl
    | some q=>unfold World.cell? at hc0;simp only at hc0;split at hc0 <;> simp at hc0
   subst hsp
   refine ⟨b,off,rfl,World.block_lt_of_cell? _ _ hc0,fun i q j v hq hj=>?_⟩
   have hil : i < len:=by have:=(List.getElem?_eq_some_iff.1 hq).1;simpa using this
   have hqe : f i = q:=by
    rw [List.getElem?_map,List.getElem?_range hil] at hq
    simpa using hq
   obtain ⟨_,_,hat⟩:=World.cells?_some (hf i hil).2
   have hjl : j < sz:=by have:=(List.getElem?_eq_some_iff.1 hj).1;rw [hlen] at this;exact this
   have:=hat j hjl
   rw [hqe,hj,add_none,add_none,Nat.add_assoc] at this
   exact this
  ·intro q hq
   obtain ⟨i,hi,rfl⟩:=List.mem_map.1 hq
   exact (hf i (List.mem_range.1 hi)).1
end
/-- the row of a slice that came in -/
def rowsOf {α : Type} (a : Option Addr) (e : α → List Value) (l : List α) : List Row :=
 match a,l with
 | some ⟨b,off,_⟩,_::_=>[⟨b,off,l.flatMap e,none,0⟩]
 | _,_=>[]
theorem InSl.ok {α : Type} {w : World} {a : Option Addr} {e : α → List Value} {sz B : Nat} {l : List α} (h : InSl w a e sz l) : ∀ r ∈ rowsOf a e l,r.own = none∧r.ok B w:=by
 intro r hr
 cases l with
 | nil=>cases a with | none=>cases hr | some a=>cases hr
 | cons q l =>
  obtain ⟨b,off,rfl,hb,hc⟩:=h.2.2 (by simp)
  simp only [rowsOf,List.mem_singleton] at hr
  subst hr
  refine ⟨rfl,hb,fun j v hj=>?_⟩
  obtain ⟨i,q',k,rfl,hi,hk⟩:=flat_get h.1 hj
  exact hc i q' k v hi hk
theorem InSl.sl {α : Type} {w : World} {a : Option Addr} {e : α → List Value} {sz : Nat} {l : List α} {H : List Row} (h : InSl w a e sz l) (hs : ∀ r ∈ rowsOf a e l,r ∈ H) : SlE H a e sz l:=by
 refine ⟨h.1,fun hp=>?_⟩
 obtain ⟨b,off,rfl,_,_⟩:=h.2.2 hp
 cases l with
 | nil=>simp at hp
 | cons q l =>
  refine ⟨b,off,rfl,_,0,hs _ (List.mem_singleton.2 rfl),rfl,rfl,fun i q' j v hi hj=>?_⟩
  rw [Nat.zero_add]
  exact flat_at h.1 i q' j v hi hj
/-- the start: only what came in is known -/
theorem St.start {w : World} {H : List Row} (h : ∀ r ∈ H,r.own = none∧r.ok w.heap.size w) : St w.heap.size w H w:=by
 refine ⟨Below.refl _ _,Nat.le_refl _,fun r hr=>(h r hr).2,?_⟩
 rw [List.pairwise_iff_getElem]
 intro i j hi hj _ ho
 have h1:=(h _ (List.getElem_mem hi)).1
 have h2:=(h _ (List.getElem_mem hj)).1
 rw [h1,h2] at ho
 simp at ho
/-- from a contract to the call in a world -/
theorem Fc.calls {P : Program} {f : FuncId} {args : List Value} {H : List Row} {v : Value} {w : World} (h : Fc P f args H (fun u _=>u = v)) (hH : ∀ r ∈ H,r.own = none∧r.ok w.heap.size w) :
  Calls P f args.toArray w fun e w' => e = .returned v∧Below w.heap.size w w' := by
 unfold Fc at h
 refine (h.2 _ _ _ (St.start hH)).mono ?_
 rintro e w' ⟨u,H',rfl,rfl,hS⟩
 exact ⟨rfl,hS.below⟩
end Go.Fw
namespace Go.Proofs.YtbpcbdbclijomaaGreat
open Go Go.Fw
set_option maxRecDepth 10000
/-- a press at work: the bale, and the grades that its draws leave each layer -/
def cPr (B : Bl) (p : Pb) (g : List Sp) : List Value:=cBl B p++g.flatMap cSp
theorem lenSp (g : List Sp) : (g.flatMap cSp).length = g.length * 2:=flat_len (fun _ _=>rfl)
theorem lenPr {B : Bl} {p : Pb} {g : List Sp} (h : g.length = 5) : (cPr B p g).length = 16:=by
 unfold cPr;rw [List.length_append,lenSp,h];rfl
theorem onePr (B : Bl) (p : Pb) (g : List Sp) : (cPr B p g).all (·.oneCell') = true:=by
 unfold cPr
 rw [List.all_append,oneBl,Bool.true_and,List.all_eq_true]
 intro v hv
 obtain ⟨e,_,he⟩:=List.mem_flatMap.1 hv
 exact List.all_eq_true.1 (one_sp e) v he
theorem getPr {B : Bl} {p : Pb} {g : List Sp} {i j : Nat} {s : Sp} {v : Value} (h : g[i]? = some s) (hj : (cSp s)[j]? = some v) : (cPr B p g)[6 + i * 2 + j]? = some v:=by
 unfold cPr
 have h6 : (cBl B p).length = 6:=rfl
 rw [List.getElem?_append_right (by omega),h6,show 6 + i * 2 + j - 6 = i * 2 + j by omega]
 exact flat_at (enc:=cSp) (sz:=2) (fun _ _=>rfl) i s j v h hj
theorem set_flat : ∀ (g : List Sp) (i : Nat) (a b : Int),i < g.length → ((g.flatMap cSp).set (i * 2) (.int .i64 a)).set (i * 2 + 1) (.int .i64 b)=(g.set i ⟨a,b⟩).flatMap cSp
 | [],i,a,b,h=>by simp at h
 | s::g,0,a,b,_=>rfl
 | s::g,i + 1,a,b,h=>by
  have ih:=set_flat g i a b (by simpa using h)
  have e1 : (i + 1) * 2 = i * 2 + 2:=by omega
  rw [List.flatMap_cons,List.set_cons_succ,List.flatMap_cons, ← ih,e1]
  rfl
theorem setPr {B : Bl} {p : Pb} {g : List Sp} {i : Nat} {a b : Int} (h : i < g.length) : ((cPr B p g).set (6 + i * 2) (.int .i64 a)).set (6 + i * 2 + 1) (.int .i64 b)=cPr B p (g.set i ⟨a,b⟩):=by
 unfold cPr
 have h6 : (cBl B p).length = 6:=rfl
 rw [← set_flat g i a b h,List.set_append_right _ _ (by omega),List.set_append_right _ _ (by omega),h6,show 6 + i * 2 - 6 = i * 2 by omega,show 6 + i * 2 + 1 - 6 = i * 2 + 1 by omega]
theorem splicePr {B : Bl} {p : Pb} {g : List Sp} {i : Nat} {s : Sp} (h : i < g.length) : splice (cPr B p g) (6 + i * 2) (cSp s)=cPr B p (g.set i s):=by
 have hl : 6 + i * 2 + 1 < (cPr B p g).length:=by unfold cPr;rw [List.length_append,lenSp];show _ < 6 + _;omega
 have:=setPr (B:=B) (p:=p) (a:=s.lo) (b:=s.hi) h
 rw [← this]
 show splice _ _ [.int .i64 s.lo,.int .i64 s.hi] = _
 rw [← splice_cons (by simp;omega), ← splice_cons (by simp;omega),splice_nil]
theorem StF.storePr {n bp j k : Nat} {F : FS} {o : Oper} {a x : Operand} {B : Bl} {p : Pb} {g : List Sp} {s : Sp} {H0 : List Row} (h : o.op = .store 24 a x) (hx : evF F a = some (.pointer (some ⟨bp,j,none⟩))) (hv : evF F x = some (.agg (cSp s).toArray)) (hg : g.length = 5) (hk : k < 5) (hj : j = 6 + k * 2) :
  StF Tryz.prog n (⟨bp,0,cPr B p g,some 91,16⟩::H0) F o (fun u H' => u = undef∧H' = ⟨bp,0,cPr B p (g.set k s),some 91,16⟩::H0):=by
 subst hj
 have:=StF.storeAt (P:=Tryz.prog) (n:=n) (q:=0) (H:=⟨bp,0,cPr B p g,some 91,16⟩::H0) h hx hv (te rfl) rfl rfl rfl (by rw [lenPr hg];show 6 + k * 2 + 2 ≤ 16;omega)
 rw [splicePr (by omega)] at this
 exact this
def Bz : Bl:=⟨0,0,0,0,[],[]⟩
def pzb : Pb:=⟨none,0,none,0⟩
def initG (n : Nat) : List Sp:=List.replicate n ⟨1,9⟩++List.replicate (5 - n) ⟨0,0⟩
theorem initG_len {n : Nat} (h : n ≤ 5) : (initG n).length = 5:=by unfold initG;simp;omega
theorem initG_set {n : Nat} (h : n < 5) : (initG n).set n ⟨1,9⟩ = initG (n + 1):=by
 match n,h with
 | 0,_=>rfl
 | 1,_=>rfl
 | 2,_=>rfl
 | 3,_=>rfl
 | 4,_=>rfl
def spAt (g : List Sp) (i : Nat) : Sp:=g.getD i ⟨0,0⟩
theorem spAt_get {g : List Sp} {i : Nat} (h : i < g.length) : g[i]? = some (spAt g i):=by simp [spAt,List.getD,List.getElem?_eq_getElem h]
def stepG (g : List Sp) (x : Dr) : List Sp:=g.set x.val.toNat ⟨max (spAt g x.val.toNat).lo x.lo,min (spAt g x.val.toNat).hi x.hi⟩
theorem stepG_len (g : List Sp) (x : Dr) : (stepG g x).length = g.length:=by unfold stepG;simp
theorem foldG_len (l : List Dr) (g : List Sp) : (l.foldl stepG g).length = g.length:=by
 induction l generalizing g with
 | nil=>rfl
 | cons x l ih=>rw [List.foldl_cons,ih,stepG_len]
def gradesOf (B : Bl) : List Sp:=B.draws.foldl stepG (initG B.layers.toNat)
def ts11 : List TOp:=[⟨some 33,[],[],[]⟩,⟨some 34,[],[],[]⟩,⟨some 35,[],[],[]⟩,⟨some 36,[2],[2],[]⟩,⟨some 37,[2,3],[3],[]⟩,⟨some 38,[2,3,4],[4],[]⟩,⟨some 39,[],[],[]⟩,⟨some 40,[6],[6],[]⟩,⟨some 41,[6,7],[7],[]⟩,⟨some 42,[2,3,4,5,6,7,8],[5,8],[]⟩,⟨some 43,[],[],[]⟩,⟨some 44,[10],[10],[]⟩,⟨some 45,[10,11],[11],[]⟩,⟨some 46,[10,11,12],[12],[]⟩,⟨some 47,[],[],[]⟩,⟨some 48,[14],[14],[]⟩,⟨some 49,[14,15],[15],[]⟩,⟨some 50,[10,11,12,13,14,15,16],[13,16],[]⟩,⟨some 51,[0,2,3,4,5,6,7,8,9,10,11,12,13],[0],[]⟩,⟨some 52,[0,2,3,4,5,6,7,8,9,10,11,12,13,18],[18],[]⟩,⟨none,[0,2,3,4,5,6,7,8,9,10,11,12,13,18,19],[19,9],[24]⟩,⟨some 53,[0,1,2,3,4,5,6,7,8,9,10,11,12,13,14,15,16,17,18,19,20],[1],[]⟩,⟨some 54,[0,1,2,3,4,5,6,7,8,9,10,11,12,13,14,15,16,17,18,19,20,21],[21],[]⟩,⟨none,[0,1,2,3,4,5,6,7,8,9,10,11,12,13,14,15,16,17,18,19,20,21,22],[22,17],[20]⟩,⟨none,[],[],[]⟩]
def rd11 (k : Nat) : List Nat:=match k with
 | 5=>[24]
 | 13=>[24]
 | _=>[]
def rows11 (bp : Nat) (B : Bl) (p : Pb) (g : List Sp) (i : Nat) (a b : Int) (k : Nat) (_ : Env) : List Row :=
 match k with
 | 20=>[⟨bp,0,(cPr B p g).set (6 + i * 2) (.int .i64 a),some 91,16⟩]
 | 23=>[⟨bp,0,cPr B p (g.set i ⟨a,b⟩),some 91,16⟩]
 | 24=>[⟨bp,0,cPr B p g,some 91,16⟩]
 | _=>[]
set_option maxHeartbeats 4000000 in
theorem pressed_spec (B : Bl) (p : Pb) (H : List Row) (h5 : 1 ≤ B.layers∧B.layers ≤ 5) (hd : ∀ x ∈ B.draws,0 ≤ x.val∧x.val < 5) (hB : BlOk H B p) : Fc Tryz.prog 86 [.agg (cBl B p).toArray] H (fun v H' => v = .agg (cPr B p (gradesOf B)).toArray∧H' = H):=by
 have hB3 : ∀ r1 r2 r3,BlOk (r1::r2::r3::H) B p:=fun r1 r2 r3=>hB.sub (fun _ h=>qT _ (qT _ (qT _ h)))
 have l1:=hB.l1
 obtain ⟨a1,c1,a2,c2⟩:=p
 refine Fc.mk (callable Tryz.call86) Tryz.func86 rfl Tryz.ntmps86 rfl ?_;dsimp only [fr]
 repeat' (first | (refine uP rfl ?_;(first | ((first | refine uN rfl ?_);(first | (refine uE (EvF.build (cs:=cPr B ⟨a1,c1,a2,c2⟩ (initG 0)) rfl (ArgsP.cons rfl ArgsP.nil) (te rfl) (Places.cons (te rfl) (Places.cons (te rfl) Places.nil)) Tryz.zeroValue91 rfl) rfl rfl ?_)|(refine uE (uM rfl rfl) rfl rfl ?_)|(refine uE (uF rfl rfl (te rfl) rfl (te rfl) (by decide)) rfl rfl ?_)|(refine uE (uL rfl rfl (uO (te rfl) rfl (qH _) rfl)) rfl rfl ?_)|(refine uE (uL rfl rfl (uW (te rfl) rfl (qT _ (qH _)) rfl)) rfl rfl ?_)|(refine Xg.st (StF.boxAgg rfl rfl) rfl rfl ?_;rintro _ _ ⟨bx,rfl,rfl⟩)|(refine Xg.st (StF.alloc rfl Tryz.zeroValue91 rfl) rfl rfl ?_;rintro _ _ ⟨bx,rfl,rfl⟩)|(refine Xg.st0 (uZ (i:=0) rfl rfl rfl (te rfl) rfl rfl rfl rfl) rfl ?_;rintro _ _ ⟨rfl,rfl⟩;dsimp only [List.set])))))|(refine uD rfl ?_;refine hK _ _ ?_;clear hK K) | refine uS rfl ?_ | refine uR rfl (fun K hK=>?_) | refine X.block rfl ?_)
 rename_i b1 b2;rename Nat=>bp
 have hn5 : B.layers.toNat ≤ 5:=by omega
 refine X.lp rfl (fun m F' H' => ∃ k : Nat,m = B.layers.toNat - k∧k ≤ B.layers.toNat∧H' = ⟨bp,0,cPr B ⟨a1,c1,a2,c2⟩ (initG k),some 91,16⟩::⟨b2,0,cPr Bz pzb (initG 0),some 91,16⟩::⟨b1,0,cBl B ⟨a1,c1,a2,c2⟩,some 31,6⟩::H ∧
   F' = [(2,.pointer (some ⟨b2,0,none⟩)),(3,.pointer (some ⟨bp,0,none⟩)),(12,.int .i64 B.layers),(13,.int .i64 k)])
  B.layers.toNat [(2,.pointer (some ⟨b2,0,none⟩)),(3,.pointer (some ⟨bp,0,none⟩)),(12,.int .i64 B.layers),(13,.int .i64 (0 : Nat))] _ (by repeat (first | exact uU _ | refine uV rfl ?_)) (qR _) ⟨0,by omega,by omega,rfl,rfl⟩ ?_
 rintro _ _ _ ⟨k,rfl,hk,rfl,rfl⟩
 repeat' (first | (refine uP rfl ?_;(first | ((first | refine uN rfl ?_);(first | (refine uE (EvF.build (cs:=cSp ⟨1,9⟩) rfl (ArgsP.cons rfl (ArgsP.cons rfl ArgsP.nil)) (te rfl) (Places.cons (te rfl) (Places.cons (te rfl) Places.nil)) Tryz.zeroValue24 rfl) rfl rfl ?_)|(refine uE (EvF.indexArray rfl rfl rfl (te rfl) (te rfl) (by omega) (by omega)) rfl rfl ?_)|(refine Xg.st0 (StF.storePr (k:=k) (s:=⟨1,9⟩) rfl rfl rfl (initG_len (by omega)) (by omega) rfl) rfl ?_;rintro _ _ ⟨rfl,rfl⟩)|(refine uE (uM rfl rfl) rfl rfl ?_)|(refine uE (uA rfl rfl) rfl rfl ?_)|(refine uE (uQ rfl rfl rfl rfl) rfl rfl ?_)|(refine uE (EvF.add64 rfl rfl rfl (by omega) (by omega)) rfl rfl ?_)|(refine uE (uF rfl rfl (te rfl) rfl (te rfl) (by decide)) rfl rfl ?_)|(refine uE (uY rfl rfl (te rfl)) rfl rfl ?_)|(refine uE (uL rfl rfl (uO (te rfl) rfl (qH _) rfl)) rfl rfl ?_)))))|(refine uD rfl ?_;refine hK _ _ ?_;clear hK K) | refine uS rfl ?_ | refine uR rfl (fun K hK=>?_) | refine X.block rfl ?_ | (refine X.brk rfl ?_;repeat (first | refine blockX_hit rfl ?_ | refine blockX_miss (by decide) ?_)) | refine X.skip rfl ?_ | (refine X.ite rfl rfl (fun hc=>?_);(first | (with_reducible refine Xb.case hc (fun h=>?_) (fun h=>?_))) <;> clear hc))
 ·rw [initG_set (by omega)]
  exact ⟨_,_,_,(by repeat (first | exact uU _ | refine uV rfl ?_)),qR _,⟨k + 1,rfl,by omega,rfl,rfl⟩,by omega⟩
 obtain rfl : k = B.layers.toNat:=by omega
 refine X.lp rfl (fun m F' H' => ∃ k : Nat,m = B.draws.length - k∧k ≤ B.draws.length∧H' = ⟨bp,0,cPr B ⟨a1,c1,a2,c2⟩ ((B.draws.take k).foldl stepG (initG B.layers.toNat)),some 91,16⟩::⟨b2,0,cPr Bz pzb (initG 0),some 91,16⟩::⟨b1,0,cBl B ⟨a1,c1,a2,c2⟩,some 31,6⟩::H ∧
   F' = [(2,.pointer (some ⟨b2,0,none⟩)),(3,.pointer (some ⟨bp,0,none⟩)),(23,.slice a1 B.draws.length c1),(24,.int .i64 B.draws.length),(25,.int .i64 k)])
  B.draws.length [(2,.pointer (some ⟨b2,0,none⟩)),(3,.pointer (some ⟨bp,0,none⟩)),(23,.slice a1 B.draws.length c1),(24,.int .i64 B.draws.length),(25,.int .i64 (0 : Nat))] _ (by repeat (first | exact uU _ | refine uV rfl ?_)) (qR _) ⟨0,by omega,by omega,rfl,rfl⟩ ?_
 rintro _ _ _ ⟨k,rfl,hk,rfl,rfl⟩
 obtain ⟨g,hgE⟩ : ∃ g,(B.draws.take k).foldl stepG (initG B.layers.toNat)=g:=⟨_,rfl⟩
 have hg : g.length = 5:=by rw [← hgE,foldG_len,initG_len hn5]
 rw [hgE]
 repeat' (first | (refine uP rfl ?_;(first | ((first | refine uN rfl ?_);(first | (refine uE (uQ rfl rfl rfl rfl) rfl rfl ?_)))))|(refine uD rfl ?_;refine hK _ _ ?_;clear hK K) | refine uS rfl ?_ | refine uR rfl (fun K hK=>?_) | refine X.block rfl ?_ | (refine X.brk rfl ?_;repeat (first | refine blockX_hit rfl ?_ | refine blockX_miss (by decide) ?_)) | refine X.skip rfl ?_ | (refine X.ite rfl rfl (fun hc=>?_);(first | (with_reducible refine Xb.case hc (fun h=>?_) (fun h=>?_))) <;> clear hc))
 ·obtain ⟨b,off,e,rfl,he⟩:=hB.draws.elem (i:=k) (by omega)
  obtain ⟨hv0,hv5⟩:=hd e (List.mem_of_getElem? he)
  repeat' (first | (refine uP rfl ?_;(first | ((first | refine uN rfl ?_);(first | (refine uE (uL rfl rfl (LoadV.elA0 (hB3 _ _ _).draws he (te rfl) rfl (fun _ hm=>hm) rfl)) rfl rfl ?_)|(refine uE (EvF.indexArray rfl rfl rfl (te rfl) (te rfl) (by omega) (by omega)) rfl rfl ?_)|(refine uE (uA rfl rfl) rfl rfl ?_)|(refine uE (uF rfl rfl (te rfl) rfl (te rfl) (by decide)) rfl rfl ?_)|(refine uE (uJ rfl rfl rfl (te rfl) (te rfl) (by omega) (by omega)) rfl rfl ?_)|(refine uE (uL rfl rfl (uO (te rfl) rfl (qH _) rfl)) rfl rfl ?_)|(refine Xg.st (StF.alloc rfl Tryz.zeroValue38 rfl) rfl rfl ?_;rintro _ _ ⟨bx,rfl,rfl⟩)|(refine Xg.st0 (uZ (i:=0) rfl rfl rfl (te rfl) rfl rfl rfl rfl) rfl ?_;rintro _ _ ⟨rfl,rfl⟩;dsimp only [List.set])))))|(refine uD rfl ?_;refine hK _ _ ?_;clear hK K) | refine uS rfl ?_ | refine uR rfl (fun K hK=>?_))
  have hi : e.val.toNat < g.length:=by omega
  have e1 : (B.draws.take (k + 1)).foldl stepG (initG B.layers.toNat)=g.set e.val.toNat ⟨max (spAt g e.val.toNat).lo e.lo,min (spAt g e.val.toNat).hi e.hi⟩:=by rw [take_snoc he,List.foldl_append,hgE];rfl
  refine X.permH (H' := ⟨bp,0,cPr B ⟨some ⟨b,off,none⟩,c1,a2,c2⟩ g,some 91,16⟩::⟨bx,0,cDr e,some 38,4⟩::⟨b2,0,cPr Bz pzb (initG 0),some 91,16⟩::⟨b1,0,cBl B ⟨some ⟨b,off,none⟩,c1,a2,c2⟩,some 31,6⟩::H) (List.Perm.swap _ _ _) ?_
  refine X.regionRd ts11 rd11 [7,6,2,3,23,24,25] [(7,.pointer (some ⟨bp,6 + e.val.toNat * 2,none⟩)),(6,.pointer (some ⟨bx,0,none⟩)),(2,.pointer (some ⟨b2,0,none⟩)),(3,.pointer (some ⟨bp,0,none⟩)),(23,.slice (some ⟨b,off,none⟩) B.draws.length c1),(24,.int .i64 B.draws.length),(25,.int .i64 k)]
   (valL [.pointer (some ⟨bp,6 + e.val.toNat * 2,none⟩),.pointer (some ⟨bp,6 + e.val.toNat * 2,none⟩),.pointer (some ⟨bp,6 + e.val.toNat * 2,none⟩),.pointer (some ⟨bp,6 + e.val.toNat * 2,none⟩),.pointer (some ⟨bp,6 + e.val.toNat * 2 + 0,none⟩),.int .i64 (spAt g e.val.toNat).lo,.pointer (some ⟨bx,0 + 2,none⟩),.pointer (some ⟨bx,0 + 2 + 0,none⟩),.int .i64 e.lo,.int .i64 (max (spAt g e.val.toNat).lo e.lo),
    .pointer (some ⟨bp,6 + e.val.toNat * 2,none⟩),.pointer (some ⟨bp,6 + e.val.toNat * 2,none⟩),.pointer (some ⟨bp,6 + e.val.toNat * 2 + 1,none⟩),.int .i64 (spAt g e.val.toNat).hi,.pointer (some ⟨bx,0 + 2,none⟩),.pointer (some ⟨bx,0 + 2 + 1,none⟩),.int .i64 e.hi,.int .i64 (min (spAt g e.val.toNat).hi e.hi),
    .pointer (some ⟨bp,6 + e.val.toNat * 2,none⟩),.pointer (some ⟨bp,6 + e.val.toNat * 2 + 0,none⟩),undef,.pointer (some ⟨bp,6 + e.val.toNat * 2,none⟩),.pointer (some ⟨bp,6 + e.val.toNat * 2 + 1,none⟩)])
   (rows11 bp B ⟨some ⟨b,off,none⟩,c1,a2,c2⟩ g e.val.toNat (max (spAt g e.val.toNat).lo e.lo) (min (spAt g e.val.toNat).hi e.hi)) (fun _=>(0,0))
   (⟨bx,0,cDr e,some 38,4⟩::⟨b2,0,cPr Bz pzb (initG 0),some 91,16⟩::⟨b1,0,cBl B ⟨some ⟨b,off,none⟩,c1,a2,c2⟩,some 31,6⟩::H) rfl mixed (by repeat (first | exact uU _ | refine uV rfl ?_)) rfl (by kernel_rfl) (by kernel_rfl) (fun _ _ _ _ _ _=>⟨rfl,rfl⟩) (qR _) ?_ ?_
  ·have hl16:=lenPr (B:=B) (p:=⟨some ⟨b,off,none⟩,c1,a2,c2⟩) hg
   repeat' (first | exact AllF.done rfl | (refine AllF.step rfl ?_ ?_;·(first | exact (Ob.ng rfl (uK (fun env R hR=>by exact ⟨_,uM rfl rfl,rfl⟩) rfl (fun _=>rfl))).toR | exact (Ob.ng rfl (uK (fun env R hR=>by exact ⟨_,uF rfl rfl (te rfl) rfl (te rfl) (by decide),rfl⟩) rfl (fun _=>rfl))).toR | exact (Ob.ng rfl (uK (fun env R hR=>by exact ⟨_,uL rfl rfl (uO (te rfl) rfl (hR _ (qH _)) rfl),rfl⟩) rfl (fun _=>rfl))).toR | (refine ObR.ng rfl ?_;(first | (exact fun env S hS hrd=>(StF.ofEv (EvF.nilCheck rfl rfl)).op.mono (fun v H' ⟨hv,hH⟩=>⟨(0,0),fun _=>hv,by rw [hH];exact List.Perm.refl _⟩))|(exact fun env S hS hrd=>(StF.ofEv (EvF.max64 rfl rfl rfl)).op.mono (fun v H' ⟨hv,hH⟩=>⟨(0,0),fun _=>hv,by rw [hH];exact List.Perm.refl _⟩))|(exact fun env S hS hrd=>(StF.ofEv (EvF.min64 rfl rfl rfl)).op.mono (fun v H' ⟨hv,hH⟩=>⟨(0,0),fun _=>hv,by rw [hH];exact List.Perm.refl _⟩))|(exact fun env S hS hrd=>(StF.ofEv (uL rfl rfl (uO (te rfl) rfl (hrd 24 (qH _) _ (qH _)) (getPr (j:=0) (spAt_get hi) rfl)))).op.mono (fun v H' ⟨hv,hH⟩=>⟨(0,0),fun _=>hv,by rw [hH];exact List.Perm.refl _⟩))|(exact fun env S hS hrd=>(StF.ofEv (uL rfl rfl (uO (te rfl) rfl (hrd 24 (qH _) _ (qH _)) (getPr (j:=1) (spAt_get hi) rfl)))).op.mono (fun v H' ⟨hv,hH⟩=>⟨(0,0),fun _=>hv,by rw [hH];exact List.Perm.refl _⟩))|(exact fun env S hS hrd=>(StF.storeOne (i:=0) (cs:=cPr B ⟨some ⟨b,off,none⟩,c1,a2,c2⟩ g) rfl rfl rfl rfl (te rfl) rfl rfl (by rw [hl16];omega)).op.mono (fun v H' ⟨hv,hH⟩=>⟨(0,0),fun h=>absurd rfl h,by rw [hH];exact List.Perm.refl _⟩))|(exact fun env S hS hrd=>(StF.storeOne (i:=0) (cs:=(cPr B ⟨some ⟨b,off,none⟩,c1,a2,c2⟩ g).set (6 + e.val.toNat * 2) (.int .i64 (max (spAt g e.val.toNat).lo e.lo))) rfl rfl rfl rfl (te rfl) rfl rfl (by rw [List.length_set,hl16];omega)).op.mono (fun v H' ⟨hv,hH⟩=>⟨(0,0),fun h=>absurd rfl h,by rw [hH];show List.Perm (⟨bp,0,((cPr B ⟨some ⟨b,off,none⟩,c1,a2,c2⟩ g).set (6 + e.val.toNat * 2) (.int .i64 (max (spAt g e.val.toNat).lo e.lo))).set (6 + e.val.toNat * 2 + 1) (.int .i64 (min (spAt g e.val.toNat).hi e.hi)),some 91,16⟩::S) _;rw [setPr hi];exact List.Perm.refl _⟩)))))))
  ·intro env t ha hv
   refine ⟨_,ha,?_⟩
   show X _ _ _ _ (⟨bp,0,cPr B ⟨some ⟨b,off,none⟩,c1,a2,c2⟩ (g.set e.val.toNat ⟨max (spAt g e.val.toNat).lo e.lo,min (spAt g e.val.toNat).hi e.hi⟩),some 91,16⟩::⟨bx,0,cDr e,some 38,4⟩::⟨b2,0,cPr Bz pzb (initG 0),some 91,16⟩::⟨b1,0,cBl B ⟨some ⟨b,off,none⟩,c1,a2,c2⟩,some 31,6⟩::H) _
   repeat' (first | (refine uP rfl ?_;(first | ((first | refine uN rfl ?_);(first | (refine uE (uM rfl rfl) rfl rfl ?_)|(refine uE (EvF.add64 rfl rfl rfl (by omega) (by omega)) rfl rfl ?_)))))|(refine uD rfl ?_;refine hK _ _ ?_;clear hK K) | refine uR rfl (fun K hK=>?_))
   rw [← e1]
   exact ⟨_,_,_,(by repeat (first | exact uU _ | refine uV rfl ?_)),qK _ (qC _ (qR _)),⟨k + 1,rfl,by omega,rfl,rfl⟩,by omega⟩
 ·have e2 : g = gradesOf B:=by rw [← hgE,List.take_of_length_le (by omega)];rfl
  subst e2
  repeat' (first | (refine uP rfl ?_;(first | ((first | refine uN rfl ?_);(first | (refine uE (uL rfl rfl (uW (te rfl) rfl (qH _) (lenPr hg))) rfl rfl ?_)|(refine Xg.st0 (uZ (i:=1) (vs:=cPr B ⟨a1,c1,a2,c2⟩ (gradesOf B)) rfl rfl rfl (te rfl) rfl (lenPr hg) (onePr _ _ _) (lenPr hg)) rfl ?_;rintro _ _ ⟨rfl,rfl⟩;dsimp only [List.set])))))|(refine uD rfl ?_;refine hK _ _ ?_;clear hK K) | refine X.ret rfl ?_)
  exact ret_one (by simp) Tryz.results86 ⟨_,rfl,uW (te rfl) rfl (qT _ (qH _)) (lenPr hg)⟩ (H' := H) (by (repeat (first | exact qR _ | apply qC));done) ⟨rfl,rfl⟩
theorem slePr {B : Bl} {p : Pb} {g : List Sp} {b cap n : Nat} {ow : Option Kd} {H : List Row} (hm : ⟨b,0,cPr B p g,ow,cap⟩ ∈ H) : SlE H (some ⟨b,6,none⟩) cSp 2 (g.take n):=by
 refine ⟨fun _ _=>rfl,fun _=>⟨b,6,rfl,_,6,hm,rfl,rfl,fun i e j v hi hj=>?_⟩⟩
 have hi' : g[i]? = some e:=by
  rw [List.getElem?_take] at hi
  split at hi
  ·exact hi
  ·cases hi
 rw [← Nat.add_assoc]
 exact getPr hi' hj
theorem hasGrades1_spec (s : Sp) (H : List Row) : Fc Tryz.prog 156 ([.agg (cSp s).toArray]++[]) H (fun v H' => v = .bool (decide (s.lo > s.hi))∧H' = H):=by
 show Fc Tryz.prog 156 [.agg (cSp s).toArray] H _
 refine Fc.mk (callable Tryz.call156) Tryz.func156 rfl Tryz.ntmps156 rfl ?_;dsimp only [fr]
 repeat' (first | (refine uP rfl ?_;(first | ((first | refine uN rfl ?_);(first | (refine uE (uA rfl rfl) rfl rfl ?_)|(refine uE (uQ rfl rfl rfl rfl) rfl rfl ?_)|(refine uE (uF rfl rfl (te rfl) rfl (te rfl) (by decide)) rfl rfl ?_)|(refine uE (uL rfl rfl (uO (te rfl) rfl (qH _) rfl)) rfl rfl ?_)|(refine Xg.st (StF.boxAgg rfl rfl) rfl rfl ?_;rintro _ _ ⟨bx,rfl,rfl⟩)))))|(refine uD rfl ?_;refine hK _ _ ?_;clear hK K) | refine uS rfl ?_ | refine uR rfl (fun K hK=>?_) | refine X.ret rfl ?_)
 refine ret_one (by simp) Tryz.results156 rfl (H' := H) (by (repeat (first | exact qR _ | apply qC));done) ?_;simp only [and_true,true_and]
/-- the draws leave each layer some grade -/
def hasG (n : Nat) (g : List Sp) : Prop := ∀ s ∈ g.take n, ¬ s.lo > s.hi
instance (n : Nat) (g : List Sp) : Decidable (hasG n g):=by unfold hasG;infer_instance
theorem hasGrades_spec (B : Bl) (p : Pb) (g : List Sp) (H : List Row) (h5 : 1 ≤ B.layers∧B.layers ≤ 5) (hg : g.length = 5) : Fc Tryz.prog 122 [.agg (cPr B p g).toArray] H (fun v H' => v = .bool (decide (hasG B.layers.toNat g))∧H' = H):=by
 obtain ⟨n,hn⟩ : ∃ n : Nat,B.layers = n:=⟨B.layers.toNat,by omega⟩
 have hnn : B.layers.toNat = n:=by omega
 have hl : (g.take n).length = n:=by rw [List.length_take];omega
 rw [hnn]
 refine Fc.mk (callable Tryz.call122) Tryz.func122 rfl Tryz.ntmps122 rfl ?_;dsimp only [fr]
 repeat' (first | (refine uP rfl ?_;(first | ((first | refine uN rfl ?_);(first | (refine uE (EvF.sliceArr (hh:=n) rfl rfl (te rfl) (te rfl) (show _ = some (Value.int .i64 (n : Int)) from by rw [← hn];rfl) (by omega)) rfl rfl ?_)|(refine uC (uT rfl (Args.cons rfl (Args.cons rfl Args.nil))) rfl rfl (hl ▸ containsFunc_specSp (g.take n) (some ⟨_,6,none⟩) 5 156 (fun s=>decide (s.lo > s.hi)) [] _ (slePr (qH _)) (by omega) (fun e _=>hasGrades1_spec e _)) ?_;rintro _ H9 ⟨rfl,hH9⟩;subst H9)|(refine uE (uA rfl rfl) rfl rfl ?_)|(refine uE (EvF.not rfl rfl) rfl rfl ?_)|(refine uE (uF rfl rfl (te rfl) rfl (te rfl) (by decide)) rfl rfl ?_)|(refine uE (uL rfl rfl (uO (te rfl) rfl (qH _) rfl)) rfl rfl ?_)|(refine Xg.st (StF.boxAgg rfl rfl) rfl rfl ?_;rintro _ _ ⟨bx,rfl,rfl⟩)))))|(refine uD rfl ?_;refine hK _ _ ?_;clear hK K) | refine uS rfl ?_ | refine uR rfl (fun K hK=>?_) | refine X.ret rfl ?_)
 refine ret_one (by simp) Tryz.results122 rfl (H' := H) (by (repeat (first | exact qR _ | apply qC));done) ?_;simp only [and_true,true_and]
 congr 1
 have hx : (∃ e,e ∈ List.take n g∧decide (e.lo > e.hi)=true) ↔ ¬ hasG n g:=by unfold hasG;simp
 by_cases hh : hasG n g
 ·rw [decide_eq_true hh,decide_eq_false (fun q=>hx.1 q hh)];rfl
 ·rw [decide_eq_false hh,decide_eq_true (hx.2 hh)];rfl
theorem leastDamp_spec (q d : Int) (H : List Row) (hq : 0 ≤ q∧q ≤ 100000) (hd : 1 ≤ d∧d ≤ 100000) : Fc Tryz.prog 138 [.int .i64 q,.int .i64 d] H (fun v H' => v = .int .i64 ((1000 * q + d - 1) / d - 1000)∧H' = H):=by
 have h1 : 0 ≤ (1000 * q + d - 1) / d:=Int.ediv_nonneg (by omega) (by omega)
 have h2 : (1000 * q + d - 1) / d ≤ 1000 * q + d - 1:=Int.ediv_le_self _ (by omega)
 refine Fc.mk (callable Tryz.call138) Tryz.func138 rfl Tryz.ntmps138 rfl ?_;dsimp only [fr]
 repeat' (first | (refine uP rfl ?_;(first | ((first | refine uN rfl ?_);(first | (refine uE (EvF.mul64 rfl rfl rfl (by omega) (by omega)) rfl rfl ?_)|(refine uE (EvF.quo64 rfl rfl rfl (by omega) (by omega) (by omega)) rfl rfl ?_)|(refine uE (uM rfl rfl) rfl rfl ?_)|(refine uE (uA rfl rfl) rfl rfl ?_)|(refine uE (EvF.add64 rfl rfl rfl (by omega) (by omega)) rfl rfl ?_)|(refine uE (EvF.sub64 rfl rfl rfl (by omega) (by omega)) rfl rfl ?_)))))|(refine uD rfl ?_;refine hK _ _ ?_;clear hK K) | refine uS rfl ?_ | refine uR rfl (fun K hK=>?_) | refine X.ret rfl ?_)
 refine ret_one (by simp) Tryz.results138 rfl (H' := H) (by (repeat (first | exact qR _ | apply qC));done) ?_;simp only [and_true,true_and]
def leastD (q d : Int) : Int:=(1000 * q + d - 1) / d - 1000
def dampOf (x : Dr) (d : Int) : Sp:=⟨max x.lo (leastD x.val d),min x.hi (leastD (x.val + 1) d - 1)⟩
def ts54 : List TOp:=[⟨some 5,[],[],[]⟩,⟨some 6,[0],[0],[]⟩,⟨some 7,[0,1],[1],[]⟩,⟨some 8,[],[],[]⟩,⟨some 9,[3],[3],[]⟩,⟨some 10,[],[],[]⟩,⟨some 11,[3,4,5],[4,5],[]⟩,⟨some 12,[0,1,2,3,4,5,6],[2,6],[]⟩,⟨some 13,[],[],[]⟩,⟨some 14,[8],[8],[]⟩,⟨some 15,[8,9],[9],[]⟩,⟨some 16,[],[],[]⟩,⟨some 17,[11],[11],[]⟩,⟨some 18,[11,12],[12],[]⟩,⟨some 19,[],[],[]⟩,⟨some 20,[3,4,5,6,11,12,13,14],[13,14],[]⟩,⟨some 21,[3,4,5,6,11,12,13,14,15],[15],[]⟩,⟨some 22,[3,4,5,6,8,9,10,11,12,13,14,15,16],[10,16],[]⟩,⟨some 23,[0,1,2,3,4,5,6,7,8,9,10,11,12,13,14,15,16,17],[7,17],[]⟩,⟨none,[0,1,2,3,4,5,6,7,8,9,10,11,12,13,14,15,16,17,18],[18],[20]⟩,⟨none,[],[],[]⟩]
set_option maxHeartbeats 2000000 in
theorem damp_spec (x : Wg) (d : Int) (H : List Row) (hq : 0 ≤ x.val∧x.val ≤ 10000) (hd : 1 ≤ d∧d ≤ 100000) : Fc Tryz.prog 95 [.agg (cDr x).toArray,.int .i64 d] H (fun v H' => v = .agg (cSp (dampOf x d)).toArray∧H' = H):=by
 have h1 : 0 ≤ (1000 * (x.val + 1) + d - 1) / d:=Int.ediv_nonneg (by omega) (by omega)
 have h2 : (1000 * (x.val + 1) + d - 1) / d ≤ 1000 * (x.val + 1) + d - 1:=Int.ediv_le_self _ (by omega)
 refine Fc.mk (callable Tryz.call95) Tryz.func95 rfl Tryz.ntmps95 rfl ?_;dsimp only [fr]
 refine uS rfl ?_;refine uR rfl (fun K hK=>?_);repeat' (first | (refine uP rfl ?_;(first | ((first | refine uN rfl ?_);(first | (refine Xg.st (StF.boxAgg rfl rfl) rfl rfl ?_;rintro _ _ ⟨bx,rfl,rfl⟩)|(refine Xg.st (StF.alloc rfl Tryz.zeroValue24 rfl) rfl rfl ?_;rintro _ _ ⟨bx,rfl,rfl⟩)))))|(refine uD rfl ?_;refine hK _ _ ?_;clear hK K))
 rename_i b1;rename Nat=>b2
 refine uS rfl ?_
 refine X.regionOb ts54 [2,4,1] [(2,.pointer (some ⟨b1,0,none⟩)),(4,.pointer (some ⟨b2,0,none⟩)),(1,.int .i64 d)]
  (valL [.pointer (some ⟨b1,0 + 2,none⟩),.pointer (some ⟨b1,0 + 2 + 0,none⟩),.int .i64 x.lo,.pointer (some ⟨b1,0 + 1,none⟩),.int .i64 x.val,.int .i64 d,.int .i64 (leastD x.val d),.int .i64 (max x.lo (leastD x.val d)),
   .pointer (some ⟨b1,0 + 2,none⟩),.pointer (some ⟨b1,0 + 2 + 1,none⟩),.int .i64 x.hi,.pointer (some ⟨b1,0 + 1,none⟩),.int .i64 x.val,.int .i64 (x.val + 1),.int .i64 d,.int .i64 (leastD (x.val + 1) d),.int .i64 (leastD (x.val + 1) d - 1),.int .i64 (min x.hi (leastD (x.val + 1) d - 1)),.agg (cSp (dampOf x d)).toArray])
  (rowsL 19 ⟨b2,0,cSp (dampOf x d),some 24,2⟩ ⟨b2,0,cSp ⟨0,0⟩,some 24,2⟩) (fun _=>(0,0)) (⟨b1,0,cDr x,some 41,4⟩::H) rfl mixed (by repeat (first | exact uU _ | refine uV rfl ?_)) rfl (by kernel_rfl) (fun _ _ _ _ _ _=>⟨rfl,rfl⟩) (qR _) ?_ ?_
 ·repeat' (first | exact AllF.done rfl | (refine AllF.step rfl ?_ ?_;·(first | fail | ((first | refine Ob.ng rfl ?_);(first | exact uK (fun env R hR=>by exact ⟨_,uM rfl rfl,rfl⟩) rfl (fun _=>rfl) | exact uK (fun env R hR=>by exact ⟨_,uF rfl rfl (te rfl) rfl (te rfl) (by decide),rfl⟩) rfl (fun _=>rfl) | exact uK (fun env R hR=>by exact ⟨_,uL rfl rfl (uO (te rfl) rfl (hR _ (qH _)) rfl),rfl⟩) rfl (fun _=>rfl)|(exact uK (fun env S hS=>⟨_,EvF.max64 rfl rfl rfl,rfl⟩) rfl (fun _=>rfl))|(exact uK (fun env S hS=>⟨_,EvF.min64 rfl rfl rfl,rfl⟩) rfl (fun _=>rfl))|(exact uK (fun env S hS=>⟨_,EvF.add64 rfl rfl rfl (by omega) (by omega),rfl⟩) rfl (fun _=>rfl))|(exact uK (fun env S hS=>⟨_,EvF.sub64 (p:=leastD (x.val + 1) d) rfl rfl rfl (by unfold leastD;omega) (by unfold leastD;omega),rfl⟩) rfl (fun _=>rfl))|(exact uK (fun env S hS=>⟨_,EvF.build (cs:=cSp (dampOf x d)) rfl (ArgsP.cons rfl (ArgsP.cons rfl ArgsP.nil)) (te rfl) (Places.cons (te rfl) (Places.cons (te rfl) Places.nil)) Tryz.zeroValue24 rfl,rfl⟩) rfl (fun _=>rfl))|(exact fun env S hS=>OpF.callV (Z:=[]) (uT rfl (by (repeat (first | exact Args.nil | refine Args.cons rfl ?_));done)) (leastDamp_spec x.val d _ (by omega) hd) rfl rfl)|(exact fun env S hS=>OpF.callV (Z:=[]) (uT rfl (by (repeat (first | exact Args.nil | refine Args.cons rfl ?_));done)) (leastDamp_spec (x.val + 1) d _ (by omega) hd) rfl rfl)|(exact fun env S hS=>(uZ (i:=0) (vs:=cSp (dampOf x d)) (cs:=cSp ⟨0,0⟩) rfl rfl rfl (te rfl) rfl rfl rfl rfl).op.mono (fun v H' ⟨hv,hH⟩=>⟨(0,0),fun h=>absurd rfl h,by rw [hH];exact List.Perm.refl _⟩)))))))
 ·intro env t ha hv
  refine ⟨_,ha,?_⟩
  show X _ _ _ _ (⟨b2,0,cSp (dampOf x d),some 24,2⟩::⟨b1,0,cDr x,some 41,4⟩::H) _
  repeat' (first | (refine uP rfl ?_;(first | ((first | refine uN rfl ?_);(first | (refine uE (uA rfl rfl) rfl rfl ?_)|(refine uE (uQ rfl rfl rfl rfl) rfl rfl ?_)|(refine uE (uF rfl rfl (te rfl) rfl (te rfl) (by decide)) rfl rfl ?_)|(refine uE (uL rfl rfl (uO (te rfl) rfl (qH _) rfl)) rfl rfl ?_)|(refine Xg.st (StF.boxAgg rfl rfl) rfl rfl ?_;rintro _ _ ⟨bx,rfl,rfl⟩)))))|(refine uD rfl ?_;refine hK _ _ ?_;clear hK K) | refine uS rfl ?_ | refine uR rfl (fun K hK=>?_) | refine X.ret rfl ?_)
  exact ret_one (by simp) Tryz.results95 ⟨_,rfl,uW (te rfl) rfl (qH _) rfl⟩ (H' := H) (by (repeat (first | exact qR _ | apply qC));done) ⟨rfl,rfl⟩
/-- the numbers from lo on, k of them, of which something is so -/
def wl (ok : Int → Bool) (lo : Int) : Nat → List Int
 | 0=>[]
 | k + 1=>wl ok lo k++(if ok (lo + k)=true then [lo + k] else [])
theorem wl_len (ok : Int → Bool) (lo : Int) : ∀ k,(wl ok lo k).length ≤ k
 | 0=>Nat.le_refl _
 | k + 1=>by
  have:=wl_len ok lo k
  simp only [wl,List.length_append]
  split <;> simp <;> omega
theorem wl_congr {ok ok' : Int → Bool} {lo : Int} : ∀ k,(∀ i : Nat,i < k → ok (lo + i)=ok' (lo + i)) → wl ok lo k = wl ok' lo k
 | 0,_=>rfl
 | k + 1,h=>by
  simp only [wl]
  rw [wl_congr k (fun i hi=>h i (by omega)),h k (by omega)]
/-- a list of numbers in memory of one's own, or nil -/
def OutI (l : List Int) (out : Value) (Z : List Row) : Prop:=(l = []∧out = .slice none 0 0∧Z = []) ∨ ∃ b q,out = .slice (some ⟨b,0,none⟩) l.length q∧Z = [⟨b,0,l.flatMap cI,some 3,q * 1⟩]
theorem OutI.sl {l : List Int} {out : Value} {Z H : List Row} (h : OutI l out Z) : ∃ a c,out = .slice a l.length c∧SlE (Z++H) a cI 1 l:=by
 rcases h with ⟨rfl,rfl,rfl⟩ | ⟨b,q,rfl,rfl⟩
 ·exact ⟨none,0,rfl,sleNil⟩
 ·exact ⟨_,_,rfl,SlE.ofRow (qH _) (fun _ _=>rfl)⟩
def canW (B : Bl) (d : Int) : Prop := ∀ x ∈ B.weighs, ¬ (dampOf x d).lo > (dampOf x d).hi
noncomputable instance (B : Bl) (d : Int) : Decidable (canW B d):=Classical.propDecidable _
noncomputable def okW (B : Bl) (d : Int) : Bool:=decide (canW B d)
noncomputable def wts (B : Bl) : List Int:=wl (okW B) B.dlo (B.dhi - B.dlo + 1).toNat
set_option maxHeartbeats 4000000 in
theorem weights_spec (B : Bl) (p : Pb) (g : List Sp) (H : List Row) (hd : 1 ≤ B.dlo∧B.dlo ≤ B.dhi∧B.dhi ≤ 600) (hw : ∀ x ∈ B.weighs,0 ≤ x.val∧x.val ≤ 10000) (hg : g.length = 5) (hB : BlOk H B p) :
  Fc Tryz.prog 106 [.agg (cPr B p g).toArray] H (fun v H' => ∃ Z,OutI (wts B) v Z∧H' = Z++H):=by
 obtain ⟨N,hN⟩ : ∃ N : Nat,(B.dhi - B.dlo + 1).toNat = N:=⟨_,rfl⟩
 unfold wts
 rw [hN]
 have hNN : B.dlo + N = B.dhi + 1:=by omega
 have l2:=hB.l2
 have hBZ : ∀ (Z : List Row) r,BlOk (Z++r::H) B p:=fun Z r=>hB.sub (fun _ h=>List.mem_append_right _ (List.mem_cons_of_mem _ h))
 obtain ⟨a1,c1,a2,c2⟩:=p
 refine Fc.mk (callable Tryz.call106) Tryz.func106 rfl Tryz.ntmps106 rfl ?_;dsimp only [fr]
 repeat' (first | (refine uP rfl ?_;(first | ((first | refine uN rfl ?_);(first | (refine uE (uM rfl rfl) rfl rfl ?_)|(refine uE (uA rfl rfl) rfl rfl ?_)|(refine uE (uQ rfl rfl rfl rfl) rfl rfl ?_)|(refine uE (uF rfl rfl (te rfl) rfl (te rfl) (by decide)) rfl rfl ?_)|(refine uE (uL rfl rfl (uO (te rfl) rfl (qH _) rfl)) rfl rfl ?_)|(refine Xg.st (StF.boxAgg rfl rfl) rfl rfl ?_;rintro _ _ ⟨bx,rfl,rfl⟩)))))|(refine uD rfl ?_;refine hK _ _ ?_;clear hK K) | refine uS rfl ?_ | refine uR rfl (fun K hK=>?_) | refine X.block rfl ?_ | (refine X.brk rfl ?_;repeat (first | refine blockX_hit rfl ?_ | refine blockX_miss (by decide) ?_)) | refine X.label rfl ?_ | refine X.scope rfl ?_ | refine X.skip rfl ?_ | (refine X.ite rfl rfl (fun hc=>?_);(first | (with_reducible refine Xb.case hc (fun h=>?_) (fun h=>?_))) <;> clear hc))
 rename Nat=>b1
 refine X.lp rfl (fun m F' H' => ∃ (k : Nat) (d : Int) (out : Value) (Z : List Row),m = N - k∧k ≤ N∧d = B.dlo + k∧OutI (wl (okW B) B.dlo k) out Z∧Z++⟨b1,0,cPr B ⟨a1,c1,a2,c2⟩ g,some 91,16⟩::H = H' ∧
   F' = [(1,.pointer (some ⟨b1,0,none⟩)),(3,out),(4,.int .i64 d)])
  N [(1,.pointer (some ⟨b1,0,none⟩)),(3,.slice none 0 0),(4,.int .i64 B.dlo)] (⟨b1,0,cPr B ⟨a1,c1,a2,c2⟩ g,some 91,16⟩::H) (by repeat (first | exact uU _ | refine uV rfl ?_)) (by rw [← lenPr (B:=B) (p:=⟨a1,c1,a2,c2⟩) hg];exact qR _) ⟨0,_,_,[],by omega,by omega,by omega,.inl ⟨rfl,rfl,rfl⟩,rfl,rfl⟩ ?_
 rintro _ _ H2 ⟨k,d,out,Z,rfl,hk,hdk,hO,hH,rfl⟩
 subst hH
 repeat' (first | (refine uP rfl ?_;(first | ((first | refine uN rfl ?_);(first | (refine uE (uL rfl rfl (uO (te rfl) rfl (List.mem_append_right _ (qH _)) rfl)) rfl rfl ?_)|(refine uE (uM rfl rfl) rfl rfl ?_)|(refine uE (uA rfl rfl) rfl rfl ?_)|(refine uE (uQ rfl rfl rfl rfl) rfl rfl ?_)|(refine uE (uF rfl rfl (te rfl) rfl (te rfl) (by decide)) rfl rfl ?_)|(refine uE (uY rfl rfl (te rfl)) rfl rfl ?_)))))|(refine uD rfl ?_;refine hK _ _ ?_;clear hK K) | refine uS rfl ?_ | refine uR rfl (fun K hK=>?_) | refine X.block rfl ?_ | (refine X.brk rfl ?_;repeat (first | refine blockX_hit rfl ?_ | refine blockX_miss (by decide) ?_)) | refine X.skip rfl ?_ | refine X.ret rfl ?_ | (refine X.ite rfl rfl (fun hc=>?_);(first | (with_reducible refine Xb.case hc (fun h=>?_) (fun h=>?_))) <;> clear hc))
 ·refine X.lp rfl (fun m F' H' => ∃ q : Nat,m = B.weighs.length - q∧q ≤ B.weighs.length∧(canW B d ↔ ∀ x ∈ B.weighs.drop q, ¬ (dampOf x d).lo > (dampOf x d).hi)∧Z++⟨b1,0,cPr B ⟨a1,c1,a2,c2⟩ g,some 91,16⟩::H = H' ∧
    F' = [(1,.pointer (some ⟨b1,0,none⟩)),(3,out),(4,.int .i64 d),(22,.slice a2 B.weighs.length c2),(23,.int .i64 B.weighs.length),(24,.int .i64 q)])
   B.weighs.length [(1,.pointer (some ⟨b1,0,none⟩)),(3,out),(4,.int .i64 d),(22,.slice a2 B.weighs.length c2),(23,.int .i64 B.weighs.length),(24,.int .i64 (0 : Nat))] _ (by repeat (first | exact uU _ | refine uV rfl ?_)) (qR _) ⟨0,by omega,by omega,by unfold canW;simp,rfl,rfl⟩ ?_
  rintro _ _ H2 ⟨q,rfl,hq,hn,hH,rfl⟩
  subst hH
  repeat' (first | (refine uP rfl ?_;(first | ((first | refine uN rfl ?_);(first | (refine uE (uM rfl rfl) rfl rfl ?_)|(refine uE (uA rfl rfl) rfl rfl ?_)|(refine uE (uQ rfl rfl rfl rfl) rfl rfl ?_)|(refine uE (uF rfl rfl (te rfl) rfl (te rfl) (by decide)) rfl rfl ?_)|(refine uE (uL rfl rfl (uO (te rfl) rfl (qH _) rfl)) rfl rfl ?_)|(refine Xg.st (StF.boxAgg rfl rfl) rfl rfl ?_;rintro _ _ ⟨bx,rfl,rfl⟩)))))|(refine uD rfl ?_;refine hK _ _ ?_;clear hK K) | refine uS rfl ?_ | refine uR rfl (fun K hK=>?_) | refine X.block rfl ?_ | (refine X.brk rfl ?_;repeat (first | refine blockX_hit rfl ?_ | refine blockX_miss (by decide) ?_)) | refine X.label rfl ?_ | refine X.scope rfl ?_ | refine X.skip rfl ?_ | (refine X.ite rfl rfl (fun hc=>?_);(first | (with_reducible refine Xb.case hc (fun h=>?_) (fun h=>?_))) <;> clear hc))
  ·obtain ⟨b,off,e,rfl,he⟩:=hB.weighs.elem (i:=q) (by omega)
   have hwe:=hw e (List.mem_of_getElem? he)
   rw [drop_cons he] at hn
   repeat' (first | (refine uP rfl ?_;(first | ((first | refine uN rfl ?_);(first | (refine uE (uL rfl rfl (LoadV.elA0 (hBZ _ _).weighs he (te rfl) rfl (fun _ hm=>hm) rfl)) rfl rfl ?_)|(refine uC (uT rfl (Args.cons rfl (Args.cons rfl Args.nil))) rfl rfl (damp_spec e d _ hwe (by omega)) ?_;rintro _ H9 ⟨rfl,hH9⟩;subst H9)|(refine uE (uM rfl rfl) rfl rfl ?_)|(refine uE (uA rfl rfl) rfl rfl ?_)|(refine uE (uQ rfl rfl rfl rfl) rfl rfl ?_)|(refine uE (EvF.add64 rfl rfl rfl (by omega) (by omega)) rfl rfl ?_)|(refine uE (uF rfl rfl (te rfl) rfl (te rfl) (by decide)) rfl rfl ?_)|(refine uE (uJ rfl rfl rfl (te rfl) (te rfl) (by omega) (by omega)) rfl rfl ?_)|(refine uE (uL rfl rfl (uO (te rfl) rfl (qH _) rfl)) rfl rfl ?_)|(refine uE (uL rfl rfl (uW (te rfl) rfl (qH _) rfl)) rfl rfl ?_)|(refine Xg.st (StF.alloc rfl Tryz.zeroValue24 rfl) rfl rfl ?_;rintro _ _ ⟨bx,rfl,rfl⟩)|(refine Xg.st (StF.alloc rfl Tryz.zeroValue38 rfl) rfl rfl ?_;rintro _ _ ⟨bx,rfl,rfl⟩)|(refine Xg.st0 (uZ (i:=0) rfl rfl rfl (te rfl) rfl rfl rfl rfl) rfl ?_;rintro _ _ ⟨rfl,rfl⟩;dsimp only [List.set])))))|(refine uD rfl ?_;refine hK _ _ ?_;clear hK K) | refine uS rfl ?_ | refine uR rfl (fun K hK=>?_)|(refine X.brk rfl ?_;repeat (first | refine blockX_hit rfl ?_ | refine blockX_miss (by decide) ?_)) | refine X.skip rfl ?_ | (refine X.ite rfl rfl (fun hc=>?_);(first | (with_reducible refine Xb.case hc (fun h=>?_) (fun h=>?_))) <;> clear hc))
   ·have hno : okW B d = false:=decide_eq_false (fun c=>hn.1 c e List.mem_cons_self h)
    refine ⟨_,_,_,(by repeat (first | exact uU _ | refine uV rfl ?_)),(by (repeat (first | exact qR _ | apply qC));done),⟨k + 1,_,_,Z,rfl,by omega,?_,?_,rfl,rfl⟩,by omega⟩
    ·omega
    ·rw [hdk] at hno
     simp only [wl,hno,Bool.false_eq_true,if_false,List.append_nil]
     exact hO
   ·refine ⟨_,_,_,(by repeat (first | exact uU _ | refine uV rfl ?_)),(by (repeat (first | exact qR _ | apply qC));done),⟨q + 1,rfl,by omega,hn.trans ⟨fun w n hm=>w n (List.mem_cons_of_mem _ hm),fun w n hm=>?_⟩,rfl,rfl⟩,by omega⟩
    rcases List.mem_cons.1 hm with rfl | hm
    ·assumption
    ·exact w n hm
  ·have hyes : okW B d = true:=decide_eq_true (hn.2 (by rw [List.drop_eq_nil_of_le (by omega)];exact fun _ h=>absurd h List.not_mem_nil))
   have hwl : wl (okW B) B.dlo (k + 1)=wl (okW B) B.dlo k++[d]:=by
    rw [hdk] at hyes
    simp only [wl,hyes,if_true,hdk]
   have hk1:=wl_len (okW B) B.dlo k
   obtain ⟨l,hlE⟩ : ∃ l,wl (okW B) B.dlo k = l:=⟨_,rfl⟩
   rw [hlE] at hO hwl hk1
   clear hn
   rcases hO with ⟨rfl,rfl,rfl⟩ | ⟨b0,q0,rfl,rfl⟩
   ·repeat' (first | (refine uP rfl ?_;(first | ((first | refine uN rfl ?_);(first | (refine Xg.st (StF.buildOne rfl el55 rfl rfl rfl (by decide) (by decide)) rfl rfl ?_;rintro _ _ ⟨bs,rfl,rfl⟩)|(refine Xg.st (StF.appendNew rfl el55 rfl rfl (by decide) rfl (Rd.own (qH _)) (by decide)) rfl rfl ?_;rintro _ _ ⟨bn,kn,rfl,rfl⟩)|(refine uE (uM rfl rfl) rfl rfl ?_)|(refine uE (uA rfl rfl) rfl rfl ?_)|(refine uE (EvF.add64 rfl rfl rfl (by omega) (by omega)) rfl rfl ?_)))))|(refine uD rfl ?_;refine hK _ _ ?_;clear hK K) | refine uR rfl (fun K hK=>?_))
    refine ⟨_,_,_,(by repeat (first | exact uU _ | refine uV rfl ?_)),?_,⟨k + 1,_,_,[⟨bn,0,([]++[d]).flatMap cI,some 3,kn * 1⟩],rfl,by omega,?_,?_,rfl,rfl⟩,by omega⟩
    ·exact qK _ (qC _ (qR _))
    ·omega
    ·rw [hwl];exact .inr ⟨_,_,rfl,rfl⟩
   ·have hlen : (l.flatMap cI).length = l.length * 1:=lenI l
    repeat' (first | (refine uP rfl ?_;(first | ((first | refine uN rfl ?_);(first | (refine Xg.st (StF.buildOne rfl el55 rfl rfl rfl (by decide) (by decide)) rfl rfl ?_;rintro _ _ ⟨bs,rfl,rfl⟩)|(refine Xg.st (StF.appendOwn (i:=1) rfl el55 rfl rfl rfl hlen rfl (Rd.own (qH _)) rfl (by omega)) rfl rfl ?_;rintro _ _ ⟨bn,kn,rfl,rfl⟩;dsimp only [List.eraseIdx])|(refine uE (uM rfl rfl) rfl rfl ?_)|(refine uE (uA rfl rfl) rfl rfl ?_)|(refine uE (EvF.add64 rfl rfl rfl (by omega) (by omega)) rfl rfl ?_)))))|(refine uD rfl ?_;refine hK _ _ ?_;clear hK K) | refine uR rfl (fun K hK=>?_))
    refine ⟨_,_,_,(by repeat (first | exact uU _ | refine uV rfl ?_)),?_,⟨k + 1,_,_,[⟨bn,0,(l++[d]).flatMap cI,some 3,kn * 1⟩],rfl,by omega,?_,?_,rfl,rfl⟩,by omega⟩
    ·rw [List.flatMap_append]
     exact qK _ (qC _ (qR _))
    ·omega
    ·rw [hwl];exact .inr ⟨_,_,by rw [List.length_append];rfl,rfl⟩
 ·obtain rfl : k = N:=by omega
  exact ret_one (by simp) Tryz.results106 rfl (H' := Z++H) (List.Sublist.append (qR _) (List.sublist_cons_self _ _)) ⟨Z,hO,rfl⟩
theorem hasWeight_spec (B : Bl) (p : Pb) (g : List Sp) (H : List Row) (hd : 1 ≤ B.dlo∧B.dlo ≤ B.dhi∧B.dhi ≤ 600) (hw : ∀ x ∈ B.weighs,0 ≤ x.val∧x.val ≤ 10000) (hg : g.length = 5) (hB : BlOk H B p) :
  Fc Tryz.prog 127 [.agg (cPr B p g).toArray] H (fun v H' => v = .bool (decide ((wts B).length > 0))∧H' = H):=by
 have hl:=wl_len (okW B) B.dlo (B.dhi - B.dlo + 1).toNat
 refine Fc.mk (callable Tryz.call127) Tryz.func127 rfl Tryz.ntmps127 rfl ?_;dsimp only [fr]
 repeat' (first | (refine uP rfl ?_;(first | ((first | refine uN rfl ?_);(first | (refine uE (uL rfl rfl (uW (te rfl) rfl (qH _) (lenPr hg))) rfl rfl ?_)|(refine uC (uT rfl (by (repeat (first | exact Args.nil | refine Args.cons rfl ?_));done)) rfl rfl (weights_spec B p g _ hd hw hg (hB.sub (fun _ h=>List.mem_cons_of_mem _ h))) ?_;rintro _ _ ⟨Z,hO,rfl⟩;obtain ⟨a,c,rfl,hs⟩:=hO.sl (H:=[]))|(refine uE (uA rfl rfl) rfl rfl ?_)|(refine uE (uQ rfl rfl rfl rfl) rfl rfl ?_)|(refine uE (uY rfl rfl (te rfl)) rfl rfl ?_)|(refine Xg.st (StF.boxAgg rfl rfl) rfl rfl ?_;rintro _ _ ⟨bx,rfl,rfl⟩)))))|(refine uD rfl ?_;refine hK _ _ ?_;clear hK K) | refine uS rfl ?_ | refine uR rfl (fun K hK=>?_) | refine X.ret rfl ?_)
 refine ret_one (by simp) Tryz.results127 rfl (H' := H) ((List.sublist_cons_self _ _).trans (List.sublist_append_right _ _)) ⟨?_,rfl⟩
 congr 1
 exact decide_eq_decide.2 ⟨fun q=>by omega,fun q=>by omega⟩
theorem can_spec (B : Bl) (p : Pb) (g : List Sp) (H : List Row) (h5 : 1 ≤ B.layers∧B.layers ≤ 5) (hd : 1 ≤ B.dlo∧B.dlo ≤ B.dhi∧B.dhi ≤ 600) (hw : ∀ x ∈ B.weighs,0 ≤ x.val∧x.val ≤ 10000) (hg : g.length = 5) (hB : BlOk H B p) :
  Fc Tryz.prog 87 [.agg (cPr B p g).toArray] H (fun v H' => v = .bool (decide (hasG B.layers.toNat g∧(wts B).length > 0))∧H' = H):=by
 refine Fc.mk (callable Tryz.call87) Tryz.func87 rfl Tryz.ntmps87 rfl ?_;dsimp only [fr]
 repeat' (first | (refine uP rfl ?_;(first | ((first | refine uN rfl ?_ | (refine Xo.g rfl rfl ?_;with_reducible refine Xw.tt ?_));(first | (refine uE (uL rfl rfl (uW (te rfl) rfl (qH _) (lenPr hg))) rfl rfl ?_)|(refine uC (uT rfl (Args.cons rfl Args.nil)) rfl rfl (hasGrades_spec B p g _ h5 hg) ?_;rintro _ H9 ⟨rfl,hH9⟩;subst H9)|(refine uC (uT rfl (Args.cons rfl Args.nil)) rfl rfl (hasWeight_spec B p g _ hd hw hg (hB.sub (fun _ h=>List.mem_cons_of_mem _ h))) ?_;rintro _ H9 ⟨rfl,hH9⟩;subst H9)|(refine uE (uM rfl rfl) rfl rfl ?_)|(refine uE (uA rfl rfl) rfl rfl ?_)|(refine uE (EvF.pickT rfl rfl rfl) rfl rfl ?_)|(refine uE (EvF.pickF rfl rfl rfl) rfl rfl ?_)|(refine Xg.st (StF.boxAgg rfl rfl) rfl rfl ?_;rintro _ _ ⟨bx,rfl,rfl⟩)))|(refine Xo.g rfl rfl ?_;(first | (with_reducible refine Xw.ft rfl rfl ?_)|(with_reducible refine Xw.case (fun h=>?_) (fun h=>?_) <;> simp only [h,decide_true,decide_false,Bool.not_true,Bool.not_false,and_self,and_true,true_and,and_false,false_and])))))|(refine uD rfl ?_;refine hK _ _ ?_;clear hK K) | refine uS rfl ?_ | refine uR rfl (fun K hK=>?_) | refine X.ret rfl ?_)
 all_goals (refine ret_one (by simp) Tryz.results87 rfl (H' := H) (by (repeat (first | exact qR _ | apply qC));done) ?_;simp only [and_true,true_and])
 all_goals (congr 1)
 all_goals first
  | (symm;exact decide_eq_false (fun q=>absurd q.1 (by assumption)))
  | exact decide_eq_decide.2 ⟨fun q=>⟨by assumption,q⟩,fun q=>q.2⟩
set_option maxHeartbeats 8000000 in
theorem fewest_specDr (ok : List Dr → Bool) (l : List Dr) (a : Option Addr) (c most g : Nat) (cap : List Value) (H : List Row) (hl : SlE H a cDr 4 l) (hb : l.length ≤ 1000000) (hm : most ≤ 1000)
  (hr : ∀ acc a' c' H',(∀ r ∈ H,r ∈ H') → SlE H' a' cDr 4 acc → acc.length ≤ 1000000 → Fc Tryz.prog g ([.slice a' acc.length c']++cap) H' (fun v H'' => v = .bool (ok acc)∧H'' = H')) :
  Fc Tryz.prog 119 [.slice a l.length c,.int .i64 (most : Nat),.func (.func g) #[] cap.toArray] H
   (fun v H' => ∃ out Z,TrvDr ((few ok l (min most l.length + 1) 0).getD []) out Z∧v = .tuple #[out,.bool (few ok l (min most l.length + 1) 0).isSome]∧H' = Z++H):=by
 refine Fc.mk (callable Tryz.call119) Tryz.func119 rfl Tryz.ntmps119 rfl ?_;dsimp only [fr]
 repeat' (first | (refine uP rfl ?_;(first | ((first | refine uN rfl ?_);(first | (refine uE (EvF.makeFunc (fl:=[]) rfl Args.nil (Args.cons rfl (Args.cons rfl (Args.cons rfl (Args.cons rfl Args.nil))))) rfl rfl ?_)|(refine uE (uM rfl rfl) rfl rfl ?_)|(refine uE (uA rfl rfl) rfl rfl ?_)|(refine uE (EvF.add64 rfl rfl rfl (by omega) (by omega)) rfl rfl ?_)|(refine uE (uY rfl rfl (te rfl)) rfl rfl ?_)|(refine uE (uL rfl rfl (uO (te rfl) rfl (qT _ (qT _ (qT _ (qH _)))) rfl)) rfl rfl ?_)|(refine uE (EvF.min64 rfl rfl rfl) rfl rfl ?_)|(refine Xg.st (StF.boxOne rfl rfl rfl) rfl rfl ?_;rintro _ _ ⟨bx,rfl,rfl⟩)|(refine Xg.st (StF.alloc rfl Tryz.zeroValue49 rfl) rfl rfl ?_;rintro _ _ ⟨bx,rfl,rfl⟩)|(refine Xg.st (StF.alloc rfl Tryz.zeroValue170 rfl) rfl rfl ?_;rintro _ _ ⟨bx,rfl,rfl⟩)|(refine Xg.st0 (StF.storeOne (i:=0) rfl rfl rfl rfl (te rfl) rfl rfl (Nat.le_of_ble_eq_true rfl)) rfl ?_;rintro _ _ ⟨rfl,rfl⟩;dsimp only [List.set])))))|(refine uD rfl ?_;refine hK _ _ ?_;clear hK K) | refine uS rfl ?_ | refine uR rfl (fun K hK=>?_) | refine X.block rfl ?_)
 rename_i bl br bt;rename Nat=>bg
 refine X.permH (List.Perm.swap _ _ _) ?_
 have hlg:=longer_specDr ok l a c g cap bt br bl bg (some 156) (some 28) (some 170) 1 1 1 (⟨bg,0,[.func (.func 152) #[] #[.pointer (some ⟨br,0,none⟩),.pointer (some ⟨bt,0,none⟩),.pointer (some ⟨bl,0,none⟩),.pointer (some ⟨bg,0,none⟩)]],some 170,1⟩::⟨br,0,[.func (.func g) #[] cap.toArray],some 156,1⟩::⟨bl,0,[.slice a l.length c],some 28,1⟩::H)
  (hl.sub (fun _ h=>qT _ (qT _ (qT _ h)))) hb (qT _ (qH _)) (qT _ (qT _ (qH _))) (qH _) (fun acc a' c' H' hs=>hr acc a' c' H' (fun r h=>hs r (qT _ (qT _ (qT _ h)))))
 refine X.lp rfl (fun q F' H' => ∃ (k : Nat) (out : Value) (Z : List Row),q = min most l.length + 1 - k∧k ≤ min most l.length + 1∧TrvDr [] out Z∧few ok l (min most l.length + 1) 0 = few ok l (min most l.length + 1 - k) k ∧
   ⟨bt,0,[out],some 28,1⟩::(Z++(⟨bg,0,[.func (.func 152) #[] #[.pointer (some ⟨br,0,none⟩),.pointer (some ⟨bt,0,none⟩),.pointer (some ⟨bl,0,none⟩),.pointer (some ⟨bg,0,none⟩)]],some 170,1⟩::⟨br,0,[.func (.func g) #[] cap.toArray],some 156,1⟩::⟨bl,0,[.slice a l.length c],some 28,1⟩::H)) = H' ∧
   F' = [(8,.pointer (some ⟨bt,0,none⟩)),(9,.pointer (some ⟨bg,0,none⟩)),(16,.int .i64 (min (most : Int) (l.length : Int) + 1)),(17,.int .i64 k)])
  (min most l.length + 1) [(8,.pointer (some ⟨bt,0,none⟩)),(9,.pointer (some ⟨bg,0,none⟩)),(16,.int .i64 (min (most : Int) (l.length : Int) + 1)),(17,.int .i64 (0 : Nat))] _ (by repeat (first | exact uU _ | refine uV rfl ?_)) (qR _) ⟨0,_,[],rfl,by omega,.inl ⟨rfl,rfl,rfl⟩,rfl,rfl,rfl⟩ ?_
 rintro _ _ H2 ⟨k,out,Z,rfl,hk,hT,hf,hH,rfl⟩
 subst hH
 repeat' (first | (refine uP rfl ?_;(first | ((first | refine uN rfl ?_);(first | (refine uE (uL rfl rfl (uO (te rfl) rfl (qT _ (List.mem_append_right _ (qH _))) rfl)) rfl rfl ?_)|(refine uC (EnF.dyn0 rfl rfl (by (repeat (first | exact Args.nil | refine Args.cons rfl ?_));done)) rfl rfl (hlg k 0 _ _ [] out Z rfl rfl (by omega) (by simp only [List.length_nil];omega) hT) ?_;rintro _ _ ⟨out',Z',(⟨r,hlr,rfl,hT'⟩ | ⟨hln,rfl,hT'⟩),rfl⟩)|(refine uE (uM rfl rfl) rfl rfl ?_)|(refine uE (uA rfl rfl) rfl rfl ?_)|(refine uE (uQ rfl rfl rfl rfl) rfl rfl ?_)|(refine uE (EvF.add64 rfl rfl rfl (by omega) (by omega)) rfl rfl ?_)|(refine uE (uL rfl rfl (uO (te rfl) rfl (qH _) rfl)) rfl rfl ?_)))))|(refine uD rfl ?_;refine hK _ _ ?_;clear hK K) | refine uS rfl ?_ | refine uR rfl (fun K hK=>?_) | refine X.block rfl ?_ | (refine X.brk rfl ?_;repeat (first | refine blockX_hit rfl ?_ | refine blockX_miss (by decide) ?_)) | refine X.skip rfl ?_ | refine X.ret rfl ?_ | (refine X.ite rfl rfl (fun hc=>?_);(first | (with_reducible refine Xb.t hc ?_)|(with_reducible refine Xb.f hc ?_)|(with_reducible refine Xb.case hc (fun h=>?_) (fun h=>?_))) <;> clear hc))
 ·obtain ⟨j,hj⟩ : ∃ j,min most l.length + 1 - k = j + 1:=⟨min most l.length - k,by omega⟩
  rw [List.drop_zero] at hlr
  have hfr : few ok l (min most l.length + 1) 0 = some r:=by rw [hf,hj];simp only [few,hlr]
  rw [hfr]
  exact ret_two (by simp) Tryz.results119 rfl rfl (H' := Z'++H) (qC _ (List.Sublist.append (qR _) (qC _ (qC _ (List.sublist_cons_self _ _))))) ⟨out',Z',hT',rfl,rfl⟩
 ·obtain ⟨j,hj⟩ : ∃ j,min most l.length + 1 - k = j + 1:=⟨min most l.length - k,by omega⟩
  rw [List.drop_zero] at hln
  refine ⟨_,_,_,(by repeat (first | exact uU _ | refine uV rfl ?_)),qR _,⟨k + 1,out',Z',rfl,by omega,hT',?_,rfl,rfl⟩,by omega⟩
  rw [hf,hj,show min most l.length + 1 - (k + 1)=j by omega]
  simp only [few,hln]
 ·have hk' : min most l.length + 1 - k = 0:=by omega
  have hfn : few ok l (min most l.length + 1) 0 = none:=by rw [hf,hk'];rfl
  rw [hfn]
  exact ret_two (by simp) Tryz.results119 rfl rfl (H' := H) (qC _ ((qC _ (qC _ (List.sublist_cons_self _ _))).trans (List.sublist_append_right _ _))) ⟨_,[],.inl ⟨rfl,rfl,rfl⟩,rfl,rfl⟩
set_option maxHeartbeats 8000000 in
theorem fewest_specWg (ok : List Dr → Bool) (l : List Dr) (a : Option Addr) (c most g : Nat) (cap : List Value) (H : List Row) (hl : SlE H a cDr 4 l) (hb : l.length ≤ 1000000) (hm : most ≤ 1000)
  (hr : ∀ acc a' c' H',(∀ r ∈ H,r ∈ H') → SlE H' a' cDr 4 acc → acc.length ≤ 1000000 → Fc Tryz.prog g ([.slice a' acc.length c']++cap) H' (fun v H'' => v = .bool (ok acc)∧H'' = H')) :
  Fc Tryz.prog 124 [.slice a l.length c,.int .i64 (most : Nat),.func (.func g) #[] cap.toArray] H
   (fun v H' => ∃ out Z,TrvWg ((few ok l (min most l.length + 1) 0).getD []) out Z∧v = .tuple #[out,.bool (few ok l (min most l.length + 1) 0).isSome]∧H' = Z++H):=by
 refine Fc.mk (callable Tryz.call124) Tryz.func124 rfl Tryz.ntmps124 rfl ?_;dsimp only [fr]
 repeat' (first | (refine uP rfl ?_;(first | ((first | refine uN rfl ?_);(first | (refine uE (EvF.makeFunc (fl:=[]) rfl Args.nil (Args.cons rfl (Args.cons rfl (Args.cons rfl (Args.cons rfl Args.nil))))) rfl rfl ?_)|(refine uE (uM rfl rfl) rfl rfl ?_)|(refine uE (uA rfl rfl) rfl rfl ?_)|(refine uE (EvF.add64 rfl rfl rfl (by omega) (by omega)) rfl rfl ?_)|(refine uE (uY rfl rfl (te rfl)) rfl rfl ?_)|(refine uE (uL rfl rfl (uO (te rfl) rfl (qT _ (qT _ (qT _ (qH _)))) rfl)) rfl rfl ?_)|(refine uE (EvF.min64 rfl rfl rfl) rfl rfl ?_)|(refine Xg.st (StF.boxOne rfl rfl rfl) rfl rfl ?_;rintro _ _ ⟨bx,rfl,rfl⟩)|(refine Xg.st (StF.alloc rfl Tryz.zeroValue49 rfl) rfl rfl ?_;rintro _ _ ⟨bx,rfl,rfl⟩)|(refine Xg.st (StF.alloc rfl Tryz.zeroValue170 rfl) rfl rfl ?_;rintro _ _ ⟨bx,rfl,rfl⟩)|(refine Xg.st0 (StF.storeOne (i:=0) rfl rfl rfl rfl (te rfl) rfl rfl (Nat.le_of_ble_eq_true rfl)) rfl ?_;rintro _ _ ⟨rfl,rfl⟩;dsimp only [List.set])))))|(refine uD rfl ?_;refine hK _ _ ?_;clear hK K) | refine uS rfl ?_ | refine uR rfl (fun K hK=>?_) | refine X.block rfl ?_)
 rename_i bl br bt;rename Nat=>bg
 refine X.permH (List.Perm.swap _ _ _) ?_
 have hlg:=longer_specWg ok l a c g cap bt br bl bg (some 160) (some 29) (some 170) 1 1 1 (⟨bg,0,[.func (.func 157) #[] #[.pointer (some ⟨br,0,none⟩),.pointer (some ⟨bt,0,none⟩),.pointer (some ⟨bl,0,none⟩),.pointer (some ⟨bg,0,none⟩)]],some 170,1⟩::⟨br,0,[.func (.func g) #[] cap.toArray],some 160,1⟩::⟨bl,0,[.slice a l.length c],some 29,1⟩::H)
  (hl.sub (fun _ h=>qT _ (qT _ (qT _ h)))) hb (qT _ (qH _)) (qT _ (qT _ (qH _))) (qH _) (fun acc a' c' H' hs=>hr acc a' c' H' (fun r h=>hs r (qT _ (qT _ (qT _ h)))))
 refine X.lp rfl (fun q F' H' => ∃ (k : Nat) (out : Value) (Z : List Row),q = min most l.length + 1 - k∧k ≤ min most l.length + 1∧TrvWg [] out Z∧few ok l (min most l.length + 1) 0 = few ok l (min most l.length + 1 - k) k ∧
   ⟨bt,0,[out],some 29,1⟩::(Z++(⟨bg,0,[.func (.func 157) #[] #[.pointer (some ⟨br,0,none⟩),.pointer (some ⟨bt,0,none⟩),.pointer (some ⟨bl,0,none⟩),.pointer (some ⟨bg,0,none⟩)]],some 170,1⟩::⟨br,0,[.func (.func g) #[] cap.toArray],some 160,1⟩::⟨bl,0,[.slice a l.length c],some 29,1⟩::H)) = H' ∧
   F' = [(8,.pointer (some ⟨bt,0,none⟩)),(9,.pointer (some ⟨bg,0,none⟩)),(16,.int .i64 (min (most : Int) (l.length : Int) + 1)),(17,.int .i64 k)])
  (min most l.length + 1) [(8,.pointer (some ⟨bt,0,none⟩)),(9,.pointer (some ⟨bg,0,none⟩)),(16,.int .i64 (min (most : Int) (l.length : Int) + 1)),(17,.int .i64 (0 : Nat))] _ (by repeat (first | exact uU _ | refine uV rfl ?_)) (qR _) ⟨0,_,[],rfl,by omega,.inl ⟨rfl,rfl,rfl⟩,rfl,rfl,rfl⟩ ?_
 rintro _ _ H2 ⟨k,out,Z,rfl,hk,hT,hf,hH,rfl⟩
 subst hH
 repeat' (first | (refine uP rfl ?_;(first | ((first | refine uN rfl ?_);(first | (refine uE (uL rfl rfl (uO (te rfl) rfl (qT _ (List.mem_append_right _ (qH _))) rfl)) rfl rfl ?_)|(refine uC (EnF.dyn0 rfl rfl (by (repeat (first | exact Args.nil | refine Args.cons rfl ?_));done)) rfl rfl (hlg k 0 _ _ [] out Z rfl rfl (by omega) (by simp only [List.length_nil];omega) hT) ?_;rintro _ _ ⟨out',Z',(⟨r,hlr,rfl,hT'⟩ | ⟨hln,rfl,hT'⟩),rfl⟩)|(refine uE (uM rfl rfl) rfl rfl ?_)|(refine uE (uA rfl rfl) rfl rfl ?_)|(refine uE (uQ rfl rfl rfl rfl) rfl rfl ?_)|(refine uE (EvF.add64 rfl rfl rfl (by omega) (by omega)) rfl rfl ?_)|(refine uE (uL rfl rfl (uO (te rfl) rfl (qH _) rfl)) rfl rfl ?_)))))|(refine uD rfl ?_;refine hK _ _ ?_;clear hK K) | refine uS rfl ?_ | refine uR rfl (fun K hK=>?_) | refine X.block rfl ?_ | (refine X.brk rfl ?_;repeat (first | refine blockX_hit rfl ?_ | refine blockX_miss (by decide) ?_)) | refine X.skip rfl ?_ | refine X.ret rfl ?_ | (refine X.ite rfl rfl (fun hc=>?_);(first | (with_reducible refine Xb.t hc ?_)|(with_reducible refine Xb.f hc ?_)|(with_reducible refine Xb.case hc (fun h=>?_) (fun h=>?_))) <;> clear hc))
 ·obtain ⟨j,hj⟩ : ∃ j,min most l.length + 1 - k = j + 1:=⟨min most l.length - k,by omega⟩
  rw [List.drop_zero] at hlr
  have hfr : few ok l (min most l.length + 1) 0 = some r:=by rw [hf,hj];simp only [few,hlr]
  rw [hfr]
  exact ret_two (by simp) Tryz.results124 rfl rfl (H' := Z'++H) (qC _ (List.Sublist.append (qR _) (qC _ (qC _ (List.sublist_cons_self _ _))))) ⟨out',Z',hT',rfl,rfl⟩
 ·obtain ⟨j,hj⟩ : ∃ j,min most l.length + 1 - k = j + 1:=⟨min most l.length - k,by omega⟩
  rw [List.drop_zero] at hln
  refine ⟨_,_,_,(by repeat (first | exact uU _ | refine uV rfl ?_)),qR _,⟨k + 1,out',Z',rfl,by omega,hT',?_,rfl,rfl⟩,by omega⟩
  rw [hf,hj,show min most l.length + 1 - (k + 1)=j by omega]
  simp only [few,hln]
 ·have hk' : min most l.length + 1 - k = 0:=by omega
  have hfn : few ok l (min most l.length + 1) 0 = none:=by rw [hf,hk'];rfl
  rw [hfn]
  exact ret_two (by simp) Tryz.results124 rfl rfl (H' := H) (qC _ ((qC _ (qC _ (List.sublist_cons_self _ _))).trans (List.sublist_append_right _ _))) ⟨_,[],.inl ⟨rfl,rfl,rfl⟩,rfl,rfl⟩
/-- a bale that is good enough to be pressed, whatever is taken out -/
structure Pok (B : Bl) : Prop where
 h5 : 1 ≤ B.layers∧B.layers ≤ 5
 hd : ∀ x ∈ B.draws,0 ≤ x.val∧x.val < 5
 hdry : 1 ≤ B.dlo∧B.dlo ≤ B.dhi∧B.dhi ≤ 600
 hw : ∀ x ∈ B.weighs,0 ≤ x.val∧x.val ≤ 10000
noncomputable def outD (B : Bl) (out : List Dr) : Bl:={ B with draws:=excDr B.draws out }
noncomputable def outW (B : Bl) (out : List Dr) : Bl:={ B with weighs:=excWg B.weighs out }
theorem Pok.outD {B : Bl} (h : Pok B) (out : List Dr) : Pok (outD B out):=⟨h.h5,fun x hx=>h.hd x (List.mem_filter.1 hx).1,h.hdry,h.hw⟩
theorem Pok.outW {B : Bl} (h : Pok B) (out : List Dr) : Pok (outW B out):=⟨h.h5,h.hd,h.hdry,fun x hx=>h.hw x (List.mem_filter.1 hx).1⟩
theorem Pok.len {B : Bl} (h : Pok B) : (gradesOf B).length = 5:=by
 have:=h.h5
 unfold gradesOf;rw [foldG_len,initG_len (by omega)]
noncomputable def okD (B : Bl) (out : List Dr) : Bool:=decide (hasG B.layers.toNat (gradesOf (outD B out)))
noncomputable def okWt (B : Bl) (out : List Dr) : Bool:=decide ((wts (outW B out)).length > 0)
theorem exc_lenD (l out : List Dr) : (excDr l out).length ≤ l.length:=List.length_filter_le _ _
theorem exc_lenW (l out : List Dr) : (excWg l out).length ≤ l.length:=List.length_filter_le _ _
set_option maxHeartbeats 4000000 in
theorem falseDraws1_spec (B : Bl) (d1 : Addr) (c1 : Nat) (a2 : Option Addr) (c2 : Nat) (acc : List Dr) (a' : Option Addr) (c' bb : Nat) (ow : Option Kd) (cap : Nat) (H : List Row) (hp : Pok B) (hB : BlOk H B ⟨some d1,c1,a2,c2⟩) (hm : ⟨bb,0,cBl B ⟨some d1,c1,a2,c2⟩,ow,cap⟩ ∈ H) (ha : SlE H a' cDr 4 acc) (hb : acc.length ≤ 1000000) :
  Fc Tryz.prog 120 ([.slice a' acc.length c']++[.pointer (some ⟨bb,0,none⟩)]) H (fun v H' => v = .bool (okD B acc)∧H' = H):=by
 show Fc Tryz.prog 120 [.slice a' acc.length c',.pointer (some ⟨bb,0,none⟩)] H _
 have l1:=hB.l1
 have l2:=hB.l2
 have hel:=exc_lenD B.draws acc
 have hp' := hp.outD acc
 have hg:=hp'.len
 have hB1 : ∀ r,BlOk (r::H) B ⟨some d1,c1,a2,c2⟩:=fun r=>hB.sub (fun _ h=>qT _ h)
 refine Fc.mk (callable Tryz.call120) Tryz.func120 rfl Tryz.ntmps120 rfl ?_;dsimp only [fr]
 repeat' (first | (refine uP rfl ?_;(first | ((first | refine uN rfl ?_);(first | (refine uE (uL rfl rfl (uW (te rfl) rfl hm rfl)) rfl rfl ?_)|(refine uE (uL rfl rfl (uO (te rfl) rfl (qT _ hm) rfl)) rfl rfl ?_)|(refine uC (uT rfl (by (repeat (first | exact Args.nil | refine Args.cons rfl ?_));done)) rfl rfl (except_specDr B.draws d1 c1 acc a' c' _ (hB1 _).draws l1 (ha.sub (fun _ h=>qT _ h)) hb) ?_;rintro _ _ ⟨bc,kc,rfl,rfl⟩)|(refine uC (uT rfl (Args.cons rfl Args.nil)) rfl rfl (pressed_spec (outD B acc) ⟨some ⟨bc,0,none⟩,kc,a2,c2⟩ _ hp'.h5 hp'.hd ⟨SlE.ofRow (qH _) (fun _ _=>rfl),hB.weighs.sub (fun _ h=>qT _ (qT _ h)),by show (excDr B.draws acc).length ≤ _;omega,l2⟩) ?_;rintro _ H9 ⟨rfl,hH9⟩;subst H9)|(refine uC (uT rfl (Args.cons rfl Args.nil)) rfl rfl (hasGrades_spec (outD B acc) ⟨some ⟨bc,0,none⟩,kc,a2,c2⟩ (gradesOf (outD B acc)) _ hp'.h5 hg) ?_;rintro _ H9 ⟨rfl,hH9⟩;subst H9)|(refine uE (uM rfl rfl) rfl rfl ?_)|(refine uE (uA rfl rfl) rfl rfl ?_)|(refine uE (uF rfl rfl (te rfl) rfl (te rfl) (by decide)) rfl rfl ?_)|(refine uE (uL rfl rfl (uW (te rfl) rfl (qT _ (qH _)) rfl)) rfl rfl ?_)|(refine Xg.st (StF.alloc rfl Tryz.zeroValue31 rfl) rfl rfl ?_;rintro _ _ ⟨bx,rfl,rfl⟩)|(refine Xg.st0 (uZ (i:=0) rfl rfl rfl (te rfl) rfl rfl rfl rfl) rfl ?_;rintro _ _ ⟨rfl,rfl⟩;dsimp only [List.set])|(refine Xg.st0 (StF.storeOne (i:=1) rfl rfl rfl rfl (te rfl) rfl rfl (Nat.le_of_ble_eq_true rfl)) rfl ?_;rintro _ _ ⟨rfl,rfl⟩;dsimp only [List.set])))))|(refine uD rfl ?_;refine hK _ _ ?_;clear hK K) | refine uS rfl ?_ | refine uR rfl (fun K hK=>?_) | refine X.ret rfl ?_)
 exact ret_one (by simp) Tryz.results120 rfl (H' := H) (by (repeat (first | exact qR _ | apply qC));done) ⟨rfl,rfl⟩
set_option maxHeartbeats 4000000 in
theorem falseWeighs1_spec (B : Bl) (a1 : Option Addr) (c1 : Nat) (d2 : Addr) (c2 : Nat) (acc : List Dr) (a' : Option Addr) (c' bb : Nat) (ow : Option Kd) (cap : Nat) (H : List Row) (hp : Pok B) (hB : BlOk H B ⟨a1,c1,some d2,c2⟩) (hm : ⟨bb,0,cBl B ⟨a1,c1,some d2,c2⟩,ow,cap⟩ ∈ H) (ha : SlE H a' cDr 4 acc) (hb : acc.length ≤ 1000000) :
  Fc Tryz.prog 125 ([.slice a' acc.length c']++[.pointer (some ⟨bb,0,none⟩)]) H (fun v H' => v = .bool (okWt B acc)∧H' = H):=by
 show Fc Tryz.prog 125 [.slice a' acc.length c',.pointer (some ⟨bb,0,none⟩)] H _
 have l1:=hB.l1
 have l2:=hB.l2
 have hel:=exc_lenW B.weighs acc
 have hp' := hp.outW acc
 have hg:=hp'.len
 have hB1 : ∀ r,BlOk (r::H) B ⟨a1,c1,some d2,c2⟩:=fun r=>hB.sub (fun _ h=>qT _ h)
 refine Fc.mk (callable Tryz.call125) Tryz.func125 rfl Tryz.ntmps125 rfl ?_;dsimp only [fr]
 repeat' (first | (refine uP rfl ?_;(first | ((first | refine uN rfl ?_);(first | (refine uE (uL rfl rfl (uW (te rfl) rfl hm rfl)) rfl rfl ?_)|(refine uE (uL rfl rfl (uO (te rfl) rfl (qT _ hm) rfl)) rfl rfl ?_)|(refine uC (uT rfl (by (repeat (first | exact Args.nil | refine Args.cons rfl ?_));done)) rfl rfl (except_specWg B.weighs d2 c2 acc a' c' _ (hB1 _).weighs l2 (ha.sub (fun _ h=>qT _ h)) hb) ?_;rintro _ _ ⟨bc,kc,rfl,rfl⟩)|(refine uC (uT rfl (Args.cons rfl Args.nil)) rfl rfl (pressed_spec (outW B acc) ⟨a1,c1,some ⟨bc,0,none⟩,kc⟩ _ hp'.h5 hp'.hd ⟨hB.draws.sub (fun _ h=>qT _ (qT _ h)),SlE.ofRow (qH _) (fun _ _=>rfl),l1,by show (excWg B.weighs acc).length ≤ _;omega⟩) ?_;rintro _ H9 ⟨rfl,hH9⟩;subst H9)|(refine uC (uT rfl (Args.cons rfl Args.nil)) rfl rfl (hasWeight_spec (outW B acc) ⟨a1,c1,some ⟨bc,0,none⟩,kc⟩ (gradesOf (outW B acc)) _ hp'.hdry hp'.hw hg ⟨hB.draws.sub (fun _ h=>qT _ (qT _ h)),SlE.ofRow (qH _) (fun _ _=>rfl),l1,by show (excWg B.weighs acc).length ≤ _;omega⟩) ?_;rintro _ H9 ⟨rfl,hH9⟩;subst H9)|(refine uE (uM rfl rfl) rfl rfl ?_)|(refine uE (uA rfl rfl) rfl rfl ?_)|(refine uE (uF rfl rfl (te rfl) rfl (te rfl) (by decide)) rfl rfl ?_)|(refine uE (uL rfl rfl (uW (te rfl) rfl (qT _ (qH _)) rfl)) rfl rfl ?_)|(refine Xg.st (StF.alloc rfl Tryz.zeroValue31 rfl) rfl rfl ?_;rintro _ _ ⟨bx,rfl,rfl⟩)|(refine Xg.st0 (uZ (i:=0) rfl rfl rfl (te rfl) rfl rfl rfl rfl) rfl ?_;rintro _ _ ⟨rfl,rfl⟩;dsimp only [List.set])|(refine Xg.st0 (StF.storeOne (i:=1) rfl rfl rfl rfl (te rfl) rfl rfl (Nat.le_of_ble_eq_true rfl)) rfl ?_;rintro _ _ ⟨rfl,rfl⟩;dsimp only [List.set])))))|(refine uD rfl ?_;refine hK _ _ ?_;clear hK K) | refine uS rfl ?_ | refine uR rfl (fun K hK=>?_) | refine X.ret rfl ?_)
 exact ret_one (by simp) Tryz.results125 rfl (H' := H) (by (repeat (first | exact qR _ | apply qC));done) ⟨rfl,rfl⟩
theorem baleOk.h5 {B : Bl} (h : baleOk B) : 1 ≤ B.layers∧B.layers ≤ 5:=by simpa using h.2.1
theorem baleOk.hd {B : Bl} (h : baleOk B) : ∀ x ∈ B.draws,0 ≤ x.val∧x.val < 5:=by
 intro x hx
 have h1:=(h.2.2.2.1.2.2 x hx).1 x.val (List.mem_singleton.2 rfl)
 have h2:=h.h5
 exact ⟨h1.1,by have:=h1.2;simp only at this;omega⟩
theorem baleOk.hdry {B : Bl} (h : baleOk B) : 1 ≤ B.dlo∧B.dlo ≤ B.dhi∧B.dhi ≤ 600:=⟨h.2.2.1.2.1,h.2.2.1.1,h.2.2.1.2.2⟩
theorem baleOk.hw {B : Bl} (h : baleOk B) : ∀ x ∈ B.weighs,0 ≤ x.val∧x.val ≤ 10000:=by
 intro x hx
 have h1:=(h.2.2.2.2.2.2 x hx).1 x.val (List.mem_singleton.2 rfl)
 exact ⟨by have:=h1.1;simp only at this;omega,by have:=h1.2;simp only at this;omega⟩
theorem gradesOf_len {B : Bl} (h : baleOk B) : (gradesOf B).length = 5:=by
 have:=h.h5
 unfold gradesOf;rw [foldG_len,initG_len (by omega)]
/-- what a call is about -/
structure Ca where
 l : List Int
 k : List Int
 w : List Int
 d : List Int
structure Pc where
 a1 : Option Addr
 c1 : Nat
 a2 : Option Addr
 c2 : Nat
 a3 : Option Addr
 c3 : Nat
 a4 : Option Addr
 c4 : Nat
def cCa (C : Ca) (q : Pc) : List Value:=[.slice q.a1 C.l.length q.c1,.slice q.a2 C.k.length q.c2,.slice q.a3 C.w.length q.c3,.slice q.a4 C.d.length q.c4]
structure CaOk (H : List Row) (C : Ca) (q : Pc) : Prop where
 l : SlE H q.a1 cI 1 C.l
 k : SlE H q.a2 cI 1 C.k
 w : SlE H q.a3 cI 1 C.w
 d : SlE H q.a4 cI 1 C.d
 l1 : C.l.length ≤ 1000000
 l2 : C.k.length ≤ 1000000
 l3 : C.w.length ≤ 1000000
 l4 : C.d.length ≤ 1000000
theorem CaOk.sub {H H' : List Row} {C : Ca} {q : Pc} (h : CaOk H C q) (hs : ∀ r ∈ H,r ∈ H') : CaOk H' C q:=⟨h.l.sub hs,h.k.sub hs,h.w.sub hs,h.d.sub hs,h.l1,h.l2,h.l3,h.l4⟩
def canB (B : Bl) : Prop:=hasG B.layers.toNat (gradesOf B)∧(wts B).length > 0
noncomputable instance (B : Bl) : Decidable (canB B):=Classical.propDecidable _
def askL (B : Bl) (C : Ca) : Prop := ∀ n ∈ C.l,(Sp.mk 0 (B.layers - 1)).lo ≤ n∧n ≤ (Sp.mk 0 (B.layers - 1)).hi
def askK (C : Ca) : Prop := ∀ n ∈ C.k,(Sp.mk 1 4).lo ≤ n∧n ≤ (Sp.mk 1 4).hi
def askW (B : Bl) (C : Ca) : Prop := ∀ n ∈ C.w,n ∈ B.weighs.map (·.number)
def askD (C : Ca) : Prop := ∀ n ∈ C.d,(Sp.mk 0 200).lo ≤ n∧n ≤ (Sp.mk 0 200).hi
noncomputable instance (B : Bl) (C : Ca) : Decidable (askL B C):=Classical.propDecidable _
noncomputable instance (C : Ca) : Decidable (askK C):=Classical.propDecidable _
noncomputable instance (B : Bl) (C : Ca) : Decidable (askW B C):=Classical.propDecidable _
noncomputable instance (C : Ca) : Decidable (askD C):=Classical.propDecidable _
section
variable (B : Bl) (p : Pb) (C : Ca) (q : Pc) (H : List Row)
theorem isValid_spec (hB : BlOk H B p) : Fc Tryz.prog 139 ([.agg (cBl B p).toArray,.agg (cCa C q).toArray]++[]) H (fun v H' => v = .bool (decide (baleOk B))∧H' = H):=by
 show Fc Tryz.prog 139 [.agg (cBl B p).toArray,.agg (cCa C q).toArray] H _
 have hB2 : ∀ r1 r2,BlOk (r1::r2::H) B p:=fun r1 r2=>hB.sub (fun _ h=>qT _ (qT _ h))
 refine Fc.mk (callable Tryz.call139) Tryz.func139 rfl Tryz.ntmps139 rfl ?_;dsimp only [fr]
 repeat' (first | (refine uP rfl ?_;(first | ((first | refine uN rfl ?_);(first | (refine uC (uT rfl (Args.cons rfl Args.nil)) rfl rfl (kcheck_spec B p _ (hB2 _ _)) ?_;rintro _ H9 ⟨rfl,hH9⟩;subst H9)|(refine uE (uA rfl rfl) rfl rfl ?_)|(refine uE (uQ rfl rfl rfl rfl) rfl rfl ?_)|(refine uE (uL rfl rfl (uW (te rfl) rfl (qT _ (qH _)) rfl)) rfl rfl ?_)|(refine Xg.st (StF.boxAgg rfl rfl) rfl rfl ?_;rintro _ _ ⟨bx,rfl,rfl⟩)))))|(refine uD rfl ?_;refine hK _ _ ?_;clear hK K) | refine uS rfl ?_ | refine uR rfl (fun K hK=>?_) | refine X.ret rfl ?_)
 refine ret_one (by simp) Tryz.results139 rfl (H' := H) (by (repeat (first | exact qR _ | apply qC));done) ?_;simp only [and_true,true_and]
 congr 1
 by_cases h : baleOk B <;> simp [h]
theorem hasLayers_spec (h5 : ∀ n ∈ [B.layers],(Sp.mk 1 5).lo ≤ n∧n ≤ (Sp.mk 1 5).hi) (hC : CaOk H C q) : Fc Tryz.prog 140 ([.agg (cBl B p).toArray,.agg (cCa C q).toArray]++[]) H (fun v H' => v = .bool (decide (askL B C))∧H' = H):=by
 show Fc Tryz.prog 140 [.agg (cBl B p).toArray,.agg (cCa C q).toArray] H _
 have hC2 : ∀ r1 r2,CaOk (r1::r2::H) C q:=fun r1 r2=>hC.sub (fun _ h=>qT _ (qT _ h))
 have l1:=hC.l1
 refine Fc.mk (callable Tryz.call140) Tryz.func140 rfl Tryz.ntmps140 rfl ?_;dsimp only [fr]
 repeat' (first | (refine uP rfl ?_;(first | ((first | refine uN rfl ?_);(first | (refine uC (uT rfl (Args.cons rfl (Args.cons rfl Args.nil))) rfl rfl (areLayers_spec B p C.l _ _ _ h5 (hC2 _ _).l (by omega)) ?_;rintro _ H9 ⟨rfl,hH9⟩;subst H9)|(refine uE (uA rfl rfl) rfl rfl ?_)|(refine uE (uF rfl rfl (te rfl) rfl (te rfl) (by decide)) rfl rfl ?_)|(refine uE (uL rfl rfl (uO (te rfl) rfl (qH _) rfl)) rfl rfl ?_)|(refine uE (uL rfl rfl (uW (te rfl) rfl (qT _ (qH _)) rfl)) rfl rfl ?_)|(refine Xg.st (StF.boxAgg rfl rfl) rfl rfl ?_;rintro _ _ ⟨bx,rfl,rfl⟩)))))|(refine uD rfl ?_;refine hK _ _ ?_;clear hK K) | refine uS rfl ?_ | refine uR rfl (fun K hK=>?_) | refine X.ret rfl ?_)
 refine ret_one (by simp) Tryz.results140 rfl (H' := H) (by (repeat (first | exact qR _ | apply qC));done) ?_;simp only [and_true,true_and]
 congr 1
 exact decide_eq_decide.2 Iff.rfl
theorem areKinds_spec (hC : CaOk H C q) : Fc Tryz.prog 141 ([.agg (cBl B p).toArray,.agg (cCa C q).toArray]++[]) H (fun v H' => v = .bool (decide (askK C))∧H' = H):=by
 show Fc Tryz.prog 141 [.agg (cBl B p).toArray,.agg (cCa C q).toArray] H _
 have hC2 : ∀ r1 r2,CaOk (r1::r2::H) C q:=fun r1 r2=>hC.sub (fun _ h=>qT _ (qT _ h))
 have l2:=hC.l2
 refine Fc.mk (callable Tryz.call141) Tryz.func141 rfl Tryz.ntmps141 rfl ?_;dsimp only [fr]
 repeat' (first | (refine uP rfl ?_;(first | ((first | refine uN rfl ?_);(first | (refine uE (EvF.build (cs:=cSp ⟨1,4⟩) rfl (ArgsP.cons rfl (ArgsP.cons rfl ArgsP.nil)) (te rfl) (Places.cons (te rfl) (Places.cons (te rfl) Places.nil)) Tryz.zeroValue24 rfl) rfl rfl ?_)|(refine uC (uT rfl (Args.cons rfl (Args.cons rfl Args.nil))) rfl rfl (withinL_spec ⟨1,4⟩ C.k _ _ _ (hC2 _ _).k (by omega)) ?_;rintro _ H9 ⟨rfl,hH9⟩;subst H9)|(refine uE (uA rfl rfl) rfl rfl ?_)|(refine uE (uF rfl rfl (te rfl) rfl (te rfl) (by decide)) rfl rfl ?_)|(refine uE (uL rfl rfl (uO (te rfl) rfl (qH _) rfl)) rfl rfl ?_)|(refine Xg.st (StF.boxAgg rfl rfl) rfl rfl ?_;rintro _ _ ⟨bx,rfl,rfl⟩)))))|(refine uD rfl ?_;refine hK _ _ ?_;clear hK K) | refine uS rfl ?_ | refine uR rfl (fun K hK=>?_) | refine X.ret rfl ?_)
 refine ret_one (by simp) Tryz.results141 rfl (H' := H) (by (repeat (first | exact qR _ | apply qC));done) ?_;simp only [and_true,true_and]
 congr 1
 exact decide_eq_decide.2 Iff.rfl
theorem areDamps_spec (hC : CaOk H C q) : Fc Tryz.prog 143 ([.agg (cBl B p).toArray,.agg (cCa C q).toArray]++[]) H (fun v H' => v = .bool (decide (askD C))∧H' = H):=by
 show Fc Tryz.prog 143 [.agg (cBl B p).toArray,.agg (cCa C q).toArray] H _
 have hC2 : ∀ r1 r2,CaOk (r1::r2::H) C q:=fun r1 r2=>hC.sub (fun _ h=>qT _ (qT _ h))
 have l4:=hC.l4
 refine Fc.mk (callable Tryz.call143) Tryz.func143 rfl Tryz.ntmps143 rfl ?_;dsimp only [fr]
 repeat' (first | (refine uP rfl ?_;(first | ((first | refine uN rfl ?_);(first | (refine uE (EvF.build (cs:=cSp ⟨0,200⟩) rfl (ArgsP.cons rfl (ArgsP.cons rfl ArgsP.nil)) (te rfl) (Places.cons (te rfl) (Places.cons (te rfl) Places.nil)) Tryz.zeroValue24 rfl) rfl rfl ?_)|(refine uC (uT rfl (Args.cons rfl (Args.cons rfl Args.nil))) rfl rfl (withinL_spec ⟨0,200⟩ C.d _ _ _ (hC2 _ _).d (by omega)) ?_;rintro _ H9 ⟨rfl,hH9⟩;subst H9)|(refine uE (uA rfl rfl) rfl rfl ?_)|(refine uE (uF rfl rfl (te rfl) rfl (te rfl) (by decide)) rfl rfl ?_)|(refine uE (uL rfl rfl (uO (te rfl) rfl (qH _) rfl)) rfl rfl ?_)|(refine Xg.st (StF.boxAgg rfl rfl) rfl rfl ?_;rintro _ _ ⟨bx,rfl,rfl⟩)))))|(refine uD rfl ?_;refine hK _ _ ?_;clear hK K) | refine uS rfl ?_ | refine uR rfl (fun K hK=>?_) | refine X.ret rfl ?_)
 refine ret_one (by simp) Tryz.results143 rfl (H' := H) (by (repeat (first | exact qR _ | apply qC));done) ?_;simp only [and_true,true_and]
 congr 1
 exact decide_eq_decide.2 Iff.rfl
theorem hasTruth_spec (hb : baleOk B) (hB : BlOk H B p) : Fc Tryz.prog 144 ([.agg (cBl B p).toArray,.agg (cCa C q).toArray]++[]) H (fun v H' => v = .bool (decide (canB B))∧H' = H):=by
 show Fc Tryz.prog 144 [.agg (cBl B p).toArray,.agg (cCa C q).toArray] H _
 have hB2 : ∀ r1 r2,BlOk (r1::r2::H) B p:=fun r1 r2=>hB.sub (fun _ h=>qT _ (qT _ h))
 refine Fc.mk (callable Tryz.call144) Tryz.func144 rfl Tryz.ntmps144 rfl ?_;dsimp only [fr]
 repeat' (first | (refine uP rfl ?_;(first | ((first | refine uN rfl ?_);(first | (refine uC (uT rfl (Args.cons rfl Args.nil)) rfl rfl (pressed_spec B p _ hb.h5 hb.hd (hB2 _ _)) ?_;rintro _ H9 ⟨rfl,hH9⟩;subst H9)|(refine uC (uT rfl (Args.cons rfl Args.nil)) rfl rfl (can_spec B p (gradesOf B) _ hb.h5 hb.hdry hb.hw (gradesOf_len hb) (hB2 _ _)) ?_;rintro _ H9 ⟨rfl,hH9⟩;subst H9)|(refine uE (uA rfl rfl) rfl rfl ?_)|(refine uE (uL rfl rfl (uW (te rfl) rfl (qT _ (qH _)) rfl)) rfl rfl ?_)|(refine Xg.st (StF.boxAgg rfl rfl) rfl rfl ?_;rintro _ _ ⟨bx,rfl,rfl⟩)))))|(refine uD rfl ?_;refine hK _ _ ?_;clear hK K) | refine uS rfl ?_ | refine uR rfl (fun K hK=>?_) | refine X.ret rfl ?_)
 refine ret_one (by simp) Tryz.results144 rfl (H' := H) (by (repeat (first | exact qR _ | apply qC));done) ?_;simp only [and_true,true_and]
 congr 1
 exact decide_eq_decide.2 Iff.rfl
end
def tsHw : List TOp:=[⟨some 5,[],[],[]⟩,⟨some 6,[0],[0],[]⟩,⟨some 7,[0,1],[1],[]⟩,⟨some 8,[],[],[]⟩,⟨some 9,[3],[3],[]⟩,⟨some 10,[0,1,2,3,4],[2,4],[]⟩,⟨some 4,[0,1,2,3,4,5],[5],[]⟩]
def valHw (b2 b3 nB : Nat) (B : Bl) (p : Pb) (C : Ca) (q : Pc) (IL : List Value) (w : Bool) (k : Nat) (env : Env) : Value :=
 match k with
 | 0 => .pointer (some ⟨b2,5,none⟩)
 | 1 => .slice p.a2 B.weighs.length p.c2
 | 2 => .slice (some ⟨(env 2).1,0,none⟩) nB (env 2).2
 | 3 => .pointer (some ⟨b3,2,none⟩)
 | 4 => .slice q.a3 C.w.length q.c3
 | 5 => .bool w
 | 6 => .bool w
 | _=>undef
def rowsHw (b2 b3 nB : Nat) (B : Bl) (p : Pb) (C : Ca) (q : Pc) (IL : List Value) (w : Bool) (k : Nat) (env : Env) : List Row :=
 match k with
 | 2=>[⟨(env 2).1,0,IL,some 3,(env 2).2 * 1⟩]
 | _=>[]
theorem locHw (b2 b3 nB : Nat) (B : Bl) (p : Pb) (C : Ca) (q : Pc) (IL : List Value) (w : Bool) : ∀ k env i q9,i ≠ k → (tAt tsHw k).sup.contains i = false → valHw b2 b3 nB B p C q IL w k (upd env i q9)=valHw b2 b3 nB B p C q IL w k env∧rowsHw b2 b3 nB B p C q IL w k (upd env i q9)=rowsHw b2 b3 nB B p C q IL w k env:=by
 intro k env i q hk hs
 have hu : ∀ j,j ≠ i → upd env i q j = env j:=fun j hj=>by unfold upd;rw [if_neg hj]
 match k,hk,hs with
 | 0,_,_=>exact ⟨rfl,rfl⟩
 | 1,_,_=>exact ⟨rfl,rfl⟩
 | 2,hk,hs=>exact ⟨by simp only [valHw,hu 2 (fun e=>hk e.symm)],by simp only [rowsHw,hu 2 (fun e=>hk e.symm)]⟩
 | 3,_,_=>exact ⟨rfl,rfl⟩
 | 4,_,_=>exact ⟨rfl,rfl⟩
 | 5,_,_=>exact ⟨rfl,rfl⟩
 | 6,_,_=>exact ⟨rfl,rfl⟩
 | _ + 7,_,_=>exact ⟨rfl,rfl⟩
def rdHw (k : Nat) : List Nat:=match k with
 | 5=>[2]
 | _=>[]
def tsHx : List TOp:=[⟨some 5,[],[],[]⟩,⟨some 6,[0],[0],[]⟩,⟨some 7,[0,1],[1],[]⟩,⟨some 8,[],[],[]⟩,⟨some 9,[3],[3],[]⟩,⟨some 10,[0,1,2,3,4],[2,4],[]⟩,⟨some 4,[0,1,2,3,4,5],[5],[]⟩]
def valHx (b2 b3 : Nat) (B : Bl) (p : Pb) (C : Ca) (q : Pc) (w : Bool) (k : Nat) (env : Env) : Value :=
 match k with
 | 0 => .pointer (some ⟨b2,5,none⟩)
 | 1 => .slice p.a2 B.weighs.length p.c2
 | 2 => .slice none 0 0
 | 3 => .pointer (some ⟨b3,2,none⟩)
 | 4 => .slice q.a3 C.w.length q.c3
 | 5 => .bool w
 | 6 => .bool w
 | _=>undef
def rowsHx (b2 b3 : Nat) (B : Bl) (p : Pb) (C : Ca) (q : Pc) (w : Bool) (k : Nat) (env : Env) : List Row :=
 match k with
 | _=>[]
theorem locHx (b2 b3 : Nat) (B : Bl) (p : Pb) (C : Ca) (q : Pc) (w : Bool) : ∀ k env i q9,i ≠ k → (tAt tsHx k).sup.contains i = false → valHx b2 b3 B p C q w k (upd env i q9)=valHx b2 b3 B p C q w k env∧rowsHx b2 b3 B p C q w k (upd env i q9)=rowsHx b2 b3 B p C q w k env:=by
 intro k env i q hk hs
 have hu : ∀ j,j ≠ i → upd env i q j = env j:=fun j hj=>by unfold upd;rw [if_neg hj]
 match k,hk,hs with
 | 0,_,_=>exact ⟨rfl,rfl⟩
 | 1,_,_=>exact ⟨rfl,rfl⟩
 | 2,_,_=>exact ⟨rfl,rfl⟩
 | 3,_,_=>exact ⟨rfl,rfl⟩
 | 4,_,_=>exact ⟨rfl,rfl⟩
 | 5,_,_=>exact ⟨rfl,rfl⟩
 | 6,_,_=>exact ⟨rfl,rfl⟩
 | _ + 7,_,_=>exact ⟨rfl,rfl⟩
set_option maxHeartbeats 2000000 in
theorem hasWeighings_spec (B : Bl) (p : Pb) (C : Ca) (q : Pc) (H : List Row) (hB : BlOk H B p) (hC : CaOk H C q) : Fc Tryz.prog 142 ([.agg (cBl B p).toArray,.agg (cCa C q).toArray]++[]) H (fun v H' => v = .bool (decide (askW B C))∧H' = H):=by
 show Fc Tryz.prog 142 [.agg (cBl B p).toArray,.agg (cCa C q).toArray] H _
 have l2:=hB.l2
 have l3:=hC.l3
 have hw : decide (∀ n ∈ C.w,n ∈ B.weighs.map (·.number)) = decide (askW B C):=decide_eq_decide.2 Iff.rfl
 obtain ⟨w,hwe⟩ : ∃ z,decide (askW B C)=z:=⟨_,rfl⟩
 rw [hwe] at hw ⊢
 have hN : B.weighs ≠ [] → ∀ H',(∀ r ∈ H,r ∈ H') → Fc Tryz.prog 128 [.slice p.a2 B.weighs.length p.c2,.func (.func 72) #[] #[]] H' (fun v H'' => ∃ b q,v = .slice (some ⟨b,0,none⟩) (B.weighs.map (·.number)).length q∧H'' = ⟨b,0,(B.weighs.map (·.number)).flatMap cI,some 3,q * 1⟩::H'):=fun h0 H' h=>(numbersO_specWg 72 (·.number) numberWg_spec B.weighs _ _ H' (hB.weighs.sub h) (by omega)).mono (by
  rintro v H'' (⟨e,_,_⟩ | ⟨b,q,_,e1,e2⟩)
  ·exact absurd e h0
  ·exact ⟨b,q,e1,e2⟩)
 have hN0 : B.weighs = [] → ∀ H',(∀ r ∈ H,r ∈ H') → Fc Tryz.prog 128 [.slice p.a2 B.weighs.length p.c2,.func (.func 72) #[] #[]] H' (fun v H'' => v = .slice none 0 0∧H'' = H'):=fun h0 H' h=>(numbersO_specWg 72 (·.number) numberWg_spec B.weighs _ _ H' (hB.weighs.sub h) (by omega)).mono (by
  rintro v H'' (⟨_,e1,e2⟩ | ⟨b,q,e,_,_⟩)
  ·exact ⟨e1,e2⟩
  ·exact absurd h0 e)
 have hA : ∀ H' b k,(∀ r ∈ H,r ∈ H') → SlE H' (some ⟨b,0,none⟩) cI 1 (B.weighs.map (·.number)) → Fc Tryz.prog 161 [.slice (some ⟨b,0,none⟩) (B.weighs.map (·.number)).length k,.slice q.a3 C.w.length q.c3] H' (fun v H'' => v = .bool w∧H'' = H'):=fun H' b k h hs=>by
  have:=among_spec (B.weighs.map (·.number)) C.w _ q.a3 k q.c3 H' hs (hC.w.sub h) (by rw [List.length_map];omega) (by omega)
  rwa [hw] at this
 refine Fc.mk (callable Tryz.call142) Tryz.func142 rfl Tryz.ntmps142 rfl ?_;dsimp only [fr]
 refine uS rfl ?_;refine uR rfl (fun K hK=>?_);repeat' (first | (refine uP rfl ?_;(first | ((first | refine uN rfl ?_);(first | (refine uE (uA rfl rfl) rfl rfl ?_)|(refine Xg.st (StF.boxAgg rfl rfl) rfl rfl ?_;rintro _ _ ⟨bx,rfl,rfl⟩)))))|(refine uD rfl ?_;refine hK _ _ ?_;clear hK K))
 rename_i b2
 rename Nat=>b3
 by_cases hnil : B.weighs = []
 ·have hA0 : ∀ H',(∀ r ∈ H,r ∈ H') → Fc Tryz.prog 161 [.slice none 0 0,.slice q.a3 C.w.length q.c3] H' (fun v H'' => v = .bool w∧H'' = H'):=fun H' h=>by
   have:=among_spec (B.weighs.map (·.number)) C.w none q.a3 0 q.c3 H' (by rw [hnil];exact sleNil) (hC.w.sub h) (by rw [List.length_map];omega) (by omega)
   rw [hw,List.length_map,hnil] at this
   exact this
  refine uS rfl ?_
  refine X.regionOb tsHx [2,3] [(2,.pointer (some ⟨b2,0,none⟩)),(3,.pointer (some ⟨b3,0,none⟩))] (valHx b2 b3 B p C q w) (rowsHx b2 b3 B p C q w) (fun _=>(0,0)) (⟨b3,0,cCa C q,some 88,4⟩::⟨b2,0,cBl B p,some 31,6⟩::H) rfl mixed (by repeat (first | exact uU _ | refine uV rfl ?_)) rfl (by kernel_rfl) (locHx b2 b3 B p C q w) (qR _) ?_ ?_
  ·repeat' (first | exact AllF.done rfl | (refine AllF.step rfl ?_ ?_;·(first | fail | ((first | refine Ob.ng rfl ?_);(first | exact uK (fun env R hR=>by exact ⟨_,uA rfl rfl,rfl⟩) rfl (fun _=>rfl) | exact uK (fun env R hR=>by exact ⟨_,uF rfl rfl (te rfl) rfl (te rfl) (by decide),rfl⟩) rfl (fun _=>rfl) | exact uK (fun env R hR=>by exact ⟨_,uL rfl rfl (uO (te rfl) rfl (hR _ (qH _)) rfl),rfl⟩) rfl (fun _=>rfl) | exact uK (fun env R hR=>by exact ⟨_,uL rfl rfl (uO (te rfl) rfl (hR _ (qT _ (qH _))) rfl),rfl⟩) rfl (fun _=>rfl)|(exact fun env S hS=>OpF.callV (Z:=[]) (uT rfl (Args.cons rfl (Args.cons rfl Args.nil))) (hN0 hnil _ (fun _ h=>hS _ (List.mem_append_right [_,_] h))) rfl rfl)|(exact fun env S hS=>OpF.callV (Z:=[]) (uT rfl (Args.cons rfl (Args.cons rfl Args.nil))) (hA0 _ (fun _ h=>hS _ (List.mem_append_right [_,_] h))) rfl rfl))))))
  intro env t ha hv
  refine ⟨_,ha.cons (hv 6 4 (Nat.le_of_ble_eq_true rfl) rfl),?_⟩
  repeat' (first | refine X.ret rfl ?_)
  refine ret_one (by simp) Tryz.results142 rfl (H' := H) (by (repeat (first | exact qR _ | apply qC));done) ?_;simp only [and_true,true_and]
  rfl
 ·refine uS rfl ?_
  refine X.regionRd tsHw rdHw [2,3] [(2,.pointer (some ⟨b2,0,none⟩)),(3,.pointer (some ⟨b3,0,none⟩))] (valHw b2 b3 (B.weighs.map (·.number)).length B p C q ((B.weighs.map (·.number)).flatMap cI) w) (rowsHw b2 b3 (B.weighs.map (·.number)).length B p C q ((B.weighs.map (·.number)).flatMap cI) w) (fun _=>(0,0)) (⟨b3,0,cCa C q,some 88,4⟩::⟨b2,0,cBl B p,some 31,6⟩::H) rfl mixed (by repeat (first | exact uU _ | refine uV rfl ?_)) rfl (by kernel_rfl) (by kernel_rfl) (locHw b2 b3 (B.weighs.map (·.number)).length B p C q ((B.weighs.map (·.number)).flatMap cI) w) (qR _) ?_ ?_
  ·repeat' (first | exact AllF.done rfl | (refine AllF.step rfl ?_ ?_;·(first | exact (Ob.ng rfl (uK (fun env R hR=>by exact ⟨_,uA rfl rfl,rfl⟩) rfl (fun _=>rfl))).toR | exact (Ob.ng rfl (uK (fun env R hR=>by exact ⟨_,uF rfl rfl (te rfl) rfl (te rfl) (by decide),rfl⟩) rfl (fun _=>rfl))).toR | exact (Ob.ng rfl (uK (fun env R hR=>by exact ⟨_,uL rfl rfl (uO (te rfl) rfl (hR _ (qH _)) rfl),rfl⟩) rfl (fun _=>rfl))).toR | exact (Ob.ng rfl (uK (fun env R hR=>by exact ⟨_,uL rfl rfl (uO (te rfl) rfl (hR _ (qT _ (qH _))) rfl),rfl⟩) rfl (fun _=>rfl))).toR | (refine ObR.ng rfl ?_;(first | (exact fun env S hS hrd=>(OpF.call (uT rfl (Args.cons rfl (Args.cons rfl Args.nil))) (hN hnil _ (fun _ h=>hS _ (List.mem_append_right [_,_] h)))).mono (fun v H' ⟨b,q,hv,hH⟩=>⟨(b,q),fun _=>hv,by rw [hH];exact List.Perm.refl _⟩))|(exact fun env S hS hrd=>OpF.callV (Z:=[]) (uT rfl (Args.cons rfl (Args.cons rfl Args.nil))) (hA _ _ _ (fun _ h=>hS _ (List.mem_append_right [_,_] h)) (SlE.ofRow (hrd 2 (qH _) _ (qH _)) (fun _ _=>rfl))) rfl rfl))))))
  intro env t ha hv
  refine ⟨_,ha.cons (hv 6 4 (Nat.le_of_ble_eq_true rfl) rfl),?_⟩
  repeat' (first | refine X.ret rfl ?_)
  refine ret_one (by simp) Tryz.results142 rfl (H' := H) (by (repeat (first | exact qR _ | apply qC));done) ?_;simp only [and_true,true_and]
  rfl
theorem few_len (ok : List Dr → Bool) (l : List Dr) : ∀ (k n : Nat) (r : List Dr),few ok l k n = some r → r.length < n + k
 | 0,n,r,h=>by simp [few] at h
 | k + 1,n,r,h=>by
  simp only [few] at h
  split at h
  ·rename_i r' hr'
   have:=lon_len ok l n [] r' hr'
   simp only [Option.some.injEq] at h
   subst h
   simp at this;omega
  ·have:=few_len ok l k (n + 1) r h
   omega
theorem few_getD (ok : List Dr → Bool) (l : List Dr) (k : Nat) : ((few ok l k 0).getD []).length ≤ k:=by
 cases h : few ok l k 0 with
 | none=>simp
 | some r=>have:=few_len ok l k 0 r h;simp;omega
theorem baleOk.pok {B : Bl} (h : baleOk B) : Pok B:=⟨h.h5,h.hd,h.hdry,h.hw⟩
noncomputable def fewD (B : Bl) : Option (List Dr):=few (okD B) B.draws (min 3 B.draws.length + 1) 0
noncomputable def fewW (B : Bl) : Option (List Dr):=few (okWt B) B.weighs (min 3 B.weighs.length + 1) 0
def numsOf (o : Option (List Dr)) : List Int:=(o.getD []).map (·.number)
set_option maxHeartbeats 4000000 in
theorem falseDraws_spec (B : Bl) (d1 : Addr) (c1 : Nat) (a2 : Option Addr) (c2 : Nat) (H : List Row) (hp : Pok B) (hB : BlOk H B ⟨some d1,c1,a2,c2⟩) :
  Fc Tryz.prog 75 [.agg (cBl B ⟨some d1,c1,a2,c2⟩).toArray] H (fun v H' => ∃ a c Z,v = .tuple #[.slice a (numsOf (fewD B)).length c,.bool (fewD B).isSome]∧SlE (Z++H) a cI 1 (numsOf (fewD B))∧H' = Z++H):=by
 have l1:=hB.l1
 have hlen:=few_getD (okD B) B.draws (min 3 B.draws.length + 1)
 have hB1 : ∀ r,BlOk (r::H) B ⟨some d1,c1,a2,c2⟩:=fun r=>hB.sub (fun _ h=>qT _ h)
 refine Fc.mk (callable Tryz.call75) Tryz.func75 rfl Tryz.ntmps75 rfl ?_;dsimp only [fr]
 repeat' (first | (refine uP rfl ?_;(first | ((first | refine uN rfl ?_);(first | (refine uE (EvF.makeFunc (fl:=[]) rfl Args.nil (Args.cons rfl Args.nil)) rfl rfl ?_)|(refine uC (uT rfl (by (repeat (first | exact Args.nil | refine Args.cons rfl ?_));done)) rfl rfl (fewest_specDr (okD B) B.draws (some d1) c1 3 120 [_] _ (hB1 _).draws l1 (by decide) (fun acc a' c' H' hs ha hb=>falseDraws1_spec B d1 c1 a2 c2 acc a' c' _ _ _ H' hp (hB.sub (fun r h=>hs r (qT _ h))) (hs _ (qH _)) ha hb)) ?_;rintro _ _ ⟨out,Z,hT,rfl,rfl⟩;obtain ⟨a3,c3,rfl,hs3⟩:=hT.sl (H:=⟨bx,0,cBl B ⟨some d1,c1,a2,c2⟩,some 31,6⟩::H))|(refine uC (uT rfl (by (repeat (first | exact Args.nil | refine Args.cons rfl ?_));done)) rfl rfl (numbersF_specDr 68 (·.number) numberDr_spec _ a3 c3 _ hs3 (by omega)) ?_;rintro _ _ ⟨a4,c4,Z2,rfl,rfl,hz⟩)|(refine uE (uM rfl rfl) rfl rfl ?_)|(refine uE (uA rfl rfl) rfl rfl ?_)|(refine uE (uF rfl rfl (te rfl) rfl (te rfl) (by decide)) rfl rfl ?_)|(refine uE (uL rfl rfl (uO (te rfl) rfl (qH _) rfl)) rfl rfl ?_)|(refine uE (uX rfl rfl rfl) rfl rfl ?_)|(refine Xg.st (StF.boxAgg rfl rfl) rfl rfl ?_;rintro _ _ ⟨bx,rfl,rfl⟩)))))|(refine uD rfl ?_;refine hK _ _ ?_;clear hK K) | refine uS rfl ?_ | refine uR rfl (fun K hK=>?_) | refine X.ret rfl ?_)
 refine ret_two (by simp) Tryz.results75 rfl rfl (H' := _) (qR _) ⟨a4,c4,Z2++(Z++[⟨bx,0,cBl B ⟨some d1,c1,a2,c2⟩,some 31,6⟩]),rfl,?_,?_⟩
 ·have hz' : SlE (Z2++(Z++⟨bx,0,cBl B ⟨some d1,c1,a2,c2⟩,some 31,6⟩::H)) a4 cI 1 (numsOf (fewD B)):=hz
  simpa using hz'
 ·simp;first | rfl | exact ⟨rfl,rfl⟩
set_option maxHeartbeats 4000000 in
theorem falseWeighs_spec (B : Bl) (a1 : Option Addr) (c1 : Nat) (d2 : Addr) (c2 : Nat) (H : List Row) (hp : Pok B) (hB : BlOk H B ⟨a1,c1,some d2,c2⟩) :
  Fc Tryz.prog 76 [.agg (cBl B ⟨a1,c1,some d2,c2⟩).toArray] H (fun v H' => ∃ a c Z,v = .tuple #[.slice a (numsOf (fewW B)).length c,.bool (fewW B).isSome]∧SlE (Z++H) a cI 1 (numsOf (fewW B))∧H' = Z++H):=by
 have l2:=hB.l2
 have hlen:=few_getD (okWt B) B.weighs (min 3 B.weighs.length + 1)
 have hB1 : ∀ r,BlOk (r::H) B ⟨a1,c1,some d2,c2⟩:=fun r=>hB.sub (fun _ h=>qT _ h)
 refine Fc.mk (callable Tryz.call76) Tryz.func76 rfl Tryz.ntmps76 rfl ?_;dsimp only [fr]
 repeat' (first | (refine uP rfl ?_;(first | ((first | refine uN rfl ?_);(first | (refine uE (EvF.makeFunc (fl:=[]) rfl Args.nil (Args.cons rfl Args.nil)) rfl rfl ?_)|(refine uC (uT rfl (by (repeat (first | exact Args.nil | refine Args.cons rfl ?_));done)) rfl rfl (fewest_specWg (okWt B) B.weighs (some d2) c2 3 125 [_] _ (hB1 _).weighs l2 (by decide) (fun acc a' c' H' hs ha hb=>falseWeighs1_spec B a1 c1 d2 c2 acc a' c' _ _ _ H' hp (hB.sub (fun r h=>hs r (qT _ h))) (hs _ (qH _)) ha hb)) ?_;rintro _ _ ⟨out,Z,hT,rfl,rfl⟩;obtain ⟨a3,c3,rfl,hs3⟩:=hT.sl (H:=⟨bx,0,cBl B ⟨a1,c1,some d2,c2⟩,some 31,6⟩::H))|(refine uC (uT rfl (by (repeat (first | exact Args.nil | refine Args.cons rfl ?_));done)) rfl rfl (numbersF_specWg 72 (·.number) numberWg_spec _ a3 c3 _ hs3 (by omega)) ?_;rintro _ _ ⟨a4,c4,Z2,rfl,rfl,hz⟩)|(refine uE (uM rfl rfl) rfl rfl ?_)|(refine uE (uA rfl rfl) rfl rfl ?_)|(refine uE (uF rfl rfl (te rfl) rfl (te rfl) (by decide)) rfl rfl ?_)|(refine uE (uL rfl rfl (uO (te rfl) rfl (qH _) rfl)) rfl rfl ?_)|(refine uE (uX rfl rfl rfl) rfl rfl ?_)|(refine Xg.st (StF.boxAgg rfl rfl) rfl rfl ?_;rintro _ _ ⟨bx,rfl,rfl⟩)))))|(refine uD rfl ?_;refine hK _ _ ?_;clear hK K) | refine uS rfl ?_ | refine uR rfl (fun K hK=>?_) | refine X.ret rfl ?_)
 refine ret_two (by simp) Tryz.results76 rfl rfl (H' := _) (qR _) ⟨a4,c4,Z2++(Z++[⟨bx,0,cBl B ⟨a1,c1,some d2,c2⟩,some 31,6⟩]),rfl,?_,?_⟩
 ·have hz' : SlE (Z2++(Z++⟨bx,0,cBl B ⟨a1,c1,some d2,c2⟩,some 31,6⟩::H)) a4 cI 1 (numsOf (fewW B)):=hz
  simpa using hz'
 ·simp;first | rfl | exact ⟨rfl,rfl⟩
open Classical in
noncomputable def wrongF (B : Bl) : List Int × List Int × Int:=if baleOk B then (if (fewD B).isSome = true∧(fewW B).isSome = true then (numsOf (fewD B),numsOf (fewW B),0) else ([],[],4)) else ([],[],30)
def WrongR (W : List Int × List Int × Int) (H : List Row) (v : Value) (H' : List Row) : Prop := ∃ a1 c1 a2 c2 Z,v = .tuple #[.slice a1 W.1.length c1,.slice a2 W.2.1.length c2,.int .i64 W.2.2]∧SlE (Z++H) a1 cI 1 W.1∧SlE (Z++H) a2 cI 1 W.2.1∧H' = Z++H
set_option maxHeartbeats 4000000 in
theorem kwrong_spec (B : Bl) (d1 : Addr) (c1 : Nat) (d2 : Addr) (c2 : Nat) (H : List Row) (hB : BlOk H B ⟨some d1,c1,some d2,c2⟩) :
  Fc Tryz.prog 27 [.agg (cBl B ⟨some d1,c1,some d2,c2⟩).toArray] H (WrongR (wrongF B) H):=by
 have hB1 : ∀ r,BlOk (r::H) B ⟨some d1,c1,some d2,c2⟩:=fun r=>hB.sub (fun _ h=>qT _ h)
 have hB2 : ∀ Z r,BlOk (Z++r::H) B ⟨some d1,c1,some d2,c2⟩:=fun Z r=>hB.sub (fun _ h=>List.mem_append_right _ (qT _ h))
 have hk:=kcheck_spec B ⟨some d1,c1,some d2,c2⟩
 by_cases hb : baleOk B
 ·simp only [if_pos hb] at hk
  refine Fc.mk (callable Tryz.call27) Tryz.func27 rfl Tryz.ntmps27 rfl ?_;dsimp only [fr]
  repeat' (first | (refine uP rfl ?_;(first | ((first | refine uN rfl ?_ | (refine Xo.g rfl rfl ?_;with_reducible refine Xw.ff ?_));(first | (refine uC (uT rfl (Args.cons rfl Args.nil)) rfl rfl (hk _ (hB1 _)) ?_;rintro _ H9 ⟨rfl,hH9⟩;subst H9)|(refine uC (uT rfl (by (repeat (first | exact Args.nil | refine Args.cons rfl ?_));done)) rfl rfl (falseDraws_spec B d1 c1 _ c2 _ hb.pok (hB1 _)) ?_;rintro _ _ ⟨a3,c3,Z,rfl,hs,rfl⟩)|(refine uE (uL rfl rfl (uW (te rfl) rfl (List.mem_append_right _ (qH _)) rfl)) rfl rfl ?_)|(refine uC (uT rfl (by (repeat (first | exact Args.nil | refine Args.cons rfl ?_));done)) rfl rfl (falseWeighs_spec B _ c1 d2 c2 _ hb.pok (hB2 _ _)) ?_;rintro _ _ ⟨a4,c4,Z2,rfl,hs2,rfl⟩)|(refine uE (uM rfl rfl) rfl rfl ?_)|(refine uE (uA rfl rfl) rfl rfl ?_)|(refine uE (EvF.pickT rfl rfl rfl) rfl rfl ?_)|(refine uE (EvF.pickF rfl rfl rfl) rfl rfl ?_)|(refine uE (uQ rfl rfl rfl rfl) rfl rfl ?_)|(refine uE (EvF.not rfl rfl) rfl rfl ?_)|(refine uE (uL rfl rfl (uW (te rfl) rfl (qH _) rfl)) rfl rfl ?_)|(refine uE (uX rfl rfl rfl) rfl rfl ?_)|(refine Xg.st (StF.boxAgg rfl rfl) rfl rfl ?_;rintro _ _ ⟨bx,rfl,rfl⟩)))|(refine Xo.g rfl rfl ?_;(first | (with_reducible refine Xw.tf rfl rfl ?_)|(with_reducible refine Xw.caseB (fun h=>?_) (fun h=>?_) <;> simp only [h,decide_true,decide_false,Bool.not_true,Bool.not_false,and_self,and_true,true_and,and_false,false_and])))))|(refine uD rfl ?_;refine hK _ _ ?_;clear hK K) | refine uS rfl ?_ | refine uR rfl (fun K hK=>?_) | refine X.skip rfl ?_ | refine X.ret rfl ?_ | (refine X.ite rfl rfl (fun hc=>?_);(first | (with_reducible refine Xb.t hc ?_)|(with_reducible refine Xb.caseN hc (fun h=>?_) (fun h=>?_))|(with_reducible refine Xb.caseB hc (fun h=>?_) (fun h=>?_))) <;> clear hc))
  all_goals try (exfalso;omega)
  ·have hx : (fewD B).isSome = false:=by simpa using (by assumption : (!(fewD B).isSome)=true)
   have e : wrongF B = ([],[],4):=by unfold wrongF;rw [if_pos hb,if_neg (by rw [hx];simp)]
   unfold WrongR;rw [e]
   exact ret_three (by simp) Tryz.results27 rfl rfl rfl (H' := H) (((List.sublist_cons_self _ _).trans (List.sublist_append_right _ _)).trans (List.sublist_append_right _ _)) ⟨none,0,none,0,[],rfl,sleNil,sleNil,rfl⟩
  ·have hx : (fewW B).isSome = false:=by simpa using (by assumption : (!(fewW B).isSome)=true)
   have e : wrongF B = ([],[],4):=by unfold wrongF;rw [if_pos hb,if_neg (by rw [hx];simp)]
   unfold WrongR;rw [e]
   exact ret_three (by simp) Tryz.results27 rfl rfl rfl (H' := H) (((List.sublist_cons_self _ _).trans (List.sublist_append_right _ _)).trans (List.sublist_append_right _ _)) ⟨none,0,none,0,[],rfl,sleNil,sleNil,rfl⟩
  ·have hx : (fewD B).isSome = true:=by simpa using (by assumption : (!(fewD B).isSome)=false)
   have hx2 : (fewW B).isSome = true:=by simpa using (by assumption : (!(fewW B).isSome)=false)
   have e : wrongF B = (numsOf (fewD B),numsOf (fewW B),0):=by unfold wrongF;rw [if_pos hb,if_pos ⟨hx,hx2⟩]
   unfold WrongR;rw [e]
   have hs2' : SlE (Z2++(Z++⟨bx,0,cBl B ⟨some d1,c1,some d2,c2⟩,some 31,6⟩::H)) a4 cI 1 (numsOf (fewW B)):=hs2
   have hs' : SlE (Z2++(Z++⟨bx,0,cBl B ⟨some d1,c1,some d2,c2⟩,some 31,6⟩::H)) a3 cI 1 (numsOf (fewD B)):=hs.sub (fun _ h=>List.mem_append_right _ h)
   exact ret_three (by simp) Tryz.results27 rfl rfl rfl (H' := _) (qR _) ⟨a3,c3,a4,c4,Z2++(Z++[⟨bx,0,cBl B ⟨some d1,c1,some d2,c2⟩,some 31,6⟩]),rfl,by simpa using hs',by simpa using hs2',by simp;first | rfl | exact ⟨rfl,rfl⟩⟩
 ·simp only [if_neg hb] at hk
  refine Fc.mk (callable Tryz.call27) Tryz.func27 rfl Tryz.ntmps27 rfl ?_;dsimp only [fr]
  repeat' (first | (refine uP rfl ?_;(first | ((first | refine uN rfl ?_);(first | (refine uC (uT rfl (Args.cons rfl Args.nil)) rfl rfl (hk _ (hB1 _)) ?_;rintro _ H9 ⟨rfl,hH9⟩;subst H9)|(refine uE (uM rfl rfl) rfl rfl ?_)|(refine uE (uA rfl rfl) rfl rfl ?_)|(refine uE (uQ rfl rfl rfl rfl) rfl rfl ?_)|(refine uE (uL rfl rfl (uW (te rfl) rfl (qH _) rfl)) rfl rfl ?_)|(refine Xg.st (StF.boxAgg rfl rfl) rfl rfl ?_;rintro _ _ ⟨bx,rfl,rfl⟩)))))|(refine uD rfl ?_;refine hK _ _ ?_;clear hK K) | refine uS rfl ?_ | refine uR rfl (fun K hK=>?_) | refine X.skip rfl ?_ | refine X.ret rfl ?_ | (refine X.ite rfl rfl (fun hc=>?_);(first | (with_reducible refine Xb.caseN hc (fun h=>?_) (fun h=>?_))) <;> clear hc))
  all_goals try (exfalso;omega)
  have e : wrongF B = ([],[],30):=by unfold wrongF;rw [if_neg hb]
  unfold WrongR;rw [e]
  exact ret_three (by simp) Tryz.results27 rfl rfl rfl (H' := H) (by (repeat (first | exact qR _ | apply qC));done) ⟨none,0,none,0,[],rfl,sleNil,sleNil,rfl⟩
theorem sameInts3_spec (l m : List Int) (a a' : Option Addr) (c c' : Nat) (H : List Row) (hl : SlE H a cI 1 l) (hm : SlE H a' cI 1 m) (hb : l.length ≤ 9223372036854775807) : Fc Tryz.prog 77 [.slice a l.length c,.slice a' m.length c'] H (fun v H' => v = .bool (decide (l = m))∧H' = H):=by
 refine Fc.mk (callable Tryz.call77) Tryz.func77 rfl Tryz.ntmps77 rfl ?_;dsimp only [fr]
 repeat' (first | (refine uP rfl ?_;(first | ((first | refine uN rfl ?_);(first | (refine uE (uM rfl rfl) rfl rfl ?_)|(refine uE (uA rfl rfl) rfl rfl ?_)|(refine uE (uQ rfl rfl rfl rfl) rfl rfl ?_)|(refine uE (uY rfl rfl (te rfl)) rfl rfl ?_)))))|(refine uD rfl ?_;refine hK _ _ ?_;clear hK K)|(refine XQ.op rfl ?_;(first | ((first | refine Yo.ng rfl ?_);(first | (refine Yg.ev (uM rfl rfl) rfl rfl ?_))))) | refine uS rfl ?_ | refine uR rfl (fun K hK=>?_) | refine X.regionD rfl mixed (by kernel_rfl) (fun K hK=>?_) | refine X.block rfl ?_ | (refine X.brk rfl ?_;repeat (first | refine blockX_hit rfl ?_ | refine blockX_miss (by decide) ?_)) | refine X.skip rfl ?_ | refine X.ret rfl ?_ | (refine X.ite rfl rfl (fun hc=>?_);(first | (with_reducible refine Xb.case hc (fun h=>?_) (fun h=>?_))|(with_reducible refine Xb.caseN hc (fun h=>?_) (fun h=>?_))) <;> clear hc))
 ·refine ret_one (by simp) Tryz.results77 rfl (H' := H) (by (repeat (first | exact qR _ | apply qC));done) ?_;simp only [and_true,true_and]
  congr 1;symm;exact decide_eq_false (fun e=>by subst e;omega)
 ·refine X.lp rfl (fun q F' H' => ∃ k : Nat,q = l.length - k∧k ≤ l.length∧(l = m ↔ l.drop k = m.drop k)∧H = H'∧F' = [(0,.slice a l.length c),(1,.slice a' m.length c'),(5,.int .i64 k)])
   l.length [(0,.slice a l.length c),(1,.slice a' m.length c'),(5,.int .i64 (0 : Nat))] _ (by repeat (first | exact uU _ | refine uV rfl ?_)) (qR _) ⟨0,by omega,by omega,by simp,rfl,rfl⟩ ?_
  rintro _ _ _ ⟨k,rfl,hk,hn,rfl,rfl⟩
  repeat' (first | (refine uP rfl ?_;(first | ((first | refine uN rfl ?_);(first | (refine uE (uM rfl rfl) rfl rfl ?_)|(refine uE (uA rfl rfl) rfl rfl ?_)|(refine uE (uQ rfl rfl rfl rfl) rfl rfl ?_)|(refine uE (uY rfl rfl (te rfl)) rfl rfl ?_)))))|(refine uD rfl ?_;refine hK _ _ ?_;clear hK K)|(refine XQ.op rfl ?_;(first | ((first | refine Yo.ng rfl ?_);(first | (refine Yg.ev (uM rfl rfl) rfl rfl ?_))))) | refine uS rfl ?_ | refine uR rfl (fun K hK=>?_) | refine X.regionD rfl mixed (by kernel_rfl) (fun K hK=>?_) | refine X.block rfl ?_ | (refine X.brk rfl ?_;repeat (first | refine blockX_hit rfl ?_ | refine blockX_miss (by decide) ?_)) | refine X.skip rfl ?_ | refine X.ret rfl ?_ | (refine X.ite rfl rfl (fun hc=>?_);(first | (with_reducible refine Xb.case hc (fun h=>?_) (fun h=>?_))|(with_reducible refine Xb.caseN hc (fun h=>?_) (fun h=>?_))) <;> clear hc))
  ·obtain ⟨b,off,e,rfl,he⟩:=hl.elem (i:=k) (by omega)
   obtain ⟨b',off',f,rfl,hf⟩:=hm.elem (i:=k) (by omega)
   rw [drop_cons he,drop_cons hf,List.cons.injEq] at hn
   repeat' (first | (refine uP rfl ?_;(first | ((first | refine uN rfl ?_);(first | (refine uE (uM rfl rfl) rfl rfl ?_)|(refine uE (uA rfl rfl) rfl rfl ?_)|(refine uE (EvF.add64 rfl rfl rfl (by omega) (by omega)) rfl rfl ?_)))))|(refine uD rfl ?_;refine hK _ _ ?_;clear hK K)|(refine XQ.op rfl ?_;(first | ((first | refine Yo.ng rfl ?_);(first | (refine Yg.ev (uL rfl rfl (LoadV.el0 hl he (te rfl) rfl (fun _ hm=>hm) rfl)) rfl rfl ?_)|(refine Yg.ev (uL rfl rfl (LoadV.el0 hm hf (te rfl) rfl (fun _ hm=>hm) rfl)) rfl rfl ?_)|(refine Yg.ev (uM rfl rfl) rfl rfl ?_)|(refine Yg.ev (uQ rfl rfl rfl rfl) rfl rfl ?_)|(refine Yg.ev (uJ rfl rfl rfl (te rfl) (te rfl) (by omega) (by omega)) rfl rfl ?_)))))|(refine XQ.done rfl ?_;refine hK _ ?_;clear hK K) | refine uS rfl ?_ | refine uR rfl (fun K hK=>?_) | refine X.skip rfl ?_ | refine X.ret rfl ?_ | (refine X.ite rfl rfl (fun hc=>?_);(first | (with_reducible refine Xb.caseN hc (fun h=>?_) (fun h=>?_))) <;> clear hc))
   ·refine ret_one (by simp) Tryz.results77 rfl (H' := H) (by (repeat (first | exact qR _ | apply qC));done) ?_;simp only [and_true,true_and]
    congr 1;symm;exact decide_eq_false (fun q=>by have:=(hn.1 q).1;omega)
   ·refine ⟨_,_,_,(by repeat (first | exact uU _ | refine uV rfl ?_)),(by (repeat (first | exact qR _ | apply qC));done),⟨k + 1,rfl,by omega,hn.trans (and_iff_right (by assumption)),rfl,rfl⟩,by omega⟩
  ·refine ret_one (by simp) Tryz.results77 rfl (H' := H) (by (repeat (first | exact qR _ | apply qC));done) ?_;simp only [and_true,true_and]
   congr 1;symm;refine decide_eq_true (hn.2 ?_)
   rw [List.drop_eq_nil_of_le (by omega),List.drop_eq_nil_of_le (by omega)]
end Go.Proofs.YtbpcbdbclijomaaGreat
namespace Go.Fw
open Go Go.RowKit
/-- A call of yield, from what is known. -/
def Yc (P : Program) (l : Nat) (args : List Value) (H : List Row) (R : Value → List Row → Prop) : Prop :=
 ∀ B w0 w,St B w0 H w → ∃ fn tmps assign body,(Instr.yield l args.toArray).run P w = .ok (.round l fn tmps assign body) w ∧
  RoundIn Fence.wide 0 P l fn tmps assign body w fun e w' => ∃ v H',e = .returned v∧R v H'∧St B w0 H' w'
section
variable {P : Program} {n : Nat} {ops : Array Oper} {i : Nat} {o : Oper} {F : FS} {H : List Row}
theorem Yc.mono {l : Nat} {args : List Value} {R R' : Value → List Row → Prop} (h : Yc P l args H R) (hr : ∀ v H',R v H' → R' v H') : Yc P l args H R' := by
 intro B w0 w hS
 obtain ⟨fn,tmps,assign,body,h1,h2⟩:=h B w0 w hS
 exact ⟨fn,tmps,assign,body,h1,h2.mono fun e w' ⟨v,H',he,hR,hS'⟩=>⟨v,H',he,hr _ _ hR,hS'⟩⟩
/-- yield is called -/
theorem Xg.yield {N : FS → List Row → Prop} {g : Operand} {l : Nat} {al : List Operand} {tys : Array TypeId} {vs : List Value} {R : Value → List Row → Prop} (h : o.op = .call { callee := .value g,args:=al.toArray,argTypes:=tys })
  (hg : evF F g = some (.func (.yield l) #[] #[])) (hv : Args F al vs) {d : Nat} (hx : o.dst = some d) (hd : Nat.blt d n = true) (hY : Yc P l vs H R)
  (k : ∀ v H',R v H' → XO P n ops (i + 1) ((d,v)::F) H' N) : Xg P n ops i o F H N:=by
 unfold Xg Xo XO WO
 intro hw ho t ha ρ ds B w0 w hS
 replace ho' := opAt_arr ho
 rw [range_step ho']
 simp only [wpOpsIn,ho',hw t ha,if_true,Oper.wpIn,eval_ev]
 obtain ⟨fn,tmps,assign,body,h1,h2⟩:=hY B w0 w hS
 have hrun : (execOp (Fw.ev t) o).run P w = .ok (.round l fn tmps assign body) w:=by
  have e:=ha.ev hg
  have e2:=hv.ev ha
  simp [execOp,h,resolve,e,Deferred.ofValue,invoke,e2,callFunc,h1]
 rw [sem_round hrun,Oper.uponIn_round]
 refine ⟨fun _ _=>trivial,(fun h=>by cases h),?_⟩
 refine RoundIn.mono (F:=wf ρ) h2 ?_
 rintro e w' ⟨v,H',rfl,hR,hS'⟩
 simp only [put_act]
 have:=k v H' hR
 unfold XO WO at this
 exact this _ (hx ▸ ha.put (d:=some d) hd v) ρ ds B w0 w' hS'
end
def oRow (b : Nat) (o : Obj) : Row:=⟨b,0,[],some (.obj o),0⟩
/-- the block for the deferred calls of a loop's rounds: none -/
def dRow (D : Nat) : Row:=oRow D (.deferred (some []))
def dMk (D : Nat) : Deferred:={ target := .collected D,args := #[] }
theorem St.putObj {B : Nat} {w0 w : World} {H : List Row} {b : Nat} {o : Obj} (h : St B w0 (oRow b o::H) w) (o' : Obj) : St B w0 (oRow b o'::H) (w.putObj b o'):=by
 obtain ⟨hB,_,hb⟩:=h.ok _ (List.mem_cons_self ..)
 have hlt:=(Array.getElem?_eq_some_iff.1 hb).1
 have hp:=List.pairwise_cons.1 h.sep
 have hbel : Below B w (w.putObj b o'):=⟨rfl,rfl,rfl,by simp,fun k hk=>World.putObj_heap_other (by simp only [oRow] at hB;omega)⟩
 refine ⟨h.below.trans hbel,by simpa using h.size,fun r hr=>?_,List.pairwise_cons.2 ⟨fun s hs ho=>hp.1 s hs (.inl rfl),hp.2⟩⟩
 rcases List.mem_cons.1 hr with rfl | hr
 ·exact ⟨hB,rfl,World.putObj_heap_same hlt⟩
 ·exact Row.ok_of_block (h.ok r (List.mem_cons_of_mem _ hr)) (by simp) (World.putObj_heap_other (fun e=>hp.1 r hr (.inl rfl) e.symm))
theorem St.allocObj {B : Nat} {w0 w : World} {H : List Row} (h : St B w0 H w) (o : Obj) : St B w0 (oRow w.heap.size o::H) (w.alloc o):=by
 have h' := h.allocAny o
 refine ⟨h'.below,h'.size,fun r hr=>?_,List.pairwise_cons.2 ⟨fun s hs _=>?_,h.sep⟩⟩
 ·rcases List.mem_cons.1 hr with rfl | hr
  ·exact ⟨h.size,rfl,heap_alloc' _ _⟩
  ·exact h'.ok r hr
 ·have:=Row.ok_lt (h.ok s hs)
  show w.heap.size ≠ s.b
  omega
theorem St.obj {B : Nat} {w0 w : World} {H : List Row} {b : Nat} {o : Obj} (h : St B w0 H w) (hm : oRow b o ∈ H) : w.heap[b]? = some o:=(h.ok _ hm).2.2
abbrev QTT:=Exit → FS → List Nat → List Row → Prop
def liftT (n : Nat) (B : Nat) (w0 : World) (Q : QTT) (e : Exit) (a : Act) (w : World) : Prop := ∃ Ds F H',a.defers = Ds.map dMk∧Ag n F a.tmps.toList∧Q e F Ds H'∧St B w0 (H'++Ds.map dRow) w
/-- the walk over the code of a function in which loops over functions stand: Ds are the blocks that such loops have left -/
def XT (P : Program) (n : Nat) (c : Code) (F : FS) (Ds : List Nat) (H : List Row) (Q : QTT) : Prop :=
 ∀ t,Ag n F t → ∀ B w0 w,St B w0 (H++Ds.map dRow) w → c.wpIn Fence.wide 0 P (liftT n B w0 Q) ⟨t.toArray,Ds.map dMk⟩ w
section
variable {P : Program} {n : Nat} {c : Code} {F : FS} {Ds : List Nat} {H : List Row} {Q : QTT}
theorem XT.ofX (h : X P n c F (H++Ds.map dRow) (fun e F' H' => ∃ H'',(H''++Ds.map dRow).Sublist H'∧Q e F' Ds H'')) : XT P n c F Ds H Q:=by
 unfold X W at h
 intro t ha B w0 w hS
 refine wpIn_mono (h t ha none (Ds.map dMk) B w0 w hS) ?_
 rintro e a w' ⟨hd,H',⟨F',ha',H'',hs,hq⟩,hS'⟩
 exact ⟨Ds,F',H'',hd,ha',hq,hS'.sub hs⟩
/-- no loop over a function yet -/
theorem XT.of0 (h : X P n c F H (fun e F' H' => Q e F' [] H')) : XT P n c F [] H Q:=by
 refine XT.ofX ?_
 simp only [List.map_nil,List.append_nil]
 unfold X W at h ⊢
 intro t ha ρ ds B w0 w hS
 refine wpIn_mono (h t ha ρ ds B w0 w hS) ?_
 rintro e a w' ⟨hd,H',⟨F',ha',hq⟩,hS'⟩
 exact ⟨hd,H',⟨F',ha',H',List.Sublist.refl _,hq⟩,hS'⟩
abbrev thenT (N : FS → List Nat → List Row → Prop) (Q : QTT) : QTT
 | .normal,F,Ds,H=>N F Ds H
 | e,F,Ds,H=>Q e F Ds H
theorem XT.seq (h : c = .seq (cfst c) (csnd c)) (hx : XT P n (cfst c) F Ds H (thenT (fun F Ds H=>XT P n (csnd c) F Ds H Q) Q)) : XT P n c F Ds H Q:=by
 intro t ha B w0 w hS
 rw [h]
 refine wpIn_seq (wpIn_mono (hx t ha B w0 w hS) ?_)
 rintro e a w' ⟨Ds',F',H',hd,ha',hq,hS'⟩
 cases e with
 | normal=>show (csnd c).wpIn _ 0 P _ a w';rw [act_eta hd];exact hq _ ha' B w0 w' hS'
 | _=>exact ⟨Ds',F',H',hd,ha',hq,hS'⟩
abbrev blockT (id : Nat) (Q : QTT) : QTT
 | .exit i,F,Ds,H=>if i = id then Q .normal F Ds H else Q (.exit i) F Ds H
 | e,F,Ds,H=>Q e F Ds H
theorem XT.block (h : c = .block (cid c) (cfst c)) (hx : XT P n (cfst c) F Ds H (blockT (cid c) Q)) : XT P n c F Ds H Q:=by
 intro t ha B w0 w hS
 rw [h]
 refine wpIn_block (wpIn_mono (hx t ha B w0 w hS) ?_)
 rintro e a w' ⟨Ds',F',H',hd,ha',hq,hS'⟩
 cases e with
 | exit i =>
  simp only [blockT] at hq
  simp only [Exit.inBlock]
  split
  ·rename_i hi;rw [if_pos hi] at hq;exact ⟨Ds',F',H',hd,ha',hq,hS'⟩
  ·rename_i hi;rw [if_neg hi] at hq;exact ⟨Ds',F',H',hd,ha',hq,hS'⟩
 | _=>exact ⟨Ds',F',H',hd,ha',hq,hS'⟩
theorem XT.perm {H' : List Row} (hp : H'.Perm H) (h : XT P n c F Ds H' Q) : XT P n c F Ds H Q :=
 fun t ha B w0 w hS=>h t ha B w0 w (hS.perm (List.Perm.append_right _ hp))
theorem XT.weak {F' : FS} {H' : List Row} (hs : Sub F' F) (hh : H'.Sublist H) (h : XT P n c F' Ds H' Q) : XT P n c F Ds H Q :=
 fun t ha B w0 w hS=>h t (ha.sub hs) B w0 w (hS.sub (List.Sublist.append_right hh _))
theorem XT.mono {Q' : QTT} (h : XT P n c F Ds H Q) (hq : ∀ e F Ds H,Q e F Ds H → Q' e F Ds H) : XT P n c F Ds H Q' :=
 fun t ha B w0 w hS=>wpIn_mono (h t ha B w0 w hS) fun _ _ _ ⟨Ds',F',H',hd,ha',hq',hS'⟩=>⟨Ds',F',H',hd,ha',hq _ _ _ _ hq',hS'⟩
end
theorem leave_marks {P : Program} {fn : Func} {t : List Value} {R : Ending → World → Prop} {B : Nat} {w0 : World} {H : List Row} {v : Value} (hv : ResV P fn t H v) (hR : ∀ w,St B w0 H w → R (.returned v) w) :
  ∀ (Ds : List Nat) (w : World),St B w0 (H++Ds.map dRow) w → LeavesInM Fence.wide 0 P fn t.toArray R (Ds.map dMk) .returning w
 | [],w,hS=>by
  simp only [List.map_nil,List.append_nil] at hS
  unfold ResV at hv
  exact ⟨v,hv B w0 w hS,hR w hS⟩
 | D::Ds,w,hS=>by
  have hS1 : St B w0 (dRow D::(H++Ds.map dRow)) w:=hS.perm (by simpa using List.perm_middle.symm)
  have hk : w.heap[D]? = some (.deferred (some [])):=hS1.obj (List.mem_cons_self ..)
  refine ⟨by simp,.inl ⟨D,_,rfl,run_takeDeferred hk,?_⟩⟩
  exact leave_marks hv hR Ds _ (hS1.putObj _).tail
def retT (P : Program) (fn : Func) (R : Value → List Row → Prop) : QTT:=fun e F _ H=>(e = .normal∨e = .ret) ∧ ∃ v H',ResX P F H fn v∧H'.Sublist H∧R v H'
theorem Fc.mkT {P : Program} {fn : Func} {f : FuncId} {args : List Value} {n : Nat} {H : List Row} {R : Value → List Row → Prop} (hc : Callable P f) (hf : P.funcs[f]? = some fn) (hb : fn.body = some (cof fn)) (hn : fn.ntmps = n) (hl' : Nat.ble args.length n = true)
  (h : XT P n (cof fn) (fr 0 args) [] H (retT P fn R)) : Fc P f args H R:=by
 have hl:=Nat.le_of_ble_eq_true hl'
 subst hn
 unfold Fc
 refine ⟨hc,fun B w0 w hS=>callsIn_wide.1 (callsIn_of_wp_marks (n:=0) hf hb trivial ?_ rfl)⟩
 have ha : Ag fn.ntmps (fr 0 args) (args++List.replicate (fn.ntmps - args.length) undef):=by
  refine ⟨by simp;omega,fun i v hi=>?_⟩
  obtain ⟨k,hk,hv⟩:=lk_fr args 0 i v hi
  have hlt:=(List.getElem?_eq_some_iff.1 hv).1
  rw [show i = k by omega,List.getElem?_append_left hlt,hv]
 have:=h _ ha B w0 w (by simpa using hS)
 have he : (args.toArray++Array.replicate (fn.ntmps - args.toArray.size) undef)=(args++List.replicate (fn.ntmps - args.length) undef).toArray:=by simp
 rw [he]
 refine wpIn_mono this ?_
 rintro e a w' ⟨Ds,F',H',hd,ha',⟨he,v,H'',hv,hsub,hR⟩,hS'⟩
 unfold ResX at hv
 have key : LeavesInM Fence.wide 0 P fn a.tmps (fun e w' => ∃ v H',e = .returned v∧R v H'∧St B w0 H' w') a.defers .returning w' := by
  rw [hd]
  have:=leave_marks (R:=fun e w' => ∃ v H',e = .returned v∧R v H'∧St B w0 H' w') (B:=B) (w0:=w0) (hv _ _ ha') (fun w hS=>⟨v,H'',rfl,hR,hS.sub hsub⟩) Ds w' hS'
  simpa using this
 rcases he with rfl | rfl <;> exact key
def lRow (l : Nat) (r : Loop) : Row:=oRow l (.loop r)
/-- what an iterator does, whatever the loop's body is: xs come, each as encs tells -/
def Itf (P : Program) {α : Type} (f : FuncId) (cap : List Value) (E : List Row) (xs : List α) (encs : α → List Value) : Prop :=
 Callable P f ∧ ∀ (l : Nat) (J Jx : List α → List Row → Prop) (Hc : List Row),J [] Hc →
  (∀ pre x Hc,(pre++[x]) <+: xs → J pre Hc → ∀ E',Yc P l (encs x) (Hc++E') (fun v H' => ∃ Hc',H' = Hc'++E'∧((v = .bool true∧J (pre++[x]) Hc')∨(v = .bool false∧Jx (pre++[x]) Hc')))) →
  Fc P f (.func (.yield l) #[] #[]::cap) (Hc++E) (fun _ H' => ∃ Hc',H' = Hc'++E∧(J xs Hc' ∨ ∃ pre,pre <+: xs∧Jx pre Hc'))
/-- the same, whatever comes: what may come before is told by Gd, what has come in the end by Dn -/
def ItfG (P : Program) {α : Type} (f : FuncId) (cap : List Value) (E : List Row) (Gd Dn : List α → Prop) (encs : α → List Value) : Prop :=
 Callable P f ∧ ∀ (l : Nat) (J Jx : List α → List Row → Prop) (Hc : List Row),J [] Hc →
  (∀ pre x Hc,Gd (pre++[x]) → J pre Hc → ∀ E',Yc P l (encs x) (Hc++E') (fun v H' => ∃ Hc',H' = Hc'++E'∧((v = .bool true∧J (pre++[x]) Hc')∨(v = .bool false∧Jx (pre++[x]) Hc')))) →
  Fc P f (.func (.yield l) #[] #[]::cap) (Hc++E) (fun _ H' => ∃ Hc',H' = Hc'++E∧((∃ ys,Dn ys∧J ys Hc') ∨ ∃ pre,Gd pre∧Jx pre Hc'))
/-- how a loop's body can be left -/
def bodyX (I : List Row → Prop) (Ix : Code → List Row → Prop) (Z : List Row) : QX:=fun e _ H => ∃ Hb,(Hb++Z).Sublist H∧match e with
 | .normal=>I Hb
 | .ret=>Ix .ret Hb
 | .exit id=>Ix (.exit id) Hb
 | _=>False
def zipF : List Nat → List Value → FS → FS
 | p::ps,v::vs,F=>zipF ps vs ((p,v)::F)
 | _,_,F=>F
theorem ag_zipF' {n : Nat} : ∀ (ps : List Nat) (vs : List Value) (F : FS) (t : Array Value),Ag n F t.toList → ps.all (fun p=>Nat.blt p n)=true → Ag n (zipF ps vs F) ((ps.zip vs).foldl (fun tmps (x : Nat × Value)=>tmps.setIfInBounds x.1 x.2) t).toList
 | [],vs,F,t,ha,_=>ha
 | p::ps,[],F,t,ha,_=>ha
 | p::ps,v::vs,F,t,ha,hp=>by
  simp only [List.all_cons,Bool.and_eq_true] at hp
  have h1 : Ag n ((p,v)::F) (t.setIfInBounds p v).toList:=by
   have:=ha.put (d:=some p) hp.1 v
   simpa [pf,put] using this
  exact ag_zipF' ps vs ((p,v)::F) (t.setIfInBounds p v) h1 hp.2
theorem ag_zipF {n : Nat} (ps : List Nat) (vs : List Value) (F : FS) (t : Array Value) (ha : Ag n F t.toList) (hp : ps.all (fun p=>Nat.blt p n)=true) : Ag n (zipF ps vs F) ((ps.toArray.zip vs.toArray).foldl (fun tmps (x : Nat × Value)=>tmps.setIfInBounds x.1 x.2) t).toList:=by
 have h:=ag_zipF' ps vs F t ha hp
 have e : ps.toArray.zip vs.toArray = (ps.zip vs).toArray:=by simp
 rw [e]
 rw [← Array.foldl_toList]
 exact h
theorem XT.rangeG {P : Program} {n : Nat} {c : Code} {F : FS} {H : List Row} {Q : QTT} {α : Type} {g : Operand} {ps : List Nat} {assign body : Code} {f : FuncId} {cap : List Value} {E : List Row} {Gd Dn : List α → Prop} {encs : α → List Value}
  (h : c = .rangeFunc g ps.toArray assign body) (hg : evF F g = some (.func (.func f) #[] cap.toArray)) (hI : ItfG P f cap E Gd Dn encs) (hps : ps.all (fun p=>Nat.blt p n)=true) (hen : ∀ x,(encs x).length = ps.length)
  (I : List α → List Row → Prop) (Ix : Code → List Row → Prop) (Hb0 : List Row) (hH : H = Hb0++E) (h0 : I [] Hb0)
  (hround : ∀ pre x Hb,Gd (pre++[x]) → I pre Hb → ∀ Z,X P n assign (zipF ps (encs x) F) (Hb++Z) (fun e F1 H1=>e = .normal ∧ ∃ Hb1,(Hb1++Z).Sublist H1 ∧ ∀ Z',X P n body F1 (Hb1++Z') (bodyX (I (pre++[x])) Ix Z')))
  (hdone : ∀ D ys Hb,Dn ys → I ys Hb → Q .normal F [D] (Hb++E))
  (hret : ∀ D Hb,Ix .ret Hb → Q .ret F [D] (Hb++E))
  (hexit : ∀ D id Hb,Ix (.exit id) Hb → Q (.exit id) F [D] (Hb++E))
  (honly : ∀ c Hb,Ix c Hb → c = .ret ∨ ∃ id,c = .exit id) : XT P n c F [] H Q:=by
 subst h hH
 intro t ha B w0 w hS
 simp only [List.map_nil,List.append_nil] at hS
 refine wpIn_rangeFunc ?_
 intro fn _
 obtain ⟨hcall,hit⟩:=hI
 obtain ⟨rec,hrec⟩ : ∃ rec : LoopState → Option Code → Loop,rec = fun st pe=>{ state:=st,pending:=pe,fn,tmps:=t.toArray,params:=ps.toArray,assign,body,defers:=w.heap.size }:=⟨_,rfl⟩
 have hg' : Act.eval ⟨t.toArray,[]⟩ g = .func (.func f) #[] cap.toArray:=by rw [eval_ev];exact ha.ev hg
 have hS1:=hS.allocObj (.deferred (some []))
 have hS2:=hS1.allocObj (.loop (rec .ready none))
 refine ⟨w.heap.size + 1,[dMk w.heap.size],(w.alloc (.deferred (some []))).alloc (.loop (rec .ready none)),{ target := .fn (.func f) cap.toArray,args := #[.func (.yield (w.heap.size + 1)) #[] #[]] },(w.alloc (.deferred (some []))).alloc (.loop (rec .ready none)),f,
  #[.func (.yield (w.heap.size + 1)) #[] #[]]++cap.toArray,(w.alloc (.deferred (some []))).alloc (.loop (rec .ready none)),?_,?_,fun _ _=>trivial,?_,(fun h=>by cases h),?_⟩
 ·rw [hrec];exact run_enterLoop_outer fn _ _ _ _
 ·simp only [resolve,List.map_nil,hg']
  simp [Deferred.ofValue,Act.eval]
 ·unfold Callable at hcall
  simp [invoke]
  exact hcall _ _
 have hsz : (w.alloc (.deferred (some []))).heap.size = w.heap.size + 1:=size_alloc' _ _
 rw [hsz] at hS2
 -- the round
 have key:=hit (w.heap.size + 1)
  (fun pre Hc => ∃ Hb,I pre Hb∧Hc = lRow (w.heap.size + 1) (rec .ready none)::dRow w.heap.size::Hb)
  (fun _ Hc => ∃ Hb c,Ix c Hb∧Hc = lRow (w.heap.size + 1) (rec .done (some c))::dRow w.heap.size::Hb)
  (lRow (w.heap.size + 1) (rec .ready none)::dRow w.heap.size::Hb0) ⟨Hb0,h0,rfl⟩ ?_
 ·unfold Fc at key
  have hc:=key.2 B w0 _ hS2
  have e1 : (#[Value.func (.yield (w.heap.size + 1)) #[] #[]]++cap.toArray)=(Value.func (.yield (w.heap.size + 1)) #[] #[]::cap).toArray:=by simp
  rw [e1]
  refine (callsIn_wide (n:=0)).2 (hc.mono ?_)
  rintro e w' ⟨v,H',rfl,⟨Hc',rfl,hJ⟩,hS'⟩
  rcases hJ with ⟨ys,hys,Hb,hIb,rfl⟩ | ⟨pre,_,Hb,cc,hIx,rfl⟩
  ·have hl : w'.heap[w.heap.size + 1]? = some (.loop (rec .ready none)):=hS'.obj (List.mem_cons_self ..)
   have hS3:=(hS'.putObj (.loop { rec .ready none with state := .exhausted })).tail
   refine ⟨none,w'.putObj (w.heap.size + 1) (.loop { rec .ready none with state := .exhausted }),?_,?_⟩
   ·have:=run_endLoop (P:=P) hl (by rw [hrec];simp)
    rw [this];rw [hrec]
   ·refine ⟨[w.heap.size],F,Hb++E,rfl,?_,hdone _ _ _ hys hIb,?_⟩
    ·simpa using ha
    ·refine hS3.perm ?_
     simpa using List.perm_append_comm (l₁:=Hb++E) (l₂:=[dRow w.heap.size])
  ·have hl : w'.heap[w.heap.size + 1]? = some (.loop (rec .done (some cc))):=hS'.obj (List.mem_cons_self ..)
   have hS3:=(hS'.putObj (.loop { rec .done (some cc) with state := .exhausted })).tail
   refine ⟨some cc,w'.putObj (w.heap.size + 1) (.loop { rec .done (some cc) with state := .exhausted }),?_,?_⟩
   ·have:=run_endLoop (P:=P) hl (by rw [hrec];simp)
    rw [this];rw [hrec]
   ·have hS4 : St B w0 ((Hb++E)++[w.heap.size].map dRow) (w'.putObj (w.heap.size + 1) (.loop { rec .done (some cc) with state := .exhausted })):=by
     refine hS3.perm ?_
     simpa using List.perm_append_comm (l₁:=Hb++E) (l₂:=[dRow w.heap.size])
    rcases honly cc Hb hIx with rfl | ⟨id,rfl⟩
    ·exact wpIn_ret ⟨[w.heap.size],F,Hb++E,rfl,by simpa using ha,hret _ _ hIx,hS4⟩
    ·exact wpIn_exit ⟨[w.heap.size],F,Hb++E,rfl,by simpa using ha,hexit _ _ _ hIx,hS4⟩
 ·rintro pre x Hc hpre ⟨Hb,hIb,rfl⟩ E' B w0 w' hS'
  have hl : w'.heap[w.heap.size + 1]? = some (.loop (rec .ready none)):=hS'.obj (List.mem_cons_self ..)
  have hy:=run_yield (P:=P) (args:=(encs x).toArray) hl (by rw [hrec];simp [hen])
  rw [hrec] at hy
  refine ⟨_,_,_,_,hy,roundIn_of_wpIn (F:=Fence.wide) trivial ?_⟩
  have hag:=ag_zipF ps (encs x) F t.toArray (by simpa using ha) hps
  have hx:=hround pre x Hb hpre hIb (lRow (w.heap.size + 1) (rec .ready none)::dRow w.heap.size::E')
  unfold X W at hx
  have hx1:=hx _ hag (some (w.heap.size + 1)) [] B w0 w' (hS'.perm (by
   simpa using (List.perm_append_comm (l₁:=Hb) (l₂:=[lRow (w.heap.size + 1) (rec .ready none),dRow w.heap.size])).append_right E'))
  refine wpIn_mono (F:=Fence.wide.inRound (w.heap.size + 1)) (by rw [Array.toArray_toList] at hx1;exact hx1) ?_
  rintro e a1 w1 ⟨hd1,H1,⟨F1,ha1,he1,Hb1,hs1,hbody⟩,hS1'⟩
  subst he1
  have hS1'' : St B w0 (lRow (w.heap.size + 1) (rec .ready none)::(Hb1++(dRow w.heap.size::E'))) w1:=(hS1'.sub hs1).perm (by simpa using List.perm_middle.symm)
  have hl1 : w1.heap[w.heap.size + 1]? = some (.loop (rec .ready none)):=hS1''.obj (List.mem_cons_self ..)
  have hS1b:=hS1''.putObj (.loop { rec .ready none with state := .busy })
  have hb1:=hbody (lRow (w.heap.size + 1) { rec .ready none with state := .busy }::dRow w.heap.size::E')
  have hb2:=hb1 _ ha1 (some (w.heap.size + 1)) [] B w0 _ (hS1b.perm (by simp [lRow]))
  refine ⟨_,run_beginRound hl1 (by rw [hrec]),?_⟩
  rw [act_eta hd1]
  refine wpIn_mono (F:=Fence.wide.inRound (w.heap.size + 1)) hb2 ?_
  rintro e a2 w2 ⟨hd2,H2,⟨F2,ha2,Hb2,hs2,hq⟩,hS2'⟩
  have hS2'' : St B w0 (lRow (w.heap.size + 1) { rec .ready none with state := .busy }::(Hb2++(dRow w.heap.size::E'))) w2:=(hS2'.sub hs2).perm (by simpa using List.perm_middle.symm)
  have hl2 : w2.heap[w.heap.size + 1]? = some (.loop { rec .ready none with state := .busy }):=hS2''.obj (List.mem_cons_self ..)
  have fin : ∀ jump : Option Code,∃ w3,(Instr.endRound (w.heap.size + 1) jump).run P w2 = .ok (.bool jump.isNone) w3∧St B w0 ((lRow (w.heap.size + 1) (rec (if jump.isNone then .ready else .done) jump)::dRow w.heap.size::Hb2)++E') w3:=by
   intro jump
   have h1:=run_endRound (P:=P) jump hl2
   have h2:=hS2''.putObj (.loop { { rec .ready none with state:=LoopState.busy } with state:=if jump.isNone then .ready else .done,pending:=jump })
   have h3 : ({ { rec .ready none with state:=LoopState.busy } with state:=if jump.isNone then .ready else .done,pending:=jump } : Loop)=rec (if jump.isNone then .ready else .done) jump:=by rw [hrec]
   rw [h3] at h2
   have h4 : (Instr.endRound (w.heap.size + 1) jump).run P w2 = .ok (.bool jump.isNone) (w2.putObj (w.heap.size + 1) (.loop (rec (if jump.isNone then .ready else .done) jump))):=by rw [h1];rw [hrec]
   refine ⟨_,h4,h2.perm ?_⟩
   simp only [lRow,List.cons_append]
   refine List.Perm.cons _ ?_
   exact List.perm_middle.symm
  cases e with
  | normal =>
   obtain ⟨w3,h1,h2⟩:=fin none
   exact ⟨_,w3,h1,_,_,rfl,⟨_,rfl,.inl ⟨rfl,Hb2,hq,rfl⟩⟩,h2⟩
  | ret =>
   obtain ⟨w3,h1,h2⟩:=fin (some .ret)
   exact ⟨_,w3,h1,_,_,rfl,⟨_,rfl,.inr ⟨rfl,Hb2,_,hq,rfl⟩⟩,h2⟩
  | exit id =>
   obtain ⟨w3,h1,h2⟩:=fin (some (.exit id))
   exact ⟨_,w3,h1,_,_,rfl,⟨_,rfl,.inr ⟨rfl,Hb2,_,hq,rfl⟩⟩,h2⟩
  | goto l=>exact hq.elim
  | panic ch=>exact hq.elim
  | outgrown=>exact hq.elim
theorem Itf.toG {P : Program} {α : Type} {f : FuncId} {cap : List Value} {E : List Row} {xs : List α} {encs : α → List Value} (h : Itf P f cap E xs encs) : ItfG P f cap E (·<+: xs) (·= xs) encs :=
 ⟨h.1,fun l J Jx Hc h0 hy=>(h.2 l J Jx Hc h0 hy).mono fun _ _ ⟨Hc',e,hq⟩=>⟨Hc',e,hq.imp (fun q=>⟨xs,rfl,q⟩) id⟩⟩
theorem XT.range {P : Program} {n : Nat} {c : Code} {F : FS} {H : List Row} {Q : QTT} {α : Type} {g : Operand} {ps : List Nat} {assign body : Code} {f : FuncId} {cap : List Value} {E : List Row} {xs : List α} {encs : α → List Value}
  (h : c = .rangeFunc g ps.toArray assign body) (hg : evF F g = some (.func (.func f) #[] cap.toArray)) (hI : Itf P f cap E xs encs) (hps : ps.all (fun p=>Nat.blt p n)=true) (hen : ∀ x,(encs x).length = ps.length)
  (I : List α → List Row → Prop) (Ix : Code → List Row → Prop) (Hb0 : List Row) (hH : H = Hb0++E) (h0 : I [] Hb0)
  (hround : ∀ pre x Hb,(pre++[x]) <+: xs → I pre Hb → ∀ Z,X P n assign (zipF ps (encs x) F) (Hb++Z) (fun e F1 H1=>e = .normal ∧ ∃ Hb1,(Hb1++Z).Sublist H1 ∧ ∀ Z',X P n body F1 (Hb1++Z') (bodyX (I (pre++[x])) Ix Z')))
  (hdone : ∀ D Hb,I xs Hb → Q .normal F [D] (Hb++E))
  (hret : ∀ D Hb,Ix .ret Hb → Q .ret F [D] (Hb++E))
  (hexit : ∀ D id Hb,Ix (.exit id) Hb → Q (.exit id) F [D] (Hb++E))
  (honly : ∀ c Hb,Ix c Hb → c = .ret ∨ ∃ id,c = .exit id) : XT P n c F [] H Q :=
 XT.rangeG h hg hI.toG hps hen I Ix Hb0 hH h0 hround (fun D ys Hb e q=>by subst e;exact hdone D Hb q) hret hexit honly
attribute [irreducible] XT Yc
def okOp3 (sm : List Nat) (ts : List TOp) (dom : List Nat) (n m : Nat) (i : Nat) (o : Oper) : Bool :=
 let T:=tAt ts i
 (match o.guard with | some (j,_)=>T.sup.contains j | none=>true) && (o.dst == T.dst) &&
 (match T.dst with | some d=>decide (d < n) && (!dom.contains d || sm.contains i) && (List.range i).all (fun j=>(tAt ts j).dst != some d) | none=>true) &&
 o.after.toList.all (fun e => !Region.binds .any e || decide (e.on < i)) &&
 T.sup.all (fun j=>decide (j < i) && o.after.toList.any (fun e=>Region.binds .any e && (e.on == j || (tAt ts e.on).sup.contains j))) &&
 T.deps.all (fun j=>T.sup.contains j) && T.kills.all (fun k=>T.sup.contains k || decide (m ≤ k∧k < ts.length))
def okReg3 (sm : List Nat) (ops : Array Oper) (ts : List TOp) (dom : List Nat) (n : Nat) : Bool :=
 decide (ops.size ≤ ts.length) && ops.toList.zipIdx.all (fun p=>okOp3 sm ts dom n ops.size p.2 p.1) && decide ((ts.flatMap (·.kills)).Nodup) && (ts.drop ops.size).all (fun T=>T.kills.isEmpty && T.sup.isEmpty)
/-- an entry: its key, its value, its stamp -/
abbrev Ent:=Int × Value × Nat
def mE (kd : IntKind) (e : Ent) : MapEntry:=⟨.int kd e.1,e.2.1,e.2.2⟩
def mEs (kd : IntKind) (l : List Ent) : Array MapEntry:=(l.map (mE kd)).toArray
def mRow (b : Nat) (kd : IntKind) (l : List Ent) (clock : Nat) : Row:=oRow b (.map (mEs kd l) clock)
/-- a loop's iterator over the map in block m: what it has handed out -/
def iRow (r m since : Nat) (pre : List Ent) : Row:=oRow r (.mapIter (some m) since (pre.map (·.2.2)).toArray since)
theorem St.putAt {B : Nat} {w0 w : World} {H : List Row} {i b : Nat} {o : Obj} (h : St B w0 H w) (hi : H[i]? = some (oRow b o)) (o' : Obj) : St B w0 (H.set i (oRow b o')) (w.putObj b o'):=by
 have hr:=h.ok _ (List.mem_of_getElem? hi)
 obtain ⟨hB,_,hb⟩:=hr
 have hlt:=(Array.getElem?_eq_some_iff.1 hb).1
 have hbel : Below B w (w.putObj b o'):=⟨rfl,rfl,rfl,by simp,fun k hk=>World.putObj_heap_other (by simp only [oRow] at hB;omega)⟩
 refine ⟨h.below.trans hbel,by simpa using h.size,fun r hm=>?_,pairwise_set H i _ _ hi (fun s q ho=>q (.inl rfl)) (fun s q ho=>q (.inr rfl)) h.sep⟩
 obtain ⟨k,hk,hke⟩:=List.mem_iff_getElem.1 hm
 by_cases hki : k = i
 ·subst hki
  have : r = oRow b o' := by rw [← hke];simp
  subst this
  exact ⟨hB,rfl,World.putObj_heap_same hlt⟩
 ·have hk' : H[k]? = some r:=by
   rw [List.length_set] at hk
   rw [List.getElem_set_ne (by omega)] at hke
   rw [List.getElem?_eq_getElem hk,hke]
  have hne:=sep_other h.sep hi hk' (fun e=>hki e.symm) rfl
  exact Row.ok_of_block (h.ok r (List.mem_of_getElem? hk')) (by simp) (World.putObj_heap_other (fun e=>hne (by simpa [oRow] using e)))
/-- what storing makes of the entries -/
def insM (l : List Ent) (clock : Nat) (k : Int) (v : Value) : List Ent:=if l.any (fun e=>e.1 == k) then l.map (fun e=>if e.1 = k then (e.1,v,e.2.2) else e) else l++[(k,v,clock)]
def clkM (l : List Ent) (clock : Nat) (k : Int) : Nat:=if l.any (fun e=>e.1 == k) then clock else clock + 1
def keysM (l : List Ent) : Prop:=(l.map (·.1)).Nodup
def atM (l : List Ent) (k : Int) : Option Value:=(l.find? (fun e=>e.1 == k)).map (·.2.1)
theorem findNow_mem {kd : IntKind} {k : Int} : ∀ (l : List Ent) (i : Nat),
  Instr.findNow (.int kd) (.int kd k) (l.map (mE kd)) i = some (match l.findIdx? (fun e=>e.1 == k) with | some j=>some (i + j,(l.getD j (0,undef,0)).2.1) | none=>none)
 | [],_=>rfl
 | e::l,i=>by
  rw [List.map_cons]
  unfold Instr.findNow
  have h1 : Instr.sameNow (.int kd) (.int kd k) (mE kd e).key = some (k == e.1):=by simp [Instr.sameNow,mE]
  rw [h1,List.findIdx?_cons]
  by_cases h : e.1 = k
  ·have h2 : (k == e.1)=true:=by simp [h]
   have h3 : (e.1 == k)=true:=by simp [h]
   rw [h2,h3]
   simp [mE]
  ·have h2 : (k == e.1)=false:=by simp;exact fun q=>h q.symm
   have h3 : (e.1 == k)=false:=by simp [h]
   rw [h2,h3]
   simp only [Bool.false_eq_true,if_false]
   rw [findNow_mem l (i + 1)]
   cases hf : l.findIdx? (fun e=>e.1 == k) with
   | none=>simp
   | some j=>simp [Nat.add_assoc,Nat.add_comm 1 j]
section
variable {P : Program} {H : List Row} {F : FS} {n : Nat} {o : Oper}
theorem run_findM {w : World} {kt : TypeId} {kd : IntKind} (hk : P.underlying kt = some (.int kd)) (l : List Ent) (k : Int) :
  (Instr.findKey kt (.int kd k) (mEs kd l).toList).run P w = .ok (match l.findIdx? (fun e=>e.1 == k) with | some j=>some (j,(l.getD j (0,undef,0)).2.1) | none=>none) w:=by
 have h:=findNow_mem (kd:=kd) (k:=k) l 0
 have : (mEs kd l).toList = l.map (mE kd):=by simp [mEs]
 rw [this]
 simp only [Nat.zero_add] at h
 exact MapKept.run_findKey hk h
theorem any_none {l : List Ent} {k : Int} (h : l.findIdx? (fun e=>e.1 == k)=none) : l.any (fun e=>e.1 == k)=false:=by
 rw [List.findIdx?_eq_none_iff] at h
 rw [List.any_eq_false]
 intro e he
 have:=h e he
 simpa using this
theorem any_some {l : List Ent} {k : Int} {j : Nat} (h : l.findIdx? (fun e=>e.1 == k)=some j) : l.any (fun e=>e.1 == k)=true ∧ ∃ e,l[j]? = some e∧e.1 = k:=by
 obtain ⟨hj,he,_⟩:=List.findIdx?_eq_some_iff_getElem.1 h
 exact ⟨List.any_eq_true.2 ⟨_,List.getElem_mem hj,he⟩,_,List.getElem?_eq_getElem hj,by simpa using he⟩
theorem StF.makeMap {T : TypeId} (kd : IntKind) (h : o.op = .makeMap T none) : StF P n H F o (fun v H' => ∃ b,v = .map (some b)∧H' = mRow b kd [] 0::H):=by
 unfold StF StepOp
 intro t ha B w0 w hS
 refine ⟨_,_,_,.inl ?_,hS.allocObj (.map #[] 0),_,rfl,rfl⟩
 simp [execOp,h,Instr.makeMap,newObj,Sem.run,World.alloc_eq]
theorem modify_list {α : Type} (f : α → α) : ∀ (l : List α) (j : Nat),(l.toArray.modify j f)=(l.modify j f).toArray:=by
 intro l j
 apply Array.ext'
 simp
theorem keys_inj {l : List Ent} (hl : keysM l) {i j : Nat} {a b : Ent} (ha : l[i]? = some a) (hb : l[j]? = some b) (h : a.1 = b.1) : i = j:=by
 obtain ⟨hi,he⟩:=List.getElem?_eq_some_iff.1 ha
 obtain ⟨hj,hf⟩:=List.getElem?_eq_some_iff.1 hb
 have:=(List.nodup_iff_pairwise_ne.1 hl)
 rw [List.pairwise_map] at this
 rcases Nat.lt_trichotomy i j with q | q | q
 ·exact absurd (by rw [he,hf];exact h) (List.pairwise_iff_getElem.1 this i j hi hj q)
 ·exact q
 ·exact absurd (by rw [he,hf];exact h.symm) (List.pairwise_iff_getElem.1 this j i hj hi q)
theorem StF.mapUpdate {T kt e : TypeId} {m key val : Operand} {kd : IntKind} {i b clock : Nat} {l : List Ent} {k : Int} {v : Value} (h : o.op = .mapUpdate T m key val) (hT : P.underlying T = some (.map kt e)) (hk : P.underlying kt = some (.int kd))
  (hm : evF F m = some (.map (some b))) (hx : evF F key = some (.int kd k)) (hv : evF F val = some v) (hi : H[i]? = some (mRow b kd l clock)) (hl : keysM l) :
  StF P n H F o (fun u H' => u = undef∧H' = H.set i (mRow b kd (insM l clock k v) (clkM l clock k))):=by
 unfold StF StepOp
 intro t ha B w0 w hS
 have hb : w.heap[b]? = some (.map (mEs kd l) clock):=(hS.ok _ (List.mem_of_getElem? hi)).2.2
 have e1:=ha.ev hm
 have e2:=ha.ev hx
 have e3:=ha.ev hv
 have hkey : MapKept.IsKey (.int kd) (.int kd k):=rfl
 refine ⟨undef,w.putObj b (.map (mEs kd (insM l clock k v)) (clkM l clock k)),_,.inr ⟨?_,rfl⟩,hS.putAt hi _,rfl,rfl⟩
 have hf:=run_findM (P:=P) (w:=w) hk l k
 cases hj : l.findIdx? (fun e=>e.1 == k) with
 | none =>
  have ha:=any_none hj
  rw [hj] at hf
  have hi1 : insM l clock k v = l++[(k,v,clock)]:=by unfold insM;rw [if_neg (by simp [ha])]
  have hi2 : clkM l clock k = clock + 1:=by unfold clkM;rw [if_neg (by simp [ha])]
  rw [hi1,hi2]
  have he : (mEs kd l).push ⟨.int kd k,v,clock⟩ = mEs kd (l++[(k,v,clock)]):=by simp [mEs,mE]
  simp [execOp,h,Instr.mapUpdate,e1,e2,e3,run_underlying hT,MapKept.run_getObj_map hb,MapKept.run_checkKey hk hkey,hf,MapKept.run_setObj_map _ hb,he,World.putObj]
 | some j =>
  obtain ⟨ha,e,hje,hek⟩:=any_some hj
  rw [hj] at hf
  have hi1 : insM l clock k v = l.map (fun e=>if e.1 = k then (e.1,v,e.2.2) else e):=by unfold insM;rw [if_pos ha]
  have hi2 : clkM l clock k = clock:=by unfold clkM;rw [if_pos ha]
  rw [hi1,hi2]
  have hkj : ((mEs kd l)[j]?.map (·.key)).getD (.int kd k) = .int kd k:=by simp [mEs,hje,mE,hek]
  have he : (mEs kd l).modify j (fun e=>{ e with key := .int kd k,val:=v }) = mEs kd (l.map (fun e=>if e.1 = k then (e.1,v,e.2.2) else e)):=by
   unfold mEs
   rw [modify_list]
   congr 1
   apply List.ext_getElem?
   intro x
   rw [List.getElem?_modify,List.getElem?_map,List.getElem?_map,List.getElem?_map]
   cases hx : l[x]? with
   | none=>simp
   | some a =>
    by_cases hxj : j = x
    ·subst hxj
     rw [hje] at hx
     obtain rfl:=Option.some.inj hx
     simp [mE,hek]
    ·have hne : a.1 ≠ k:=fun q=>hxj (keys_inj hl hje hx (by rw [hek,q]))
     simp [hxj,hne]
  simp [execOp,h,Instr.mapUpdate,e1,e2,e3,run_underlying hT,MapKept.run_getObj_map hb,MapKept.run_checkKey hk hkey,hf,hkj,MapKept.run_keyThatStays hkey,MapKept.run_setObj_map _ hb,he,World.putObj]
/-- what is left when a key is struck out -/
def delM (l : List Ent) (k : Int) : List Ent:=l.filter (fun e => !(e.1 == k))
theorem del_eraseIdx {l : List Ent} {k : Int} (hl : keysM l) {j : Nat} {e : Ent} (hj : l[j]? = some e) (he : e.1 = k) : l.eraseIdx j = delM l k:=by
 induction l generalizing j with
 | nil=>cases hj
 | cons a l ih =>
  have hl' := List.nodup_cons.1 hl
  cases j with
  | zero =>
   simp only [List.getElem?_cons_zero,Option.some.injEq] at hj
   subst hj
   rw [List.eraseIdx_cons_zero]
   unfold delM
   rw [List.filter_cons,if_neg (by simp [he])]
   refine (List.filter_eq_self.2 fun x hx=>?_).symm
   have : x.1 ≠ k:=fun q=>hl'.1 (List.mem_map.2 ⟨x,hx,q.trans he.symm⟩)
   simp [this]
  | succ j =>
   rw [List.getElem?_cons_succ] at hj
   rw [List.eraseIdx_cons_succ,ih hl'.2 hj]
   have : a.1 ≠ k:=fun q=>hl'.1 (List.mem_map.2 ⟨e,List.mem_of_getElem? hj,by rw [he];exact q.symm⟩)
   unfold delM
   rw [List.filter_cons,if_pos (by simp [this])]
theorem StF.delete {T T' kt e : TypeId} {m key : Operand} {kd : IntKind} {i b clock : Nat} {l : List Ent} {k : Int} (h : o.op = .call { callee := .builtin .delete,args := #[m,key],argTypes := #[T,T'] }) (hT : P.underlying T = some (.map kt e)) (hk : P.underlying kt = some (.int kd))
  (hm : evF F m = some (.map (some b))) (hx : evF F key = some (.int kd k)) (hi : H[i]? = some (mRow b kd l clock)) (hl : keysM l) :
  StF P n H F o (fun u H' => u = .tuple #[]∧H' = H.set i (mRow b kd (delM l k) clock)):=by
 unfold StF StepOp
 intro t ha B w0 w hS
 have hb : w.heap[b]? = some (.map (mEs kd l) clock):=(hS.ok _ (List.mem_of_getElem? hi)).2.2
 have e1:=ha.ev hm
 have e2:=ha.ev hx
 have hkey : MapKept.IsKey (.int kd) (.int kd k):=rfl
 refine ⟨.tuple #[],w.putObj b (.map (mEs kd (delM l k)) clock),_,.inl ?_,hS.putAt hi _,rfl,rfl⟩
 have hf:=run_findM (P:=P) (w:=w) hk l k
 cases hj : l.findIdx? (fun e=>e.1 == k) with
 | none =>
  rw [hj] at hf
  have hd : delM l k = l:=by
   refine List.filter_eq_self.2 fun x hx=>?_
   have:=(List.findIdx?_eq_none_iff.1 hj) x hx
   simpa using this
  rw [hd]
  simp [execOp,h,resolve,invoke,builtin,Builtin.delete_,e1,e2,run_underlying hT,MapKept.run_getObj_map hb,MapKept.run_checkKey hk hkey,hf,MapKept.run_setObj_map _ hb,World.putObj]
 | some j =>
  obtain ⟨ha,e,hje,hek⟩:=any_some hj
  rw [hj] at hf
  have he : (mEs kd l).eraseIdxIfInBounds j = mEs kd (delM l k):=by
   rw [← del_eraseIdx hl hje hek]
   apply Array.ext'
   have hm : ∀ (q : List Ent) (j : Nat),(q.map (mE kd)).eraseIdx j = (q.eraseIdx j).map (mE kd):=by
    intro q
    induction q with
    | nil=>intro j;rfl
    | cons a q ih=>intro j;cases j with
     | zero=>rfl
     | succ j=>rw [List.map_cons,List.eraseIdx_cons_succ,List.eraseIdx_cons_succ,List.map_cons,ih]
   simp [mEs,hm]
  simp [execOp,h,resolve,invoke,builtin,Builtin.delete_,e1,e2,run_underlying hT,MapKept.run_getObj_map hb,MapKept.run_checkKey hk hkey,hf,he,MapKept.run_setObj_map _ hb,World.putObj]
theorem EvF.lookup {T kt e : TypeId} {m key : Operand} {kd : IntKind} {b clock : Nat} {l : List Ent} {k : Int} {z : Value} (h : o.op = .lookup T m key false) (hT : P.underlying T = some (.map kt e)) (hk : P.underlying kt = some (.int kd))
  (hm : evF F m = some (.map (some b))) (hx : evF F key = some (.int kd k)) (hi : mRow b kd l clock ∈ H) (hz : ∀ w,(zeroValue e).run P w = .ok z w) : EvF P n H F o ((atM l k).getD z):=by
 unfold EvF EvOp
 intro t ha B w0 w hS
 have hb : w.heap[b]? = some (.map (mEs kd l) clock):=(hS.ok _ hi).2.2
 have e1:=ha.ev hm
 have e2:=ha.ev hx
 have hkey : MapKept.IsKey (.int kd) (.int kd k):=rfl
 have hf:=run_findM (P:=P) (w:=w) hk l k
 cases hj : l.findIdx? (fun e=>e.1 == k) with
 | none =>
  rw [hj] at hf
  have : atM l k = none:=by unfold atM;rw [List.find?_eq_none.2 (fun x hx=>by have:=(List.findIdx?_eq_none_iff.1 hj) x hx;simpa using this)];rfl
  rw [this]
  simp [execOp,h,Instr.lookup,e1,e2,run_underlying hT,MapKept.run_getObj_map hb,MapKept.run_checkKey hk hkey,hf,hz]
 | some j =>
  obtain ⟨hj1,hj2,hj3⟩:=List.findIdx?_eq_some_iff_getElem.1 hj
  rw [hj] at hf
  have : atM l k = some l[j].2.1:=by
   unfold atM
   have : l.find? (fun e=>e.1 == k)=some l[j]:=by
    rw [List.find?_eq_some_iff_getElem]
    exact ⟨hj2,j,hj1,rfl,fun i hi=>by have:=hj3 i hi;simpa using this⟩
   rw [this];rfl
  rw [this]
  have hg : (l.getD j (0,undef,0)) = l[j]:=by simp [List.getD,hj1]
  simp only [hg] at hf
  simp [execOp,h,Instr.lookup,e1,e2,run_underlying hT,MapKept.run_getObj_map hb,MapKept.run_checkKey hk hkey,hf]
theorem StF.rangeMap {T kt e : TypeId} {m : Operand} {kd : IntKind} {b clock : Nat} {l : List Ent} (h : o.op = .range T m) (hT : P.underlying T = some (.map kt e)) (hm : evF F m = some (.map (some b))) (hi : mRow b kd l clock ∈ H) :
  StF P n H F o (fun v H' => ∃ r,v = .pointer (some ⟨r,0,none⟩)∧H' = iRow r b clock []::H):=by
 unfold StF StepOp
 intro t ha B w0 w hS
 have hb : w.heap[b]? = some (.map (mEs kd l) clock):=(hS.ok _ hi).2.2
 have e1:=ha.ev hm
 refine ⟨_,_,_,.inl ?_,hS.allocObj (.mapIter (some b) clock #[] clock),_,rfl,rfl⟩
 simp [execOp,h,e1,run_range_map w T kt e b (mEs kd l) clock hT hb]
/-- the next entry: none is left, or any one that is left -/
theorem StF.nextMap {it : Operand} {kd : IntKind} {i r b clock : Nat} {l pre : List Ent} (h : o.op = .next it false) (hx : evF F it = some (.pointer (some ⟨r,0,none⟩))) (hi : H[i]? = some (iRow r b clock pre)) (hb : mRow b kd l clock ∈ H) (hc : ∀ e ∈ l,e.2.2 < clock) :
  StF P n H F o (fun v H' => (v = .tuple #[.bool false]∧H' = H ∧ ∀ e ∈ l,e.2.2 ∈ pre.map (·.2.2)) ∨
   ∃ e ∈ l,e.2.2 ∉ pre.map (·.2.2)∧v = .tuple #[.bool true,.int kd e.1,e.2.1]∧H' = H.set i (iRow r b clock (pre++[e]))):=by
 unfold StF StepOp
 intro t ha B w0 w hS
 have hr : w.heap[r]? = some (.mapIter (some b) clock (pre.map (·.2.2)).toArray clock):=(hS.ok _ (List.mem_of_getElem? hi)).2.2
 have hm : w.heap[b]? = some (.map (mEs kd l) clock):=(hS.ok _ hb).2.2
 have e1:=ha.ev hx
 rcases run_next_at (P:=P) w o.type r b clock clock (pre.map (·.2.2)).toArray (mEs kd l) clock hr hm (fun x hx=>by
   obtain ⟨e,he,rfl⟩:=List.mem_map.1 (show x ∈ l.map (mE kd) by unfold mEs at hx;exact hx)
   exact hc e he) (Nat.le_refl _) with ⟨h0,hrun⟩ | ⟨e,he,w1,hw1,hrun⟩
 ·refine ⟨_,w,H,.inl ?_,hS,.inl ⟨rfl,rfl,fun e he=>?_⟩⟩
  ·simp [execOp,h,e1,hrun]
  ·have:=all_seen (mEs kd l) (pre.map (·.2.2)).toArray h0 (mE kd e) (by simpa [mEs] using List.mem_map_of_mem he)
   simpa [mE] using this
 ·obtain ⟨hel,hes⟩:=mem_left he
  obtain ⟨x,hxl,rfl⟩:=List.mem_map.1 (show e ∈ l.map (mE kd) by unfold mEs at hel;exact hel)
  have hS1 : St B w0 H w1:=by rcases hw1 with rfl | rfl;exact hS;exact hS.drew
  refine ⟨_,_,_,.inl ?_,hS1.putAt hi (.mapIter (some b) clock ((pre++[x]).map (·.2.2)).toArray clock),.inr ⟨x,hxl,?_,rfl,rfl⟩⟩
  ·have hp : (pre.map (·.2.2)).toArray.push (mE kd x).born = ((pre++[x]).map (·.2.2)).toArray:=by simp [mE]
   rw [hp] at hrun
   simp [execOp,h,e1,hrun,World.putObj,ChangeMaps.setBlock,mE]
  ·have : ((pre.map (·.2.2)).toArray.contains x.2.2)=false:=hes
   simpa using this
theorem EvF.entry {it : Operand} {kd : IntKind} {r b clock : Nat} {l pre : List Ent} {e : Ent} (h : o.op = .entry it) (hx : evF F it = some (.pointer (some ⟨r,0,none⟩))) (hi : iRow r b clock (pre++[e]) ∈ H) (hb : mRow b kd l clock ∈ H) (he : e ∈ l) (hn : (l.map (·.2.2)).Nodup) :
  EvF P n H F o (.tuple #[.int kd e.1,e.2.1]):=by
 unfold EvF EvOp
 intro t ha B w0 w hS
 have hr : w.heap[r]? = some (.mapIter (some b) clock ((pre++[e]).map (·.2.2)).toArray clock):=(hS.ok _ hi).2.2
 have hm : w.heap[b]? = some (.map (mEs kd l) clock):=(hS.ok _ hb).2.2
 have e1:=ha.ev hx
 have hp : ((pre++[e]).map (·.2.2)).toArray = (pre.map (·.2.2)).toArray.push (mE kd e).born:=by simp [mE]
 rw [hp] at hr
 have hrun:=run_entry_at (P:=P) w r b clock (pre.map (·.2.2)).toArray (mEs kd l) clock (mE kd e) hr hm (by simpa [mEs] using List.mem_map_of_mem he) (by simpa [mEs,mE,Function.comp_def] using hn)
 simp [execOp,h,e1,hrun,mE]
end
section
variable {P : Program} {H : List Row} {F : FS} {n : Nat} {o : Oper}
/-- a slice that is written out -/
theorem StF.buildLit {T e : TypeId} {len sz y : Nat} {l : List (Nat × Operand)} {vs : List (Nat × Value)} {z : Value} {cs : List Value} (h : o.op = .buildSlice T len l.toArray) (hT : ElT P T e sz y) (hz : ∀ w,(zeroValue e).run P w = .ok z w) (hv : ArgsP F l vs)
  (hf : fillL (fun i=>some (i * sz,sz)) ((Array.range (len * sz)).map (z.cells[·% z.cells.size]!)).toList vs = some cs) (h0 : Nat.ble 1 (len * sz)=true) (h1 : Nat.ble (len * sz) 16777216 = true) (hl : cs.length = len * sz) :
  StF P n H F o (fun v H' => ∃ b,v = .slice (some ⟨b,0,none⟩) len len∧H' = ⟨b,0,cs,some e,len * sz⟩::H):=by
 unfold StF StepOp
 intro t ha B w0 w hS
 have hS' := hS.alloc cs e
 refine ⟨.slice (some ⟨w.heap.size,0,none⟩) len len,_,_,.inl ?_,hS',_,rfl,by rw [hl]⟩
 have hf' := fill_eq (fun i=>some (i * sz,sz)) vs ((Array.range (len * sz)).map (z.cells[·% z.cells.size]!)) cs hf
 have h6 : l.map (fun x=>(x.1,Fw.ev t x.2)) = vs:=hv.ev ha
 have h00:=Nat.le_of_ble_eq_true h0
 have h11:=Nat.le_of_ble_eq_true h1
 have h2 : ¬ (len * sz = 0):=by omega
 have h3 : ¬ (16777216 < len * sz):=by omega
 simp [execOp,h,Instr.buildSlice,hT.un,hT.sz,hz,h3,h6,hf',newRow,newObj,Sem.run,World.alloc_eq]
 exact fun q=>absurd q h2
theorem EvF.conv {S D : TypeId} {x : Operand} {k : IntKind} {q : Int} (h : o.op = .convert S D x) (hx : evF F x = some (.int k q)) (hs : (P.underlying S).isSome = true) (hd : P.underlying D = some (.int .i64)) (h1 : -9223372036854775808 ≤ q) (h2 : q ≤ 9223372036854775807) : EvF P n H F o (.int .i64 q):=by
 unfold EvF EvOp
 intro t ha B w0 w hS
 have hw:=wrap_i64 h1 h2
 have e:=ha.ev hx
 obtain ⟨d,hd'⟩:=Option.isSome_iff_exists.mp hs
 simp [execOp,h,e,convert,run_underlying hd',run_underlying hd,Conv.intToInt,hw]
theorem EvF.rem64 {T T' : TypeId} {x y : Operand} {p q : Int} (h : o.op = .binOp .rem T x y T') (hx : evF F x = some (.int .i64 p)) (hy : evF F y = some (.int .i64 q))
  (h0 : 0 ≤ p) (hq : 0 < q) : EvF P n H F o (.int .i64 (p % q)):=by
 unfold EvF EvOp
 intro t ha B w0 w hS
 have e : p.tmod q = p % q:=Int.tmod_eq_emod_of_nonneg h0
 have hz : ¬ q = 0:=by omega
 simp [execOp,h,ha.ev hx,ha.ev hy,eqGuard,binOp,Op.intDiv,hz,e]
end
end Go.Fw
namespace Go.Proofs.YtbpcbdbclijomaaGreat
open Go Go.Fw
set_option maxRecDepth 10000
theorem lawSpan (lo hi : Int) (H : List Row) : Fc Tryz.prog 17 [.int .i64 lo,.int .i64 hi] H (fun v H' => v = .agg (cSp ⟨lo,hi⟩).toArray∧H' = H):=by
 refine Fc.mk (callable Tryz.call17) Tryz.func17 rfl Tryz.ntmps17 rfl ?_;dsimp only [fr]
 repeat' (first | (refine uP rfl ?_;(first | ((first | refine uN rfl ?_);(first | (refine Xg.st (StF.alloc rfl Tryz.zeroValue24 rfl) rfl rfl ?_;rintro _ _ ⟨b4,rfl,rfl⟩)|(refine uE (EvF.build (cs:=cSp ⟨lo,hi⟩) rfl (ArgsP.cons rfl (ArgsP.cons rfl ArgsP.nil)) (te rfl) (Places.cons (te rfl) (Places.cons (te rfl) Places.nil)) Tryz.zeroValue24 rfl) rfl rfl ?_)|(refine Xg.st0 (uZ (i:=0) (vs:=cSp ⟨lo,hi⟩) rfl rfl rfl (te rfl) rfl rfl rfl rfl) rfl ?_;rintro _ _ ⟨rfl,rfl⟩;dsimp only [List.set])|(refine uE (uM rfl rfl) rfl rfl ?_)))))|(refine uD rfl ?_;refine hK _ _ ?_;clear hK K) | refine uS rfl ?_ | refine uR rfl (fun K hK=>?_) | refine X.ret rfl ?_)
 exact ret_one (v := .agg (cSp ⟨lo,hi⟩).toArray) (by simp) Tryz.results17 ⟨_,rfl,uW (te rfl) rfl (qH _) rfl⟩ (H' := H) (by repeat (first | exact qR _ | apply qK | apply qC)) ⟨rfl,rfl⟩
theorem lawDraw (n m lo hi : Int) (H : List Row) : Fc Tryz.prog 19 [.int .i64 n,.int .i64 m,.int .i64 lo,.int .i64 hi] H (fun v H' => v = .agg (cDr ⟨n,m,lo,hi⟩).toArray∧H' = H):=by
 refine Fc.mk (callable Tryz.call19) Tryz.func19 rfl Tryz.ntmps19 rfl ?_;dsimp only [fr]
 repeat' (first | (refine uP rfl ?_;(first | ((first | refine uN rfl ?_);(first | (refine Xg.st (StF.alloc rfl Tryz.zeroValue38 rfl) rfl rfl ?_;rintro _ _ ⟨b4,rfl,rfl⟩)|(refine uC (uT rfl (Args.cons rfl (Args.cons rfl Args.nil))) rfl rfl (lawSpan lo hi _) ?_;rintro _ H9 ⟨rfl,hH9⟩;subst H9)|(refine uE (EvF.build (cs:=cDr ⟨n,m,lo,hi⟩) rfl (ArgsP.cons rfl (ArgsP.cons rfl (ArgsP.cons rfl ArgsP.nil))) (te rfl) (Places.cons (te rfl) (Places.cons (te rfl) (Places.cons (te rfl) Places.nil))) Tryz.zeroValue38 rfl) rfl rfl ?_)|(refine Xg.st0 (uZ (i:=0) (vs:=cDr ⟨n,m,lo,hi⟩) rfl rfl rfl (te rfl) rfl rfl rfl rfl) rfl ?_;rintro _ _ ⟨rfl,rfl⟩;dsimp only [List.set])|(refine uE (uM rfl rfl) rfl rfl ?_)))))|(refine uD rfl ?_;refine hK _ _ ?_;clear hK K) | refine uS rfl ?_ | refine uR rfl (fun K hK=>?_) | refine X.ret rfl ?_)
 exact ret_one (v := .agg (cDr ⟨n,m,lo,hi⟩).toArray) (by simp) Tryz.results19 ⟨_,rfl,uW (te rfl) rfl (qH _) rfl⟩ (H' := H) (by repeat (first | exact qR _ | apply qK | apply qC)) ⟨rfl,rfl⟩
theorem lawWeigh (n m lo hi : Int) (H : List Row) : Fc Tryz.prog 20 [.int .i64 n,.int .i64 m,.int .i64 lo,.int .i64 hi] H (fun v H' => v = .agg (cDr ⟨n,m,lo,hi⟩).toArray∧H' = H):=by
 refine Fc.mk (callable Tryz.call20) Tryz.func20 rfl Tryz.ntmps20 rfl ?_;dsimp only [fr]
 repeat' (first | (refine uP rfl ?_;(first | ((first | refine uN rfl ?_);(first | (refine Xg.st (StF.alloc rfl Tryz.zeroValue41 rfl) rfl rfl ?_;rintro _ _ ⟨b4,rfl,rfl⟩)|(refine uC (uT rfl (Args.cons rfl (Args.cons rfl Args.nil))) rfl rfl (lawSpan lo hi _) ?_;rintro _ H9 ⟨rfl,hH9⟩;subst H9)|(refine uE (EvF.build (cs:=cDr ⟨n,m,lo,hi⟩) rfl (ArgsP.cons rfl (ArgsP.cons rfl (ArgsP.cons rfl ArgsP.nil))) (te rfl) (Places.cons (te rfl) (Places.cons (te rfl) (Places.cons (te rfl) Places.nil))) Tryz.zeroValue41 rfl) rfl rfl ?_)|(refine Xg.st0 (uZ (i:=0) (vs:=cDr ⟨n,m,lo,hi⟩) rfl rfl rfl (te rfl) rfl rfl rfl rfl) rfl ?_;rintro _ _ ⟨rfl,rfl⟩;dsimp only [List.set])|(refine uE (uM rfl rfl) rfl rfl ?_)))))|(refine uD rfl ?_;refine hK _ _ ?_;clear hK K) | refine uS rfl ?_ | refine uR rfl (fun K hK=>?_) | refine X.ret rfl ?_)
 exact ret_one (v := .agg (cDr ⟨n,m,lo,hi⟩).toArray) (by simp) Tryz.results20 ⟨_,rfl,uW (te rfl) rfl (qH _) rfl⟩ (H' := H) (by repeat (first | exact qR _ | apply qK | apply qC)) ⟨rfl,rfl⟩
def drE : List Dr:=[⟨1,0,3,3⟩,⟨2,3,3,4⟩,⟨3,1,3,6⟩]
def wgE : List Dr:=[⟨1,480,60,90⟩,⟨2,470,40,70⟩]
def oddD : List Dr:=[⟨4,0,5,6⟩]
def balE (more : List Dr) : Bl:=⟨1,4,400,500,drE++more,wgE⟩
theorem litDr : fillL (fun i=>some (i * 4,4)) ((Array.range (3 * 4)).map (fun x=>(Value.agg #[.int .i64 0,.int .i64 0,.int .i64 0,.int .i64 0]).cells[x % (Value.agg #[.int .i64 0,.int .i64 0,.int .i64 0,.int .i64 0]).cells.size]!)).toList [(0,.agg (cDr ⟨1,0,3,3⟩).toArray),(1,.agg (cDr ⟨2,3,3,4⟩).toArray),(2,.agg (cDr ⟨3,1,3,6⟩).toArray)] = some (drE.flatMap cDr):=by kernel_rfl
set_option maxHeartbeats 4000000 in
theorem bale_specE (l : List Dr) (a : Option Addr) (c : Nat) (H : List Row) (hl : SlE H a cDr 4 l) (hb : l.length ≤ 100) : Fc Tryz.prog 13 [.slice a l.length c] H (fun v H' => ∃ bn kn bw,v = .agg (cBl (balE l) ⟨some ⟨bn,0,none⟩,kn,some ⟨bw,0,none⟩,2⟩).toArray∧H' = ⟨bw,0,wgE.flatMap cDr,some 41,2 * 4⟩::⟨bn,0,(drE++l).flatMap cDr,some 38,kn * 4⟩::H):=by
 refine Fc.mk (callable Tryz.call13) Tryz.func13 rfl Tryz.ntmps13 rfl ?_;dsimp only [fr]
 repeat' (first | (refine uP rfl ?_;(first | ((first | refine uN rfl ?_);(first | (refine Xg.st (StF.alloc rfl Tryz.zeroValue31 rfl) rfl rfl ?_;rintro _ _ ⟨b2,rfl,rfl⟩)|(refine uC (uT rfl (Args.cons rfl (Args.cons rfl Args.nil))) rfl rfl (lawSpan 400 500 _) ?_;rintro _ H9 ⟨rfl,hH9⟩;subst H9)|(refine uC (uT rfl (Args.cons rfl (Args.cons rfl (Args.cons rfl (Args.cons rfl Args.nil))))) rfl rfl (lawDraw 1 0 3 3 _) ?_;rintro _ H9 ⟨rfl,hH9⟩;subst H9)|(refine uC (uT rfl (Args.cons rfl (Args.cons rfl (Args.cons rfl (Args.cons rfl Args.nil))))) rfl rfl (lawDraw 2 3 3 4 _) ?_;rintro _ H9 ⟨rfl,hH9⟩;subst H9)|(refine uC (uT rfl (Args.cons rfl (Args.cons rfl (Args.cons rfl (Args.cons rfl Args.nil))))) rfl rfl (lawDraw 3 1 3 6 _) ?_;rintro _ H9 ⟨rfl,hH9⟩;subst H9)|(refine uC (uT rfl (Args.cons rfl (Args.cons rfl (Args.cons rfl (Args.cons rfl Args.nil))))) rfl rfl (lawWeigh 1 480 60 90 _) ?_;rintro _ H9 ⟨rfl,hH9⟩;subst H9)|(refine uC (uT rfl (Args.cons rfl (Args.cons rfl (Args.cons rfl (Args.cons rfl Args.nil))))) rfl rfl (lawWeigh 2 470 40 70 _) ?_;rintro _ H9 ⟨rfl,hH9⟩;subst H9)|(refine Xg.st (StF.buildLit (len:=3) (vs:=[(0,.agg (cDr ⟨1,0,3,3⟩).toArray),(1,.agg (cDr ⟨2,3,3,4⟩).toArray),(2,.agg (cDr ⟨3,1,3,6⟩).toArray)]) (cs:=drE.flatMap cDr) rfl elDr Tryz.zeroValue38 (ArgsP.cons rfl (ArgsP.cons rfl (ArgsP.cons rfl ArgsP.nil))) litDr rfl rfl rfl) rfl rfl ?_;rintro _ _ ⟨ba,rfl,rfl⟩)|(refine Xg.st (StF.buildTwo (cs:=cDr ⟨1,480,60,90⟩) (ds:=cDr ⟨2,470,40,70⟩) rfl elWg rfl rfl rfl rfl rfl rfl (by decide) (by decide)) rfl rfl ?_;rintro _ _ ⟨bw,rfl,rfl⟩)|(refine Xg.st (StF.appendSl (i:=0) (l:=l) rfl elDr rfl rfl rfl (hl.sub (fun _ h=>by repeat (first | exact h | apply qT))) (fun e _=>one_dr e) rfl (by decide) (by omega)) rfl rfl ?_;rintro _ _ ⟨bn,kn,rfl,rfl⟩;dsimp only [List.eraseIdx])|(refine uE (EvF.build (cs:=cBl (balE l) ⟨some ⟨bn,0,none⟩,kn,some ⟨bw,0,none⟩,2⟩) rfl (ArgsP.cons rfl (ArgsP.cons rfl (ArgsP.cons rfl (ArgsP.cons rfl (ArgsP.cons rfl ArgsP.nil))))) (te rfl) (Places.cons (te rfl) (Places.cons (te rfl) (Places.cons (te rfl) (Places.cons (te rfl) (Places.cons (te rfl) Places.nil))))) Tryz.zeroValue31 (by simp only [Nat.add_comm 3];rfl)) rfl rfl ?_)|(refine Xg.st0 (uZ (i:=2) (vs:=cBl (balE l) ⟨some ⟨bn,0,none⟩,kn,some ⟨bw,0,none⟩,2⟩) rfl rfl rfl (te rfl) rfl rfl rfl rfl) rfl ?_;rintro _ _ ⟨rfl,rfl⟩;dsimp only [List.set])|(refine uE (uM rfl rfl) rfl rfl ?_)))))|(refine uD rfl ?_;refine hK _ _ ?_;clear hK K) | refine uS rfl ?_ | refine uR rfl (fun K hK=>?_) | refine X.ret rfl ?_)
 exact ret_one (v := .agg (cBl (balE l) ⟨some ⟨bn,0,none⟩,kn,some ⟨bw,0,none⟩,2⟩).toArray) (by simp) Tryz.results13 ⟨_,rfl,uW (te rfl) rfl (by repeat (first | exact qH _ | apply qT)) rfl⟩ (H' := ⟨bw,0,wgE.flatMap cDr,some 41,2 * 4⟩::⟨bn,0,(drE++l).flatMap cDr,some 38,kn * 4⟩::H) (by repeat (first | exact qR _ | apply qK | apply qC)) ⟨bn,kn,bw,rfl,rfl⟩
theorem balOk (l : List Dr) (hb : l.length ≤ 100) (bn kn bw : Nat) (S : List Row) (h1 : (⟨bw,0,wgE.flatMap cDr,some 41,2 * 4⟩ : Row) ∈ S) (h2 : (⟨bn,0,(drE++l).flatMap cDr,some 38,kn * 4⟩ : Row) ∈ S) : BlOk S (balE l) ⟨some ⟨bn,0,none⟩,kn,some ⟨bw,0,none⟩,2⟩ :=
 ⟨SlE.ofRow h2 (fun _ _=>rfl),SlE.ofRow h1 (fun _ _=>rfl),by show (drE++l).length ≤ _;rw [List.length_append];show 3 + _ ≤ _;omega,Nat.le_of_ble_eq_true rfl⟩
theorem oddB (H : List Row) : Fc Tryz.prog 21 [] H (fun v H' => ∃ bn kn bw Z,v = .agg (cBl (balE oddD) ⟨some ⟨bn,0,none⟩,kn,some ⟨bw,0,none⟩,2⟩).toArray∧(∀ S,BlOk (Z++S) (balE oddD) ⟨some ⟨bn,0,none⟩,kn,some ⟨bw,0,none⟩,2⟩)∧H' = Z++H):=by
 have hr:=fun b S (h : (⟨b,0,cDr ⟨4,0,5,6⟩,some 38,1 * 4⟩ : Row) ∈ S)=>bale_specE oddD (some ⟨b,0,none⟩) 1 S (SlE.ofRow (l:=oddD) h (fun _ _=>rfl)) (Nat.le_of_ble_eq_true rfl)
 refine Fc.mk (callable Tryz.call21) Tryz.func21 rfl Tryz.ntmps21 rfl ?_;dsimp only [fr]
 repeat' (first | (refine uP rfl ?_;(first | ((first | refine uN rfl ?_);(first | (refine Xg.st (StF.alloc rfl Tryz.zeroValue31 rfl) rfl rfl ?_;rintro _ _ ⟨b0,rfl,rfl⟩)|(refine uC (uT rfl (Args.cons rfl (Args.cons rfl (Args.cons rfl (Args.cons rfl Args.nil))))) rfl rfl (lawDraw 4 0 5 6 _) ?_;rintro _ H9 ⟨rfl,hH9⟩;subst H9)|(refine Xg.st (StF.buildOne (cs:=cDr ⟨4,0,5,6⟩) rfl elDr rfl rfl rfl (by decide) (by decide)) rfl rfl ?_;rintro _ _ ⟨bm,rfl,rfl⟩)|(refine uC (uT rfl (by (repeat (first | exact Args.nil | refine Args.cons rfl ?_));done)) rfl rfl (hr bm _ (qH _)) ?_;rintro _ _ ⟨bn,kn,bw,rfl,rfl⟩)|(refine Xg.st0 (uZ (i:=3) (vs:=cBl (balE oddD) ⟨some ⟨bn,0,none⟩,kn,some ⟨bw,0,none⟩,2⟩) rfl rfl rfl (te rfl) rfl rfl rfl rfl) rfl ?_;rintro _ _ ⟨rfl,rfl⟩;dsimp only [List.set])))))|(refine uD rfl ?_;refine hK _ _ ?_;clear hK K) | refine uS rfl ?_ | refine uR rfl (fun K hK=>?_) | refine X.ret rfl ?_)
 exact ret_one (v := .agg (cBl (balE oddD) ⟨some ⟨bn,0,none⟩,kn,some ⟨bw,0,none⟩,2⟩).toArray) (by simp) Tryz.results21 ⟨_,rfl,uW (te rfl) rfl (by repeat (first | exact qH _ | apply qT)) rfl⟩ (H' := [⟨bw,0,wgE.flatMap cDr,some 41,2 * 4⟩,⟨bn,0,(drE++oddD).flatMap cDr,some 38,kn * 4⟩]++H) (qK _ (qK _ (by (repeat (first | exact qR _ | apply qC));done))) ⟨bn,kn,bw,[⟨bw,0,wgE.flatMap cDr,some 41,2 * 4⟩,⟨bn,0,(drE++oddD).flatMap cDr,some 38,kn * 4⟩],rfl,fun S=>balOk _ (Nat.le_of_ble_eq_true rfl) bn kn bw _ (qH _) (qT _ (qH _)),rfl⟩
theorem ints_spec (l w : List Int) (a a' : Option Addr) (c c' : Nat) (H : List Row) (hl : SlE H a cI 1 l) (hw : SlE H a' cI 1 w) (hb : l.length ≤ 1000) : Fc Tryz.prog 28 [.slice a l.length c,.slice a' w.length c'] H (fun v H' => v = .bool (decide (l = w))∧H' = H):=by
 have hs:=sameInts3_spec l w a a' c c' H hl hw (by omega)
 obtain ⟨r,hr⟩ : ∃ r,r = decide (l = w):=⟨_,rfl⟩
 rw [← hr] at hs ⊢
 refine Fc.mk (callable Tryz.call28) Tryz.func28 rfl Tryz.ntmps28 rfl ?_;dsimp only [fr]
 repeat' (first | (refine uP rfl ?_;(first | ((first | refine uN rfl ?_);(first | (refine uC (uT rfl (Args.cons rfl (Args.cons rfl Args.nil))) rfl rfl (hs) ?_;rintro _ H9 ⟨rfl,hH9⟩;subst H9)|(refine uE (uM rfl rfl) rfl rfl ?_)|(refine uE (uA rfl rfl) rfl rfl ?_)))))|(refine uD rfl ?_;refine hK _ _ ?_;clear hK K) | refine uS rfl ?_ | refine uR rfl (fun K hK=>?_) | refine X.ret rfl ?_)
 all_goals try (exfalso;contradiction)
 exact ret_one (by simp) Tryz.results28 rfl (H' := H) (by repeat (first | exact qR _ | apply qK | apply qC)) ⟨rfl,rfl⟩
def alikeB (l : List Int) : Bool:=l.all (fun a=>l.all (fun b=>decide (a - b ≤ 1)))
def cutLo (l : List Int) (hi : Int) : Nat → Int → Int
 | 0,lo=>lo
 | k + 1,lo=>if lo ≤ hi∧alikeB (l.drop lo.toNat)=false then cutLo l hi k (lo + 1) else lo
def cutHi (l : List Int) (lo : Int) : Nat → Int → Int
 | 0,hi=>hi
 | k + 1,hi=>if lo ≤ hi∧alikeB (l.take hi.toNat)=false then cutHi l lo k (hi - 1) else hi
def cutsF (l : List Int) : Sp:=⟨cutLo l (l.length - 1) l.length 1,cutHi l (cutLo l (l.length - 1) l.length 1) l.length (l.length - 1)⟩
def midL (l : List Int) : List Int:=(l.drop 1).take (l.length - 2)
def falseF (l : List Int) : Bool:=(midL l).all (fun x=>decide (max (l.headD 0) (l.getLastD 0)≤x)) && ((midL l).any (fun x=>decide (max (l.headD 0) (l.getLastD 0) + 2 ≤ x)) && alikeB [l.headD 0,l.getLastD 0])
def kindF (l : List Int) : Int:=if alikeB l = true then 1 else if (cutsF l).lo ≤ (cutsF l).hi then 2 else if falseF l = true then 3 else 4
theorem kindF_four (l : List Int) : kindF l = 1∨kindF l = 2∨kindF l = 3∨kindF l = 4:=by
 unfold kindF
 split
 ·exact .inl rfl
 ·split
  ·exact .inr (.inl rfl)
  ·split
   ·exact .inr (.inr (.inl rfl))
   ·exact .inr (.inr (.inr rfl))
/-- the grades of layers in all truths, in order -/
def exts : List Sp → List (List Int)
 | []=>[[]]
 | s::G=>(List.range (s.hi - s.lo + 1).toNat).flatMap (fun (k : Nat)=>(exts G).map ((s.lo + k) :: ·))
def InG : List Sp → List Int → Prop
 | [],[]=>True
 | s::G,x::t=>(s.lo ≤ x∧x ≤ s.hi)∧InG G t
 | _,_=>False
theorem mem_exts : ∀ (G : List Sp) (t : List Int),t ∈ exts G ↔ InG G t
 | [],[]=>by simp [exts,InG]
 | [],x::t=>by simp [exts,InG]
 | s::G,[]=>by
  simp only [exts,InG,List.mem_flatMap,List.mem_map,iff_false]
  rintro ⟨k,_,u,_,h⟩
  cases h
 | s::G,x::t=>by
  simp only [exts,InG,List.mem_flatMap,List.mem_map,List.mem_range]
  constructor
  ·rintro ⟨k,hk,u,hu,h⟩
   cases h
   exact ⟨⟨by omega,by omega⟩,(mem_exts G t).1 hu⟩
  ·rintro ⟨⟨h1,h2⟩,h3⟩
   exact ⟨(x - s.lo).toNat,by omega,t,(mem_exts G t).2 h3,by rw [show s.lo + ((x - s.lo).toNat : Int)=x by omega]⟩
theorem InG_len : ∀ (G : List Sp) (t : List Int),InG G t → t.length = G.length
 | [],[],_=>rfl
 | [],_::_,h=>h.elim
 | _::_,[],h=>h.elim
 | _::G,_::t,h=>by rw [List.length_cons,List.length_cons,InG_len G t h.2]
def hasK (G : List Sp) (k : Int) : Bool:=(exts G).any (fun t=>decide (kindF t = k))
def cntK (L : List (List Int)) (k : Int) : Nat:=(L.filter (fun t=>decide (kindF t = k))).length
theorem cnt_has (G : List Sp) (k : Int) : hasK G k = decide (0 < cntK (exts G) k):=by
 unfold hasK cntK
 rw [Bool.eq_iff_iff,decide_eq_true_iff,List.any_eq_true,List.length_pos_iff_exists_mem]
 exact ⟨fun ⟨t,h1,h2⟩=>⟨t,List.mem_filter.2 ⟨h1,h2⟩⟩,fun ⟨t,h⟩=>⟨t,List.mem_filter.1 h⟩⟩
def kindsL : List Int:=[1,2,3,4]
def nKinds (G : List Sp) : Nat:=(kindsL.filter (hasK G)).length
def projL (L : List Int) (t : List Int) : List Int:=L.foldl (fun x (i : Int)=>x.set i.toNat (t.getD i.toNat 0)) [0,0,0,0,0]
theorem alike_iff {l : List Int} : alikeB l = true ↔ ∀ a ∈ l,∀ b ∈ l,a - b ≤ 1:=by
 unfold alikeB
 simp only [List.all_eq_true,decide_eq_true_eq]
theorem cutLo_spec (l : List Int) (hi : Int) : ∀ (k : Nat) (lo : Int),(hi - lo + 1).toNat ≤ k → lo ≤ cutLo l hi k lo∧(∀ i,lo ≤ i → i < cutLo l hi k lo → alikeB (l.drop i.toNat)=false)∧(cutLo l hi k lo ≤ hi → alikeB (l.drop (cutLo l hi k lo).toNat)=true)∧(lo ≤ hi + 1 → cutLo l hi k lo ≤ hi + 1)
 | 0,lo,hk=>by
  unfold cutLo
  exact ⟨Int.le_refl _,fun i h1 h2=>by omega,fun h=>by omega,fun h=>h⟩
 | k + 1,lo,hk=>by
  unfold cutLo
  by_cases hc : lo ≤ hi∧alikeB (l.drop lo.toNat)=false
  ·rw [if_pos hc]
   obtain ⟨h1,h2,h3,h4⟩:=cutLo_spec l hi k (lo + 1) (by omega)
   refine ⟨by omega,fun i g1 g2=>?_,h3,fun _=>h4 (by omega)⟩
   by_cases e : i = lo
   ·subst e;exact hc.2
   ·exact h2 i (by omega) g2
  ·rw [if_neg hc]
   refine ⟨Int.le_refl _,fun i g1 g2=>by omega,fun h=>?_,fun h=>h⟩
   cases hq : alikeB (l.drop lo.toNat) with
   | true=>rfl
   | false=>exact absurd ⟨h,hq⟩ hc
def knb (so no : Bool) : Int:=if no then (if so then 1 else 0) else 2
theorem lKnown_spec (so no : Bool) (H : List Row) : Fc Tryz.prog 98 [.bool so,.bool no] H (fun v H' => v = .int .u8 (knb so no)∧H' = H):=by
 cases so <;> cases no
 all_goals (refine Fc.mk (callable Tryz.call98) Tryz.func98 rfl Tryz.ntmps98 rfl ?_;dsimp only [fr])
 all_goals (repeat' (first | (refine uP rfl ?_;(first | ((first | refine uN rfl ?_);(first | (refine uE (uM rfl rfl) rfl rfl ?_)|(refine uE (uA rfl rfl) rfl rfl ?_)|(refine uE (EvF.not rfl rfl) rfl rfl ?_)))))|(refine uD rfl ?_;refine hK _ _ ?_;clear hK K) | refine uS rfl ?_ | refine uR rfl (fun K hK=>?_) | refine X.block rfl ?_ | refine X.skip rfl ?_ | refine X.ret rfl ?_ | (refine X.ite rfl rfl (fun hc=>?_);(first | (with_reducible refine Xb.caseB hc (fun h=>?_) (fun h=>?_))) <;> clear hc)))
 all_goals try (exfalso;contradiction)
 all_goals (refine ret_one (by simp) Tryz.results98 rfl (H' := H) (by repeat (first | exact qR _ | apply qK | apply qC)) ⟨rfl,rfl⟩)
/-- the least, the greatest of some numbers -/
def minL : List Int → Int
 | []=>0
 | x::l=>l.foldl min x
theorem minL_snoc : ∀ {l : List Int} (x : Int),0 < l.length → minL (l++[x]) = min (minL l) x
 | y::l,x,_=>by
  show (l++[x]).foldl min y = min (l.foldl min y) x
  rw [List.foldl_append];rfl
def maxL : List Int → Int
 | []=>0
 | x::l=>l.foldl max x
theorem maxL_snoc : ∀ {l : List Int} (x : Int),0 < l.length → maxL (l++[x]) = max (maxL l) x
 | y::l,x,_=>by
  show (l++[x]).foldl max y = max (l.foldl max y) x
  rw [List.foldl_append];rfl
theorem minI_spec (l : List Int) (a : Option Addr) (c : Nat) (H : List Row) (hl : SlE H a cI 1 l) (hb : l.length ≤ 1000000) (h0 : 0 < l.length) :
  Fc Tryz.prog 146 [.slice a l.length c] H (fun v H' => v = .int .i64 (minL l)∧H' = H):=by
 obtain ⟨b,off,x,rfl,hx⟩:=hl.elem (i:=0) (by omega)
 refine Fc.mk (callable Tryz.call146) Tryz.func146 rfl Tryz.ntmps146 rfl ?_;dsimp only [fr]
 repeat' (first | (refine uP rfl ?_;(first | ((first | refine uN rfl ?_);(first | (refine uE (uJ rfl rfl rfl (te rfl) (te rfl) (by omega) (by omega)) rfl rfl ?_)|(refine uE (uL rfl rfl (LoadV.el1 hl hx (te rfl) rfl (fun _ hm=>hm) rfl)) rfl rfl ?_)|(refine uE (uM rfl rfl) rfl rfl ?_)|(refine uE (uA rfl rfl) rfl rfl ?_)|(refine uE (uQ rfl rfl rfl rfl) rfl rfl ?_)|(refine uE (uY rfl rfl (te rfl)) rfl rfl ?_)))))|(refine uD rfl ?_;refine hK _ _ ?_;clear hK K) | refine uS rfl ?_ | refine uR rfl (fun K hK=>?_) | refine X.block rfl ?_ | refine X.skip rfl ?_ | (refine X.ite rfl rfl (fun hc=>?_);(first | (with_reducible refine Xb.case hc (fun h=>?_) (fun h=>?_))) <;> clear hc))
 all_goals try (exfalso;omega)
 have h1 : minL (l.take 1)=x:=by rw [show (1 : Nat)=0 + 1 from rfl,take_snoc hx];rfl
 refine X.lp rfl (fun q F' H' => ∃ k : Nat,q = l.length - k∧1 ≤ k∧k ≤ l.length∧H = H' ∧
   F' = [(0,.slice (some ⟨b,off,none⟩) l.length c),(3,.int .i64 (minL (l.take k))),(4,.int .i64 k)])
  (l.length - 1) [(0,.slice (some ⟨b,off,none⟩) l.length c),(3,.int .i64 (minL (l.take 1))),(4,.int .i64 (1 : Nat))] _ (by rw [h1];exact (by repeat (first | exact uU _ | refine uV rfl ?_))) (by repeat (first | exact qR _ | apply qK | apply qC)) ⟨1,rfl,by omega,by omega,rfl,rfl⟩ ?_
 rintro _ _ H2 ⟨k,rfl,hk1,hk,hH,rfl⟩
 subst hH
 repeat' (first | (refine uP rfl ?_;(first | ((first | refine uN rfl ?_);(first | (refine uE (uM rfl rfl) rfl rfl ?_)|(refine uE (uA rfl rfl) rfl rfl ?_)|(refine uE (uQ rfl rfl rfl rfl) rfl rfl ?_)|(refine uE (uY rfl rfl (te rfl)) rfl rfl ?_)|(refine uE (uJ rfl rfl rfl (te rfl) (te rfl) (by omega) (by omega)) rfl rfl ?_)))))|(refine uD rfl ?_;refine hK _ _ ?_;clear hK K) | refine uS rfl ?_ | refine uR rfl (fun K hK=>?_) | refine X.block rfl ?_ | (refine X.brk rfl ?_;repeat (first | refine blockX_hit rfl ?_ | refine blockX_miss (by decide) ?_)) | refine X.skip rfl ?_ | refine X.ret rfl ?_ | (refine X.ite rfl rfl (fun hc=>?_);(first | (with_reducible refine Xb.case hc (fun h=>?_) (fun h=>?_))) <;> clear hc))
 ·obtain ⟨y,hy⟩ : ∃ y,l[k]? = some y:=⟨_,List.getElem?_eq_getElem (by omega)⟩
  repeat' (first | (refine uP rfl ?_;(first | ((first | refine uN rfl ?_);(first | (refine uE (uL rfl rfl (LoadV.el0 hl hy (te rfl) rfl (fun _ hm=>hm) rfl)) rfl rfl ?_)|(refine uE (uM rfl rfl) rfl rfl ?_)|(refine uE (uA rfl rfl) rfl rfl ?_)|(refine uE (EvF.add64 rfl rfl rfl (by omega) (by omega)) rfl rfl ?_)|(refine uE (EvF.min64 rfl rfl rfl) rfl rfl ?_)))))|(refine uD rfl ?_;refine hK _ _ ?_;clear hK K) | refine uR rfl (fun K hK=>?_))
  refine ⟨_,_,_,(by rw [take_snoc hy,minL_snoc y (by rw [List.length_take];omega)];exact (by repeat (first | exact uU _ | refine uV rfl ?_))),(by repeat (first | exact qR _ | apply qK | apply qC)),⟨k + 1,rfl,by omega,by omega,rfl,rfl⟩,by omega⟩
 ·obtain rfl : k = l.length:=by omega
  rw [List.take_length]
  refine ret_one (by simp) Tryz.results146 rfl (H' := H) (by (repeat (first | exact qR _ | apply qC));done) ?_;simp only [and_true,true_and]
theorem maxI_spec (l : List Int) (a : Option Addr) (c : Nat) (H : List Row) (hl : SlE H a cI 1 l) (hb : l.length ≤ 1000000) (h0 : 0 < l.length) :
  Fc Tryz.prog 145 [.slice a l.length c] H (fun v H' => v = .int .i64 (maxL l)∧H' = H):=by
 obtain ⟨b,off,x,rfl,hx⟩:=hl.elem (i:=0) (by omega)
 refine Fc.mk (callable Tryz.call145) Tryz.func145 rfl Tryz.ntmps145 rfl ?_;dsimp only [fr]
 repeat' (first | (refine uP rfl ?_;(first | ((first | refine uN rfl ?_);(first | (refine uE (uJ rfl rfl rfl (te rfl) (te rfl) (by omega) (by omega)) rfl rfl ?_)|(refine uE (uL rfl rfl (LoadV.el1 hl hx (te rfl) rfl (fun _ hm=>hm) rfl)) rfl rfl ?_)|(refine uE (uM rfl rfl) rfl rfl ?_)|(refine uE (uA rfl rfl) rfl rfl ?_)|(refine uE (uQ rfl rfl rfl rfl) rfl rfl ?_)|(refine uE (uY rfl rfl (te rfl)) rfl rfl ?_)))))|(refine uD rfl ?_;refine hK _ _ ?_;clear hK K) | refine uS rfl ?_ | refine uR rfl (fun K hK=>?_) | refine X.block rfl ?_ | refine X.skip rfl ?_ | (refine X.ite rfl rfl (fun hc=>?_);(first | (with_reducible refine Xb.case hc (fun h=>?_) (fun h=>?_))) <;> clear hc))
 all_goals try (exfalso;omega)
 have h1 : maxL (l.take 1)=x:=by rw [show (1 : Nat)=0 + 1 from rfl,take_snoc hx];rfl
 refine X.lp rfl (fun q F' H' => ∃ k : Nat,q = l.length - k∧1 ≤ k∧k ≤ l.length∧H = H' ∧
   F' = [(0,.slice (some ⟨b,off,none⟩) l.length c),(3,.int .i64 (maxL (l.take k))),(4,.int .i64 k)])
  (l.length - 1) [(0,.slice (some ⟨b,off,none⟩) l.length c),(3,.int .i64 (maxL (l.take 1))),(4,.int .i64 (1 : Nat))] _ (by rw [h1];exact (by repeat (first | exact uU _ | refine uV rfl ?_))) (by repeat (first | exact qR _ | apply qK | apply qC)) ⟨1,rfl,by omega,by omega,rfl,rfl⟩ ?_
 rintro _ _ H2 ⟨k,rfl,hk1,hk,hH,rfl⟩
 subst hH
 repeat' (first | (refine uP rfl ?_;(first | ((first | refine uN rfl ?_);(first | (refine uE (uM rfl rfl) rfl rfl ?_)|(refine uE (uA rfl rfl) rfl rfl ?_)|(refine uE (uQ rfl rfl rfl rfl) rfl rfl ?_)|(refine uE (uY rfl rfl (te rfl)) rfl rfl ?_)|(refine uE (uJ rfl rfl rfl (te rfl) (te rfl) (by omega) (by omega)) rfl rfl ?_)))))|(refine uD rfl ?_;refine hK _ _ ?_;clear hK K) | refine uS rfl ?_ | refine uR rfl (fun K hK=>?_) | refine X.block rfl ?_ | (refine X.brk rfl ?_;repeat (first | refine blockX_hit rfl ?_ | refine blockX_miss (by decide) ?_)) | refine X.skip rfl ?_ | refine X.ret rfl ?_ | (refine X.ite rfl rfl (fun hc=>?_);(first | (with_reducible refine Xb.case hc (fun h=>?_) (fun h=>?_))) <;> clear hc))
 ·obtain ⟨y,hy⟩ : ∃ y,l[k]? = some y:=⟨_,List.getElem?_eq_getElem (by omega)⟩
  repeat' (first | (refine uP rfl ?_;(first | ((first | refine uN rfl ?_);(first | (refine uE (uL rfl rfl (LoadV.el0 hl hy (te rfl) rfl (fun _ hm=>hm) rfl)) rfl rfl ?_)|(refine uE (uM rfl rfl) rfl rfl ?_)|(refine uE (uA rfl rfl) rfl rfl ?_)|(refine uE (EvF.add64 rfl rfl rfl (by omega) (by omega)) rfl rfl ?_)|(refine uE (EvF.max64 rfl rfl rfl) rfl rfl ?_)))))|(refine uD rfl ?_;refine hK _ _ ?_;clear hK K) | refine uR rfl (fun K hK=>?_))
  refine ⟨_,_,_,(by rw [take_snoc hy,maxL_snoc y (by rw [List.length_take];omega)];exact (by repeat (first | exact uU _ | refine uV rfl ?_))),(by repeat (first | exact qR _ | apply qK | apply qC)),⟨k + 1,rfl,by omega,by omega,rfl,rfl⟩,by omega⟩
 ·obtain rfl : k = l.length:=by omega
  rw [List.take_length]
  refine ret_one (by simp) Tryz.results145 rfl (H' := H) (by (repeat (first | exact qR _ | apply qC));done) ?_;simp only [and_true,true_and]
theorem maxL_ok : ∀ (l : List Int) (x : Int),(∀ a ∈ x::l,a ≤ maxL (x::l))∧maxL (x::l) ∈ x::l
 | [],x=>by
  show (∀ a ∈ [x],a ≤ x)∧x ∈ [x]
  exact ⟨fun a ha=>by rw [List.mem_singleton.1 ha];exact Int.le_refl _,List.mem_singleton.2 rfl⟩
 | y::l,x=>by
  obtain ⟨h1,h2⟩:=maxL_ok l (max x y)
  have e : maxL (x::y::l)=maxL (max x y::l):=rfl
  rw [e]
  have hx : max x y ≤ maxL (max x y::l):=h1 _ List.mem_cons_self
  refine ⟨fun a ha=>?_,?_⟩
  ·rcases List.mem_cons.1 ha with rfl | ha
   ·exact Int.le_trans (Int.le_max_left _ _) hx
   ·rcases List.mem_cons.1 ha with rfl | ha
    ·exact Int.le_trans (Int.le_max_right _ _) hx
    ·exact h1 a (List.mem_cons_of_mem _ ha)
  ·rcases List.mem_cons.1 h2 with q | q
   ·rw [q]
    rcases Int.le_total x y with w | w
    ·rw [Int.max_eq_right w];exact List.mem_cons_of_mem _ List.mem_cons_self
    ·rw [Int.max_eq_left w];exact List.mem_cons_self
   ·exact List.mem_cons_of_mem _ (List.mem_cons_of_mem _ q)
theorem minL_ok : ∀ (l : List Int) (x : Int),(∀ a ∈ x::l,minL (x::l)≤a)∧minL (x::l) ∈ x::l
 | [],x=>by
  show (∀ a ∈ [x],x ≤ a)∧x ∈ [x]
  exact ⟨fun a ha=>by rw [List.mem_singleton.1 ha];exact Int.le_refl _,List.mem_singleton.2 rfl⟩
 | y::l,x=>by
  obtain ⟨h1,h2⟩:=minL_ok l (min x y)
  have e : minL (x::y::l)=minL (min x y::l):=rfl
  rw [e]
  have hx : minL (min x y::l)≤min x y:=h1 _ List.mem_cons_self
  refine ⟨fun a ha=>?_,?_⟩
  ·rcases List.mem_cons.1 ha with rfl | ha
   ·exact Int.le_trans hx (Int.min_le_left _ _)
   ·rcases List.mem_cons.1 ha with rfl | ha
    ·exact Int.le_trans hx (Int.min_le_right _ _)
    ·exact h1 a (List.mem_cons_of_mem _ ha)
  ·rcases List.mem_cons.1 h2 with q | q
   ·rw [q]
    rcases Int.le_total x y with w | w
    ·rw [Int.min_eq_left w];exact List.mem_cons_self
    ·rw [Int.min_eq_right w];exact List.mem_cons_of_mem _ List.mem_cons_self
   ·exact List.mem_cons_of_mem _ (List.mem_cons_of_mem _ q)
theorem alike_mm {l : List Int} (h0 : 0 < l.length) : (maxL l ∈ l∧minL l ∈ l)∧decide (maxL l - minL l ≤ 1)=alikeB l:=by
 obtain ⟨x,t,rfl⟩ : ∃ x t,l = x::t:=by cases l with
  | nil=>simp at h0
  | cons x t=>exact ⟨x,t,rfl⟩
 obtain ⟨a1,a2⟩:=maxL_ok t x
 obtain ⟨b1,b2⟩:=minL_ok t x
 refine ⟨⟨a2,b2⟩,?_⟩
 rw [Bool.eq_iff_iff,decide_eq_true_iff,alike_iff]
 constructor
 ·intro h a ha b hb
  have:=a1 a ha
  have:=b1 b hb
  omega
 ·intro h
  exact h _ a2 _ b2
theorem areAlike_spec (l : List Int) (a : Option Addr) (c : Nat) (H : List Row) (hl : SlE H a cI 1 l) (hb : l.length ≤ 1000) (h0 : 0 < l.length) (hv : ∀ x ∈ l,0 ≤ x∧x ≤ 100) :
  Fc Tryz.prog 104 [.slice a l.length c] H (fun v H' => v = .bool (alikeB l)∧H' = H):=by
 obtain ⟨⟨g1,g2⟩,g3⟩:=alike_mm h0
 have w1:=hv _ g1
 have w2:=hv _ g2
 have k1:=fun S hS=>maxI_spec l a c S hS (by omega) h0
 have k2:=fun S hS=>minI_spec l a c S hS (by omega) h0
 rw [← g3]
 obtain ⟨M,hM⟩ : ∃ M,M = maxL l:=⟨_,rfl⟩
 obtain ⟨m,hm⟩ : ∃ m,m = minL l:=⟨_,rfl⟩
 rw [← hM] at k1 w1 ⊢
 rw [← hm] at k2 w2 ⊢
 refine Fc.mk (callable Tryz.call104) Tryz.func104 rfl Tryz.ntmps104 rfl ?_;dsimp only [fr]
 repeat' (first | (refine uP rfl ?_;(first | ((first | refine uN rfl ?_);(first | (refine uC (uT rfl (Args.cons rfl Args.nil)) rfl rfl (k1 _ hl) ?_;rintro _ H9 ⟨rfl,hH9⟩;subst H9)|(refine uC (uT rfl (Args.cons rfl Args.nil)) rfl rfl (k2 _ hl) ?_;rintro _ H9 ⟨rfl,hH9⟩;subst H9)|(refine uE (EvF.sub64 (p:=M) (q:=m) rfl rfl rfl (by omega) (by omega)) rfl rfl ?_)|(refine uE (uM rfl rfl) rfl rfl ?_)|(refine uE (uA rfl rfl) rfl rfl ?_)|(refine uE (uQ rfl rfl rfl rfl) rfl rfl ?_)))))|(refine uD rfl ?_;refine hK _ _ ?_;clear hK K) | refine uS rfl ?_ | refine uR rfl (fun K hK=>?_) | refine X.ret rfl ?_)
 all_goals try (exfalso;contradiction)
 exact ret_one (by simp) Tryz.results104 rfl (H' := H) (by repeat (first | exact qR _ | apply qK | apply qC)) ⟨rfl,rfl⟩
end Go.Proofs.YtbpcbdbclijomaaGreat
