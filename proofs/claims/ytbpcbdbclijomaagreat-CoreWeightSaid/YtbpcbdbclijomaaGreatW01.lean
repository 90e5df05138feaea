/- Own work: Own work: a world described by rows of known memory, and a walk over the code from such rows. No condition.; Own work: appending to rows, and literals. No condition.; Own work: a region that draws its order, whose operations make memory. No condition.; Own work: the types of this translation, as a table. No condition.; The reference: within and Index do what they say.; The reference: Room tells the valid rooms.; The reference: Twin copies a room.; The reference: Great.; The reference: has and SameInts.; Own work: structs that are compared. No condition.; Structs of this translation that are compared.; The reference: Same tells equal rooms.; The reference: without.; Own work: operations that are skipped since their guard was. No condition.; The reference: Strike.; The program: Rising and an -/
import Derived.Below
import Derived.Deep.Quiet
import Derived.Scope
import Derived.LoopN
import Derived.KernelRfl
import Derived.Laws.Sem
import Derived.Laws.Cells
import Derived.OrdersIn
import Derived.RangeFuncLeaves
import Derived.RangeFuncNested
import Derived.Laws.AppendOwn
import Derived.Laws.OwnMore
import Derived.Deep.Upon
import Derived.Test.YtbpcbdbclijomaaGreatProg
import Derived.Laws.StructEq
import Derived.Test.YtbpcbdbclijomaaGreatChecked
import Derived.Tactics2
import Derived.Lib.Overlaps
import Derived.Lib.AppendZerosOnto
set_option linter.unusedVariables false
set_option linter.unusedSimpArgs false
namespace Go.Fw
open Go Go.RowKit
theorem qT {α : Type} (b : α) {a : α} {l : List α} (h : a ∈ l) : a ∈ b::l:=List.Mem.tail b h
theorem qH {α : Type} {a : α} (l : List α) : a ∈ a::l:=List.Mem.head l
theorem qR {α : Type} (l : List α) : l.Sublist l:=List.Sublist.refl l
theorem qK {α : Type} {l m : List α} (a : α) (h : l.Sublist m) : (a::l).Sublist (a::m):=h.cons_cons a
theorem qC {α : Type} {l m : List α} (a : α) (h : l.Sublist m) : l.Sublist (a::m):=h.cons a
/-- What a block of one's own holds: cells of a type, or another object. -/
inductive Kd where
 | ty (T : TypeId)
 | obj (o : Obj)
instance : Coe TypeId Kd:=⟨.ty⟩
instance (n : Nat) : OfNat Kd n:=⟨.ty n⟩
/-- A piece of known memory: own (a block of the call's own: its first cells are known, 'cap' cells in all) or only read (cells from 'off' on). -/
structure Row where
 b : Nat
 off : Nat
 cells : List Value
 own : Option Kd
 cap : Nat
def Row.ok (B : Nat) (w : World) (r : Row) : Prop :=
 match r.own with
 | some (.ty el)=>B ≤ r.b∧r.off = 0 ∧ ∃ (cs : List Value),w.heap[r.b]? = some (.cells (r.cells++cs).toArray el (0,0))∧(r.cells++cs).length = r.cap
 | some (.obj o)=>B ≤ r.b∧r.cells = []∧w.heap[r.b]? = some o
 | none=>r.b < w.heap.size ∧ ∀ j v,r.cells[j]? = some v → w.cell? ⟨r.b,r.off + j,none⟩ = some v
structure St (B : Nat) (w0 : World) (H : List Row) (w : World) : Prop where
 below : Below B w0 w
 size : B ≤ w.heap.size
 ok : ∀ r ∈ H,r.ok B w
 sep : H.Pairwise (fun r s=>(r.own.isSome = true∨s.own.isSome = true) → r.b ≠ s.b)
theorem Row.ok_lt {B : Nat} {w : World} {r : Row} (h : r.ok B w) : r.b < w.heap.size:=by
 unfold Row.ok at h
 split at h
 ·obtain ⟨_,_,cs,h1,_⟩:=h
  exact (Array.getElem?_eq_some_iff.1 h1).1
 ·exact (Array.getElem?_eq_some_iff.1 h.2.2).1
 ·exact h.1
theorem Row.ok_cell {B : Nat} {w : World} {r : Row} (h : r.ok B w) {j : Nat} {v : Value} (hj : r.cells[j]? = some v) : w.cell? ⟨r.b,r.off + j,none⟩ = some v:=by
 unfold Row.ok at h
 split at h
 ·obtain ⟨_,h0,cs,h1,_⟩:=h
  have hl:=(List.getElem?_eq_some_iff.1 hj).1
  unfold World.cell?
  simp only [h1,h0,Option.isSome_none,Bool.false_eq_true,if_false,Nat.zero_add]
  rw [List.getElem?_toArray,List.getElem?_append_left hl]
  exact hj
 ·rw [h.2.1] at hj;simp at hj
 ·exact h.2 j v hj
theorem Row.ok_frozen {B : Nat} {w : World} {r : Row} {T : TypeId} (h : r.ok B w) (he : r.own = some (.ty T)) (a : Addr) (ha : a.block = r.b) : w.frozen? a = false:=by
 unfold Row.ok at h
 rw [he] at h
 obtain ⟨_,h0,cs,h1,_⟩:=h
 unfold World.frozen?
 rw [ha,h1]
 simp
theorem Row.ok_of_block {B : Nat} {w w' : World} {r : Row} (h : r.ok B w) (hs : w.heap.size ≤ w'.heap.size) (hb : w'.heap[r.b]? = w.heap[r.b]?) : r.ok B w' := by
 unfold Row.ok at *
 split
 ·rename_i ho
  simp only [ho] at h
  rw [hb];exact h
 ·rename_i ho
  simp only [ho] at h
  rw [hb];exact h
 ·rename_i ho
  simp only [ho] at h
  refine ⟨Nat.lt_of_lt_of_le h.1 hs,fun j v hj=>?_⟩
  have:=h.2 j v hj
  unfold World.cell? at *
  simp only [hb]
  exact this
theorem St.drewN {B : Nat} {w0 w : World} {H : List Row} (h : St B w0 H w) (n : Nat) : St B w0 H (w.drewN n) :=
 ⟨⟨h.below.os,h.below.tape,h.below.output,h.below.size,h.below.block⟩,h.size,fun r hr=>Row.ok_of_block (h.ok r hr) (Nat.le_refl _) rfl,h.sep⟩
theorem St.drew {B : Nat} {w0 w : World} {H : List Row} (h : St B w0 H w) : St B w0 H { w with drawn:=w.drawn + 1 }:=h.drewN 1
theorem St.sub {B : Nat} {w0 w : World} {H H' : List Row} (h : St B w0 H w) (hs : H'.Sublist H) : St B w0 H' w :=
 ⟨h.below,h.size,fun r hr=>h.ok r (hs.subset hr),h.sep.sublist hs⟩
theorem St.tail {B : Nat} {w0 w : World} {H : List Row} {r : Row} (h : St B w0 (r::H) w) : St B w0 H w:=h.sub (List.sublist_cons_self _ _)
theorem size_alloc' (w : World) (o : Obj) : (w.alloc o).heap.size = w.heap.size + 1:=by show (w.heap.push o).size = _;simp
theorem heap_alloc' (w : World) (o : Obj) : (w.alloc o).heap[w.heap.size]? = some o:=by show (w.heap.push o)[w.heap.size]? = _;simp
/-- A new block, of which nothing is said. -/
theorem St.allocAny {B : Nat} {w0 w : World} {H : List Row} (h : St B w0 H w) (o : Obj) : St B w0 H (w.alloc o) :=
 ⟨h.below.alloc h.size o,by have:=h.size;rw [size_alloc'];omega,fun r hr=>Row.ok_of_block (h.ok r hr) (by rw [size_alloc'];omega) (Below.heap_alloc _ _ _ (Row.ok_lt (h.ok r hr))),h.sep⟩
theorem St.alloc {B : Nat} {w0 w : World} {H : List Row} (h : St B w0 H w) (cs : List Value) (el : TypeId) :
  St B w0 (⟨w.heap.size,0,cs,some el,cs.length⟩::H) (w.alloc (.cells cs.toArray el)):=by
 have h' := h.allocAny (.cells cs.toArray el)
 refine ⟨h'.below,h'.size,fun r hr=>?_,List.pairwise_cons.2 ⟨fun s hs _=>?_,h.sep⟩⟩
 ·rcases List.mem_cons.1 hr with rfl | hr
  ·refine ⟨h.size,rfl,[],?_,by simp⟩
   rw [List.append_nil];exact heap_alloc' _ _
  ·exact h'.ok r hr
 ·have:=Row.ok_lt (h.ok s hs)
  show w.heap.size ≠ s.b
  omega
/-- Known cells of a new block, of which the first are told. -/
theorem St.allocPre {B : Nat} {w0 w : World} {H : List Row} (h : St B w0 H w) (cs rest : List Value) (el : TypeId) :
  St B w0 (⟨w.heap.size,0,cs,some el,(cs++rest).length⟩::H) (w.alloc (.cells (cs++rest).toArray el)):=by
 have h' := h.allocAny (.cells (cs++rest).toArray el)
 refine ⟨h'.below,h'.size,fun r hr=>?_,List.pairwise_cons.2 ⟨fun s hs _=>?_,h.sep⟩⟩
 ·rcases List.mem_cons.1 hr with rfl | hr
  ·exact ⟨h.size,rfl,rest,heap_alloc' _ _,rfl⟩
  ·exact h'.ok r hr
 ·have:=Row.ok_lt (h.ok s hs)
  show w.heap.size ≠ s.b
  omega
theorem pairwise_set {R : Row → Row → Prop} : ∀ (H : List Row) (i : Nat) (r r' : Row),H[i]? = some r → (∀ s,R r s → R r' s) → (∀ s,R s r → R s r') → H.Pairwise R → (H.set i r').Pairwise R
 | [],_,_,_,h,_,_,_=>by cases h
 | x::H,0,r,r',h,h1,h2,hp=>by
  simp at h;subst h
  rw [List.set_cons_zero]
  have:=List.pairwise_cons.1 hp
  exact List.pairwise_cons.2 ⟨fun s hs=>h1 s (this.1 s hs),this.2⟩
 | x::H,i + 1,r,r',h,h1,h2,hp=>by
  simp at h
  rw [List.set_cons_succ]
  have:=List.pairwise_cons.1 hp
  refine List.pairwise_cons.2 ⟨fun s hs=>?_,pairwise_set H i r r' h h1 h2 this.2⟩
  rcases List.mem_or_eq_of_mem_set hs with hs | rfl
  ·exact this.1 s hs
  ·exact h2 _ (this.1 r (List.mem_of_getElem? h))
theorem sep_other {H : List Row} (hp : H.Pairwise (fun r s=>(r.own.isSome = true∨s.own.isSome = true) → r.b ≠ s.b)) {i j : Nat} {r s : Row} (hi : H[i]? = some r) (hj : H[j]? = some s) (hij : i ≠ j) (ho : r.own.isSome = true) : s.b ≠ r.b:=by
 obtain ⟨hil,hie⟩:=List.getElem?_eq_some_iff.1 hi
 obtain ⟨hjl,hje⟩:=List.getElem?_eq_some_iff.1 hj
 have hp' := List.pairwise_iff_getElem.1 hp
 rcases Nat.lt_or_gt_of_ne hij with h | h
 ·have:=hp' i j hil hjl h
  rw [hie,hje] at this
  exact fun e=>this (.inl ho) e.symm
 ·have:=hp' j i hjl hil h
  rw [hie,hje] at this
  exact this (.inr ho)
theorem St.set {B : Nat} {w0 w : World} {H : List Row} (h : St B w0 H w) {i b j cap : Nat} {el : TypeId} {cs : List Value} (hi : H[i]? = some ⟨b,0,cs,some el,cap⟩) (hj : j < cs.length) (v : Value) :
  St B w0 (H.set i ⟨b,0,cs.set j v,some el,cap⟩) (w.setCell ⟨b,j,none⟩ v):=by
 have hr:=h.ok _ (List.mem_of_getElem? hi)
 have hB : B ≤ b:=hr.1
 refine ⟨h.below.setCell hB v,by simpa [World.setCell] using h.size,fun r hm=>?_,pairwise_set H i _ _ hi (fun s q ho=>q ho) (fun s q ho=>q ho) h.sep⟩
 obtain ⟨k,hk,hke⟩:=List.mem_iff_getElem.1 hm
 by_cases hki : k = i
 ·subst hki
  have : r = ⟨b,0,cs.set j v,some el,cap⟩:=by rw [← hke];simp
  subst this
  obtain ⟨_,_,rest,h1,h2⟩:=hr
  refine ⟨hB,rfl,rest,?_,by simpa using h2⟩
  dsimp only at h1 ⊢
  simp only [World.setCell,Array.getElem?_modify,if_pos,h1,Option.map_some]
  simp [hj]
 ·have hk' : H[k]? = some r:=by
   rw [List.length_set] at hk
   rw [List.getElem_set_ne (by omega)] at hke
   rw [List.getElem?_eq_getElem hk,hke]
  have hne:=sep_other h.sep hi hk' (fun e=>hki e.symm) rfl
  exact Row.ok_of_block (h.ok r (List.mem_of_getElem? hk')) (by simp [World.setCell]) (Below.heap_setCell _ _ _ _ hne)
inductive TK where
 | st (fs : List (Nat × TypeId)) | ar (n : Nat) (e : TypeId) | sl (e : TypeId) | mp (k e : TypeId) | int (k : IntKind) | sc
 deriving DecidableEq
structure TI where
 k : TK
 size : Nat
 bytes : Nat
 deriving DecidableEq
def tkOf : TypeDesc → TK
 | .struct fs => .st (fs.toList.map fun f=>(f.offset,f.type))
 | .array n e => .ar n e
 | .slice e => .sl e
 | .map k e => .mp k e
 | .int k => .int k
 | _ => .sc
def tiOf (P : Program) (T : TypeId) : Option TI :=
 match P.info? T,P.underlying T with
 | some i,some d=>some ⟨tkOf d,i.size,i.bytes⟩
 | _,_=>none
def TK.isAgg : TK → Bool
 | .st _=>true
 | .ar _ _=>true
 | _=>false
section
variable {P : Program} {T : TypeId} {ti : TI}
theorem ti_spec (h : tiOf P T = some ti) : ∃ i d,P.info? T = some i∧P.underlying T = some d∧tkOf d = ti.k∧i.size = ti.size∧i.bytes = ti.bytes:=by
 unfold tiOf at h
 split at h
 ·rename_i i d hi hd
  simp only [Option.some.injEq] at h
  subst h
  exact ⟨i,d,hi,hd,rfl,rfl,rfl⟩
 ·cases h
theorem ti_size (h : tiOf P T = some ti) (w : World) : (sizeOf T).run P w = .ok ti.size w:=by
 obtain ⟨i,d,hi,hd,hk,hs,hb⟩:=ti_spec h
 simp [sizeOf,typeInfo,hi,hs]
theorem ti_agg (h : tiOf P T = some ti) (w : World) : (isAgg T).run P w = .ok ti.k.isAgg w:=by
 obtain ⟨i,d,hi,hd,hk,hs,hb⟩:=ti_spec h
 simp only [isAgg,underlying]
 rw [← hk]
 cases d <;> simp [hd,tkOf,TK.isAgg]
end
def ev (t : List Value) : Operand → Value
 | .tmp i=>t.getD i undef
 | .const v=>v
 | .global g => .pointer (some ⟨g,0,none⟩)
 | .func f => .func (.func f) #[] #[]
theorem eval_ev (t : List Value) (ds : List Deferred) : Act.eval ⟨t.toArray,ds⟩ = ev t:=by
 funext x
 cases x <;> simp [Act.eval,ev,Array.getD_eq_getD_getElem?,List.getD]
def put (t : List Value) : Option Nat → Value → List Value
 | some d,v=>t.set d v
 | none,_=>t
theorem put_act (t : List Value) (ds : List Deferred) (d : Option Tmp) (v : Value) : Act.put ⟨t.toArray,ds⟩ d v = ⟨(put t d v).toArray,ds⟩:=by
 cases d <;> simp [Act.put,put]
/-- An operation that yields a value and leaves the world alone, in whatever world the rows describe. -/
def EvOp (P : Program) (H : List Row) (t : List Value) (o : Oper) (v : Value) : Prop :=
 ∀ B w0 w,St B w0 H w → (execOp (ev t) o).run P w = .ok (.value v) w
section
variable {P : Program} {H : List Row} {t : List Value} {o : Oper}
theorem EvOp.move {x : Operand} (h : o.op = .move x) {v : Value} (hv : ev t x = v) : EvOp P H t o v:=by
 intro B w0 w hS;subst hv;simp [execOp,h]
theorem EvOp.assign {x : Operand} (h : o.op = .assign x) {v : Value} (hv : ev t x = v) : EvOp P H t o v:=by
 intro B w0 w hS;subst hv;simp [execOp,h]
theorem EvOp.pickT {c a b : Operand} (h : o.op = .pick c a b) (hc : ev t c = .bool true) {v : Value} (hv : ev t a = v) : EvOp P H t o v:=by
 intro B w0 w hS;subst hv;simp [execOp,h,hc,asBool]
theorem EvOp.pickF {c a b : Operand} (h : o.op = .pick c a b) (hc : ev t c = .bool false) {v : Value} (hv : ev t b = v) : EvOp P H t o v:=by
 intro B w0 w hS;subst hv;simp [execOp,h,hc,asBool]
theorem EvOp.cmp {op : BinOp} {T T' : TypeId} {x y : Operand} {k : IntKind} {m n : Int} {b : Bool} (h : o.op = .binOp op T x y T') (hx : ev t x = .int k m) (hy : ev t y = .int k n)
  (hb : (match op with | .eql=>some (decide (m = n)) | .neq=>some (!decide (m = n)) | .lss=>some (decide (m < n)) | .leq=>some (decide (m ≤ n)) | .gtr=>some (decide (m > n)) | .geq=>some (decide (m ≥ n)) | _=>none)=some b) : EvOp P H t o (.bool b):=by
 intro B w0 w hS
 cases op <;> simp only [Option.some.injEq,reduceCtorEq] at hb <;> subst hb <;> simp [execOp,h,hx,hy,eqGuard,binOp,Op.intCmp] <;> first | rfl | (by_cases e : m = n <;> simp [e])
theorem EvOp.arith {op : BinOp} {T T' : TypeId} {x y : Operand} {k : IntKind} {m n r : Int} (h : o.op = .binOp op T x y T') (hx : ev t x = .int k m) (hy : ev t y = .int k n)
  (hb : (match op with | .add=>some (k.wrap (m + n)) | .sub=>some (k.wrap (m - n)) | .mul=>some (k.wrap (m * n)) | _=>none)=some r) : EvOp P H t o (.int k r):=by
 intro B w0 w hS
 cases op <;> simp only [Option.some.injEq,reduceCtorEq] at hb <;> subst hb <;> simp [execOp,h,hx,hy,eqGuard,binOp,Op.intArith]
theorem wrap_i64 {n : Int} (h1 : -9223372036854775808 ≤ n) (h2 : n ≤ 9223372036854775807) : IntKind.i64.wrap n = n:=by
 simp only [IntKind.wrap,IntKind.bits,IntKind.signed]
 by_cases h : 0 ≤ n
 ·have : n % 2 ^ 64 = n:=Int.emod_eq_of_lt h (by omega)
  simp;omega
 ·have : n % 2 ^ 64 = n + 2 ^ 64:=by omega
  simp;omega
theorem EvOp.add64 {T T' : TypeId} {x y : Operand} {m n : Int} (h : o.op = .binOp .add T x y T') (hx : ev t x = .int .i64 m) (hy : ev t y = .int .i64 n)
  (h1 : -9223372036854775808 ≤ m + n) (h2 : m + n ≤ 9223372036854775807) : EvOp P H t o (.int .i64 (m + n)):=by
 have:=EvOp.arith (P:=P) (H:=H) (t:=t) h hx hy rfl
 rwa [wrap_i64 h1 h2] at this
theorem EvOp.sub64 {T T' : TypeId} {x y : Operand} {m n : Int} (h : o.op = .binOp .sub T x y T') (hx : ev t x = .int .i64 m) (hy : ev t y = .int .i64 n)
  (h1 : -9223372036854775808 ≤ m - n) (h2 : m - n ≤ 9223372036854775807) : EvOp P H t o (.int .i64 (m - n)):=by
 have:=EvOp.arith (P:=P) (H:=H) (t:=t) h hx hy rfl
 rwa [wrap_i64 h1 h2] at this
theorem EvOp.not {T : TypeId} {x : Operand} {b : Bool} (h : o.op = .unOp .not T x) (hx : ev t x = .bool b) : EvOp P H t o (.bool (!b)):=by
 intro B w0 w hS;simp [execOp,h,hx,Op.unary]
theorem St.cell {B : Nat} {w0 w : World} (hS : St B w0 H w) {r : Row} (hr : r ∈ H) {j : Nat} {v : Value} (hj : r.cells[j]? = some v) : w.cell? ⟨r.b,r.off + j,none⟩ = some v:=Row.ok_cell (hS.ok r hr) hj
theorem EvOp.load {T : TypeId} {x : Operand} {b off j : Nat} {v : Value} {ti : TI} {r : Row} (h : o.op = .load T x) (hx : ev t x = .pointer (some ⟨b,off,none⟩)) (hT : tiOf P T = some ti) (ha : ti.k.isAgg = false)
  (hr : r ∈ H) (hb : r.b = b) (ho : r.off + j = off) (hj : r.cells[j]? = some v) : EvOp P H t o v:=by
 intro B w0 w hS
 have hc:=hS.cell hr hj
 rw [hb,ho] at hc
 simp [execOp,h,hx,Instr.loadAt,Instr.sureAddr,loadVar,ti_agg hT,ha,Go.load,Sem.run,hc]
end
section
variable {P : Program} {H : List Row} {t : List Value} {o : Oper}
theorem ti_struct {T : TypeId} {fs : List (Nat × TypeId)} {s y : Nat} (h : tiOf P T = some ⟨.st fs,s,y⟩) : ∃ fa : Array Field,P.underlying T = some (.struct fa)∧fa.toList.map (fun f=>(f.offset,f.type)) = fs:=by
 obtain ⟨i,d,hi,hd,hk,hs,hb⟩:=ti_spec h
 cases d <;> simp only [tkOf,reduceCtorEq,TK.st.injEq] at hk
 exact ⟨_,hd,hk⟩
theorem ti_slice {T e : TypeId} {s y : Nat} (h : tiOf P T = some ⟨.sl e,s,y⟩) : P.underlying T = some (.slice e):=by
 obtain ⟨i,d,hi,hd,hk,hs,hb⟩:=ti_spec h
 cases d <;> simp only [tkOf,reduceCtorEq,TK.sl.injEq] at hk
 rw [hd,hk]
theorem ti_array {T e : TypeId} {n s y : Nat} (h : tiOf P T = some ⟨.ar n e,s,y⟩) : P.underlying T = some (.array n e):=by
 obtain ⟨i,d,hi,hd,hk,hs,hb⟩:=ti_spec h
 cases d <;> simp only [tkOf,reduceCtorEq,TK.ar.injEq] at hk
 rw [hd,hk.1,hk.2]
theorem add_none (b off n : Nat) : Addr.add ⟨b,off,none⟩ n = ⟨b,off + n,none⟩:=by
 unfold Addr.add
 split
 ·rename_i h0;subst h0;rfl
 ·rfl
theorem EvOp.fieldAddr {T F : TypeId} {x : Operand} {i b off fo : Nat} {fs : List (Nat × TypeId)} {s y : Nat} {ti : TI} (h : o.op = .fieldAddr T x i) (hx : ev t x = .pointer (some ⟨b,off,none⟩))
  (hT : tiOf P T = some ⟨.st fs,s,y⟩) (hf : fs[i]? = some (fo,F)) (hF : tiOf P F = some ti) (hz : ti.size ≠ 0) : EvOp P H t o (.pointer (some ⟨b,off + fo,none⟩)):=by
 intro B w0 w hS
 obtain ⟨fa,hu,hm⟩:=ti_struct hT
 have hfa : ∃ f,fa[i]? = some f∧f.offset = fo∧f.type = F:=by
  rw [← hm] at hf
  simp only [List.getElem?_map,Option.map_eq_some_iff] at hf
  obtain ⟨f,h1,h2⟩:=hf
  simp only [Prod.mk.injEq] at h2
  exact ⟨f,by simpa using h1,h2.1,h2.2⟩
 obtain ⟨f,h1,h2,h3⟩:=hfa
 subst h2 h3
 have:=ti_size hF w
 simp [execOp,h,hx,Instr.fieldAt,underlying,hu,h1,Instr.sureAddr,fieldPlace,this,hz,add_none]
theorem EvOp.indexSlice {T e : TypeId} {x ix : Operand} {b off len cap s y : Nat} {i : Int} {k : IntKind} {ti : TI} (h : o.op = .indexAddr T x ix) (hx : ev t x = .slice (some ⟨b,off,none⟩) len cap) (hi : ev t ix = .int k i)
  (hT : tiOf P T = some ⟨.sl e,s,y⟩) (he : tiOf P e = some ti) (h0 : 0 ≤ i) (h1 : i < len) : EvOp P H t o (.pointer (some ⟨b,off + i.toNat * ti.size,none⟩)):=by
 intro B w0 w hS
 have:=ti_size he w
 simp [execOp,h,hx,hi,Instr.indexAt,asIntOf,underlying,ti_slice hT,this,h0,h1,add_none]
theorem EvOp.indexArray {T e : TypeId} {x ix : Operand} {b off n s y : Nat} {i : Int} {k : IntKind} {ti : TI} (h : o.op = .indexAddr T x ix) (hx : ev t x = .pointer (some ⟨b,off,none⟩)) (hi : ev t ix = .int k i)
  (hT : tiOf P T = some ⟨.ar n e,s,y⟩) (he : tiOf P e = some ti) (h0 : 0 ≤ i) (h1 : i < n) : EvOp P H t o (.pointer (some ⟨b,off + i.toNat * ti.size,none⟩)):=by
 intro B w0 w hS
 have:=ti_size he w
 simp [execOp,h,hx,hi,Instr.indexAt,Instr.sureAddr,asIntOf,underlying,ti_array hT,this,h0,h1,add_none]
theorem EvOp.lenSlice {T e : TypeId} {x : Operand} {a : Option Addr} {n cap s y : Nat} (h : o.op = .call { callee := .builtin .len,args := #[x],argTypes := #[T] }) (hx : ev t x = .slice a n cap)
  (hT : tiOf P T = some ⟨.sl e,s,y⟩) : EvOp P H t o (.int .i64 n):=by
 intro B w0 w hS
 simp [execOp,h,hx,resolve,invoke,builtin,Builtin.len_,underlying,ti_slice hT,goInt]
theorem EvOp.min64 {T T' : TypeId} {x y : Operand} {m n : Int} (h : o.op = .call { callee := .builtin .min,args := #[x,y],argTypes := #[T,T'] }) (hx : ev t x = .int .i64 m) (hy : ev t y = .int .i64 n) : EvOp P H t o (.int .i64 (min m n)):=by
 intro B w0 w hS
 have : (if n < m then n else m)=min m n:=by omega
 simp [execOp,h,hx,hy,resolve,invoke,builtin,Builtin.min_,Builtin.min2,List.foldlM,this]
theorem EvOp.max64 {T T' : TypeId} {x y : Operand} {m n : Int} (h : o.op = .call { callee := .builtin .max,args := #[x,y],argTypes := #[T,T'] }) (hx : ev t x = .int .i64 m) (hy : ev t y = .int .i64 n) : EvOp P H t o (.int .i64 (max m n)):=by
 intro B w0 w hS
 have : (if m < n then n else m)=max m n:=by omega
 simp [execOp,h,hx,hy,resolve,invoke,builtin,Builtin.max_,Builtin.max2,List.foldlM,this]
theorem EvOp.extract {x : Operand} {i : Nat} {vs : Array Value} {v : Value} (h : o.op = .extract x i) (hx : ev t x = .tuple vs) (hv : vs[i]? = some v) : EvOp P H t o v:=by
 intro B w0 w hS;simp [execOp,h,hx,Instr.extract,hv]
theorem EvOp.makeFunc {fn : Fn} {first captured : Array Operand} (h : o.op = .makeFunc fn first captured) {a c : Array Value} (ha : first.map (ev t)=a) (hc : captured.map (ev t)=c) : EvOp P H t o (.func fn a c):=by
 intro B w0 w hS;subst ha hc;simp [execOp,h,Instr.makeFunc]
/-- a field of a struct value -/
theorem EvOp.field {T F : TypeId} {x : Operand} {i fo : Nat} {cs : Array Value} {fs : List (Nat × TypeId)} {s y : Nat} {ti : TI} {v : Value} (h : o.op = .field T x i) (hx : ev t x = .agg cs)
  (hT : tiOf P T = some ⟨.st fs,s,y⟩) (hf : fs[i]? = some (fo,F)) (hF : tiOf P F = some ti) (hv : (if ti.k.isAgg then some (.agg (cs.extract fo (fo + ti.size))) else cs[fo]?) = some v) : EvOp P H t o v:=by
 intro B w0 w hS
 obtain ⟨fa,hu,hm⟩:=ti_struct hT
 have hfa : ∃ f,fa[i]? = some f∧f.offset = fo∧f.type = F:=by
  rw [← hm] at hf
  simp only [List.getElem?_map,Option.map_eq_some_iff] at hf
  obtain ⟨f,h1,h2⟩:=hf
  simp only [Prod.mk.injEq] at h2
  exact ⟨f,by simpa using h1,h2.1,h2.2⟩
 obtain ⟨f,h1,h2,h3⟩:=hfa
 subst h2 h3
 have h4:=ti_size hF w
 have h5:=ti_agg hF w
 cases hag : ti.k.isAgg <;> simp only [hag,if_true,if_false,Bool.false_eq_true,Option.some.injEq] at hv
 ·simp [execOp,h,hx,Instr.field,underlying,hu,h1,asAgg,part,h5,hag,hv]
 ·simp [execOp,h,hx,Instr.field,underlying,hu,h1,asAgg,part,h4,h5,hag,hv]
theorem EvOp.slice {T e : TypeId} {x : Operand} {lo hi mx : Option Operand} {b off len cap s y : Nat} {ti : TI} {l hh m : Nat} (h : o.op = .slice T x lo hi mx) (hx : ev t x = .slice (some ⟨b,off,none⟩) len cap)
  (hT : tiOf P T = some ⟨.sl e,s,y⟩) (he : tiOf P e = some ti)
  (hm : match mx with | none=>m = cap | some q => ∃ k,ev t q = .int k (m : Int))
  (hh' : match hi with | none=>mx = none∧hh = len | some q => ∃ k,ev t q = .int k (hh : Int))
  (hl : match lo with | none=>l = 0 | some q => ∃ k,ev t q = .int k (l : Int))
  (h1 : l ≤ hh) (h2 : hh ≤ m) (h3 : m ≤ cap) : EvOp P H t o (.slice (some ⟨b,if m = l then off else off + l * ti.size,none⟩) (hh - l) (m - l)):=by
 intro B w0 w hS
 have hsz:=ti_size he w
 have hbd : (Instr.sliceBounds true len cap (lo.map (ev t)) (hi.map (ev t)) (mx.map (ev t))).run P w = .ok (l,hh,m) w:=by
  cases mx with
  | none =>
   simp only at hm;subst hm
   cases hi with
   | none =>
    obtain ⟨_,rfl⟩:=hh'
    cases lo with
    | none=>simp only at hl;subst hl;simp [Instr.sliceBounds]
    | some ql=>obtain ⟨k,hk⟩:=hl;simp [Instr.sliceBounds,hk,Instr.sliceBound,asIntOf,h1]
   | some qh =>
    obtain ⟨k,hk⟩:=hh'
    cases lo with
    | none=>simp only at hl;subst hl;simp [Instr.sliceBounds,hk,Instr.sliceBound,asIntOf,h2]
    | some ql=>obtain ⟨k',hk'⟩:=hl;simp [Instr.sliceBounds,hk,hk',Instr.sliceBound,asIntOf,h1,h2]
  | some qm =>
   obtain ⟨km,hkm⟩:=hm
   cases hi with
   | none=>simp at hh'
   | some qh =>
    obtain ⟨k,hk⟩:=hh'
    cases lo with
    | none=>simp only at hl;subst hl;simp [Instr.sliceBounds,hk,hkm,Instr.sliceBound,asIntOf,h2,h3]
    | some ql=>obtain ⟨k',hk'⟩:=hl;simp [Instr.sliceBounds,hk,hk',hkm,Instr.sliceBound,asIntOf,h1,h2,h3]
 have hu:=ti_slice hT
 by_cases hml : m = l
 ·simp [execOp,h,hx,Instr.sliceAt,Instr.slice,underlying,hu,hbd,hsz,hml]
 ·simp [execOp,h,hx,Instr.sliceAt,Instr.slice,underlying,hu,hbd,hsz,hml,add_none]
end
abbrev QT:=Exit → List Value → List Row → Prop
/-- no fence, in a round of a loop over a function or in none -/
def wf (ρ : Option Nat) : Fence:={ Fence.wide with round:=ρ }
theorem wf_calls {ρ : Option Nat} {n : Nat} {P : Program} {f : FuncId} {args : Array Value} {w : World} {R : Ending → World → Prop} : CallsIn (wf ρ) n P f args w R ↔ Calls P f args w R:=callsIn_wide (n:=n)
def lift (ds : List Deferred) (B : Nat) (w0 : World) (Q : QT) (e : Exit) (a : Act) (w : World) : Prop:=a.defers = ds ∧ ∃ H',Q e a.tmps.toList H'∧St B w0 H' w
def W (P : Program) (c : Code) (t : List Value) (H : List Row) (Q : QT) : Prop := ∀ ρ ds B w0 w,St B w0 H w → c.wpIn (wf ρ) 0 P (lift ds B w0 Q) ⟨t.toArray,ds⟩ w
def nrm (N : List Value → List Row → Prop) : QT:=fun e t H=>e = .normal∧N t H
def WO (P : Program) (ops : Array Oper) (i : Nat) (t : List Value) (H : List Row) (N : List Value → List Row → Prop) : Prop := ∀ ρ ds B w0 w,St B w0 H w → wpOpsIn (wf ρ) 0 P ops (lift ds B w0 (nrm N)) (List.range' i (ops.size - i)) ⟨t.toArray,ds⟩ w
def opAt : List Oper → Nat → Option Oper
 | [],_=>none
 | o::_,0=>some o
 | _::l,i + 1=>opAt l i
theorem opAt_eq : ∀ (l : List Oper) (i : Nat),opAt l i = l[i]?
 | [],_=>rfl
 | _::_,0=>rfl
 | _::l,i + 1=>by simp [opAt,opAt_eq l i]
theorem opAt_arr {ops : Array Oper} {i : Nat} {r : Option Oper} (h : opAt ops.toList i = r) : ops[i]? = r:=by rw [← h,opAt_eq];simp
def WQ (P : Program) (ops : Array Oper) (i : Nat) (t : List Value) (H : List Row) (Q : List Value → Prop) : Prop := ∀ ds B w0,wpQuiet P ops (St B w0 H) (fun a=>a.defers = ds∧Q a.tmps.toList) (ops.toList.drop i) ⟨t.toArray,ds⟩
def Callable (P : Program) (f : FuncId) : Prop := ∀ args w,(callFunc f args).run P w = .ok (.enter f args) w
def Fc (P : Program) (f : FuncId) (args : List Value) (H : List Row) (R : Value → List Row → Prop) : Prop :=
 Callable P f ∧ ∀ B w0 w,St B w0 H w → Calls P f args.toArray w fun e w' => ∃ v H',e = .returned v∧R v H'∧St B w0 H' w'
theorem Fc.mono {P : Program} {f : FuncId} {args : List Value} {H : List Row} {R R' : Value → List Row → Prop} (h : Fc P f args H R) (hr : ∀ v H',R v H' → R' v H') : Fc P f args H R' :=
 ⟨h.1,fun B w0 w hS=>(h.2 B w0 w hS).mono fun _ _ ⟨v,H',he,hR,hS'⟩=>⟨v,H',he,hr _ _ hR,hS'⟩⟩
abbrev thenQ (N : List Value → List Row → Prop) (Q : QT) : QT
 | .normal,t,H=>N t H
 | e,t,H=>Q e t H
abbrev blockQ (id : Nat) (Q : QT) : QT
 | .exit i,t,H=>if i = id then Q .normal t H else Q (.exit i) t H
 | e,t,H=>Q e t H
theorem act_eta {ds : List Deferred} {a : Act} (h : a.defers = ds) : a = ⟨a.tmps.toList.toArray,ds⟩:=by cases a;simp at h;subst h;rfl
section
variable {P : Program} {c x y : Code} {t : List Value} {H : List Row} {Q : QT}
theorem W.mono {Q' : QT} (h : W P c t H Q) (hq : ∀ e t H,Q e t H → Q' e t H) : W P c t H Q' :=
 fun ρ ds B w0 w hS=>wpIn_mono (h ρ ds B w0 w hS) fun _ _ _ ⟨hd,H',hQ,hS'⟩=>⟨hd,H',hq _ _ _ hQ,hS'⟩
theorem W.drop {H' : List Row} (hs : H'.Sublist H) (h : W P c t H' Q) : W P c t H Q:=fun ρ ds B w0 w hS=>h ρ ds B w0 w (hS.sub hs)
theorem sem_value {P : Program} {ρ : Option Nat} {e : Operand → Value} {o : Oper} {v : Value} {w w' : World} (h : (execOp e o).run P w = .ok (.value v) w') : (o.semAt (wf ρ).round e).run P w = .ok (.value v) w' := by
 rw [Oper.semAt_eq];exact h
 intro c hc
 unfold execOp at h
 simp only [hc,Sem.run_bind] at h
 revert h
 cases (resolve e c o.type).run P w <;> simp [Result.andThen]
theorem sem_skip {P : Program} {ρ : Option Nat} {e : Operand → Value} {o : Oper} {w w' : World} (h : (execOp e o).run P w = .ok .skip w') : (o.semAt (wf ρ).round e).run P w = .ok .skip w' := by
 rw [Oper.semAt_eq];exact h
 intro c hc
 unfold execOp at h
 simp only [hc,Sem.run_bind] at h
 revert h
 cases (resolve e c o.type).run P w <;> simp [Result.andThen]
theorem sem_enter {P : Program} {ρ : Option Nat} {e : Operand → Value} {o : Oper} {f : FuncId} {args : Array Value} {w w' : World} (h : (execOp e o).run P w = .ok (.enter f args) w') : (o.semAt (wf ρ).round e).run P w = .ok (.enter f args) w' := by
 rw [Oper.semAt_eq];exact h
 intro c hc
 unfold execOp at h
 simp only [hc,Sem.run_bind] at h
 revert h
 cases (resolve e c o.type).run P w <;> simp [Result.andThen]
theorem sem_round {P : Program} {ρ : Option Nat} {e : Operand → Value} {o : Oper} {l : Nat} {f : FuncId} {tmps : Array Value} {cs bo : Code} {w w' : World} (h : (execOp e o).run P w = .ok (.round l f tmps cs bo) w') : (o.semAt (wf ρ).round e).run P w = .ok (.round l f tmps cs bo) w' := by
 rw [Oper.semAt_eq];exact h
 intro c hc
 unfold execOp at h
 simp only [hc,Sem.run_bind] at h
 revert h
 cases (resolve e c o.type).run P w <;> simp [Result.andThen]
theorem Oper.wpIn_of_quiet {P : Program} {C : World → Prop} {ρ : Option Nat} {o : Oper} {a : Act} {K : Act → Prop} {K' : Act → World → Prop} {Q' : Exit → Act → World → Prop} {w : World} (hw : C w) (h : ∀ a w',C w' → K a → K' a w') (hh : o.quiet P a C K) : o.wpIn (wf ρ) 0 P a w K' Q' := by
 obtain ⟨v,h1,h2⟩:=hh
 have h3:=h1 w hw
 unfold Oper.quietAt at h3
 refine ⟨fun _ _=>trivial,?_⟩
 cases hr : (execOp a.eval o).run P w with
 | ok n w' =>
  rw [hr] at h3
  cases n <;> simp only [Oper.quietUpon] at h3
  case value u =>
   obtain ⟨rfl,rfl⟩:=h3
   rw [sem_value hr,Oper.uponIn_value]
   exact h _ _ hw h2
  case skip =>
   obtain ⟨rfl,rfl⟩:=h3
   rw [sem_skip hr,Oper.uponIn_skip]
   exact h _ _ hw h2
  case enter f args =>
   obtain ⟨rfl,hc⟩:=h3
   rw [sem_enter hr,Oper.uponIn_enter]
   exact ⟨(fun h=>by cases h),wf_calls.2 (hc.mono fun e w'' ⟨he,hw''⟩=>by subst he;exact h _ _ hw'' h2)⟩
 | halt x w' => rw [hr] at h3;simp only [Oper.quietUpon] at h3
theorem wpOpIn_of_qOp {P : Program} {ops : Array Oper} {C : World → Prop} {ρ : Option Nat} {i : Nat} {a : Act} {K : Act → Prop} {K' : Act → World → Prop} {Q' : Exit → Act → World → Prop} {w : World} (hC : C w) (h : ∀ a w',C w' → K a → K' a w') (hh : qOp P ops C i K a) : wpOpIn (wf ρ) 0 P ops Q' i K' a w:=by
 unfold qOp at hh
 unfold wpOpIn
 split
 ·rename_i ho;simp only [ho] at hh;exact h _ _ hC hh
 ·rename_i o ho
  simp only [ho] at hh
  split
  ·rename_i hw;simp only [hw,if_true] at hh;exact Oper.wpIn_of_quiet hC h hh
  ·rename_i hw;simp only [hw] at hh;exact ⟨fun _ _=>trivial,h _ _ hC hh⟩
theorem wpAnyIn_of_quiet {P : Program} {ops : Array Oper} {md : Region.Mode} {C : World → Prop} {ρ : Option Nat} {Q : Act → Prop} {Q' : Exit → Act → World → Prop} (hQ : ∀ a w,C w → Q a → Q' .normal a w) : ∀ (fuel : Nat) (listed : Array Bool) (a : Act) (w : World),C w →
  wpAnyQ P md ops C Q fuel listed a → wpAnyIn (wf ρ) 0 P md ops Q' fuel listed a w
 | 0,_,_,_,hw,h=>⟨h.1,hQ _ _ hw h.2⟩
 | fuel + 1,_,_,_,hw,h=>⟨fun h0=>hQ _ _ hw (h.1 h0),fun i hi=>wpOpIn_of_qOp hw (fun a' w' hw' => wpAnyIn_of_quiet hQ fuel _ a' w' hw') (h.2 i hi)⟩
theorem wpIn_region_quiet {P : Program} {ops : Array Oper} {C : World → Prop} {ρ : Option Nat} {id : Nat} {Q : Exit → Act → World → Prop} {a : Act} {w : World} (hm : P.follows .mixedOrders = true) (hB : Region.lexB .any ops = true) (hC : C { w with drawn:=w.drawn + 1 })
  (h : wpQuiet P ops C (fun a' => ∀ w',C w' → Q .normal a' w') ops.toList a) : (Code.region id ops true).wpIn (wf ρ) 0 P Q a w:=by
 simp only [Region.lexB,Bool.and_eq_true] at hB
 refine wpIn_region_any hm (wpAnyIn_of_quiet (Q:=fun a' => ∀ w',C w' → Q .normal a' w') (fun _ w' hw' h=>h w' hw') _ _ _ _ hC ?_)
 have:=wpAnyQ_lex (C:=C) (md := .any) hB.1 ops.toList 0 (Array.replicate ops.size false) a (by simp) (by simpa using hB.2) h
 simpa using this
theorem W.seqN (h : c = .seq x y) (hx : W P x t H (thenQ (fun t H=>W P y t H Q) Q)) : W P c t H Q:=by
 intro ρ ds B w0 w hS
 subst h
 refine wpIn_seq (wpIn_mono (hx ρ ds B w0 w hS) ?_)
 rintro e a w' ⟨hd,H',hQ,hS'⟩
 cases e with
 | normal=>show y.wpIn (wf ρ) 0 P _ a w';rw [act_eta hd];exact hQ ρ ds B w0 w' hS'
 | _=>exact ⟨hd,H',hQ,hS'⟩
theorem W.cond {v : Operand} {b : Bool} (h : c = .cond v x y) (hc : ev t v = .bool b) (ht : b = true → W P x t H Q) (hf : b = false → W P y t H Q) : W P c t H Q:=by
 intro ρ ds B w0 w hS
 subst h
 refine wpIn_cond_split (t:=b) (by rw [eval_ev];exact hc) (fun e=>ht e ρ ds B w0 w hS) (fun e=>hf e ρ ds B w0 w hS)
theorem W.blockN {id : Nat} (h : c = .block id x) (hx : W P x t H (blockQ id Q)) : W P c t H Q:=by
 intro ρ ds B w0 w hS
 subst h
 refine wpIn_block (wpIn_mono (hx ρ ds B w0 w hS) ?_)
 rintro e a w' ⟨hd,H',hQ,hS'⟩
 cases e with
 | exit i =>
  simp only [blockQ] at hQ
  simp only [Exit.inBlock]
  split
  ·rename_i hi;rw [if_pos hi] at hQ;exact ⟨hd,H',hQ,hS'⟩
  ·rename_i hi;rw [if_neg hi] at hQ;exact ⟨hd,H',hQ,hS'⟩
 | _=>exact ⟨hd,H',hQ,hS'⟩
theorem W.exit {id : Nat} (h : c = .exit id) (hq : Q (.exit id) t H) : W P c t H Q:=by
 intro ρ ds B w0 w hS;subst h;exact wpIn_exit ⟨rfl,H,by simpa using hq,hS⟩
theorem W.ret (h : c = .ret) (hq : Q .ret t H) : W P c t H Q:=by
 intro ρ ds B w0 w hS;subst h;exact wpIn_ret ⟨rfl,H,by simpa using hq,hS⟩
theorem W.skip (h : c = .skip) (hq : Q .normal t H) : W P c t H Q:=by
 intro ρ ds B w0 w hS;subst h;exact wpIn_skip ⟨rfl,H,by simpa using hq,hS⟩
theorem W.loopM (h : c = .loop x) (I : Nat → List Value → List Row → Prop) {m : Nat} (h0 : I m t H)
  (round : ∀ m t H,I m t H → W P x t H (thenQ (fun t' H' => ∃ m' H'',H''.Sublist H'∧I m' t' H''∧m' < m) Q)) : W P c t H Q:=by
 intro ρ ds B w0 w hS
 subst h
 intro b k cs hro hb hr
 have key : ∀ m t H w,I m t H → St B w0 H w →
   ∃ e a' w',lift ds B w0 Q e a' w'∧ArrivesIn (Machine.fenced P (wf ρ)) P (lone (b.atR ⟨t.toArray,ds⟩ (.code x :: .inLoop x::k)) cs w) b k cs e a' w' := by
  intro m
  induction m using Nat.strongRecOn with
  | _ m ih =>
   intro t H w hI hS
   obtain ⟨e,a₁,w₁,⟨hd,H₁,hq,hS₁⟩,harr⟩:=round m t H hI ρ ds B w0 w hS b (.inLoop x::k) cs hro hb hr
   cases e with
   | normal =>
    obtain ⟨m',H₂,hsub,hI₁,hlt⟩:=hq
    obtain ⟨e₂,a₂,w₂,hq₂,harr₂⟩:=ih m' hlt _ H₂ w₁ hI₁ (hS₁.sub hsub)
    rw [← act_eta hd] at harr₂
    exact ⟨e₂,a₂,w₂,hq₂,.of_steps (StepsIn.trans harr (.one (fenced_calm hb hr rfl) stepR_inLoop)) harr₂⟩
   | exit id=>exact ⟨_,a₁,w₁,⟨hd,H₁,hq,hS₁⟩,.pass (x := .inLoop x) rfl (fun _ _ => .inl (by simp)) harr⟩
   | goto l=>exact ⟨_,a₁,w₁,⟨hd,H₁,hq,hS₁⟩,.pass (x := .inLoop x) rfl (fun _ _ => .inl (by simp)) harr⟩
   | ret=>exact ⟨_,a₁,w₁,⟨hd,H₁,hq,hS₁⟩,.pass (x := .inLoop x) rfl (fun _ _ => .inl (by simp)) harr⟩
   | panic ch=>exact ⟨_,a₁,w₁,⟨hd,H₁,hq,hS₁⟩,.pass (x := .inLoop x) rfl (fun _ _ => .inl (by simp)) harr⟩
   | outgrown=>exact ⟨_,a₁,w₁,⟨hd,H₁,hq,hS₁⟩,.pass (x := .inLoop x) rfl (fun _ _ => .inl (by simp)) harr⟩
 obtain ⟨e,a',w',hq,harr⟩:=key _ t H w h0 hS
 exact ⟨e,a',w',hq,.of_steps (.one (fenced_calm hb hr rfl) stepR_loop) harr⟩
theorem W.regionE {id : Nat} {ops : Array Oper} (h : c = .region id ops false) (ho : WO P ops 0 t H (Q .normal)) : W P c t H Q:=by
 intro ρ ds B w0 w hS;subst h
 refine wpIn_mono (Q:=lift ds B w0 (nrm (Q .normal))) (wpIn_region ?_) ?_
 ·have:=ho ρ ds B w0 w hS
  rwa [List.range_eq_range',Nat.sub_zero] at *
 ·rintro e a w' ⟨hd,H',⟨rfl,hq⟩,hS'⟩
  exact ⟨hd,H',hq,hS'⟩
theorem W.regionQE {id : Nat} {ops : Array Oper} (h : c = .region id ops true) (hm : P.follows .mixedOrders = true) (hB : Region.lexB .any ops = true) (ho : WQ P ops 0 t H (fun t' => Q .normal t' H)) : W P c t H Q:=by
 intro ρ ds B w0 w hS;subst h
 refine wpIn_region_quiet (C:=St B w0 H) hm hB hS.drew ?_
 have:=ho ds B w0
 rw [List.drop_zero] at this
 have key : ∀ (l : List Oper) (a : Act),wpQuiet P ops (St B w0 H) (fun a=>a.defers = ds∧Q .normal a.tmps.toList H) l a → wpQuiet P ops (St B w0 H) (fun a' => ∀ w',St B w0 H w' → lift ds B w0 Q .normal a' w') l a:=by
  intro l
  induction l with
  | nil=>exact fun a ⟨hd,hq⟩ w' hS' => ⟨hd,H,hq,hS'⟩
  | cons o l ih =>
   intro a h
   simp only [wpQuiet] at *
   split
   ·rename_i hw;rw [if_pos hw] at h;exact Oper.quiet_mono (fun a h=>ih a h) h
   ·rename_i hw;rw [if_neg hw] at h;exact ih _ h
 exact key _ _ this
end
section
variable {P : Program} {ops : Array Oper} {i : Nat} {t : List Value} {H : List Row} {o : Oper}
theorem range_step (h : ops[i]? = some o) : List.range' i (ops.size - i)=i::List.range' (i + 1) (ops.size - (i + 1)):=by
 have hi:=(Array.getElem?_eq_some_iff.1 h).1
 rw [show ops.size - i = (ops.size - (i + 1)) + 1 by omega,List.range'_succ]
theorem WO.done {Q : List Value → List Row → Prop} (h : opAt ops.toList i = none) (hq : Q t H) : WO P ops i t H Q:=by
 intro ρ ds B w0 w hS
 replace h:=opAt_arr h
 have : ops.size - i = 0:=by have:=Array.getElem?_eq_none_iff.1 h;omega
 rw [this]
 exact ⟨rfl,H,⟨rfl,by simpa using hq⟩,hS⟩
theorem WO.skip {Q : List Value → List Row → Prop} (ho : opAt ops.toList i = some o) (hw : Region.wanted o (yielded ops t.toArray)=false) (k : WO P ops (i + 1) (put t o.dst undef) H Q) : WO P ops i t H Q:=by
 intro ρ ds B w0 w hS
 replace ho:=opAt_arr ho
 rw [range_step ho]
 simp only [wpOpsIn,ho,hw,Bool.false_eq_true,if_false]
 rw [put_act]
 exact ⟨fun _ _=>trivial,k ρ ds B w0 w hS⟩
theorem WO.ev {Q : List Value → List Row → Prop} {v : Value} (ho : opAt ops.toList i = some o) (hw : Region.wanted o (yielded ops t.toArray)=true) (he : EvOp P H t o v) (k : WO P ops (i + 1) (put t o.dst v) H Q) : WO P ops i t H Q:=by
 intro ρ ds B w0 w hS
 replace ho:=opAt_arr ho
 rw [range_step ho]
 simp only [wpOpsIn,ho,hw,if_true,Oper.wpIn,eval_ev]
 rw [sem_value (he B w0 w hS),Oper.uponIn_value,put_act]
 exact ⟨fun _ _=>trivial,k ρ ds B w0 w hS⟩
/-- An operation that turns the rows. -/
def StepOp (P : Program) (H : List Row) (t : List Value) (o : Oper) (K : Value → List Row → Prop) : Prop :=
 ∀ B w0 w,St B w0 H w → ∃ v w' H',((execOp (Fw.ev t) o).run P w = .ok (.value v) w'∨((execOp (Fw.ev t) o).run P w = .ok .skip w'∧v = undef))∧St B w0 H' w'∧K v H'
theorem WO.st {Q : List Value → List Row → Prop} {K : Value → List Row → Prop} (ho : opAt ops.toList i = some o) (hw : Region.wanted o (yielded ops t.toArray)=true) (he : StepOp P H t o K) (k : ∀ v H',K v H' → WO P ops (i + 1) (put t o.dst v) H' Q) : WO P ops i t H Q:=by
 intro ρ ds B w0 w hS
 replace ho:=opAt_arr ho
 rw [range_step ho]
 simp only [wpOpsIn,ho,hw,if_true,Oper.wpIn,eval_ev]
 obtain ⟨v,w',H',hr,hS',hK⟩:=he B w0 w hS
 rcases hr with hr | ⟨hr,rfl⟩
 ·rw [sem_value hr,Oper.uponIn_value,put_act]
  exact ⟨fun _ _=>trivial,k v H' hK ρ ds B w0 w' hS'⟩
 ·rw [sem_skip hr,Oper.uponIn_skip,put_act]
  exact ⟨fun _ _=>trivial,k _ H' hK ρ ds B w0 w' hS'⟩
/-- An operation that enters a function. -/
def EnOp (P : Program) (H : List Row) (t : List Value) (o : Oper) (f : FuncId) (args : List Value) : Prop :=
 ∀ B w0 w,St B w0 H w → (execOp (Fw.ev t) o).run P w = .ok (.enter f args.toArray) w
theorem EnOp.mk {g : Operand} {f : FuncId} {first captured : Array Value} {args : Array Operand} {tys : Array TypeId} {ags : List Value} (h : o.op = .call { callee := .value g,args:=args,argTypes:=tys })
  (hg : Fw.ev t g = .func (.func f) first captured) (hc : Callable P f) (ha : (first++args.map (Fw.ev t)++captured).toList = ags) : EnOp P H t o f ags:=by
 intro B w0 w hS
 subst ha
 have e : (first++args.map (Fw.ev t)++captured).toList.toArray = first++args.map (Fw.ev t)++captured:=Array.toArray_toList
 rw [e, ← hc]
 simp [execOp,h,resolve,hg,Deferred.ofValue,invoke]
theorem EnOp.st {f : FuncId} {args : Array Operand} {tys : Array TypeId} (h : o.op = .call { callee := .value (.func f),args:=args,argTypes:=tys }) (hc : Callable P f) : EnOp P H t o f (args.toList.map (Fw.ev t)) :=
 EnOp.mk h rfl hc (by simp)
theorem WO.call {Q : List Value → List Row → Prop} {f : FuncId} {args : List Value} {R : Value → List Row → Prop} (ho : opAt ops.toList i = some o) (hw : Region.wanted o (yielded ops t.toArray)=true) (he : Callable P f → EnOp P H t o f args)
  (hf : Fc P f args H R) (k : ∀ v H',R v H' → WO P ops (i + 1) (put t o.dst v) H' Q) : WO P ops i t H Q:=by
 intro ρ ds B w0 w hS
 replace ho:=opAt_arr ho
 rw [range_step ho]
 simp only [wpOpsIn,ho,hw,if_true,Oper.wpIn,eval_ev]
 rw [sem_enter (he hf.1 B w0 w hS),Oper.uponIn_enter]
 refine ⟨fun _ _=>trivial,(fun h=>by cases h),wf_calls.2 ((hf.2 B w0 w hS).mono ?_)⟩
 rintro e w' ⟨v,H',rfl,hR,hS'⟩
 simp only [put_act]
 exact k v H' hR ρ ds B w0 w' hS'
end
section
variable {P : Program} {ops : Array Oper} {i : Nat} {t : List Value} {H : List Row} {o : Oper} {Q : List Value → Prop}
theorem drop_step (h : ops[i]? = some o) : ops.toList.drop i = o::ops.toList.drop (i + 1):=by
 obtain ⟨hi,he⟩:=Array.getElem?_eq_some_iff.1 h
 rw [List.drop_eq_getElem_cons (by simpa using hi)]
 congr 1
theorem WQ.done (h : opAt ops.toList i = none) (hq : Q t) : WQ P ops i t H Q:=by
 intro ds B w0
 replace h:=opAt_arr h
 have : ops.toList.drop i = []:=by apply List.drop_eq_nil_of_le;have:=Array.getElem?_eq_none_iff.1 h;simpa using this
 rw [this]
 exact ⟨rfl,by simpa using hq⟩
theorem WQ.skip (ho : opAt ops.toList i = some o) (hw : Region.wanted o (yielded ops t.toArray)=false) (k : WQ P ops (i + 1) (put t o.dst undef) H Q) : WQ P ops i t H Q:=by
 intro ds B w0
 replace ho:=opAt_arr ho
 rw [drop_step ho]
 simp only [wpQuiet,hw,Bool.false_eq_true,if_false]
 rw [put_act]
 exact k ds B w0
theorem WQ.ev {v : Value} (ho : opAt ops.toList i = some o) (hw : Region.wanted o (yielded ops t.toArray)=true) (he : EvOp P H t o v) (k : WQ P ops (i + 1) (put t o.dst v) H Q) : WQ P ops i t H Q:=by
 intro ds B w0
 replace ho:=opAt_arr ho
 rw [drop_step ho]
 simp only [wpQuiet,hw,if_true]
 refine ⟨v,fun w hS=>?_,?_⟩
 ·unfold Oper.quietAt
  rw [eval_ev,he B w0 w hS]
  exact ⟨rfl,rfl⟩
 ·rw [put_act];exact k ds B w0
theorem WQ.call {f : FuncId} {args : List Value} {v : Value} (ho : opAt ops.toList i = some o) (hw : Region.wanted o (yielded ops t.toArray)=true) (he : Callable P f → EnOp P H t o f args)
  (hf : Fc P f args H (fun v' H' => v' = v∧H' = H)) (k : WQ P ops (i + 1) (put t o.dst v) H Q) : WQ P ops i t H Q:=by
 intro ds B w0
 replace ho:=opAt_arr ho
 rw [drop_step ho]
 simp only [wpQuiet,hw,if_true]
 refine ⟨v,fun w hS=>?_,?_⟩
 ·unfold Oper.quietAt
  rw [eval_ev,he hf.1 B w0 w hS]
  refine ⟨rfl,(hf.2 B w0 w hS).mono ?_⟩
  rintro e w' ⟨v',H',rfl,⟨rfl,rfl⟩,hS'⟩
  exact ⟨rfl,hS'⟩
 ·rw [put_act];exact k ds B w0
end
def ResV (P : Program) (fn : Func) (t : List Value) (H : List Row) (v : Value) : Prop := ∀ B w0 w,St B w0 H w → (results fn t.toArray).run P w = .ok v w
def retQ (P : Program) (fn : Func) (R : Value → List Row → Prop) : QT:=fun e t H=>(e = .normal∨e = .ret) ∧ ∃ v H',ResV P fn t H v∧H'.Sublist H∧R v H'
theorem Fc.of {P : Program} {f : FuncId} {fn : Func} {c : Code} {args : List Value} {H : List Row} {R : Value → List Row → Prop} (hc : Callable P f) (hf : P.funcs[f]? = some fn) (hb : fn.body = some c)
  (h : W P c (args++List.replicate (fn.ntmps - args.length) undef) H (retQ P fn R)) : Fc P f args H R:=by
 refine ⟨hc,fun B w0 w hS=>callsIn_wide.1 (callsIn_of_wp (n:=0) hf hb trivial ?_ rfl)⟩
 have:=h none [] B w0 w hS
 have he : (args.toArray++Array.replicate (fn.ntmps - args.toArray.size) undef)=(args++List.replicate (fn.ntmps - args.length) undef).toArray:=by simp
 rw [he]
 refine wpIn_mono this ?_
 rintro e a w' ⟨hd,H',⟨he,v,H'',hv,hsub,hR⟩,hS'⟩
 have hv' := hv B w0 w' hS'
 replace hS' := hS'.sub hsub
 have : a.tmps.toList.toArray = a.tmps:=by simp
 rw [this] at hv'
 rcases he with rfl | rfl
 ·exact ⟨hd,v,hv',v,H'',rfl,hR,hS'⟩
 ·exact ⟨hd,v,hv',v,H'',rfl,hR,hS'⟩
def LoadV (P : Program) (H : List Row) (T : TypeId) (p : Addr) (v : Value) : Prop := ∀ B w0 w,St B w0 H w → (loadVar T p).run P w = .ok v w
def ResI (P : Program) (H : List Row) (t : List Value) (r : ResultVar) (v : Value) : Prop :=
 match r with
 | .tmp i=>t.getD i undef = v
 | .cell a T => ∃ p,t.getD a undef = .pointer (some p)∧LoadV P H T p v
def resI (t : Array Value) : ResultVar → Sem Value
 | .tmp i=>pure (t.getD i undef)
 | .cell a T=>do loadVar T (← asAddr (t.getD a undef))
theorem results_eq (fn : Func) (t : Array Value) : results fn t = (do let vs ← fn.results.mapM (resI t);pure (if h : vs.size = 1 then vs[0] else .tuple vs)):=by
 unfold results
 congr 1
theorem ResI.run {P : Program} {H : List Row} {t : List Value} {r : ResultVar} {v : Value} (h : ResI P H t r v) {B : Nat} {w0 w : World} (hS : St B w0 H w) :
  (resI t.toArray r).run P w = .ok v w:=by
 cases r with
 | tmp i=>simp only [ResI] at h;subst h;simp [resI,Array.getD_eq_getD_getElem?,List.getD]
 | cell a T =>
  obtain ⟨p,hp,hl⟩:=h
  have:=hl B w0 w hS
  have e : t.toArray.getD a undef = .pointer (some p):=by rw [← hp];simp [Array.getD_eq_getD_getElem?,List.getD]
  simp only [resI,e]
  simpa [asAddr] using this
theorem LoadV.sc {P : Program} {H : List Row} {T : TypeId} {b off j : Nat} {v : Value} {ti : TI} {r : Row} (hT : tiOf P T = some ti) (ha : ti.k.isAgg = false) (hr : r ∈ H) (hb : r.b = b) (ho : r.off + j = off) (hj : r.cells[j]? = some v) : LoadV P H T ⟨b,off,none⟩ v:=by
 intro B w0 w hS
 have hc:=hS.cell hr hj
 rw [hb,ho] at hc
 simp [loadVar,ti_agg hT,ha,Go.load,Sem.run,hc]
theorem uO {P : Program} {H : List Row} {T : TypeId} {b off : Nat} {v : Value} {ti : TI} {cs : List Value} {ow : Option Kd} {cap : Nat} (hT : tiOf P T = some ti) (ha : ti.k.isAgg = false) (hr : ⟨b,0,cs,ow,cap⟩ ∈ H) (hj : cs[off]? = some v) : LoadV P H T ⟨b,off,none⟩ v :=
 LoadV.sc hT ha hr rfl (by simp) hj
theorem LoadV.agg {P : Program} {H : List Row} {T : TypeId} {b off j : Nat} {vs : List Value} {ti : TI} {r : Row} (hT : tiOf P T = some ti) (ha : ti.k.isAgg = true) (hr : r ∈ H) (hb : r.b = b) (ho : r.off + j = off)
  (hj : ∀ i,i < ti.size → r.cells[j + i]? = vs[i]?) (hn : vs.length = ti.size) : LoadV P H T ⟨b,off,none⟩ (.agg vs.toArray):=by
 intro B w0 w hS
 have hc : ∀ i v,vs[i]? = some v → w.cell? (Addr.add ⟨b,off,none⟩ i)=some v:=by
  intro i v hi
  have hlt:=(List.getElem?_eq_some_iff.1 hi).1
  have h1:=hS.cell hr (j:=j + i) (v:=v) (by rw [hj i (by omega),hi])
  rw [hb,show r.off + (j + i)=off + i by omega] at h1
  rw [add_none]
  exact h1
 have hl:=run_loadCells_list (P:=P) (w:=w) ⟨b,off,none⟩ vs hc
 rw [hn] at hl
 simp [loadVar,ti_agg hT,ti_size hT,ha,hl]
theorem LoadV.ownAgg {P : Program} {H : List Row} {T : TypeId} {b off : Nat} {vs : List Value} {ti : TI} {cs : List Value} {ow : Option Kd} {cap : Nat} (hT : tiOf P T = some ti) (ha : ti.k.isAgg = true) (hr : ⟨b,0,cs,ow,cap⟩ ∈ H) (hj : (cs.drop off).take ti.size = vs) (hn : vs.length = ti.size) : LoadV P H T ⟨b,off,none⟩ (.agg vs.toArray):=by
 refine LoadV.agg (j:=off) hT ha hr rfl (by simp) (fun i hi=>?_) hn
 rw [← hj,List.getElem?_take,if_pos hi,List.getElem?_drop]
theorem uW {P : Program} {H : List Row} {T : TypeId} {b : Nat} {ti : TI} {cs : List Value} {ow : Option Kd} {cap : Nat} (hT : tiOf P T = some ti) (ha : ti.k.isAgg = true) (hr : ⟨b,0,cs,ow,cap⟩ ∈ H) (hn : cs.length = ti.size) : LoadV P H T ⟨b,0,none⟩ (.agg cs.toArray) :=
 LoadV.ownAgg hT ha hr (by rw [List.drop_zero, ← hn,List.take_length]) hn
theorem EvOp.loadV {P : Program} {H : List Row} {t : List Value} {o : Oper} {T : TypeId} {x : Operand} {p : Addr} {v : Value} (h : o.op = .load T x) (hx : Fw.ev t x = .pointer (some p)) (hl : LoadV P H T p v) : EvOp P H t o v:=by
 intro B w0 w hS
 simp [execOp,h,hx,Instr.loadAt,Instr.sureAddr,hl B w0 w hS]
theorem ResV.none {P : Program} {fn : Func} {t : List Value} {H : List Row} (hr : fn.results = #[]) : ResV P fn t H (.tuple #[]):=by
 intro B w0 w hS
 simp [results_eq,hr]
theorem ResV.one {P : Program} {fn : Func} {t : List Value} {H : List Row} {r : ResultVar} {v : Value} (hr : fn.results = #[r]) (h : ResI P H t r v) : ResV P fn t H v:=by
 intro B w0 w hS
 have h1:=h.run hS
 simp [results_eq,hr,h1]
theorem ResV.two {P : Program} {fn : Func} {t : List Value} {H : List Row} {r r' : ResultVar} {v v' : Value} (hr : fn.results = #[r,r']) (h : ResI P H t r v) (h' : ResI P H t r' v') : ResV P fn t H (.tuple #[v,v']):=by
 intro B w0 w hS
 have h1:=h.run hS
 have h2:=h'.run hS
 simp [results_eq,hr,h1,h2]
theorem ResV.three {P : Program} {fn : Func} {t : List Value} {H : List Row} {r r' r'' : ResultVar} {v v' v'' : Value} (hr : fn.results = #[r,r',r'']) (h : ResI P H t r v) (h' : ResI P H t r' v') (h'' : ResI P H t r'' v'') : ResV P fn t H (.tuple #[v,v',v'']):=by
 intro B w0 w hS
 have h1:=h.run hS
 have h2:=h'.run hS
 have h3:=h''.run hS
 simp [results_eq,hr,h1,h2,h3]
def cfst : Code → Code
 | .seq a _=>a
 | .cond _ a _=>a
 | .block _ a=>a
 | .loop a=>a
 | .scope a=>a
 | _ => .skip
def csnd : Code → Code
 | .seq _ b=>b
 | .cond _ _ b=>b
 | _ => .skip
def cops : Code → Array Oper
 | .region _ ops _=>ops
 | _ => #[]
def cid : Code → Nat
 | .region i _ _=>i
 | .block i _=>i
 | .exit i=>i
 | _=>0
def copd : Code → Operand
 | .cond v _ _=>v
 | _ => .tmp 0
def cof (fn : Func) : Code:=fn.body.getD .skip
section
variable {P : Program} {H : List Row} {t : List Value} {o : Oper}
theorem StepOp.box {T : TypeId} {x : Operand} {cs : List Value} (h : o.op = .box T x) (hv : (ev t x).cells.toList = cs) :
  StepOp P H t o (fun v H' => ∃ b,v = .pointer (some ⟨b,0,none⟩)∧H' = ⟨b,0,cs,some T,cs.length⟩::H):=by
 intro B w0 w hS
 subst hv
 refine ⟨_,_,_,.inl ?_,hS.alloc (ev t x).cells.toList T,_,rfl,rfl⟩
 simp [execOp,h,Instr.box,newVar,newRow,newObj,Sem.run,World.alloc_eq]
theorem StepOp.boxAgg {T : TypeId} {x : Operand} {cs : List Value} (h : o.op = .box T x) (hv : ev t x = .agg cs.toArray) :
  StepOp P H t o (fun v H' => ∃ b,v = .pointer (some ⟨b,0,none⟩)∧H' = ⟨b,0,cs,some T,cs.length⟩::H):=StepOp.box h (by rw [hv];rfl)
theorem StepOp.boxOne {T : TypeId} {x : Operand} {v : Value} (h : o.op = .box T x) (hx : ev t x = v) (hv : v.oneCell' = true) :
  StepOp P H t o (fun u H' => ∃ b,u = .pointer (some ⟨b,0,none⟩)∧H' = ⟨b,0,[v],some T,1⟩::H):=StepOp.box h (by rw [hx];cases v <;> simp [Value.oneCell'] at hv <;> rfl)
theorem StepOp.alloc {T : TypeId} {z : Value} {cs : List Value} (h : o.op = .alloc T) (hz : ∀ w,(zeroValue T).run P w = .ok z w) (hv : z.cells.toList = cs) :
  StepOp P H t o (fun v H' => ∃ b,v = .pointer (some ⟨b,0,none⟩)∧H' = ⟨b,0,cs,some T,cs.length⟩::H):=by
 intro B w0 w hS
 subst hv
 refine ⟨_,_,_,.inl ?_,hS.alloc z.cells.toList T,_,rfl,rfl⟩
 simp [execOp,h,Instr.alloc,hz,newVar,newRow,newObj,Sem.run,World.alloc_eq]
end
def splice (cs : List Value) (j : Nat) (vs : List Value) : List Value:=cs.take j++vs++cs.drop (j + vs.length)
theorem splice_nil (cs : List Value) (j : Nat) : splice cs j [] = cs:=by simp [splice]
theorem splice_cons {cs : List Value} {j : Nat} {v : Value} {vs : List Value} (h : j + (vs.length + 1)≤cs.length) : splice (cs.set j v) (j + 1) vs = splice cs j (v::vs):=by
 unfold splice
 have h1 : (cs.set j v).take (j + 1)=cs.take j++[v]:=by
  apply List.ext_getElem?
  intro n
  rw [List.getElem?_take,List.getElem?_append,List.getElem?_set]
  have hl : (cs.take j).length = j:=by rw [List.length_take];omega
  rw [hl,List.getElem?_take]
  by_cases h2 : n < j
  ·rw [if_pos (by omega),if_neg (by omega),if_pos h2,if_pos h2]
  ·by_cases h3 : n = j
   ·subst h3;simp;omega
   ·rw [if_neg (by omega),if_neg h2];simp;omega
 have h2 : (cs.set j v).drop (j + 1 + vs.length)=cs.drop (j + (v::vs).length):=by
  apply List.ext_getElem?
  intro n
  simp only [List.getElem?_drop,List.getElem?_set,List.length_cons]
  rw [if_neg (by omega)]
  congr 1
  omega
 rw [h1,h2]
 simp
section
variable {P : Program} {H : List Row} {t : List Value} {o : Oper}
theorem store_cells {i b cap : Nat} {el : TypeId} {w0 : World} {B : Nat} : ∀ (vs : List Value) (cs : List Value) (H : List Row) (w : World) (j k : Nat),St B w0 H w → H[i]? = some ⟨b,0,cs,some el,cap⟩ → (∀ v ∈ vs,v.oneCell' = true) → j + k + vs.length ≤ cs.length →
  ∃ w',(storeCells ⟨b,j,none⟩ vs k).run P w = .ok () w'∧St B w0 (H.set i ⟨b,0,splice cs (j + k) vs,some el,cap⟩) w'
 | [],cs,H,w,j,k,hS,hi,_,_=>by
  refine ⟨w,rfl,?_⟩
  rw [splice_nil]
  have : H.set i ⟨b,0,cs,some el,cap⟩ = H:=by
   apply List.ext_getElem?
   intro n
   rw [List.getElem?_set]
   split
   ·rename_i h;subst h;rw [hi];simp;exact (List.getElem?_eq_some_iff.1 hi).1
   ·rfl
  rw [this];exact hS
 | v::vs,cs,H,w,j,k,hS,hi,h1,hl=>by
  simp only [List.length_cons] at hl
  have hr:=hS.ok _ (List.mem_of_getElem? hi)
  have hc : w.cell? ⟨b,j + k,none⟩ = some cs[j + k]:=by
   have:=Row.ok_cell hr (j:=j + k) (v:=cs[j + k]) (List.getElem?_eq_getElem (show j + k < cs.length by omega))
   simpa using this
  have hf : w.frozen? ⟨b,j + k,none⟩ = false:=Row.ok_frozen (T:=el) hr rfl _ rfl
  have hst : (store ((⟨b,j,none⟩ : Addr).add k) v).run P w = .ok () (w.setCell ⟨b,j + k,none⟩ v):=by
   rw [add_none,run_store P w _ v _ (h1 v (by simp))]
   simp [hc,hf]
  have hS1:=hS.set hi (j:=j + k) (by omega) v
  have hil:=(List.getElem?_eq_some_iff.1 hi).1
  obtain ⟨w',hw',hS'⟩:=store_cells vs (cs.set (j + k) v) _ _ j (k + 1) hS1 (by rw [List.getElem?_set_self hil]) (fun u hu=>h1 u (by simp [hu])) (by simp;omega)
  refine ⟨w',?_,?_⟩
  ·simp only [storeCells,Sem.run_bind,hst,Result.andThen_ok]
   exact hw'
  ·rw [List.set_set] at hS'
   rw [← Nat.add_assoc] at hS'
   rw [splice_cons (by omega)] at hS'
   exact hS'
theorem StepOp.store {T : TypeId} {a x : Operand} {i b j cap : Nat} {el : TypeId} {cs vs : List Value} {ti : TI} (h : o.op = .store T a x) (hx : ev t a = .pointer (some ⟨b,j,none⟩)) (hT : tiOf P T = some ti) (hv : (ev t x).cells.toList = vs) (hi : H[i]? = some ⟨b,0,cs,some el,cap⟩)
  (hn : vs.length = ti.size) (h1 : vs.all (·.oneCell') = true) (hl : j + vs.length ≤ cs.length) :
  StepOp P H t o (fun v H' => v = undef∧H' = H.set i ⟨b,0,splice cs j vs,some el,cap⟩):=by
 intro B w0 w hS
 obtain ⟨w',hr,hS'⟩:=store_cells (P:=P) vs cs H w j 0 hS hi (fun v hv=>List.all_eq_true.1 h1 v hv) (by omega)
 refine ⟨undef,w',_,.inr ⟨?_,rfl⟩,hS',rfl,rfl⟩
 have hsz:=ti_size hT w
 have hlen : (ev t x).cells.size = ti.size:=by rw [← hn, ← hv];simp
 simp [execOp,h,hx,Instr.storeAt,Instr.sureAddr,storeVar,hsz,hlen,hv,hr]
end
def SlE {α : Type} (H : List Row) (a : Option Addr) (enc : α → List Value) (sz : Nat) (l : List α) : Prop :=
 (∀ e ∈ l,(enc e).length = sz)∧(0 < l.length → ∃ b off,a = some ⟨b,off,none⟩ ∧ ∃ r j0,r ∈ H∧r.b = b∧r.off + j0 = off ∧ ∀ i e j v,l[i]? = some e → (enc e)[j]? = some v → r.cells[j0 + (i * sz + j)]? = some v)
theorem SlE.sub {α : Type} {H H' : List Row} {a : Option Addr} {enc : α → List Value} {sz : Nat} {l : List α} (h : SlE H a enc sz l) (hs : ∀ r ∈ H,r ∈ H') : SlE H' a enc sz l :=
 ⟨h.1,fun hl=>let ⟨b,off,ha,r,j0,hr,h2⟩:=h.2 hl; ⟨b,off,ha,r,j0,hs r hr,h2⟩⟩
theorem SlE.elem {α : Type} {H : List Row} {a : Option Addr} {enc : α → List Value} {sz : Nat} {l : List α} (h : SlE H a enc sz l) {i : Nat} (hi : i < l.length) : ∃ b off e,a = some ⟨b,off,none⟩∧l[i]? = some e:=by
 obtain ⟨b,off,ha,_⟩:=h.2 (by omega)
 exact ⟨b,off,l[i],ha,List.getElem?_eq_getElem hi⟩
section
variable {P : Program} {H : List Row} {t : List Value} {o : Oper}
theorem SlE.cell {α : Type} {H H0 : List Row} {b off : Nat} {enc : α → List Value} {sz : Nat} {l : List α} (h : SlE H0 (some ⟨b,off,none⟩) enc sz l) (hs : ∀ r ∈ H0,r ∈ H) {i j : Nat} {e : α} {v : Value} (hi : l[i]? = some e) (hj : (enc e)[j]? = some v) :
  ∃ r ∈ H,∃ k,r.b = b∧r.off + k = off + (i * sz + j)∧r.cells[k]? = some v:=by
 obtain ⟨b',off',ha,r,j0,hr,hb,ho,hc⟩:=h.2 (by have:=(List.getElem?_eq_some_iff.1 hi).1;omega)
 simp only [Option.some.injEq,Addr.mk.injEq] at ha
 obtain ⟨rfl,rfl,_⟩:=ha
 exact ⟨r,hs r hr,j0 + (i * sz + j),hb,by omega,hc i e j v hi hj⟩
theorem LoadV.el {α : Type} {T : TypeId} {H0 : List Row} {b off p : Nat} {enc : α → List Value} {sz : Nat} {l : List α} {i j : Nat} {e : α} {v : Value} {ti : TI} (hT : tiOf P T = some ti) (ha : ti.k.isAgg = false) (h : SlE H0 (some ⟨b,off,none⟩) enc sz l) (hs : ∀ r ∈ H0,r ∈ H) (hi : l[i]? = some e)
  (hp : p = off + (i * sz + j)) (hj : (enc e)[j]? = some v) : LoadV P H T ⟨b,p,none⟩ v:=by
 obtain ⟨r,hr,k,hb,ho,hc⟩:=h.cell hs hi hj
 subst hp
 exact LoadV.sc hT ha hr hb ho hc
theorem LoadV.el0 {α : Type} {T : TypeId} {H0 : List Row} {b off : Nat} {enc : α → List Value} {sz : Nat} {l : List α} {n : Nat} {e : α} {v : Value} {ti : TI} (h : SlE H0 (some ⟨b,off,none⟩) enc sz l) (hi : l[n]? = some e) (hT : tiOf P T = some ti) (ha : ti.k.isAgg = false) (hs : ∀ r ∈ H0,r ∈ H)
  (hj : (enc e)[0]? = some v) : LoadV P H T ⟨b,off + n * sz,none⟩ v:=LoadV.el (j:=0) hT ha h hs hi (by omega) hj
theorem LoadV.el1 {α : Type} {T : TypeId} {H0 : List Row} {b off : Nat} {enc : α → List Value} {sz : Nat} {l : List α} {n j : Nat} {e : α} {v : Value} {ti : TI} (h : SlE H0 (some ⟨b,off,none⟩) enc sz l) (hi : l[n]? = some e) (hT : tiOf P T = some ti) (ha : ti.k.isAgg = false) (hs : ∀ r ∈ H0,r ∈ H)
  (hj : (enc e)[j]? = some v) : LoadV P H T ⟨b,off + n * sz + j,none⟩ v:=LoadV.el (j:=j) hT ha h hs hi (by omega) hj
theorem LoadV.elAgg {α : Type} {T : TypeId} {H0 : List Row} {b off p : Nat} {enc : α → List Value} {sz : Nat} {l : List α} {i j : Nat} {e : α} {vs : List Value} {ti : TI} (hT : tiOf P T = some ti) (ha : ti.k.isAgg = true) (h : SlE H0 (some ⟨b,off,none⟩) enc sz l) (hs : ∀ r ∈ H0,r ∈ H) (hi : l[i]? = some e)
  (hp : p = off + (i * sz + j)) (hj : ((enc e).drop j).take ti.size = vs) (hn : vs.length = ti.size) : LoadV P H T ⟨b,p,none⟩ (.agg vs.toArray):=by
 obtain ⟨b',off',ha',r,j0,hr,hb,ho,hc⟩:=h.2 (by have:=(List.getElem?_eq_some_iff.1 hi).1;omega)
 simp only [Option.some.injEq,Addr.mk.injEq] at ha'
 obtain ⟨rfl,rfl,_⟩:=ha'
 refine LoadV.agg (r:=r) (j:=j0 + (i * sz + j)) hT ha (hs r hr) hb (by omega) (fun q hq=>?_) hn
 have hlt : q < vs.length:=by omega
 have h1 : (enc e)[j + q]? = some vs[q]:=by
  have h2 : (((enc e).drop j).take ti.size)[q]? = some vs[q]:=by rw [hj];exact List.getElem?_eq_getElem hlt
  rw [List.getElem?_take,if_pos hq,List.getElem?_drop] at h2
  exact h2
 rw [show j0 + (i * sz + j) + q = j0 + (i * sz + (j + q)) by omega,hc i e (j + q) _ hi h1,List.getElem?_eq_getElem hlt]
theorem LoadV.elA0 {α : Type} {T : TypeId} {H0 : List Row} {b off : Nat} {enc : α → List Value} {sz : Nat} {l : List α} {n : Nat} {e : α} {ti : TI} (h : SlE H0 (some ⟨b,off,none⟩) enc sz l) (hi : l[n]? = some e) (hT : tiOf P T = some ti) (ha : ti.k.isAgg = true) (hs : ∀ r ∈ H0,r ∈ H)
  (hn : (enc e).length = ti.size) : LoadV P H T ⟨b,off + n * sz,none⟩ (.agg (enc e).toArray) :=
 LoadV.elAgg (j:=0) hT ha h hs hi (by omega) (by rw [List.drop_zero, ← hn,List.take_length]) hn
end
theorem callable {P : Program} {f : FuncId} (h : ∀ args w,(callFunc f args).run P w = .ok (.enter f args) w) : Callable P f:=h
abbrev FS:=List (Nat × Value)
def lk : FS → Nat → Option Value
 | [],_=>none
 | (j,v)::F,i=>match Nat.beq j i with
  | true=>some v
  | false=>lk F i
def Ag (n : Nat) (F : FS) (t : List Value) : Prop:=t.length = n ∧ ∀ i v,lk F i = some v → t[i]? = some v
def evF (F : FS) : Operand → Option Value
 | .tmp i=>lk F i
 | .const v=>some v
 | .global g=>some (.pointer (some ⟨g,0,none⟩))
 | .func f=>some (.func (.func f) #[] #[])
theorem Ag.ev {n : Nat} {F : FS} {t : List Value} (h : Ag n F t) {x : Operand} {v : Value} (hx : evF F x = some v) : ev t x = v:=by
 cases x with
 | tmp i=>have:=h.2 i v hx;simp [Fw.ev,List.getD,this]
 | const u=>simpa [evF,Fw.ev] using hx
 | global g=>simpa [evF,Fw.ev] using hx
 | func f=>simpa [evF,Fw.ev] using hx
def pf (F : FS) : Option Nat → Value → FS
 | some d,v=>(d,v)::F
 | none,_=>F
def okd (n : Nat) : Option Nat → Bool
 | some d=>Nat.blt d n
 | none=>true
theorem Ag.put {n : Nat} {F : FS} {t : List Value} (h : Ag n F t) {d : Option Nat} (hd : okd n d = true) (v : Value) : Ag n (pf F d v) (put t d v):=by
 cases d with
 | none=>exact h
 | some d =>
  have hd' : d < n:=by have h1 : Nat.blt d n = true:=hd;rwa [Nat.blt_eq] at h1
  refine ⟨by simpa [Fw.put] using h.1,fun i u hi=>?_⟩
  simp only [pf,lk] at hi
  simp only [Fw.put,List.getElem?_set]
  split at hi
  ·rename_i hb
   have:=Nat.eq_of_beq_eq_true hb
   subst this
   simp only [Option.some.injEq] at hi
   subst hi
   simp [h.1,hd']
  ·rename_i hb
   have : d ≠ i:=fun e=>by subst e;simp at hb
   rw [if_neg this]
   exact h.2 i u hi
def Sub (F' F : FS) : Prop := ∀ i v,lk F' i = some v → lk F i = some v
theorem uU (F : FS) : Sub [] F:=fun i v h=>by cases h
theorem uV {F' F : FS} {i : Nat} {v : Value} (h : lk F i = some v) (hs : Sub F' F) : Sub ((i,v)::F') F:=fun j u hj=>by
 simp only [lk] at hj
 split at hj
 ·rename_i hb
  have:=Nat.eq_of_beq_eq_true hb
  subst this
  simp only [Option.some.injEq] at hj
  subst hj;exact h
 ·exact hs j u hj
theorem Ag.sub {n : Nat} {F F' : FS} {t : List Value} (h : Ag n F t) (hs : Sub F' F) : Ag n F' t:=⟨h.1,fun i v hi=>h.2 i v (hs i v hi)⟩
abbrev QX:=Exit → FS → List Row → Prop
def exQ (n : Nat) (Q : QX) : QT:=fun e t H => ∃ F,Ag n F t∧Q e F H
def X (P : Program) (n : Nat) (c : Code) (F : FS) (H : List Row) (Q : QX) : Prop := ∀ t,Ag n F t → W P c t H (exQ n Q)
def XO (P : Program) (n : Nat) (ops : Array Oper) (i : Nat) (F : FS) (H : List Row) (N : FS → List Row → Prop) : Prop := ∀ t,Ag n F t → WO P ops i t H (fun t' H' => ∃ F',Ag n F' t'∧N F' H')
def XQ (P : Program) (n : Nat) (ops : Array Oper) (i : Nat) (F : FS) (H : List Row) (N : FS → Prop) : Prop := ∀ t,Ag n F t → WQ P ops i t H (fun t' => ∃ F',Ag n F' t'∧N F')
abbrev thenX (N : FS → List Row → Prop) (Q : QX) : QX
 | .normal,F,H=>N F H
 | e,F,H=>Q e F H
abbrev blockX (id : Nat) (Q : QX) : QX
 | .exit i,F,H=>if i = id then Q .normal F H else Q (.exit i) F H
 | e,F,H=>Q e F H
theorem blockX_hit {id i : Nat} {Q : QX} {F : FS} {H : List Row} (h : i = id) (q : Q .normal F H) : blockX id Q (.exit i) F H:=by subst h;simpa [blockX] using q
theorem blockX_miss {id i : Nat} {Q : QX} {F : FS} {H : List Row} (h : i ≠ id) (q : Q (.exit i) F H) : blockX id Q (.exit i) F H:=by simpa [blockX,h] using q
section
variable {P : Program} {n : Nat} {c : Code} {F : FS} {H : List Row} {Q : QX}
theorem uS (h : c = .seq (cfst c) (csnd c)) (hx : X P n (cfst c) F H (thenX (fun F H=>X P n (csnd c) F H Q) Q)) : X P n c F H Q:=by
 intro t ha
 refine W.seqN h ((hx t ha).mono ?_)
 rintro e t' H' ⟨F',ha',hq⟩
 cases e with
 | normal=>exact hq t' ha'
 | _=>exact ⟨F',ha',hq⟩
theorem X.weak {F' : FS} {H' : List Row} (hs : Sub F' F) (hh : H'.Sublist H) (h : X P n c F' H' Q) : X P n c F H Q:=fun t ha=>W.drop hh (h t (ha.sub hs))
theorem X.iteB {b : Bool} (h : c = .cond (copd c) (cfst c) (csnd c)) (hc : evF F (copd c)=some (.bool b)) (ht : b = true → X P n (cfst c) F H Q) (hf : b = false → X P n (csnd c) F H Q) : X P n c F H Q :=
 fun t ha=>W.cond h (ha.ev hc) (fun e=>ht e t ha) (fun e=>hf e t ha)
theorem X.iteT (h : c = .cond (copd c) (cfst c) (csnd c)) (hc : evF F (copd c)=some (.bool true)) (ht : X P n (cfst c) F H Q) : X P n c F H Q:=X.iteB h hc (fun _=>ht) (fun e=>by cases e)
theorem X.iteF (h : c = .cond (copd c) (cfst c) (csnd c)) (hc : evF F (copd c)=some (.bool false)) (hf : X P n (csnd c) F H Q) : X P n c F H Q:=X.iteB h hc (fun e=>by cases e) (fun _=>hf)
/-- the test looked up once -/
def Xb (P : Program) (n : Nat) (c : Code) (F : FS) (H : List Row) (Q : QX) (b : Bool) : Prop:=evF F (copd c)=some (.bool b) → X P n c F H Q
theorem X.ite {b : Bool} (h : c = .cond (copd c) (cfst c) (csnd c)) (hc : evF F (copd c)=some (.bool b)) (k : c = .cond (copd c) (cfst c) (csnd c) → Xb P n c F H Q b) : X P n c F H Q:=k h hc
theorem Xb.t (h : c = .cond (copd c) (cfst c) (csnd c)) (k : X P n (cfst c) F H Q) : Xb P n c F H Q true:=fun hc=>X.iteT h hc k
theorem Xb.f (h : c = .cond (copd c) (cfst c) (csnd c)) (k : X P n (csnd c) F H Q) : Xb P n c F H Q false:=fun hc=>X.iteF h hc k
theorem Xb.case {p : Prop} [Decidable p] (h : c = .cond (copd c) (cfst c) (csnd c)) (ht : p → X P n (cfst c) F H Q) (hf : ¬ p → X P n (csnd c) F H Q) : Xb P n c F H Q (decide p):=fun hc=>X.iteB h hc (fun e=>ht (of_decide_eq_true e)) (fun e=>hf (of_decide_eq_false e))
theorem Xb.caseN {p : Prop} [Decidable p] (h : c = .cond (copd c) (cfst c) (csnd c)) (ht : ¬ p → X P n (cfst c) F H Q) (hf : p → X P n (csnd c) F H Q) : Xb P n c F H Q (!decide p):=fun hc=>X.iteB h hc (fun e=>ht (by simpa using e)) (fun e=>hf (by simpa using e))
theorem Xb.caseB {b : Bool} (h : c = .cond (copd c) (cfst c) (csnd c)) (ht : b = true → X P n (cfst c) F H Q) (hf : b = false → X P n (csnd c) F H Q) : Xb P n c F H Q b:=fun hc=>X.iteB h hc ht hf
theorem X.block (h : c = .block (cid c) (cfst c)) (hx : X P n (cfst c) F H (blockX (cid c) Q)) : X P n c F H Q:=by
 intro t ha
 refine W.blockN h ((hx t ha).mono ?_)
 rintro e t' H' ⟨F',ha',hq⟩
 cases e with
 | exit i =>
  simp only [blockX] at hq
  simp only [blockQ]
  split
  ·rename_i hi;rw [if_pos hi] at hq;exact ⟨F',ha',hq⟩
  ·rename_i hi;rw [if_neg hi] at hq;exact ⟨F',ha',hq⟩
 | _=>exact ⟨F',ha',hq⟩
theorem X.brk (h : c = .exit (cid c)) (hq : Q (.exit (cid c)) F H) : X P n c F H Q:=fun _ ha=>W.exit h ⟨F,ha,hq⟩
theorem X.ret (h : c = .ret) (hq : Q .ret F H) : X P n c F H Q:=fun _ ha=>W.ret h ⟨F,ha,hq⟩
theorem X.skip (h : c = .skip) (hq : Q .normal F H) : X P n c F H Q:=fun _ ha=>W.skip h ⟨F,ha,hq⟩
theorem X.lp (h : c = .loop (cfst c)) (I : Nat → FS → List Row → Prop) (m : Nat) (F0 : FS) (H0 : List Row) (hs : Sub F0 F) (hh : H0.Sublist H) (h0 : I m F0 H0)
  (round : ∀ m F H,I m F H → X P n (cfst c) F H (thenX (fun F' H' => ∃ m' F'' H'',Sub F'' F'∧H''.Sublist H'∧I m' F'' H''∧m' < m) Q)) : X P n c F H Q:=by
 intro t ha
 refine W.drop hh (W.loopM h (fun m t H => ∃ F,Ag n F t∧I m F H) ⟨F0,ha.sub hs,h0⟩ ?_)
 rintro m t H ⟨F,ha,hI⟩
 refine (round m F H hI t ha).mono ?_
 rintro e t' H' ⟨F',ha',hq⟩
 cases e with
 | normal =>
  obtain ⟨m',F'',H'',hs',hh',hI',hlt⟩:=hq
  exact ⟨m',H'',hh',⟨F'',ha'.sub hs',hI'⟩,hlt⟩
 | _=>exact ⟨F',ha',hq⟩
theorem uR (h : c = .region (cid c) (cops c) false) (ho : ∀ K : FS → List Row → Prop,(∀ F H,Q .normal F H → K F H) → XO P n (cops c) 0 F H K) : X P n c F H Q :=
 fun t ha=>W.regionE h (ho (Q .normal) (fun _ _ h=>h) t ha)
theorem X.regionD (h : c = .region (cid c) (cops c) true) (hm : P.follows .mixedOrders = true) (hB : Region.lexB .any (cops c)=true) (ho : ∀ K : FS → Prop,(∀ F',Q .normal F' H → K F') → XQ P n (cops c) 0 F H K) : X P n c F H Q :=
 fun t ha=>W.regionQE h hm hB (ho (fun F' => Q .normal F' H) (fun _ h=>h) t ha)
end
def Xo (P : Program) (n : Nat) (ops : Array Oper) (i : Nat) (o : Oper) (F : FS) (H : List Row) (N : FS → List Row → Prop) : Prop:=opAt ops.toList i = some o → XO P n ops i F H N
def Xg (P : Program) (n : Nat) (ops : Array Oper) (i : Nat) (o : Oper) (F : FS) (H : List Row) (N : FS → List Row → Prop) : Prop:=(∀ t,Ag n F t → Region.wanted o (yielded ops t.toArray)=true) → Xo P n ops i o F H N
def Xw (P : Program) (n : Nat) (ops : Array Oper) (i : Nat) (o : Oper) (F : FS) (H : List Row) (N : FS → List Row → Prop) (b w : Bool) : Prop:=(∀ t,Ag n F t → Region.wanted o (yielded ops t.toArray)=(b == w)) → Xo P n ops i o F H N
def Yo (P : Program) (n : Nat) (ops : Array Oper) (i : Nat) (o : Oper) (F : FS) (H : List Row) (N : FS → Prop) : Prop:=opAt ops.toList i = some o → XQ P n ops i F H N
def Yg (P : Program) (n : Nat) (ops : Array Oper) (i : Nat) (o : Oper) (F : FS) (H : List Row) (N : FS → Prop) : Prop:=(∀ t,Ag n F t → Region.wanted o (yielded ops t.toArray)=true) → Yo P n ops i o F H N
def Yw (P : Program) (n : Nat) (ops : Array Oper) (i : Nat) (o : Oper) (F : FS) (H : List Row) (N : FS → Prop) (b w : Bool) : Prop:=(∀ t,Ag n F t → Region.wanted o (yielded ops t.toArray)=(b == w)) → Yo P n ops i o F H N
def ybF (ops : List Oper) (F : FS) (j : Nat) : Option Bool :=
 match opAt ops j with
 | some o=>match o.dst with
  | some d=>match lk F d with
   | some (.bool b)=>some b
   | _=>none
  | none=>none
 | none=>none
theorem ybF_eq {n : Nat} {ops : Array Oper} {F : FS} {t : List Value} {j : Nat} {b : Bool} (ha : Ag n F t) (h : ybF ops.toList F j = some b) : yielded ops t.toArray j = some b:=by
 unfold ybF at h
 unfold yielded
 cases ho : opAt ops.toList j with
 | none=>rw [ho] at h;cases h
 | some o =>
  rw [ho] at h
  simp only at h
  have:=opAt_arr ho
  rw [this]
  cases hd : o.dst with
  | none=>rw [hd] at h;cases h
  | some d =>
   rw [hd] at h
   simp only at h
   simp only [Option.bind_some,hd,List.getElem?_toArray]
   cases ht : lk F d with
   | none=>rw [ht] at h;cases h
   | some v=>rw [ha.2 d v ht];rw [ht] at h;cases v <;> simp_all
def EvF (P : Program) (n : Nat) (H : List Row) (F : FS) (o : Oper) (v : Value) : Prop := ∀ t,Ag n F t → EvOp P H t o v
def StF (P : Program) (n : Nat) (H : List Row) (F : FS) (o : Oper) (K : Value → List Row → Prop) : Prop := ∀ t,Ag n F t → StepOp P H t o K
def EnF (P : Program) (n : Nat) (H : List Row) (F : FS) (o : Oper) (f : FuncId) (args : List Value) : Prop := ∀ t,Ag n F t → EnOp P H t o f args
section
variable {P : Program} {n : Nat} {ops : Array Oper} {i : Nat} {o : Oper} {F : FS} {H : List Row}
section
variable {N : FS → List Row → Prop}
theorem uD (h : opAt ops.toList i = none) (hq : N F H) : XO P n ops i F H N:=fun _ ha=>WO.done h ⟨F,ha,hq⟩
theorem uP (ho : opAt ops.toList i = some o) (k : Xo P n ops i o F H N) : XO P n ops i F H N:=k ho
theorem uN (hg : o.guard = none) (k : Xg P n ops i o F H N) : Xo P n ops i o F H N:=k (fun _ _=>by unfold Region.wanted;rw [hg])
theorem Xo.g {j : Nat} {w b : Bool} (hg : o.guard = some (j,w)) (hy : ybF ops.toList F j = some b) (k : Xw P n ops i o F H N b w) : Xo P n ops i o F H N :=
 k (fun t ha=>by unfold Region.wanted;rw [hg];simp only [ybF_eq ha hy];cases b <;> cases w <;> rfl)
theorem Xw.tt (k : Xg P n ops i o F H N) : Xw P n ops i o F H N true true:=fun h=>k h
theorem Xw.ff (k : Xg P n ops i o F H N) : Xw P n ops i o F H N false false:=fun h=>k h
theorem Xw.tf {d : Nat} (hx : o.dst = some d) (hd : Nat.blt d n = true) (k : XO P n ops (i + 1) (((d,undef)::F)) H N) : Xw P n ops i o F H N true false:=fun h ho t ha=>WO.skip ho (h t ha) (k _ (hx ▸ ha.put (d:=some d) hd _))
theorem Xw.ft {d : Nat} (hx : o.dst = some d) (hd : Nat.blt d n = true) (k : XO P n ops (i + 1) (((d,undef)::F)) H N) : Xw P n ops i o F H N false true:=fun h ho t ha=>WO.skip ho (h t ha) (k _ (hx ▸ ha.put (d:=some d) hd _))
theorem Xw.case {w : Bool} {p : Prop} [Decidable p] (ht : p → XO P n ops i F H N) (hf : ¬ p → XO P n ops i F H N) : Xw P n ops i o F H N (decide p) w:=fun _ _=>if h : p then ht h else hf h
theorem Xw.caseN {w : Bool} {p : Prop} [Decidable p] (ht : p → XO P n ops i F H N) (hf : ¬ p → XO P n ops i F H N) : Xw P n ops i o F H N (!decide p) w:=fun _ _=>if h : p then ht h else hf h
theorem Xw.caseB {w b : Bool} (ht : b = true → XO P n ops i F H N) (hf : b = false → XO P n ops i F H N) : Xw P n ops i o F H N b w:=fun _ _=>by cases hb : b;exact hf hb;exact ht hb
theorem uE {v : Value} (he : EvF P n H F o v) {d : Nat} (hx : o.dst = some d) (hd : Nat.blt d n = true) (k : XO P n ops (i + 1) (((d,v)::F)) H N) : Xg P n ops i o F H N:=fun hw ho t ha=>WO.ev ho (hw t ha) (he t ha) (k _ (hx ▸ ha.put (d:=some d) hd _))
theorem Xg.st {K : Value → List Row → Prop} (he : StF P n H F o K) {d : Nat} (hx : o.dst = some d) (hd : Nat.blt d n = true) (k : ∀ v H',K v H' → XO P n ops (i + 1) (((d,v)::F)) H' N) : Xg P n ops i o F H N:=fun hw ho t ha=>WO.st ho (hw t ha) (he t ha) (fun v H' hK=>k v H' hK _ (hx ▸ ha.put (d:=some d) hd _))
theorem uC {f : FuncId} {args : List Value} {R : Value → List Row → Prop} (he : Callable P f → EnF P n H F o f args) {d : Nat} (hx : o.dst = some d) (hd : Nat.blt d n = true)
  (hf : Fc P f args H R) (k : ∀ v H',R v H' → XO P n ops (i + 1) (((d,v)::F)) H' N) : Xg P n ops i o F H N:=fun hw ho t ha=>WO.call ho (hw t ha) (fun hc=>he hc t ha) hf (fun v H' hK=>k v H' hK _ (hx ▸ ha.put (d:=some d) hd _))
theorem Xg.st0 {K : Value → List Row → Prop} (he : StF P n H F o K) (hx : o.dst = none) (k : ∀ v H',K v H' → XO P n ops (i + 1) F H' N) : Xg P n ops i o F H N:=fun hw ho t ha=>WO.st ho (hw t ha) (he t ha) (fun v H' hK=>k v H' hK _ (hx ▸ ha))
end
section
variable {N : FS → Prop}
theorem XQ.done (h : opAt ops.toList i = none) (hq : N F) : XQ P n ops i F H N:=fun _ ha=>WQ.done h ⟨F,ha,hq⟩
theorem XQ.op (ho : opAt ops.toList i = some o) (k : Yo P n ops i o F H N) : XQ P n ops i F H N:=k ho
theorem Yo.ng (hg : o.guard = none) (k : Yg P n ops i o F H N) : Yo P n ops i o F H N:=k (fun _ _=>by unfold Region.wanted;rw [hg])
theorem Yo.g {j : Nat} {w b : Bool} (hg : o.guard = some (j,w)) (hy : ybF ops.toList F j = some b) (k : Yw P n ops i o F H N b w) : Yo P n ops i o F H N :=
 k (fun t ha=>by unfold Region.wanted;rw [hg];simp only [ybF_eq ha hy];cases b <;> cases w <;> rfl)
theorem Yw.tt (k : Yg P n ops i o F H N) : Yw P n ops i o F H N true true:=fun h=>k h
theorem Yw.ft {d : Nat} (hx : o.dst = some d) (hd : Nat.blt d n = true) (k : XQ P n ops (i + 1) (((d,undef)::F)) H N) : Yw P n ops i o F H N false true:=fun h ho t ha=>WQ.skip ho (h t ha) (k _ (hx ▸ ha.put (d:=some d) hd _))
theorem Yw.case {w : Bool} {p : Prop} [Decidable p] (ht : p → XQ P n ops i F H N) (hf : ¬ p → XQ P n ops i F H N) : Yw P n ops i o F H N (decide p) w:=fun _ _=>if h : p then ht h else hf h
theorem Yw.caseN {w : Bool} {p : Prop} [Decidable p] (ht : p → XQ P n ops i F H N) (hf : ¬ p → XQ P n ops i F H N) : Yw P n ops i o F H N (!decide p) w:=fun _ _=>if h : p then ht h else hf h
theorem Yw.caseB {w b : Bool} (ht : b = true → XQ P n ops i F H N) (hf : b = false → XQ P n ops i F H N) : Yw P n ops i o F H N b w:=fun _ _=>by cases hb : b;exact hf hb;exact ht hb
theorem Yg.ev {v : Value} (he : EvF P n H F o v) {d : Nat} (hx : o.dst = some d) (hd : Nat.blt d n = true) (k : XQ P n ops (i + 1) (((d,v)::F)) H N) : Yg P n ops i o F H N:=fun hw ho t ha=>WQ.ev ho (hw t ha) (he t ha) (k _ (hx ▸ ha.put (d:=some d) hd _))
theorem Yg.call {f : FuncId} {args : List Value} {v : Value} (he : Callable P f → EnF P n H F o f args) {d : Nat} (hx : o.dst = some d) (hd : Nat.blt d n = true)
  (hf : Fc P f args H (fun v' H' => v' = v∧H' = H)) (k : XQ P n ops (i + 1) (((d,v)::F)) H N) : Yg P n ops i o F H N:=fun hw ho t ha=>WQ.call ho (hw t ha) (fun hc=>he hc t ha) hf (k _ (hx ▸ ha.put (d:=some d) hd _))
end
end
section
variable {P : Program} {n : Nat} {H : List Row} {F : FS} {o : Oper}
theorem uM {x : Operand} {v : Value} (h : o.op = .move x) (hx : evF F x = some v) : EvF P n H F o v:=fun _ ha=>EvOp.move h (ha.ev hx)
theorem uA {x : Operand} {v : Value} (h : o.op = .assign x) (hx : evF F x = some v) : EvF P n H F o v:=fun _ ha=>EvOp.assign h (ha.ev hx)
theorem EvF.pickT {c a b : Operand} {v : Value} (h : o.op = .pick c a b) (hc : evF F c = some (.bool true)) (hx : evF F a = some v) : EvF P n H F o v:=fun _ ha=>EvOp.pickT h (ha.ev hc) (ha.ev hx)
theorem EvF.pickF {c a b : Operand} {v : Value} (h : o.op = .pick c a b) (hc : evF F c = some (.bool false)) (hx : evF F b = some v) : EvF P n H F o v:=fun _ ha=>EvOp.pickF h (ha.ev hc) (ha.ev hx)
theorem uQ {op : BinOp} {T T' : TypeId} {x y : Operand} {k : IntKind} {p q : Int} {b : Bool} (h : o.op = .binOp op T x y T') (hx : evF F x = some (.int k p)) (hy : evF F y = some (.int k q))
  (hb : (match op with | .eql=>some (decide (p = q)) | .neq=>some (!decide (p = q)) | .lss=>some (decide (p < q)) | .leq=>some (decide (p ≤ q)) | .gtr=>some (decide (p > q)) | .geq=>some (decide (p ≥ q)) | _=>none)=some b) : EvF P n H F o (.bool b) :=
 fun _ ha=>EvOp.cmp h (ha.ev hx) (ha.ev hy) hb
theorem EvF.arith {op : BinOp} {T T' : TypeId} {x y : Operand} {k : IntKind} {p q r : Int} (h : o.op = .binOp op T x y T') (hx : evF F x = some (.int k p)) (hy : evF F y = some (.int k q))
  (hb : (match op with | .add=>some (k.wrap (p + q)) | .sub=>some (k.wrap (p - q)) | .mul=>some (k.wrap (p * q)) | _=>none)=some r) : EvF P n H F o (.int k r):=fun _ ha=>EvOp.arith h (ha.ev hx) (ha.ev hy) hb
theorem EvF.add64 {T T' : TypeId} {x y : Operand} {p q : Int} (h : o.op = .binOp .add T x y T') (hx : evF F x = some (.int .i64 p)) (hy : evF F y = some (.int .i64 q))
  (h1 : -9223372036854775808 ≤ p + q) (h2 : p + q ≤ 9223372036854775807) : EvF P n H F o (.int .i64 (p + q)):=fun _ ha=>EvOp.add64 h (ha.ev hx) (ha.ev hy) h1 h2
theorem EvF.sub64 {T T' : TypeId} {x y : Operand} {p q : Int} (h : o.op = .binOp .sub T x y T') (hx : evF F x = some (.int .i64 p)) (hy : evF F y = some (.int .i64 q))
  (h1 : -9223372036854775808 ≤ p - q) (h2 : p - q ≤ 9223372036854775807) : EvF P n H F o (.int .i64 (p - q)):=fun _ ha=>EvOp.sub64 h (ha.ev hx) (ha.ev hy) h1 h2
theorem EvF.not {T : TypeId} {x : Operand} {b : Bool} (h : o.op = .unOp .not T x) (hx : evF F x = some (.bool b)) : EvF P n H F o (.bool (!b)):=fun _ ha=>EvOp.not h (ha.ev hx)
theorem uF {T f : TypeId} {x : Operand} {i b off fo : Nat} {fs : List (Nat × TypeId)} {s y : Nat} {ti : TI} (h : o.op = .fieldAddr T x i) (hx : evF F x = some (.pointer (some ⟨b,off,none⟩)))
  (hT : tiOf P T = some ⟨.st fs,s,y⟩) (hf : fs[i]? = some (fo,f)) (hF : tiOf P f = some ti) (hz : ti.size ≠ 0) : EvF P n H F o (.pointer (some ⟨b,off + fo,none⟩)):=fun _ ha=>EvOp.fieldAddr h (ha.ev hx) hT hf hF hz
theorem uJ {T e : TypeId} {x ix : Operand} {b off len cap s y : Nat} {i : Int} {k : IntKind} {ti : TI} (h : o.op = .indexAddr T x ix) (hx : evF F x = some (.slice (some ⟨b,off,none⟩) len cap)) (hi : evF F ix = some (.int k i))
  (hT : tiOf P T = some ⟨.sl e,s,y⟩) (he : tiOf P e = some ti) (h0 : 0 ≤ i) (h1 : i < len) : EvF P n H F o (.pointer (some ⟨b,off + i.toNat * ti.size,none⟩)):=fun _ ha=>EvOp.indexSlice h (ha.ev hx) (ha.ev hi) hT he h0 h1
theorem EvF.indexArray {T e : TypeId} {x ix : Operand} {b off len s y : Nat} {i : Int} {k : IntKind} {ti : TI} (h : o.op = .indexAddr T x ix) (hx : evF F x = some (.pointer (some ⟨b,off,none⟩))) (hi : evF F ix = some (.int k i))
  (hT : tiOf P T = some ⟨.ar len e,s,y⟩) (he : tiOf P e = some ti) (h0 : 0 ≤ i) (h1 : i < len) : EvF P n H F o (.pointer (some ⟨b,off + i.toNat * ti.size,none⟩)):=fun _ ha=>EvOp.indexArray h (ha.ev hx) (ha.ev hi) hT he h0 h1
theorem uY {T e : TypeId} {x : Operand} {a : Option Addr} {len cap s y : Nat} (h : o.op = .call { callee := .builtin .len,args := #[x],argTypes := #[T] }) (hx : evF F x = some (.slice a len cap))
  (hT : tiOf P T = some ⟨.sl e,s,y⟩) : EvF P n H F o (.int .i64 len):=fun _ ha=>EvOp.lenSlice h (ha.ev hx) hT
theorem EvF.min64 {T T' : TypeId} {x y : Operand} {p q : Int} (h : o.op = .call { callee := .builtin .min,args := #[x,y],argTypes := #[T,T'] }) (hx : evF F x = some (.int .i64 p)) (hy : evF F y = some (.int .i64 q)) : EvF P n H F o (.int .i64 (min p q)):=fun _ ha=>EvOp.min64 h (ha.ev hx) (ha.ev hy)
theorem EvF.max64 {T T' : TypeId} {x y : Operand} {p q : Int} (h : o.op = .call { callee := .builtin .max,args := #[x,y],argTypes := #[T,T'] }) (hx : evF F x = some (.int .i64 p)) (hy : evF F y = some (.int .i64 q)) : EvF P n H F o (.int .i64 (max p q)):=fun _ ha=>EvOp.max64 h (ha.ev hx) (ha.ev hy)
theorem uX {x : Operand} {i : Nat} {vs : List Value} {v : Value} (h : o.op = .extract x i) (hx : evF F x = some (.tuple vs.toArray)) (hv : vs[i]? = some v) : EvF P n H F o v:=fun _ ha=>EvOp.extract h (ha.ev hx) (by simpa using hv)
theorem EvF.field {T f : TypeId} {x : Operand} {i fo : Nat} {cs : List Value} {fs : List (Nat × TypeId)} {s y : Nat} {ti : TI} {v : Value} (h : o.op = .field T x i) (hx : evF F x = some (.agg cs.toArray))
  (hT : tiOf P T = some ⟨.st fs,s,y⟩) (hf : fs[i]? = some (fo,f)) (hF : tiOf P f = some ti) (ha : ti.k.isAgg = false) (hv : cs[fo]? = some v) : EvF P n H F o v:=fun _ hg=>EvOp.field h (hg.ev hx) hT hf hF (by simpa [ha] using hv)
theorem uL {T : TypeId} {x : Operand} {p : Addr} {v : Value} (h : o.op = .load T x) (hx : evF F x = some (.pointer (some p))) (hl : LoadV P H T p v) : EvF P n H F o v:=fun _ ha=>EvOp.loadV h (ha.ev hx) hl
theorem EvF.slice {T e : TypeId} {x : Operand} {lo hi mx : Option Operand} {b off len cap s y : Nat} {ti : TI} {l hh m : Nat} (h : o.op = .slice T x lo hi mx) (hx : evF F x = some (.slice (some ⟨b,off,none⟩) len cap))
  (hT : tiOf P T = some ⟨.sl e,s,y⟩) (he : tiOf P e = some ti)
  (hm : match mx with | none=>m = cap | some q => ∃ k,evF F q = some (.int k (m : Int)))
  (hh' : match hi with | none=>mx = none∧hh = len | some q => ∃ k,evF F q = some (.int k (hh : Int)))
  (hl : match lo with | none=>l = 0 | some q => ∃ k,evF F q = some (.int k (l : Int)))
  (h1 : l ≤ hh) (h2 : hh ≤ m) (h3 : m ≤ cap) : EvF P n H F o (.slice (some ⟨b,if m = l then off else off + l * ti.size,none⟩) (hh - l) (m - l)):=by
 intro t ha
 refine EvOp.slice h (ha.ev hx) hT he ?_ ?_ ?_ h1 h2 h3
 ·cases mx with | none=>exact hm | some q=>obtain ⟨k,hk⟩:=hm;exact ⟨k,ha.ev hk⟩
 ·cases hi with | none=>exact hh' | some q=>obtain ⟨k,hk⟩:=hh';exact ⟨k,ha.ev hk⟩
 ·cases lo with | none=>exact hl | some q=>obtain ⟨k,hk⟩:=hl;exact ⟨k,ha.ev hk⟩
theorem StF.boxAgg {T : TypeId} {x : Operand} {cs : List Value} (h : o.op = .box T x) (hv : evF F x = some (.agg cs.toArray)) :
  StF P n H F o (fun v H' => ∃ b,v = .pointer (some ⟨b,0,none⟩)∧H' = ⟨b,0,cs,some T,cs.length⟩::H):=fun _ ha=>StepOp.boxAgg h (ha.ev hv)
theorem StF.boxOne {T : TypeId} {x : Operand} {v : Value} (h : o.op = .box T x) (hx : evF F x = some v) (hv : v.oneCell' = true) :
  StF P n H F o (fun u H' => ∃ b,u = .pointer (some ⟨b,0,none⟩)∧H' = ⟨b,0,[v],some T,1⟩::H):=fun _ ha=>StepOp.boxOne h (ha.ev hx) hv
theorem StF.alloc {T : TypeId} {z : Value} {cs : List Value} (h : o.op = .alloc T) (hz : ∀ w,(zeroValue T).run P w = .ok z w) (hv : z.cells.toList = cs) :
  StF P n H F o (fun v H' => ∃ b,v = .pointer (some ⟨b,0,none⟩)∧H' = ⟨b,0,cs,some T,cs.length⟩::H):=fun _ _=>StepOp.alloc h hz hv
theorem StF.storeOne {T : TypeId} {a x : Operand} {i b j cap : Nat} {el : TypeId} {cs : List Value} {v : Value} {ti : TI} (h : o.op = .store T a x) (hx : evF F a = some (.pointer (some ⟨b,j,none⟩))) (hv : evF F x = some v) (h1 : v.oneCell' = true) (hT : tiOf P T = some ti) (hn : ti.size = 1) (hi : H[i]? = some ⟨b,0,cs,some el,cap⟩)
  (hl : j < cs.length) : StF P n H F o (fun u H' => u = undef∧H' = H.set i ⟨b,0,cs.set j v,some el,cap⟩):=by
 intro t ha
 have:=StepOp.store (vs:=[v]) h (ha.ev hx) hT (by rw [ha.ev hv];cases v <;> simp [Value.oneCell'] at h1 <;> rfl) hi (by rw [hn];rfl) (by simp [h1]) (by simp only [List.length_cons,List.length_nil];omega)
 have e : splice cs j [v] = cs.set j v:=by
  have h2:=splice_cons (cs:=cs) (j:=j) (v:=v) (vs:=[]) (by simp only [List.length_nil];omega)
  rw [← h2,splice_nil]
 rwa [e] at this
/-- a whole variable is stored -/
theorem uZ {T : TypeId} {a x : Operand} {i b cap : Nat} {el : TypeId} {cs vs : List Value} {ti : TI} (h : o.op = .store T a x) (hx : evF F a = some (.pointer (some ⟨b,0,none⟩))) (hv : evF F x = some (.agg vs.toArray)) (hT : tiOf P T = some ti) (hi : H[i]? = some ⟨b,0,cs,some el,cap⟩)
  (hn : vs.length = ti.size) (h1 : vs.all (·.oneCell') = true) (hl : vs.length = cs.length) : StF P n H F o (fun u H' => u = undef∧H' = H.set i ⟨b,0,vs,some el,cap⟩):=by
 intro t ha
 have:=StepOp.store (vs:=vs) (j:=0) h (ha.ev hx) hT (by rw [ha.ev hv];simp [Value.cells]) hi hn h1 (by omega)
 have e : splice cs 0 vs = vs:=by unfold splice;rw [List.take_zero,List.nil_append,List.drop_eq_nil_of_le (by omega),List.append_nil]
 rwa [e] at this
/-- arguments, one by one -/
inductive Args (F : FS) : List Operand → List Value → Prop where
 | nil : Args F [] []
 | cons {x : Operand} {v : Value} {l : List Operand} {vs : List Value} (h : evF F x = some v) (k : Args F l vs) : Args F (x::l) (v::vs)
theorem Args.ev {t : List Value} (ha : Ag n F t) {l : List Operand} {vs : List Value} (h : Args F l vs) : l.map (Fw.ev t)=vs:=by
 induction h with
 | nil=>rfl
 | cons h _ ih=>rw [List.map_cons,ha.ev h,ih]
theorem uT {f : FuncId} {l : List Operand} {tys : Array TypeId} {vs : List Value} (h : o.op = .call { callee := .value (.func f),args:=l.toArray,argTypes:=tys }) (hv : Args F l vs) (hc : Callable P f) : EnF P n H F o f vs:=by
 intro t ha
 have:=EnOp.st (H:=H) (t:=t) h hc
 rwa [show (l.toArray.toList.map (ev t)) = vs by simpa using hv.ev ha] at this
/-- a function value is called -/
theorem EnF.dyn {g : Operand} {f : FuncId} {l : List Operand} {tys : Array TypeId} {vs first cap : List Value} (h : o.op = .call { callee := .value g,args:=l.toArray,argTypes:=tys }) (hg : evF F g = some (.func (.func f) first.toArray cap.toArray)) (hv : Args F l vs) (hc : Callable P f) : EnF P n H F o f (first++vs++cap):=by
 intro t ha
 refine EnOp.mk h (ha.ev hg) hc ?_
 simp [hv.ev ha]
theorem EvF.makeFunc {f : FuncId} {fl cl : List Operand} {fv cv : List Value} (h : o.op = .makeFunc (.func f) fl.toArray cl.toArray) (hf : Args F fl fv) (hc : Args F cl cv) : EvF P n H F o (.func (.func f) fv.toArray cv.toArray):=by
 intro t ha
 refine EvOp.makeFunc h ?_ ?_
 ·simp [hf.ev ha]
 ·simp [hc.ev ha]
end
def fr : Nat → List Value → FS
 | _,[]=>[]
 | i,a::l=>(i,a)::fr (i + 1) l
theorem lk_fr : ∀ (l : List Value) (i j : Nat) (v : Value),lk (fr i l) j = some v → ∃ k,j = i + k∧l[k]? = some v
 | [],_,_,_,h=>by cases h
 | a::l,i,j,v,h=>by
  simp only [fr,lk] at h
  split at h
  ·rename_i hb
   have:=Nat.eq_of_beq_eq_true hb
   subst this
   exact ⟨0,rfl,by simpa using h⟩
  ·obtain ⟨k,hk,hv⟩:=lk_fr l (i + 1) j v h
   exact ⟨k + 1,by omega,by simpa using hv⟩
def ResF (P : Program) (F : FS) (H : List Row) (r : ResultVar) (v : Value) : Prop :=
 match r with
 | .tmp i=>lk F i = some v
 | .cell a T => ∃ p,lk F a = some (.pointer (some p))∧LoadV P H T p v
theorem ResF.i {P : Program} {n : Nat} {F : FS} {H : List Row} {r : ResultVar} {v : Value} {t : List Value} (ha : Ag n F t) (h : ResF P F H r v) : ResI P H t r v:=by
 cases r with
 | tmp i=>exact ha.ev (x := .tmp i) h
 | cell a T=>obtain ⟨p,hp,hl⟩:=h;exact ⟨p,ha.ev (x := .tmp a) hp,hl⟩
def ResX (P : Program) (F : FS) (H : List Row) (fn : Func) (v : Value) : Prop := ∀ n t,Ag n F t → ResV P fn t H v
def retX (P : Program) (fn : Func) (R : Value → List Row → Prop) : QX:=fun e F H=>(e = .normal∨e = .ret) ∧ ∃ v H',ResX P F H fn v∧H'.Sublist H∧R v H'
section
variable {P : Program} {F : FS} {H H' : List Row} {fn : Func} {R : Value → List Row → Prop}
theorem ret_none {e : Exit} (he : e = .normal∨e = .ret) (hr : fn.results = #[]) (hs : H'.Sublist H) (hR : R (.tuple #[]) H') : retX P fn R e F H:=⟨he,_,H',fun _ _ _=>ResV.none hr,hs,hR⟩
theorem ret_one {e : Exit} (he : e = .normal∨e = .ret) {r : ResultVar} {v : Value} (hr : fn.results = #[r]) (h : ResF P F H r v) (hs : H'.Sublist H) (hR : R v H') : retX P fn R e F H:=⟨he,v,H',fun _ _ ha=>ResV.one hr (h.i ha),hs,hR⟩
theorem ret_two {e : Exit} (he : e = .normal∨e = .ret) {r r' : ResultVar} {v v' : Value} (hr : fn.results = #[r,r']) (h : ResF P F H r v) (h' : ResF P F H r' v') (hs : H'.Sublist H) (hR : R (.tuple #[v,v']) H') : retX P fn R e F H:=⟨he,_,H',fun _ _ ha=>ResV.two hr (h.i ha) (h'.i ha),hs,hR⟩
theorem ret_three {e : Exit} (he : e = .normal∨e = .ret) {r r' r'' : ResultVar} {v v' v'' : Value} (hr : fn.results = #[r,r',r'']) (h : ResF P F H r v) (h' : ResF P F H r' v') (h'' : ResF P F H r'' v'') (hs : H'.Sublist H) (hR : R (.tuple #[v,v',v'']) H') : retX P fn R e F H:=⟨he,_,H',fun _ _ ha=>ResV.three hr (h.i ha) (h'.i ha) (h''.i ha),hs,hR⟩
theorem Fc.mk {f : FuncId} {args : List Value} {n : Nat} (hc : Callable P f) (hf : P.funcs[f]? = some fn) (hb : fn.body = some (cof fn)) (hn : fn.ntmps = n) (hl' : Nat.ble args.length n = true)
  (h : X P n (cof fn) (fr 0 args) H (retX P fn R)) : Fc P f args H R:=by
 have hl:=Nat.le_of_ble_eq_true hl'
 subst hn
 refine Fc.of hc hf hb ?_
 have ha : Ag fn.ntmps (fr 0 args) (args++List.replicate (fn.ntmps - args.length) undef):=by
  refine ⟨by simp;omega,fun i v hi=>?_⟩
  obtain ⟨k,hk,hv⟩:=lk_fr args 0 i v hi
  have hlt:=(List.getElem?_eq_some_iff.1 hv).1
  rw [show i = k by omega,List.getElem?_append_left hlt,hv]
 refine (h _ ha).mono ?_
 rintro e t H' ⟨F',ha',he,v,H'',hv,hsub,hR⟩
 exact ⟨he,v,H'',hv _ _ ha',hsub,hR⟩
end
attribute [irreducible] Fc W WO WQ X XO XQ Xo Xg Xw Yo Yg Yw Xb EvOp StepOp EnOp EvF StF EnF LoadV Callable tiOf ResV ResX retQ retX
theorem mem_eraseIdx {H : List Row} {i : Nat} {s : Row} (h : s ∈ H.eraseIdx i) : ∃ j,j ≠ i∧H[j]? = some s:=by
 obtain ⟨j,hj,he⟩:=List.mem_iff_getElem.1 h
 have h1 : (H.eraseIdx i)[j]? = some s:=by rw [List.getElem?_eq_getElem hj,he]
 rw [List.getElem?_eraseIdx] at h1
 split at h1
 ·exact ⟨j,by omega,h1⟩
 ·exact ⟨j + 1,by omega,h1⟩
/-- The row number i has turned into another one in the same block; all else stays. -/
theorem St.turn {B : Nat} {w0 w w' : World} {H : List Row} (h : St B w0 H w) {i b cap cap' : Nat} {el : TypeId} {cs cs' rest : List Value} (hi : H[i]? = some ⟨b,0,cs,some el,cap⟩)
  (hb : Below B w w') (hs : w.heap.size ≤ w'.heap.size) (ho : ∀ k,k < w.heap.size → k ≠ b → w'.heap[k]? = w.heap[k]?) (hr : w'.heap[b]? = some (.cells (cs'++rest).toArray el (0,0))) (hc : (cs'++rest).length = cap') :
  St B w0 (⟨b,0,cs',some el,cap'⟩::H.eraseIdx i) w' := by
 have hr0:=h.ok _ (List.mem_of_getElem? hi)
 refine ⟨h.below.trans hb,by have:=h.size;omega,fun r hm=>?_,List.pairwise_cons.2 ⟨fun s hs' _=>?_,h.sep.sublist (List.eraseIdx_sublist _ _)⟩⟩
 ·rcases List.mem_cons.1 hm with rfl | hm
  ·exact ⟨hr0.1,rfl,rest,hr,hc⟩
  ·obtain ⟨j,hj,hje⟩:=mem_eraseIdx hm
   have hne:=sep_other h.sep hi hje (fun e=>hj e.symm) rfl
   exact Row.ok_of_block (h.ok r (List.mem_of_getElem? hje)) hs (ho _ (Row.ok_lt (h.ok r (List.mem_of_getElem? hje))) hne)
 ·obtain ⟨j,hj,hje⟩:=mem_eraseIdx hs'
  exact fun e=>sep_other h.sep hi hje (fun e=>hj e.symm) rfl e.symm
/-- cells that can be read, from an address on -/
def Rd (H : List Row) (a : Addr) (vs : List Value) : Prop := ∀ j v,vs[j]? = some v → ∃ r ∈ H,∃ k,a.spot = none∧r.b = a.block∧r.off + k = a.off + j∧r.cells[k]? = some v
theorem Rd.cell {B : Nat} {w0 w : World} {H : List Row} {a : Addr} {vs : List Value} (h : Rd H a vs) (hS : St B w0 H w) : ∀ j v,vs[j]? = some v → w.cell? (a.add j)=some v:=by
 intro j v hj
 obtain ⟨r,hr,k,hsp,hb,ho,hc⟩:=h j v hj
 have:=hS.cell hr hc
 rw [hb,ho] at this
 obtain ⟨ab,ao,asp⟩:=a
 simp only at hsp this;subst hsp
 rw [add_none];exact this
theorem Rd.nil (H : List Row) (a : Addr) : Rd H a []:=fun j v h=>by simp at h
theorem Rd.own {H : List Row} {b : Nat} {cs : List Value} {ow : Option Kd} {cap : Nat} (hr : ⟨b,0,cs,ow,cap⟩ ∈ H) : Rd H ⟨b,0,none⟩ cs:=fun j v hj=>⟨_,hr,j,rfl,rfl,by simp,hj⟩
theorem flat_get {α : Type} {enc : α → List Value} {sz : Nat} : ∀ {l : List α},(∀ e ∈ l,(enc e).length = sz) → ∀ {j : Nat} {v : Value},(l.flatMap enc)[j]? = some v → ∃ i e k,j = i * sz + k∧l[i]? = some e∧(enc e)[k]? = some v
 | [],_,j,v,h=>by simp at h
 | e::l,hl,j,v,h=>by
  rw [List.flatMap_cons,List.getElem?_append] at h
  split at h
  ·exact ⟨0,e,j,by omega,rfl,h⟩
  ·rename_i hlt
   obtain ⟨i,e',k,hj,hi,hk⟩:=flat_get (fun e he=>hl e (List.mem_cons_of_mem _ he)) h
   rw [hl e (List.mem_cons_self ..)] at hj hlt
   exact ⟨i + 1,e',k,by rw [Nat.add_mul];omega,by simpa using hi,hk⟩
theorem flat_len {α : Type} {enc : α → List Value} {sz : Nat} : ∀ {l : List α},(∀ e ∈ l,(enc e).length = sz) → (l.flatMap enc).length = l.length * sz
 | [],_=>by simp
 | e::l,hl=>by
  rw [List.flatMap_cons,List.length_append,hl e (List.mem_cons_self ..),flat_len (fun e he=>hl e (List.mem_cons_of_mem _ he)),List.length_cons,Nat.add_mul]
  omega
theorem SlE.rd {α : Type} {H : List Row} {b off : Nat} {enc : α → List Value} {sz : Nat} {l : List α} (h : SlE H (some ⟨b,off,none⟩) enc sz l) : Rd H ⟨b,off,none⟩ (l.flatMap enc):=by
 intro j v hj
 obtain ⟨i,e,k,rfl,hi,hk⟩:=flat_get h.1 hj
 obtain ⟨r,hr,q,hb,ho,hc⟩:=h.cell (fun _ h=>h) hi hk
 exact ⟨r,hr,q,rfl,hb,ho,hc⟩
section
variable {P : Program} {n : Nat} {H : List Row} {F : FS} {o : Oper}
/-- What is asked of the element type. -/
structure ElT (P : Program) (T e : TypeId) (sz by' : Nat) : Prop where
 t : P.underlying T = some (.slice e)
 i : ∃ i z,P.info? e = some i∧i.zero = some z∧i.size = sz∧i.bytes = by'∧z.cells.size = sz
theorem appendOp {B : Nat} {w0 w : World} {T e : TypeId} {sz y ty : Nat} (hT : ElT P T e sz y) (hS : St B w0 H w) {i b m k cap c : Nat} {xs news : List Value} {a : Addr}
  (hi : H[i]? = some ⟨b,0,xs,some e,cap * sz⟩) (hx : xs.length = k * sz) (hl : news.length = m * sz) (hn : Rd H a news) (h1 : news.all (·.oneCell') = true) (hbig : (k + m) * (y + 1)≤140737488355328) :
  ∃ b' cap' w',(Builtin.append_ #[T,T] ty #[.slice (some ⟨b,0,none⟩) k cap,.slice (some a) m c]).run P w = .ok (.slice (some ⟨b',0,none⟩) (k + m) cap') w'∧St B w0 (⟨b',0,xs++news,some e,cap' * sz⟩::H.eraseIdx i) w' := by
 obtain ⟨ht,inf,z,hinf,hz,rfl,rfl,hzs⟩:=hT
 have hr:=hS.ok _ (List.mem_of_getElem? hi)
 obtain ⟨hB,_,rest,hg,hlen⟩:=hr
 dsimp only at hg hlen hB
 have hb0 : k + m ≤ 140737488355328:=Nat.le_trans (Nat.le_mul_of_pos_right _ (Nat.succ_pos _)) hbig
 have hb1 : (k + m) * inf.bytes ≤ 140737488355328:=Nat.le_trans (Nat.mul_le_mul_left _ (Nat.le_succ _)) hbig
 have hnews:=hn.cell hS
 have h1' : ∀ u ∈ news,u.oneCell' = true:=List.all_eq_true.1 h1
 by_cases hroom : k + m ≤ cap
 ·have hfit : k * inf.size + news.length ≤ (xs++rest).toArray.size:=by
   rw [List.size_toArray,hlen,hl, ← Nat.add_mul];exact Nat.mul_le_mul_right _ hroom
  have hrun:=run_append_room (P:=P) w T ty e inf ht hinf b k cap _ hg a m c news hl hnews h1' hroom hfit
  refine ⟨b,cap,_,hrun,?_⟩
  refine hS.turn (rest:=rest.drop news.length) hi ⟨rfl,rfl,rfl,by simp,fun q hq=>setRow_other w b q _ (by omega)⟩ (by simp) (fun q _ hq=>setRow_other w b q _ hq) ?_ ?_
  ·rw [setRow_heap w b _ _ e _ hg]
   congr 3
   have e1 : (xs++rest).take (k * inf.size)=xs:=by rw [← hx];exact List.take_left
   have e2 : (xs++rest).drop (k * inf.size + news.length)=rest.drop news.length:=by rw [← hx, ← List.drop_drop,List.drop_left]
   simp only [e1,e2]
  ·simp only [List.length_append,List.length_drop] at hlen hfit ⊢
   simp only [List.size_toArray,List.length_append] at hfit
   omega
 ·have holds : ∀ j u,xs[j]? = some u → w.cell? ((⟨b,0,none⟩ : Addr).add j)=some u:=by
   intro j u hj
   have:=hS.cell (List.mem_of_getElem? hi) hj
   rw [add_none];exact this
  have hrun:=run_append_grow (P:=P) w T ty e inf z ht hinf hz ⟨b,0,none⟩ k cap xs hx holds a m c news hl hnews (by omega) (by omega) (growslice_fits (by omega) hb1)
  have hge:=grownCap_ge w (k + m) cap e
  refine ⟨w.heap.size,grownCap w (k + m) cap e,_,hrun,?_⟩
  have hS1 : St B w0 (H.eraseIdx i) w.drew:=(hS.sub (List.eraseIdx_sublist _ _)).drewN 1
  have hS2:=hS1.allocPre (xs++news) (Builtin.zeroCells z.cells (grownCap w (k + m) cap e - (k + m))).toList e
  have e3 : (xs++news++(Builtin.zeroCells z.cells (grownCap w (k + m) cap e - (k + m))).toList).length = grownCap w (k + m) cap e * inf.size:=by
   simp only [List.length_append,Array.length_toList,size_zeroCells,hzs,hx,hl, ← Nat.add_mul]
   congr 1;omega
  rw [e3] at hS2
  have e4 : (xs++news++(Builtin.zeroCells z.cells (grownCap w (k + m) cap e - (k + m))).toList).toArray = xs.toArray++news.toArray++Builtin.zeroCells z.cells (grownCap w (k + m) cap e - (k + m)):=by
   apply Array.ext';simp
  rw [e4] at hS2
  exact hS2
theorem appendNew {B : Nat} {w0 w : World} {T e : TypeId} {sz y ty : Nat} (hT : ElT P T e sz y) (hS : St B w0 H w) {m c : Nat} {news : List Value} {a : Addr} (ao : Option Addr)
  (hm : 0 < m) (hl : news.length = m * sz) (hn : Rd H a news) (hbig : m * (y + 1)≤140737488355328) :
  ∃ b' cap' w',(Builtin.append_ #[T,T] ty #[.slice ao 0 0,.slice (some a) m c]).run P w = .ok (.slice (some ⟨b',0,none⟩) m cap') w'∧St B w0 (⟨b',0,news,some e,cap' * sz⟩::H) w' := by
 obtain ⟨ht,inf,z,hinf,hz,rfl,rfl,hzs⟩:=hT
 have hb0 : m ≤ 140737488355328:=Nat.le_trans (Nat.le_mul_of_pos_right _ (Nat.succ_pos _)) hbig
 have hb1 : m * inf.bytes ≤ 140737488355328:=Nat.le_trans (Nat.mul_le_mul_left _ (Nat.le_succ _)) hbig
 have hnews:=hn.cell hS
 have hge:=grownCap_ge w m 0 e
 have hrun : (Builtin.append_ #[T,T] ty #[.slice ao 0 0,.slice (some a) m c]).run P w =
   .ok (.slice (some ⟨w.heap.size,0,none⟩) m (grownCap w m 0 e)) (w.drew.alloc (.cells (news.toArray++Builtin.zeroCells z.cells (grownCap w m 0 e - m)) e)):=by
  cases ao with
  | none=>exact run_append_nil (P:=P) w T ty e inf z ht hinf hz a m c news hl hnews hm (by omega) (by omega)
  | some b =>
   have:=run_append_grow (P:=P) w T ty e inf z ht hinf hz b 0 0 [] (by simp) (by simp) a m c news hl hnews (by omega) (by omega) (growslice_fits (by omega) (by simpa using hb1))
   simpa using this
 refine ⟨w.heap.size,grownCap w m 0 e,_,hrun,?_⟩
 have hS2:=(hS.drewN 1).allocPre news (Builtin.zeroCells z.cells (grownCap w m 0 e - m)).toList e
 have e3 : (news++(Builtin.zeroCells z.cells (grownCap w m 0 e - m)).toList).length = grownCap w m 0 e * inf.size:=by
  simp only [List.length_append,Array.length_toList,size_zeroCells,hzs,hl, ← Nat.add_mul]
  congr 1;omega
 rw [e3] at hS2
 have e4 : (news++(Builtin.zeroCells z.cells (grownCap w m 0 e - m)).toList).toArray = news.toArray++Builtin.zeroCells z.cells (grownCap w m 0 e - m):=by
  apply Array.ext';simp
 rw [e4] at hS2
 exact hS2
theorem appendNone {w : World} {T e : TypeId} {sz y ty : Nat} (hT : ElT P T e sz y) {base ao : Option Addr} {k cap c : Nat} (hk : k ≤ cap) :
  (Builtin.append_ #[T,T] ty #[.slice base k cap,.slice ao 0 c]).run P w = .ok (.slice base k cap) w:=by
 obtain ⟨ht,inf,z,hinf,hz,rfl,rfl,hzs⟩:=hT
 cases base <;> cases ao <;> simp [Builtin.append_,run_underlying ht,sizeOf,typeInfo,hinf,Builtin.lenOf,Builtin.firstCells,loadCells,loadCellsFrom,hk,storeCells]
abbrev isAppend (o : Oper) (x y : Operand) (T : TypeId) : Prop:=o.op = .call { callee := .builtin .append,args := #[x,y],argTypes := #[T,T] }
theorem run_append_op {w : World} {t : List Value} {x y : Operand} {T : TypeId} (h : isAppend o x y T) {v : Value} {w' : World} (hr : (Builtin.append_ #[T,T] o.type #[ev t x,ev t y]).run P w = .ok v w') : (execOp (ev t) o).run P w = .ok (.value v) w' := by
 simp [execOp,h,resolve,invoke,builtin,hr]
/-- onto a row of one's own -/
theorem StF.appendOwn {T e : TypeId} {x y : Operand} {sz by' i b m k cap c : Nat} {xs news : List Value} {a : Addr} (h : isAppend o x y T) (hT : ElT P T e sz by') (hx : evF F x = some (.slice (some ⟨b,0,none⟩) k cap)) (hy : evF F y = some (.slice (some a) m c))
  (hi : H[i]? = some ⟨b,0,xs,some e,cap * sz⟩) (hxs : xs.length = k * sz) (hl : news.length = m * sz) (hn : Rd H a news) (h1 : news.all (·.oneCell') = true) (hbig : (k + m) * (by' + 1)≤140737488355328) :
  StF P n H F o (fun v H' => ∃ b' cap',v = .slice (some ⟨b',0,none⟩) (k + m) cap'∧H' = ⟨b',0,xs++news,some e,cap' * sz⟩::H.eraseIdx i):=by
 unfold StF StepOp
 intro t ha B w0 w hS
 obtain ⟨b',cap',w',hr,h4⟩:=appendOp hT hS hi hxs hl hn h1 hbig (ty:=o.type) (c:=c)
 exact ⟨_,w',_,.inl (run_append_op h (by rw [ha.ev hx,ha.ev hy];exact hr)),h4,b',cap',rfl,rfl⟩
/-- onto what has no room -/
theorem StF.appendNew {T e : TypeId} {x y : Operand} {sz by' m c : Nat} {news : List Value} {a : Addr} {ao : Option Addr} (h : isAppend o x y T) (hT : ElT P T e sz by') (hx : evF F x = some (.slice ao 0 0)) (hy : evF F y = some (.slice (some a) m c))
  (hm : 0 < m) (hl : news.length = m * sz) (hn : Rd H a news) (hbig : m * (by' + 1)≤140737488355328) :
  StF P n H F o (fun v H' => ∃ b' cap',v = .slice (some ⟨b',0,none⟩) m cap'∧H' = ⟨b',0,news,some e,cap' * sz⟩::H):=by
 unfold StF StepOp
 intro t ha B w0 w hS
 obtain ⟨b',cap',w',hr,h4⟩:=Fw.appendNew hT hS ao hm hl hn hbig (ty:=o.type) (c:=c)
 exact ⟨_,w',_,.inl (run_append_op h (by rw [ha.ev hx,ha.ev hy];exact hr)),h4,b',cap',rfl,rfl⟩
/-- nothing is appended -/
theorem EvF.appendNone {T e : TypeId} {x y : Operand} {sz by' k cap c : Nat} {base ao : Option Addr} (h : isAppend o x y T) (hT : ElT P T e sz by') (hx : evF F x = some (.slice base k cap)) (hy : evF F y = some (.slice ao 0 c)) (hk : k ≤ cap) :
  EvF P n H F o (.slice base k cap):=by
 unfold EvF EvOp
 intro t ha B w0 w hS
 exact run_append_op h (by rw [ha.ev hx,ha.ev hy];exact Fw.appendNone hT hk)
theorem foldl_set (off : Nat) : ∀ (vs : List Value) (j : Nat) (cs : Array Value),off + j + vs.length ≤ cs.size → ((vs.zipIdx j).foldl (fun cs p=>cs.setIfInBounds (off + p.2) p.1) cs).toList = splice cs.toList (off + j) vs
 | [],j,cs,_=>by simp [splice_nil]
 | v::vs,j,cs,h=>by
  simp only [List.length_cons] at h
  rw [List.zipIdx_cons,List.foldl_cons,foldl_set off vs (j + 1) _ (by simp;omega)]
  rw [Array.toList_setIfInBounds, ← Nat.add_assoc,splice_cons (by simp;omega)]
def fillL (place : Nat → Option (Nat × Nat)) : List Value → List (Nat × Value) → Option (List Value)
 | cs,[]=>some cs
 | cs,(i,v)::r=>match place i with
  | none=>none
  | some (off,size)=>match Nat.beq v.cells.toList.length size,Nat.ble (off + size) cs.length with
   | true,true=>fillL place (splice cs off v.cells.toList) r
   | _,_=>none
theorem fill_eq (place : Nat → Option (Nat × Nat)) : ∀ (ps : List (Nat × Value)) (cs : Array Value) (r : List Value),fillL place cs.toList ps = some r → Instr.fill place cs ps = some r.toArray
 | [],cs,r,h=>by simp only [fillL,Option.some.injEq] at h;subst h;simp [Instr.fill]
 | (i,v)::ps,cs,r,h=>by
  simp only [fillL] at h
  cases hp : place i with
  | none=>rw [hp] at h;cases h
  | some q =>
   obtain ⟨off,size⟩:=q
   rw [hp] at h
   simp only at h
   split at h
   ·rename_i h1 h2
    have e1:=Nat.eq_of_beq_eq_true h1
    have e2:=Nat.le_of_ble_eq_true h2
    simp only [Array.length_toList] at e1 e2
    simp only [Instr.fill,hp]
    rw [if_neg (by simp only [Bool.or_eq_true,decide_eq_true_eq];omega)]
    refine fill_eq place ps _ r ?_
    rw [← h]
    congr 1
    have:=foldl_set off v.cells.toList 0 cs (by simp;omega)
    rw [Nat.add_zero] at this
    rw [← this, ← Array.foldl_toList,Array.toList_zipIdx]
   ·cases h
inductive ArgsP (F : FS) : List (Nat × Operand) → List (Nat × Value) → Prop where
 | nil : ArgsP F [] []
 | cons {i : Nat} {x : Operand} {v : Value} {l : List (Nat × Operand)} {vs : List (Nat × Value)} (h : evF F x = some v) (k : ArgsP F l vs) : ArgsP F ((i,x)::l) ((i,v)::vs)
theorem ArgsP.ev {t : List Value} (ha : Ag n F t) {l : List (Nat × Operand)} {vs : List (Nat × Value)} (h : ArgsP F l vs) : l.map (fun p=>(p.1,Fw.ev t p.2)) = vs:=by
 induction h with
 | nil=>rfl
 | cons h _ ih=>rw [List.map_cons,ha.ev h,ih]
inductive Places (P : Program) : List (Nat × TypeId) → List (Nat × Nat) → Prop where
 | nil : Places P [] []
 | cons {o T : Nat} {ti : TI} {fs : List (Nat × TypeId)} {ps : List (Nat × Nat)} (h : tiOf P T = some ti) (k : Places P fs ps) : Places P ((o,T)::fs) ((o,ti.size)::ps)
theorem Places.run {fs : List (Nat × TypeId)} {ps : List (Nat × Nat)} (h : Places P fs ps) : ∀ (fa : List Field) (w : World),fa.map (fun f=>(f.offset,f.type)) = fs → (fa.mapM fun f=>(Prod.mk f.offset <$> sizeOf f.type : Sem (Nat × Nat))).run P w = .ok ps w:=by
 induction h with
 | nil=>intro fa w hf;simp at hf;subst hf;simp
 | cons h _ ih =>
  intro fa w hf
  cases fa with
  | nil=>simp at hf
  | cons f fa =>
   simp only [List.map_cons,List.cons.injEq,Prod.mk.injEq] at hf
   obtain ⟨⟨rfl,rfl⟩,hf⟩:=hf
   have:=ih fa w hf
   have h2:=ti_size h w
   simp [List.mapM_cons,this,h2]
theorem EvF.build {T : TypeId} {l : List (Nat × Operand)} {vs : List (Nat × Value)} {fs : List (Nat × TypeId)} {ps : List (Nat × Nat)} {s y : Nat} {zs cs : List Value} (h : o.op = .build T l.toArray) (hv : ArgsP F l vs) (hT : tiOf P T = some ⟨.st fs,s,y⟩) (hp : Places P fs ps)
  (hz : ∀ w,(zeroValue T).run P w = .ok (.agg zs.toArray) w) (hf : fillL (fun i=>ps[i]?) zs vs = some cs) : EvF P n H F o (.agg cs.toArray):=by
 unfold EvF EvOp
 intro t ha B w0 w hS
 obtain ⟨fa,hu,hm⟩:=ti_struct hT
 have h1:=hp.run fa.toList w hm
 have h2:=fill_eq (fun i=>ps[i]?) vs zs.toArray cs (by simpa using hf)
 have h3:=hv.ev ha
 have h4 : (l.toArray.map fun (i,x)=>(i,Fw.ev t x)).toList = vs:=by rw [← h3];simp
 have h5 : (fa.mapM fun f=>(Prod.mk f.offset <$> sizeOf f.type : Sem (Nat × Nat))).run P w = .ok ps.toArray w:=by
  rw [show fa = fa.toList.toArray by simp,List.mapM_toArray]
  simp [h1]
 have h6 : l.map (fun x=>(x.1,Fw.ev t x.2)) = vs:=h3
 simp [execOp,h,Instr.build,hz,underlying,hu,h5,Value.cells,h6,h2]
theorem ElT.un {T e : TypeId} {sz y : Nat} (h : ElT P T e sz y) (w : World) : (underlying T).run P w = .ok (.slice e) w:=by simp [underlying,h.t]
theorem ElT.sz {T e : TypeId} {sz y : Nat} (h : ElT P T e sz y) (w : World) : (sizeOf e).run P w = .ok sz w:=by
 obtain ⟨_,i,z,hi,_,hs,_⟩:=h
 simp [sizeOf,typeInfo,hi,hs]
theorem ElT.zero {T e : TypeId} {sz y : Nat} (h : ElT P T e sz y) : ∃ z : Value,z.cells.size = sz ∧ ∀ w,(zeroValue e).run P w = .ok z w:=by
 obtain ⟨_,i,z,hi,hz,hs,_,hc⟩:=h
 exact ⟨z,hc,fun w=>by simp [zeroValue,typeInfo,hi,hz]⟩
theorem StF.buildNil {T e : TypeId} {sz y : Nat} (h : o.op = .buildSlice T 0 #[]) (hT : ElT P T e sz y) :
  StF P n H F o (fun v H' => ∃ b,v = .slice (some ⟨b,0,none⟩) 0 0∧H' = ⟨b,0,[],some e,0⟩::H):=by
 unfold StF StepOp
 intro t ha B w0 w hS
 refine ⟨_,_,_,.inl ?_,hS.alloc [] e,_,rfl,rfl⟩
 have e0 : ((Array.range 0).map (fun _=>(default : Value))) = #[]:=by simp
 simp [execOp,h,Instr.buildSlice,hT.un,hT.sz,Instr.fill,newRow,newObj,Sem.run,World.alloc_eq,e0]
theorem StF.buildOne {T e : TypeId} {x : Operand} {sz y : Nat} {v0 : Value} {cs : List Value} (h : o.op = .buildSlice T 1 #[(0,x)]) (hT : ElT P T e sz y) (hx : evF F x = some v0) (hc : v0.cells.toList = cs) (hl : cs.length = sz) (hz : 0 < sz) (hz' : sz ≤ 16777216) :
  StF P n H F o (fun v H' => ∃ b,v = .slice (some ⟨b,0,none⟩) 1 1∧H' = ⟨b,0,cs,some e,1 * sz⟩::H):=by
 unfold StF StepOp
 intro t ha B w0 w hS
 obtain ⟨z,hzs,hzr⟩:=hT.zero
 have hS' := hS.alloc cs e
 refine ⟨.slice (some ⟨w.heap.size,0,none⟩) 1 1,_,_,.inl ?_,hS',_,rfl,by rw [hl,Nat.one_mul]⟩
 have hf:=fill_eq (fun i=>some (i * sz,sz)) [(0,v0)] ((Array.range (1 * sz)).map (z.cells[·% z.cells.size]!)) cs (by
  simp only [fillL,Nat.zero_mul,Nat.zero_add,hc,hl,Nat.beq_refl,Array.length_toList,Array.size_map,Array.size_range,Nat.one_mul]
  rw [show Nat.ble sz sz = true by rw [Nat.ble_eq];exact Nat.le_refl _]
  simp only [splice,Option.some.injEq,List.take_zero,List.nil_append]
  rw [List.drop_eq_nil_of_le (by simp [hl]),List.append_nil])
 have h0 : ¬ (sz = 0):=by omega
 have h1 : ¬ (16777216 < sz):=by omega
 simp only [Nat.one_mul] at hf
 simp [execOp,h,Instr.buildSlice,hT.un,hT.sz,hzr,ha.ev hx,h0,h1,hf,newRow,newObj,Sem.run,World.alloc_eq]
/-- onto a row of one's own, whatever list, the empty one too -/
theorem StF.appendSl {α : Type} {enc : α → List Value} {l : List α} {a : Option Addr} {T e : TypeId} {x y : Operand} {sz by' i b k cap c : Nat} {xs : List Value} (h : isAppend o x y T) (hT : ElT P T e sz by') (hx : evF F x = some (.slice (some ⟨b,0,none⟩) k cap)) (hy : evF F y = some (.slice a l.length c))
  (hi : H[i]? = some ⟨b,0,xs,some e,cap * sz⟩) (hs : SlE H a enc sz l) (h1 : ∀ e ∈ l,(enc e).all (·.oneCell') = true) (hxs : xs.length = k * sz) (hz : 0 < sz) (hbig : (k + l.length) * (by' + 1)≤140737488355328) :
  StF P n H F o (fun v H' => ∃ b' cap',v = .slice (some ⟨b',0,none⟩) (k + l.length) cap'∧H' = ⟨b',0,xs++l.flatMap enc,some e,cap' * sz⟩::H.eraseIdx i):=by
 cases l with
 | nil =>
  unfold StF StepOp
  intro t ha B w0 w hS
  have hr:=hS.ok _ (List.mem_of_getElem? hi)
  obtain ⟨hB,_,rest,hg,hlen⟩:=hr
  have hk : k ≤ cap:=by
   simp only [List.length_append,hxs] at hlen
   exact Nat.le_of_mul_le_mul_right (by omega : k * sz ≤ cap * sz) hz
  refine ⟨.slice (some ⟨b,0,none⟩) k cap,w,_,.inl ?_,hS.turn (cs' := xs) (rest:=rest) hi (Below.refl _ _) (Nat.le_refl _) (fun _ _ _=>rfl) hg hlen,b,cap,rfl,?_⟩
  ·exact run_append_op h (by rw [ha.ev hx,ha.ev hy];exact Fw.appendNone hT hk)
  ·simp
 | cons q l =>
  obtain ⟨b1,o1,rfl,_⟩:=hs.2 (by simp)
  refine StF.appendOwn h hT hx hy hi hxs (flat_len hs.1) hs.rd ?_ hbig
  rw [List.all_eq_true]
  intro v hv
  obtain ⟨e',he,hv⟩:=List.mem_flatMap.1 hv
  exact List.all_eq_true.1 (h1 e' he) v hv
/-- A row of one's own read as a list of elements. -/
theorem SlE.ofRow {α : Type} {enc : α → List Value} {sz b cap : Nat} {l : List α} {ow : Option Kd} (hm : ⟨b,0,l.flatMap enc,ow,cap⟩ ∈ H) (hl : ∀ e ∈ l,(enc e).length = sz) : SlE H (some ⟨b,0,none⟩) enc sz l:=by
 have key : ∀ (i : Nat) (e : α) (j : Nat) (v : Value),l[i]? = some e → (enc e)[j]? = some v → (l.flatMap enc)[i * sz + j]? = some v:=by
  clear hm
  intro i e j v
  revert i
  induction l with
  | nil=>intro i hi;simp at hi
  | cons q l ih =>
   intro i hi hj
   rw [List.flatMap_cons,List.getElem?_append]
   have hq:=hl q (List.mem_cons_self ..)
   cases i with
   | zero =>
    simp only [List.getElem?_cons_zero,Option.some.injEq] at hi
    subst hi
    rw [if_pos (by have:=(List.getElem?_eq_some_iff.1 hj).1;omega)]
    simpa using hj
   | succ i =>
    rw [if_neg (by rw [hq,Nat.add_mul];omega),hq,show (i + 1) * sz + j - sz = i * sz + j by rw [Nat.add_mul];omega]
    exact ih (fun e he=>hl e (List.mem_cons_of_mem _ he)) i (by simpa using hi) hj
 exact ⟨hl,fun _=>⟨b,0,rfl,_,0,hm,rfl,rfl,fun i e j v hi hj=>by dsimp only;rw [Nat.zero_add];exact key i e j v hi hj⟩⟩
end
structure TOp where
 dst : Option Nat
 sup : List Nat
 deps : List Nat
 kills : List Nat
abbrev Env:=Nat → Nat × Nat
def upd (env : Env) (i : Nat) (p : Nat × Nat) : Env:=fun j=>if j = i then p else env j
def tAt (ts : List TOp) (i : Nat) : TOp:=ts.getD i ⟨none,[],[],[]⟩
def fdeps (ts : List TOp) (val : Nat → Env → Value) (env : Env) (F0 : FS) : List Nat → FS
 | []=>F0
 | k::l=>match (tAt ts k).dst with
  | some d=>(d,val k env)::fdeps ts val env F0 l
  | none=>fdeps ts val env F0 l
theorem take_out : ∀ (ks A : List Nat),ks.Nodup → A.Nodup → (∀ k ∈ ks,k ∈ A) → ∃ A',A.Perm (ks++A')∧A'.Nodup ∧ ∀ k,k ∈ A' ↔ k ∈ A∧k ∉ ks
 | [],A,_,hA,_=>⟨A,List.Perm.refl _,hA,by simp⟩
 | k::ks,A,hk,hA,hs=>by
  have hk' := List.nodup_cons.1 hk
  have h1:=hs k (List.mem_cons_self ..)
  have h2:=List.perm_cons_erase h1
  have hE : (A.erase k).Nodup:=hA.sublist (List.erase_sublist)
  obtain ⟨A',hp,hn,hm⟩:=take_out ks (A.erase k) hk'.2 hE (fun q hq=>by
   rw [hA.mem_erase_iff]
   exact ⟨fun e=>by subst e;exact hk'.1 hq,hs q (List.mem_cons_of_mem _ hq)⟩)
  refine ⟨A',h2.trans (hp.cons k),hn,fun q=>?_⟩
  rw [hm,hA.mem_erase_iff]
  simp only [List.mem_cons,not_or]
  constructor
  ·rintro ⟨⟨h3,h4⟩,h5⟩;exact ⟨h4,h3,h5⟩
  ·rintro ⟨h4,h3,h5⟩;exact ⟨⟨h3,h4⟩,h5⟩
theorem perm_of_mem {A B : List Nat} (hA : A.Nodup) (hB : B.Nodup) (h : ∀ k,k ∈ A ↔ k ∈ B) : A.Perm B:=by
 obtain ⟨A',hp,_,hm⟩:=take_out B A hB hA (fun k hk=>(h k).2 hk)
 have : A' = []:=by
  apply List.eq_nil_iff_forall_not_mem.2
  intro k hk
  have:=(hm k).1 hk
  exact this.2 ((h k).1 this.1)
 rw [this,List.append_nil] at hp
 exact hp
theorem St.perm {B : Nat} {w0 w : World} {H H' : List Row} (h : St B w0 H w) (hp : H'.Perm H) : St B w0 H' w :=
 ⟨h.below,h.size,fun r hr=>h.ok r (hp.subset hr),(hp.pairwise_iff (fun hxy ho e=>hxy ho.symm e.symm)).2 h.sep⟩
theorem Ag.cons {n : Nat} {F : FS} {t : List Value} (h : Ag n F t) {d : Nat} {v : Value} (hd : t[d]? = some v) : Ag n ((d,v)::F) t:=by
 refine ⟨h.1,fun i u hi=>?_⟩
 simp only [lk] at hi
 split at hi
 ·rename_i hb
  have:=Nat.eq_of_beq_eq_true hb
  subst this
  simp only [Option.some.injEq] at hi
  subst hi;exact hd
 ·exact h.2 i u hi
theorem ag_fdeps {n : Nat} {F0 : FS} {t : List Value} {ts : List TOp} {val : Nat → Env → Value} {env : Env} (ha : Ag n F0 t) : ∀ (l : List Nat),(∀ k ∈ l,∀ d,(tAt ts k).dst = some d → t[d]? = some (val k env)) → Ag n (fdeps ts val env F0 l) t
 | [],_=>ha
 | k::l,h=>by
  have ih:=ag_fdeps ha l (fun q hq=>h q (List.mem_cons_of_mem _ hq))
  unfold fdeps
  split
  ·rename_i d hd;exact ih.cons (h k (List.mem_cons_self ..) d hd)
  ·exact ih
def alive (ts : List TOp) : List Nat:=(List.range ts.length).filter fun k => !(ts.flatMap (·.kills)).contains k
theorem tAt_mem {ts : List TOp} {i k : Nat} (h : k ∈ (tAt ts i).kills) : k ∈ ts.flatMap (·.kills):=by
 unfold tAt List.getD at h
 cases hi : ts[i]? with
 | none=>rw [hi] at h;simp at h
 | some T=>rw [hi] at h;exact List.mem_flatMap.2 ⟨T,List.mem_of_getElem? hi,h⟩
theorem kills_once {ts : List TOp} (hn : (ts.flatMap (·.kills)).Nodup) {i j k : Nat} (h1 : k ∈ (tAt ts i).kills) (h2 : k ∈ (tAt ts j).kills) : i = j:=by
 have key : ∀ (ts : List TOp) (i j : Nat),(ts.flatMap (·.kills)).Nodup → k ∈ (tAt ts i).kills → k ∈ (tAt ts j).kills → i = j:=by
  intro ts
  induction ts with
  | nil=>intro i j _ h;simp [tAt,List.getD] at h
  | cons T ts ih =>
   intro i j hn h1 h2
   rw [List.flatMap_cons,List.nodup_append] at hn
   cases i with
   | zero =>
    cases j with
    | zero=>rfl
    | succ j=>exact absurd rfl (hn.2.2 k h1 k (tAt_mem (ts:=ts) (i:=j) h2))
   | succ i =>
    cases j with
    | zero=>exact absurd rfl (hn.2.2 k h2 k (tAt_mem (ts:=ts) (i:=i) h1))
    | succ j=>exact congrArg _ (ih i j hn.2.1 h1 h2)
 exact key ts i j hn h1 h2
theorem kills_nodup : ∀ {ts : List TOp} {T : TOp},(ts.flatMap (·.kills)).Nodup → T ∈ ts → T.kills.Nodup
 | _::ts,T,hn,hm=>by
  rw [List.flatMap_cons,List.nodup_append] at hn
  rcases List.mem_cons.1 hm with rfl | hm
  ·exact hn.1
  ·exact kills_nodup hn.2.1 hm
theorem lk_mem : ∀ {F : FS} {s : Nat} {v : Value},lk F s = some v → s ∈ F.map (·.1)
 | (j,x)::F,s,v,hs=>by
  simp only [lk] at hs
  split at hs
  ·rename_i hb;have:=Nat.eq_of_beq_eq_true hb;subst this;simp
  ·exact List.mem_cons_of_mem _ (lk_mem hs)
theorem flatMap_congr' {α β : Type} {f g : α → List β} : ∀ {l : List α},(∀ x ∈ l,f x = g x) → l.flatMap f = l.flatMap g
 | [],_=>rfl
 | x::l,h=>by rw [List.flatMap_cons,List.flatMap_cons,h x (List.mem_cons_self ..),flatMap_congr' (fun y hy=>h y (List.mem_cons_of_mem _ hy))]
/-- A region that draws its order, each operation on its own: what it takes away (kills), what it makes (rows), what it yields (val). Base rows that it takes away have numbers behind the operations'. -/
def AllF (l : List Oper) (i : Nat) (p : Nat → Oper → Prop) : Prop := ∀ j o,i ≤ j → opAt l j = some o → p j o
theorem AllF.step {l : List Oper} {i : Nat} {p : Nat → Oper → Prop} {o : Oper} (ho : opAt l i = some o) (h : p i o) (k : AllF l (i + 1) p) : AllF l i p:=by
 intro j o' hj hjo
 by_cases e : j = i
 ·subst e;rw [ho] at hjo;cases hjo;exact h
 ·exact k j o' (by omega) hjo
theorem AllF.done {l : List Oper} {i : Nat} {p : Nat → Oper → Prop} (h : opAt l i = none) : AllF l i p:=by
 intro j o hj hjo
 rw [opAt_eq] at h hjo
 have:=(List.getElem?_eq_some_iff.1 hjo).1
 have:=List.getElem?_eq_none_iff.1 h
 omega
theorem StF.ofEv {P : Program} {n : Nat} {H : List Row} {F : FS} {o : Oper} {v : Value} (he : EvF P n H F o v) : StF P n H F o (fun u H' => u = v∧H' = H):=by
 unfold StF StepOp
 intro t ha B w0 w hS
 have:=he
 unfold EvF EvOp at this
 exact ⟨v,w,H,.inl (this t ha B w0 w hS),hS,rfl,rfl⟩
theorem StF.mono {P : Program} {n : Nat} {H : List Row} {F : FS} {o : Oper} {K K' : Value → List Row → Prop} (h : StF P n H F o K) (hk : ∀ v H',K v H' → K' v H') : StF P n H F o K' := by
 unfold StF StepOp at *
 intro t ha B w0 w hS
 obtain ⟨v,w',H',h1,h2,h3⟩:=h t ha B w0 w hS
 exact ⟨v,w',H',h1,h2,hk v H' h3⟩
/-- what only reads, among the others -/
theorem StF.pure {P : Program} {n : Nat} {H : List Row} {F : FS} {o : Oper} {v : Value} {g : Nat × Nat → Value} {q : Prop} {rw' : Nat × Nat → List Row} (he : EvF P n H F o v) (hv : v = g (0,0)) (hr : rw' (0,0) = []) : StF P n H F o (fun u H' => ∃ p,(q → u = g p)∧H'.Perm (rw' p++H)) :=
 (StF.ofEv he).mono fun u H' ⟨hu,hH⟩=>⟨(0,0),fun _=>hu.trans hv,by rw [hr,hH];exact List.Perm.refl _⟩
end Go.Fw
namespace Go.Proofs.YtbpcbdbclijomaaGreat
open Go Go.Fw
def TE : List (Option TI):=[some ⟨.sc,1,0⟩,some ⟨.sc,1,8⟩,some ⟨.int .i64,1,8⟩,some ⟨.int .i64,1,8⟩,some ⟨.sc,1,1⟩,some ⟨.int .u8,1,1⟩,some ⟨.int .u8,1,1⟩,some ⟨.st [(0,2),(1,3),(2,4),(3,6)],4,24⟩,some ⟨.st [(0,2),(1,3),(2,4),(3,6)],4,24⟩,some ⟨.sc,1,16⟩,some ⟨.sc,1,16⟩,some ⟨.sc,1,16⟩,some ⟨.int .u64,1,8⟩,some ⟨.st [(0,9),(1,12)],2,24⟩,some ⟨.st [(0,9),(1,12)],2,24⟩,some ⟨.sc,1,8⟩,some ⟨.sc,1,8⟩,some ⟨.sc,1,8⟩,some ⟨.st [(0,17)],1,8⟩,some ⟨.st [(0,17)],1,8⟩,some ⟨.sc,1,16⟩,some ⟨.int .i32,1,4⟩,some ⟨.sc,1,8⟩,some ⟨.st [(0,3),(1,3)],2,16⟩,some ⟨.st [(0,3),(1,3)],2,16⟩,some ⟨.int .i64,1,8⟩,some ⟨.sc,1,0⟩,some ⟨.sc,1,8⟩,some ⟨.sl 38,1,24⟩,some ⟨.sl 41,1,24⟩,some ⟨.st [(0,3),(1,3),(2,24),(4,28),(5,29)],6,80⟩,some ⟨.st [(0,3),(1,3),(2,24),(4,28),(5,29)],6,80⟩,some ⟨.sc,1,8⟩,some ⟨.sc,1,0⟩,some ⟨.sc,1,8⟩,some ⟨.sc,1,8⟩,some ⟨.sc,1,8⟩,some ⟨.st [(0,3),(1,3),(2,24)],4,32⟩,some ⟨.st [(0,3),(1,3),(2,24)],4,32⟩,some ⟨.sc,1,8⟩,some ⟨.st [(0,3),(1,3),(2,24)],4,32⟩,some ⟨.st [(0,3),(1,3),(2,24)],4,32⟩,some ⟨.sc,1,8⟩,some ⟨.sc,1,8⟩,some ⟨.sc,1,8⟩,some ⟨.sc,1,0⟩,some ⟨.sc,1,8⟩,some ⟨.sc,1,8⟩,some ⟨.sc,1,8⟩,some ⟨.sl 3,1,24⟩,some ⟨.sc,1,0⟩,some ⟨.sc,1,8⟩,some ⟨.sc,1,8⟩,some ⟨.sc,1,8⟩,some ⟨.sl 5,1,24⟩,some ⟨.sc,1,8⟩,some ⟨.sc,1,0⟩,some ⟨.sc,1,8⟩,some ⟨.sc,1,8⟩,some ⟨.sc,1,8⟩,some ⟨.sc,1,8⟩,some ⟨.int .u16,1,2⟩,some ⟨.sc,1,8⟩,some ⟨.sc,1,8⟩,some ⟨.sc,1,0⟩,some ⟨.sc,1,8⟩,some ⟨.sc,1,0⟩,some ⟨.sc,1,8⟩,some ⟨.sc,1,8⟩,some ⟨.sc,1,8⟩,some ⟨.sc,1,0⟩,some ⟨.sc,1,8⟩,some ⟨.sc,1,8⟩,some ⟨.sc,1,8⟩,some ⟨.sc,1,8⟩,some ⟨.sl 24,1,24⟩,some ⟨.sc,1,8⟩,some ⟨.mp 124 3,1,8⟩,some ⟨.sc,1,8⟩,some ⟨.sc,1,0⟩,some ⟨.sc,1,8⟩,some ⟨.sc,1,8⟩,some ⟨.sc,1,0⟩,some ⟨.sc,1,8⟩,some ⟨.sc,1,8⟩,some ⟨.sc,1,8⟩,some ⟨.sc,1,8⟩,some ⟨.st [(0,49),(1,49),(2,49),(3,49)],4,96⟩,some ⟨.st [(0,49),(1,49),(2,49),(3,49)],4,96⟩,some ⟨.ar 5 24,10,80⟩,some ⟨.st [(0,31),(6,89)],16,160⟩,some ⟨.st [(0,31),(6,89)],16,160⟩,some ⟨.sc,1,8⟩,some ⟨.sc,1,8⟩,some ⟨.sc,1,8⟩,some ⟨.sc,1,8⟩,some ⟨.sc,1,8⟩,some ⟨.sc,1,8⟩,some ⟨.sc,1,8⟩,some ⟨.sc,1,0⟩,some ⟨.sc,1,8⟩,some ⟨.sc,1,8⟩,some ⟨.sc,1,8⟩,some ⟨.sc,1,8⟩,some ⟨.sc,1,8⟩,some ⟨.sc,1,8⟩,some ⟨.sc,1,8⟩,some ⟨.sc,1,8⟩,some ⟨.sc,1,8⟩,some ⟨.sc,1,8⟩,some ⟨.sc,1,8⟩,some ⟨.sc,1,8⟩,some ⟨.sc,1,0⟩,some ⟨.sc,1,8⟩,some ⟨.sc,1,0⟩,some ⟨.sc,1,8⟩,some ⟨.sc,1,8⟩,some ⟨.sc,1,8⟩,some ⟨.sc,1,8⟩,some ⟨.sc,1,8⟩,some ⟨.sc,1,8⟩,some ⟨.sc,1,8⟩,some ⟨.sc,1,8⟩,some ⟨.sc,1,8⟩,some ⟨.ar 5 3,5,40⟩,some ⟨.sc,1,0⟩,some ⟨.sc,1,8⟩,some ⟨.sc,1,8⟩,some ⟨.sc,1,8⟩,some ⟨.sc,1,8⟩,some ⟨.sc,1,8⟩,some ⟨.sc,1,8⟩,some ⟨.sc,1,8⟩,some ⟨.mp 3 3,1,8⟩,some ⟨.sc,1,8⟩,some ⟨.sc,1,8⟩,some ⟨.st [(0,135),(1,25)],2,16⟩,some ⟨.st [(0,135),(1,25)],2,16⟩,some ⟨.ar 6 137,12,96⟩,some ⟨.sc,1,8⟩,some ⟨.sc,1,8⟩,some ⟨.sl 137,1,24⟩,some ⟨.sc,1,8⟩,some ⟨.sc,1,8⟩,some ⟨.sc,1,8⟩,some ⟨.sc,1,8⟩,some ⟨.sc,1,8⟩,some ⟨.sc,1,8⟩,some ⟨.sc,1,8⟩,some ⟨.sc,1,8⟩,some ⟨.sc,1,8⟩,some ⟨.sc,1,8⟩,some ⟨.sc,1,8⟩,some ⟨.sc,1,8⟩,some ⟨.sc,1,8⟩,some ⟨.sc,1,8⟩,some ⟨.sc,1,8⟩,some ⟨.sc,1,8⟩,some ⟨.sc,1,8⟩,some ⟨.sc,1,8⟩,some ⟨.sc,1,8⟩,some ⟨.sc,1,8⟩,some ⟨.sc,1,8⟩,some ⟨.sc,1,8⟩,some ⟨.sc,1,8⟩,some ⟨.sc,1,0⟩,some ⟨.sc,1,8⟩,some ⟨.sc,1,8⟩,some ⟨.sc,1,8⟩,some ⟨.sc,1,8⟩,some ⟨.sc,1,8⟩,some ⟨.mp 172 3,1,8⟩,some ⟨.ar 5 3,5,40⟩,some ⟨.sc,1,8⟩,some ⟨.sc,1,8⟩,some ⟨.sc,1,8⟩,some ⟨.sc,1,8⟩,some ⟨.sc,1,8⟩,some ⟨.sc,1,8⟩,some ⟨.sc,1,8⟩,some ⟨.sc,1,8⟩,some ⟨.sc,1,8⟩,some ⟨.sc,1,8⟩,some ⟨.sc,1,8⟩,some ⟨.sc,1,8⟩,some ⟨.sc,1,8⟩,some ⟨.sc,1,8⟩,some ⟨.sc,1,8⟩,some ⟨.sc,1,8⟩,some ⟨.sc,1,8⟩,some ⟨.sc,1,8⟩,some ⟨.sc,1,8⟩,some ⟨.st [(0,17),(1,17),(2,17),(3,9)],4,40⟩,some ⟨.st [(0,17),(1,17),(2,17),(3,9)],4,40⟩,some ⟨.ar 0 16,0,0⟩,some ⟨.st [(0,194)],0,0⟩,some ⟨.st [(0,194)],0,0⟩,some ⟨.sc,1,8⟩,some ⟨.int .u32,1,4⟩,some ⟨.int .u8,1,1⟩,some ⟨.int .u8,1,1⟩,some ⟨.sc,1,8⟩,some ⟨.sc,1,8⟩,some ⟨.int .i32,1,4⟩,some ⟨.int .i32,1,4⟩,some ⟨.st [(0,12),(1,12),(2,198),(3,199),(4,5),(5,5),(6,200),(7,201),(8,202),(9,203),(10,204)],11,48⟩,some ⟨.st [(0,12),(1,12),(2,198),(3,199),(4,5),(5,5),(6,200),(7,201),(8,202),(9,203),(10,204)],11,48⟩,some ⟨.sc,1,8⟩]
set_option maxRecDepth 100000 in
theorem te_all : (List.range TE.length).all (fun T=>match TE[T]? with | some (some ti)=>decide (tiOf Tryz.prog T = some ti) | _=>true)=true:=by kernel_rfl
theorem te {T : Nat} {ti : TI} (h : TE[T]? = some (some ti)) : tiOf Tryz.prog T = some ti:=by
 have h1:=(List.getElem?_eq_some_iff.1 h).1
 have h2:=List.all_eq_true.1 te_all T (List.mem_range.2 h1)
 rw [h] at h2
 exact of_decide_eq_true h2
theorem el22 : ElT Tryz.prog 75 24 2 16:=⟨Tryz.underlying75,Tryz.t24,.agg #[.int .i64 0,.int .i64 0],by kernel_rfl,by kernel_rfl,by kernel_rfl,by kernel_rfl,rfl⟩
theorem el55 : ElT Tryz.prog 49 3 1 8:=⟨Tryz.underlying49,Tryz.t3,.int .i64 0,by kernel_rfl,by kernel_rfl,by kernel_rfl,by kernel_rfl,rfl⟩
theorem mixed : Tryz.prog.follows .mixedOrders = true:=by kernel_rfl
set_option maxRecDepth 10000
structure Sp where
 lo : Int
 hi : Int
structure Bx where
 id : Int
 made : Int
structure Mt where
 number : Int
 month : Int
 a : Int
 b : Int
 lo : Int
 hi : Int
structure Rm where
 months : Int
 step : Int
 ages : List Sp
 boxes : List Bx
 mats : List Mt
def cSp (s : Sp) : List Value:=[.int .i64 s.lo,.int .i64 s.hi]
def cBx (s : Bx) : List Value:=[.int .i64 s.id,.int .i64 s.made]
def cMt (s : Mt) : List Value:=[.int .i64 s.number,.int .i64 s.month,.int .i64 s.a,.int .i64 s.b,.int .i64 s.lo,.int .i64 s.hi]
/-- where a room's lists lie -/
structure Pl where
 a1 : Option Addr
 c1 : Nat
 a2 : Option Addr
 c2 : Nat
 a3 : Option Addr
 c3 : Nat
structure RmOk (H : List Row) (R : Rm) (p : Pl) : Prop where
 ages : SlE H p.a1 cSp 2 R.ages
 boxes : SlE H p.a2 cBx 2 R.boxes
 mats : SlE H p.a3 cMt 6 R.mats
 l1 : R.ages.length ≤ 9223372036854775807
 l2 : R.boxes.length ≤ 9223372036854775807
 l3 : R.mats.length ≤ 9223372036854775807
theorem RmOk.sub {H H' : List Row} {R : Rm} {p : Pl} (h : RmOk H R p) (hs : ∀ r ∈ H,r ∈ H') : RmOk H' R p:=⟨h.ages.sub hs,h.boxes.sub hs,h.mats.sub hs,h.l1,h.l2,h.l3⟩
theorem drop_cons {α : Type} {l : List α} {k : Nat} {e : α} (h : l[k]? = some e) : l.drop k = e::l.drop (k + 1):=by
 obtain ⟨h1,h2⟩:=List.getElem?_eq_some_iff.1 h
 rw [List.drop_eq_getElem_cons h1,h2]
theorem one_sp (e : Sp) : (cSp e).all (·.oneCell') = true:=rfl
def cI (x : Int) : List Value:=[.int .i64 x]
/-- two lists of numbers are compared -/
theorem take_snoc {α : Type} {l : List α} {k : Nat} {e : α} (h : l[k]? = some e) : l.take (k + 1)=l.take k++[e]:=by
 rw [List.take_add_one,h];rfl
theorem lenI (l : List Int) : (l.flatMap cI).length = l.length * 1:=flat_len (fun _ _=>rfl)
end Go.Proofs.YtbpcbdbclijomaaGreat
namespace Go.Fw
open Go
section
variable {P : Program} {H : List Row} {n : Nat} {F : FS} {o : Oper}
theorem EvF.eqSt {op : BinOp} {T T' : TypeId} {x y : Operand} {xs ys : Array Value} {r b : Bool} (h : o.op = .binOp op T x y T') (hx : evF F x = some (.agg xs)) (hy : evF F y = some (.agg ys)) (hm : P.eqGuardType P.depth T = false)
  (hE : ∀ w,(Op.equalIn 10000 T (.agg xs) (.agg ys)).run P w = .ok r w) (hb : (match (generalizing:=false) op with | .eql=>some r | .neq=>some (!r) | _=>none)=some b) : EvF P n H F o (.bool b):=by
 unfold EvF EvOp;intro t ha B w0 w hS
 have ex:=ha.ev hx
 have ey:=ha.ev hy
 cases op <;> simp only [Option.some.injEq,reduceCtorEq] at hb <;> subst hb
 ·simp [execOp,h,ex,ey,run_eqGuard_agg w _ T x y xs ys hm,run_eql_struct w T xs ys,hE]
 ·simp [execOp,h,ex,ey,run_eqGuard_agg w _ T x y xs ys hm,run_neq_struct w T xs ys,hE]
end
end Go.Fw
namespace Go.Proofs.YtbpcbdbclijomaaGreat
open Go Go.Fw
noncomputable instance : DecidableEq Sp:=fun _ _=>Classical.propDecidable _
noncomputable instance : DecidableEq Bx:=fun _ _=>Classical.propDecidable _
noncomputable instance : DecidableEq Mt:=fun _ _=>Classical.propDecidable _
noncomputable instance : DecidableEq Rm:=fun _ _=>Classical.propDecidable _
theorem eqI (d : Nat) (a b : Int) (w : World) : (Op.equalIn (d + 1) 3 (.int .i64 a) (.int .i64 b)).run Tryz.prog w = .ok (decide (a = b)) w:=by
 rw [run_equalIn_int w d 3 .i64 .i64 a b (by kernel_rfl)]
 by_cases h : a = b <;> simp [h]
theorem eqSp (d : Nat) (e f : Sp) (w : World) : (Op.equalIn (d + 2) 24 (.agg (cSp e).toArray) (.agg (cSp f).toArray)).run Tryz.prog w = .ok (decide (e = f)) w:=by
 have hS : Tryz.prog.underlying 24 = some (.struct (Tryz.prog.fieldsOf 24)):=by kernel_rfl
 rw [run_equalIn_agg w (d + 1) 24 _ _ hS (by kernel_rfl)]
 simp only [Program.fieldsOf,Tryz.underlying24]
 go_simp
 obtain ⟨e1,e2⟩:=e
 obtain ⟨f1,f2⟩:=f
 by_cases h1 : e1 = f1 <;> by_cases h2 : e2 = f2 <;> simp [cSp,eqI,Result.andThen,h1,h2]
set_option maxRecDepth 10000
theorem Rm.ext' {R S : Rm} (h1 : R.months = S.months) (h2 : R.step = S.step) (h3 : R.ages = S.ages) (h4 : R.boxes = S.boxes) (h5 : R.mats = S.mats) : R = S:=by
 cases R;cases S;simp_all
def wout (R : Rm) (l : List Int) (k : Nat) : List Mt:=(R.mats.take k).filter (fun m=>decide (m.number ∉ l))
end Go.Proofs.YtbpcbdbclijomaaGreat
namespace Go.Fw
open Go
def udF (ops : List Oper) (F : FS) (j : Nat) : Bool :=
 match opAt ops j with
 | some o=>match o.dst with
  | some d=>match lk F d with
   | some (.tuple _)=>true
   | _=>false
  | none=>false
 | none=>false
theorem udF_eq {n : Nat} {ops : Array Oper} {F : FS} {t : List Value} {j : Nat} (ha : Ag n F t) (h : udF ops.toList F j = true) : yielded ops t.toArray j = none:=by
 unfold udF at h
 unfold yielded
 cases ho : opAt ops.toList j with
 | none=>rw [ho] at h;cases h
 | some o =>
  rw [ho] at h
  simp only at h
  have:=opAt_arr ho
  rw [this]
  cases hd : o.dst with
  | none=>rw [hd] at h;cases h
  | some d =>
   rw [hd] at h
   simp only at h
   simp only [Option.bind_some,hd,List.getElem?_toArray]
   cases ht : lk F d with
   | none=>rw [ht] at h;cases h
   | some v=>rw [ha.2 d v ht];rw [ht] at h;cases v <;> simp_all
theorem ud_wanted {n : Nat} {ops : Array Oper} {F : FS} {t : List Value} {o : Oper} {j : Nat} {w : Bool} (hg : o.guard = some (j,w)) (ha : Ag n F t) (h : udF ops.toList F j = true) : Region.wanted o (yielded ops t.toArray)=false:=by
 unfold Region.wanted
 rw [hg]
 simp only [udF_eq ha h]
 rfl
section
variable {P : Program} {n : Nat} {ops : Array Oper} {i : Nat} {o : Oper} {F : FS} {H : List Row}
theorem Xo.sk {N : FS → List Row → Prop} {j d : Nat} {w : Bool} (hg : o.guard = some (j,w)) (hy : udF ops.toList F j = true) (hx : o.dst = some d) (hd : Nat.blt d n = true) (k : XO P n ops (i + 1) ((d,undef)::F) H N) : Xo P n ops i o F H N:=by
 unfold Xo XO
 unfold XO at k
 exact fun ho t ha=>WO.skip ho (ud_wanted hg ha hy) (k _ (hx ▸ ha.put (d:=some d) hd _))
end
end Go.Fw
namespace Go.Proofs.YtbpcbdbclijomaaGreat
open Go Go.Fw
set_option maxRecDepth 10000
/-- a room's lists lie in memory that is new -/
def struck (R : Rm) (l : List Int) : Rm:={ R with mats:=wout R l R.mats.length }
theorem sleNil {α : Type} {H : List Row} {a : Option Addr} {enc : α → List Value} {sz : Nat} : SlE H a enc sz []:=by
 unfold SlE
 exact ⟨fun _ h=>absurd h List.not_mem_nil,fun h=>absurd h (Nat.lt_irrefl 0)⟩
/-- numbers that rise, from above a number -/
def rises : Int → List Int → Prop
 | _,[]=>True
 | p,n::t=>p < n∧rises n t
def lastOf : Int → List Int → Int
 | p,[]=>p
 | _,n::t=>lastOf n t
def risesOk (l : List Int) : Prop:=rises 0 l∧lastOf 0 l ≤ 9999
noncomputable instance (l : List Int) : Decidable (risesOk l):=Classical.propDecidable _
theorem rising_spec (l : List Int) (a : Option Addr) (c : Nat) (H : List Row) (hl : SlE H a cI 1 l) (hb : l.length ≤ 9223372036854775807) : Fc Tryz.prog 113 [.slice a l.length c] H (fun v H' => v = .bool (decide (risesOk l))∧H' = H):=by
 refine Fc.mk (callable Tryz.call113) Tryz.func113 rfl Tryz.ntmps113 rfl ?_;dsimp only [fr]
 repeat' (first | (refine uP rfl ?_;(first | ((first | refine uN rfl ?_);(first | (refine uE (uM rfl rfl) rfl rfl ?_)|(refine uE (uA rfl rfl) rfl rfl ?_)|(refine uE (uQ rfl rfl rfl rfl) rfl rfl ?_)|(refine uE (uY rfl rfl (te rfl)) rfl rfl ?_)))))|(refine uD rfl ?_;refine hK _ _ ?_;clear hK K) | refine uS rfl ?_ | refine uR rfl (fun K hK=>?_) | refine X.block rfl ?_ | (refine X.brk rfl ?_;repeat (first | refine blockX_hit rfl ?_ | refine blockX_miss (by decide) ?_)) | refine X.skip rfl ?_ | refine X.ret rfl ?_ | (refine X.ite rfl rfl (fun hc=>?_);(first | (with_reducible refine Xb.case hc (fun h=>?_) (fun h=>?_))) <;> clear hc))
 refine X.lp rfl (fun q F' H' => ∃ (k : Nat) (last : Int),q = l.length - k∧k ≤ l.length∧(risesOk l ↔ rises last (l.drop k)∧lastOf last (l.drop k)≤9999)∧H = H' ∧
   F' = [(3,.int .i64 last),(6,.slice a l.length c),(7,.int .i64 l.length),(8,.int .i64 k)])
  l.length [(3,.int .i64 0),(6,.slice a l.length c),(7,.int .i64 l.length),(8,.int .i64 (0 : Nat))] _ (by repeat (first | exact uU _ | refine uV rfl ?_)) (by repeat (first | exact qR _ | apply qK | apply qC)) ⟨0,0,by omega,by omega,by simp [risesOk],rfl,rfl⟩ ?_
 rintro _ _ _ ⟨k,last,rfl,hk,hn,rfl,rfl⟩
 repeat' (first | (refine uP rfl ?_;(first | ((first | refine uN rfl ?_);(first | (refine uE (uM rfl rfl) rfl rfl ?_)|(refine uE (uA rfl rfl) rfl rfl ?_)|(refine uE (uQ rfl rfl rfl rfl) rfl rfl ?_)|(refine uE (uY rfl rfl (te rfl)) rfl rfl ?_)))))|(refine uD rfl ?_;refine hK _ _ ?_;clear hK K) | refine uS rfl ?_ | refine uR rfl (fun K hK=>?_) | refine X.block rfl ?_ | (refine X.brk rfl ?_;repeat (first | refine blockX_hit rfl ?_ | refine blockX_miss (by decide) ?_)) | refine X.skip rfl ?_ | refine X.ret rfl ?_ | (refine X.ite rfl rfl (fun hc=>?_);(first | (with_reducible refine Xb.case hc (fun h=>?_) (fun h=>?_))) <;> clear hc))
 ·obtain ⟨b,off,e,rfl,he⟩:=hl.elem (i:=k) (by omega)
  rw [drop_cons he] at hn
  repeat' (first | (refine uP rfl ?_;(first | ((first | refine uN rfl ?_);(first | (refine uE (uL rfl rfl (LoadV.el0 hl he (te rfl) rfl (fun _ hm=>hm) rfl)) rfl rfl ?_)|(refine uE (uM rfl rfl) rfl rfl ?_)|(refine uE (uA rfl rfl) rfl rfl ?_)|(refine uE (uQ rfl rfl rfl rfl) rfl rfl ?_)|(refine uE (EvF.add64 rfl rfl rfl (by omega) (by omega)) rfl rfl ?_)|(refine uE (uJ rfl rfl rfl (te rfl) (te rfl) (by omega) (by omega)) rfl rfl ?_)))))|(refine uD rfl ?_;refine hK _ _ ?_;clear hK K) | refine uS rfl ?_ | refine uR rfl (fun K hK=>?_) | refine X.skip rfl ?_ | refine X.ret rfl ?_ | (refine X.ite rfl rfl (fun hc=>?_);(first | (with_reducible refine Xb.case hc (fun h=>?_) (fun h=>?_))) <;> clear hc))
  ·refine ret_one (by simp) Tryz.results113 rfl (H' := H) (by (repeat (first | exact qR _ | apply qC));done) ?_;simp only [and_true,true_and]
   congr 1;symm;exact decide_eq_false (fun q=>by have:=(hn.1 q).1.1;omega)
  ·refine ⟨_,_,_,(by repeat (first | exact uU _ | refine uV rfl ?_)),(by (repeat (first | exact qR _ | apply qC));done),⟨k + 1,e,rfl,by omega,hn.trans ⟨fun q=>⟨q.1.2,q.2⟩,fun q=>⟨⟨by omega,q.1⟩,q.2⟩⟩,rfl,rfl⟩,by omega⟩
 ·rw [List.drop_eq_nil_of_le (by omega)] at hn
  refine ret_one (by simp) Tryz.results113 rfl (H' := H) (by (repeat (first | exact qR _ | apply qC));done) ?_;simp only [and_true,true_and]
  congr 1;symm
  exact decide_eq_decide.2 ⟨fun q=>(hn.1 q).2,fun q=>hn.2 ⟨trivial,q⟩⟩
end Go.Proofs.YtbpcbdbclijomaaGreat
namespace Go.Fw
open Go Go.RowKit
def bv : Value → Option Bool
 | .bool b=>some b
 | _=>none
theorem yielded_bv {ops : Array Oper} {t : List Value} {j d : Nat} {o : Oper} {v : Value} (ho : ops[j]? = some o) (hd : o.dst = some d) (hv : t[d]? = some v) : yielded ops t.toArray j = bv v:=by
 unfold yielded
 simp only [ho,Option.bind_some,hd,List.getElem?_toArray,hv]
 cases v <;> rfl
def okOp2 (ts : List TOp) (dom : List Nat) (n m : Nat) (i : Nat) (o : Oper) : Bool :=
 let T:=tAt ts i
 (match o.guard with | some (j,_)=>T.sup.contains j | none=>true) && (o.dst == T.dst) &&
 (match T.dst with | some d=>decide (d < n) && !dom.contains d && (List.range i).all (fun j=>(tAt ts j).dst != some d) | none=>true) &&
 o.after.toList.all (fun e => !Region.binds .any e || decide (e.on < i)) &&
 T.sup.all (fun j=>decide (j < i) && o.after.toList.any (fun e=>Region.binds .any e && (e.on == j || (tAt ts e.on).sup.contains j))) &&
 T.deps.all (fun j=>T.sup.contains j) && T.kills.all (fun k=>T.sup.contains k || decide (m ≤ k∧k < ts.length))
def okReg2 (ops : Array Oper) (ts : List TOp) (dom : List Nat) (n : Nat) : Bool :=
 decide (ops.size ≤ ts.length) && ops.toList.zipIdx.all (fun p=>okOp2 ts dom n ops.size p.2 p.1) && decide ((ts.flatMap (·.kills)).Nodup) && (ts.drop ops.size).all (fun T=>T.kills.isEmpty && T.sup.isEmpty)
/-- An operation, whatever it does: a value, a turn of the rows, or a call. -/
def OpF (P : Program) (n : Nat) (H : List Row) (F : FS) (o : Oper) (K : Value → List Row → Prop) : Prop := ∀ t,Ag n F t → ∀ ρ ds B w0 w,St B w0 H w → ∀ (k : Act → World → Prop) (Q : Exit → Act → World → Prop),
 (∀ v w' H',St B w0 H' w' → K v H' → k ⟨(put t o.dst v).toArray,ds⟩ w') → o.wpIn (wf ρ) 0 P ⟨t.toArray,ds⟩ w k Q
theorem StF.op {P : Program} {n : Nat} {H : List Row} {F : FS} {o : Oper} {K : Value → List Row → Prop} (h : StF P n H F o K) : OpF P n H F o K:=by
 intro t ha ρ ds B w0 w hS k Q hk
 unfold StF StepOp at h
 obtain ⟨v,w',H',hrun,hS',hK⟩:=h t ha B w0 w hS
 unfold Oper.wpIn
 refine ⟨fun _ _=>trivial,?_⟩
 rw [eval_ev]
 rcases hrun with hrun | ⟨hrun,rfl⟩
 ·rw [sem_value hrun,Oper.uponIn_value,put_act];exact hk v w' H' hS' hK
 ·rw [sem_skip hrun,Oper.uponIn_skip,put_act];exact hk undef w' H' hS' hK
theorem OpF.call {P : Program} {n : Nat} {H : List Row} {F : FS} {o : Oper} {f : FuncId} {args : List Value} {R : Value → List Row → Prop} (he : Callable P f → EnF P n H F o f args) (hf : Fc P f args H R) : OpF P n H F o R:=by
 intro t ha ρ ds B w0 w hS k Q hk
 unfold Fc at hf
 have h1:=he hf.1
 unfold EnF EnOp at h1
 unfold Oper.wpIn
 refine ⟨fun _ _=>trivial,?_⟩
 rw [eval_ev,sem_enter (h1 t ha B w0 w hS),Oper.uponIn_enter]
 refine ⟨(fun h=>by cases h),wf_calls.2 ((hf.2 B w0 w hS).mono ?_)⟩
 rintro e w' ⟨v,H',rfl,hR,hS'⟩
 simp only [put_act]
 exact hk v w' H' hS' hR
theorem OpF.mono {P : Program} {n : Nat} {H : List Row} {F : FS} {o : Oper} {K K' : Value → List Row → Prop} (h : OpF P n H F o K) (hk : ∀ v H',K v H' → K' v H') : OpF P n H F o K' :=
 fun t ha ρ ds B w0 w hS k Q hQ=>h t ha ρ ds B w0 w hS k Q (fun v w' H' hS' hK=>hQ v w' H' hS' (hk v H' hK))
theorem OpF.drop {P : Program} {n : Nat} {H : List Row} {F : FS} {o : Oper} {K K' : Value → List Row → Prop} (h : OpF P n H F o K) (hk : ∀ v H',K v H' → ∃ H'',H''.Sublist H'∧K' v H'') : OpF P n H F o K' :=
 fun t ha ρ ds B w0 w hS k Q hQ=>h t ha ρ ds B w0 w hS k Q (fun v w' H' hS' hK=>let ⟨H'',hs,hK'⟩:=hk v H' hK;hQ v w' H'' (hS'.sub hs) hK')
/-- a call whose result alone is kept -/
theorem OpF.callV {P : Program} {n : Nat} {Z R : List Row} {F : FS} {o : Oper} {f : FuncId} {args : List Value} {v0 : Value} {g : Nat × Nat → Value} {q : Prop} {rw' : Nat × Nat → List Row} (he : Callable P f → EnF P n (Z++R) F o f args) (hf : Fc P f args (Z++R) (fun v H' => v = v0∧H' = Z++R)) (hv : v0 = g (0,0)) (hr : rw' (0,0) = []) :
  OpF P n (Z++R) F o (fun u H' => ∃ p,(q → u = g p)∧H'.Perm (rw' p++R)) :=
 (OpF.call he hf).drop fun v H' ⟨h1,h2⟩=>⟨R,by rw [h2];exact List.sublist_append_right _ _,(0,0),fun _=>h1.trans hv,by rw [hr];exact List.Perm.refl _⟩
def gt (g : Bool) (v : Value) : Value:=match g with | true=>undef | false=>v
def gr (g : Bool) (l : List Row) : List Row:=match g with | true=>[] | false=>l
def Ob (P : Program) (n : Nat) (ts : List TOp) (val : Nat → Env → Value) (rows : Nat → Env → List Row) (F0 : FS) (R0 : List Row) (i : Nat) (o : Oper) : Prop :=
 ((o.guard = none ∨ ∃ j w,o.guard = some (j,w)∧(tAt ts j).dst ≠ none ∧ ∀ env,bv (val j env)=some w) ∧
  ∀ env R,(∀ r ∈ R0,r ∈ R) → OpF P n ((tAt ts i).kills.flatMap (fun k=>rows k env)++R) (fdeps ts val env F0 (tAt ts i).deps) o
   (fun v H' => ∃ p,((tAt ts i).dst ≠ none → v = val i (upd env i p))∧H'.Perm (rows i (upd env i p)++R))) ∨
 (∃ j w,o.guard = some (j,w)∧(tAt ts j).dst ≠ none∧(∀ env,bv (val j env) ≠ some w)∧(∀ env,(tAt ts i).kills.flatMap (fun k=>rows k env) = [])∧(∀ env,val i env = undef) ∧ ∀ env,rows i env = [])
def ObR (P : Program) (n : Nat) (ts : List TOp) (rd : Nat → List Nat) (val : Nat → Env → Value) (rows : Nat → Env → List Row) (F0 : FS) (R0 : List Row) (i : Nat) (o : Oper) : Prop :=
 ((o.guard = none ∨ ∃ j w,o.guard = some (j,w)∧(tAt ts j).dst ≠ none ∧ ∀ env,bv (val j env)=some w) ∧
  ∀ env R,(∀ r ∈ R0,r ∈ R) → (∀ k ∈ rd i,∀ r ∈ rows k env,r ∈ R) → OpF P n ((tAt ts i).kills.flatMap (fun k=>rows k env)++R) (fdeps ts val env F0 (tAt ts i).deps) o
   (fun v H' => ∃ p,((tAt ts i).dst ≠ none → v = val i (upd env i p))∧H'.Perm (rows i (upd env i p)++R))) ∨
 (∃ j w,o.guard = some (j,w)∧(tAt ts j).dst ≠ none∧(∀ env,bv (val j env) ≠ some w)∧(∀ env,(tAt ts i).kills.flatMap (fun k=>rows k env) = [])∧(∀ env,val i env = undef) ∧ ∀ env,rows i env = [])
theorem Ob.toR {P : Program} {n : Nat} {ts : List TOp} {rd : Nat → List Nat} {val : Nat → Env → Value} {rows : Nat → Env → List Row} {F0 : FS} {R0 : List Row} {i : Nat} {o : Oper} (h : Ob P n ts val rows F0 R0 i o) : ObR P n ts rd val rows F0 R0 i o:=by
 rcases h with ⟨h1,h2⟩ | h
 ·exact .inl ⟨h1,fun env R hR _=>h2 env R hR⟩
 ·exact .inr h
/-- what operations read, though others take it away: these come after -/
def okRd (ts : List TOp) (rd : Nat → List Nat) (m : Nat) : Bool :=
 (List.range m).all fun i=>(rd i).all fun k=>((tAt ts i).sup.contains k || decide (m ≤ k∧k < ts.length)) && !(tAt ts i).kills.contains k && (List.range m).all fun j => !(tAt ts j).kills.contains k || (tAt ts j).sup.contains i
theorem wpAny_ob {P : Program} {n : Nat} {ops : Array Oper} {ts : List TOp} {dom : List Nat} {F0 : FS} (hd : F0.map (·.1)=dom) (hok : okReg2 ops ts dom n = true) (rd : Nat → List Nat) (hrd : okRd ts rd ops.size = true) (val : Nat → Env → Value) (rows : Nat → Env → List Row)
  (hloc : ∀ k env i p,i ≠ k → (tAt ts k).sup.contains i = false → val k (upd env i p)=val k env∧rows k (upd env i p)=rows k env)
  (R0 : List Row) (hob : ∀ i o,opAt ops.toList i = some o → ObR P n ts rd val rows F0 R0 i o)
  {Q : QT} (hQ : ∀ env t,Ag n F0 t → (∀ i d,i < ops.size → (tAt ts i).dst = some d → t[d]? = some (val i env)) → Q .normal t ((alive ts).flatMap (fun k=>rows k env)++R0))
  {ρ : Option Nat} {ds : List Deferred} {B : Nat} {w0 : World} :
  ∀ (fuel : Nat) (listed : Array Bool) (U A : List Nat) (t : List Value) (H : List Row) (w : World) (env : Env),listed.size = ops.size → U.length = fuel → U.Nodup → (∀ k,k ∈ U ↔ k < ops.size∧listed.getD k true = false) →
   (∀ k,k < ops.size → listed.getD k true = true → ∀ j,(tAt ts k).sup.contains j = true → listed.getD j true = true) →
   A.Nodup → (∀ k,k ∈ A ↔ k < ts.length∧listed.getD k true = true ∧ ∀ j,j < ops.size → listed.getD j true = true → k ∉ (tAt ts j).kills) →
   Ag n F0 t → (∀ k d,k < ops.size → listed.getD k true = true → (tAt ts k).dst = some d → t[d]? = some (val k env)) →
   St B w0 H w → H.Perm (R0++A.flatMap (fun k=>rows k env)) → wpAnyIn (wf ρ) 0 P .any ops (lift ds B w0 Q) fuel listed ⟨t.toArray,ds⟩ w:=by
 unfold okReg2 at hok
 simp only [Bool.and_eq_true,decide_eq_true_eq] at hok
 obtain ⟨⟨⟨hlen,hops⟩,hkn⟩,hps⟩:=hok
 have hopAt : ∀ i o,ops[i]? = some o → okOp2 ts dom n ops.size i o = true:=by
  intro i o hi
  have:=List.all_eq_true.1 hops (o,i) (by
   rw [List.mem_zipIdx_iff_getElem?];simpa using hi)
  exact this
 intro fuel
 induction fuel with
 | zero =>
  intro listed U A t H w env hls hUl hUn hU hcl hAn hA hag hv hS hH
  have hU0 : U = []:=List.eq_nil_of_length_eq_zero hUl
  subst hU0
  have hall : ∀ k,listed.getD k true = true:=by
   intro k
   cases hk : listed.getD k true with
   | true=>rfl
   | false =>
    by_cases h1 : k < ops.size
    ·exact absurd ((hU k).2 ⟨h1,hk⟩) (by simp)
    ·rw [Array.getD_eq_getD_getElem?,Array.getElem?_eq_none (by omega)] at hk;cases hk
  refine ⟨?_,rfl,_,?_,hS.perm (H' := (alive ts).flatMap (fun k=>rows k env)++R0) ?_⟩
  ·unfold Region.ready
   rw [List.filter_eq_nil_iff]
   intro k _
   rw [hall];simp
  ·have:=hQ env t hag (fun i d hi hd=>hv i d hi (hall i) hd)
   simpa using this
  ·refine List.perm_append_comm.trans ((List.Perm.append_left R0 (List.Perm.flatMap_right _ ?_)).trans hH.symm)
   refine perm_of_mem ((List.nodup_range).sublist List.filter_sublist) hAn fun k=>?_
   rw [hA,alive,List.mem_filter,List.mem_range]
   simp only [hall,true_and,Bool.not_eq_true',List.contains_eq_mem,decide_eq_false_iff_not,true_implies]
   refine and_congr_right fun _=>⟨fun h j _ hj=>h (tAt_mem hj),fun h hm=>?_⟩
   obtain ⟨T,hT,hk⟩:=List.mem_flatMap.1 hm
   obtain ⟨j,hj,rfl⟩:=List.mem_iff_getElem.1 hT
   by_cases hj' : j < ops.size
   ·exact h j hj' (by unfold tAt;simp [List.getD,hj,hk])
   ·have:=List.all_eq_true.1 hps ts[j] (by
     rw [List.mem_iff_getElem?]
     exact ⟨j - ops.size,by rw [List.getElem?_drop,show ops.size + (j - ops.size)=j by omega,List.getElem?_eq_getElem hj]⟩)
    simp only [Bool.and_eq_true,List.isEmpty_iff] at this
    rw [this.1] at hk;cases hk
 | succ fuel ih =>
  intro listed U A t H w env hls hUl hUn hU hcl hAn hA hag hv hS hH
  have hge : ∀ k,ops.size ≤ k → listed.getD k true = true:=fun k hk=>by rw [Array.getD_eq_getD_getElem?,Array.getElem?_eq_none (by omega)];rfl
  have hgd : ∀ k,k < ops.size → listed.getD k false = listed.getD k true:=fun k hk=>by
   rw [Array.getD_eq_getD_getElem?,Array.getD_eq_getD_getElem?,Array.getElem?_eq_getElem (by omega)];rfl
  refine ⟨fun h0=>?_,fun i hi=>?_⟩
  ·exfalso
   have key : ∀ m,m ∈ U → False:=by
    intro m
    induction m using Nat.strongRecOn with
    | _ m ihm =>
     intro hm
     obtain ⟨hms,hml⟩:=(hU m).1 hm
     obtain ⟨o,ho⟩ : ∃ o,ops[m]? = some o:=⟨ops[m],Array.getElem?_eq_getElem hms⟩
     have hc:=hopAt m o ho
     unfold okOp2 at hc
     simp only [Bool.and_eq_true] at hc
     obtain ⟨⟨⟨⟨_,haf⟩,_⟩,_⟩,_⟩:=hc
     by_cases hal : o.after.all (fun e => !Region.binds .any e || listed.getD e.on false)=true
     ·have : m ∈ Region.ready .any ops listed:=by
       unfold Region.ready
       rw [List.mem_filter]
       refine ⟨List.mem_range.2 hms,?_⟩
       rw [hml,ho]
       simp only [Option.map_some,Option.getD_some,Bool.not_false,Bool.true_and]
       exact hal
      rw [h0] at this;cases this
     ·have : ∃ e ∈ o.after, ¬ ((!Region.binds .any e || listed.getD e.on false)=true):=by
       rw [Array.all_eq_true_iff_forall_mem] at hal
       simpa using hal
      obtain ⟨e,he,hne⟩:=this
      have h1:=List.all_eq_true.1 haf e (Array.mem_toList_iff.2 he)
      simp only [Bool.or_eq_true,Bool.not_eq_true',not_or,Bool.not_eq_false,Bool.not_eq_true] at hne h1
      have h2 : e.on < m:=by
       rcases h1 with h1 | h1
       ·rw [hne.1] at h1;cases h1
       ·simpa using h1
      refine ihm e.on h2 ((hU e.on).2 ⟨by omega,?_⟩)
      rw [← hgd e.on (by omega)];exact hne.2
   cases U with
   | nil=>simp at hUl
   | cons u U=>exact key u (List.mem_cons_self ..)
  ·unfold Region.ready at hi
   rw [List.mem_filter,List.mem_range] at hi
   obtain ⟨his,hi2⟩:=hi
   obtain ⟨o,ho⟩ : ∃ o,ops[i]? = some o:=⟨ops[i],Array.getElem?_eq_getElem his⟩
   simp only [ho,Option.map_some,Option.getD_some,Bool.and_eq_true,Bool.not_eq_true'] at hi2
   obtain ⟨hil,hia⟩:=hi2
   have hc:=hopAt i o ho
   unfold okOp2 at hc
   simp only [Bool.and_eq_true] at hc
   obtain ⟨⟨⟨⟨⟨⟨hgu,hdst⟩,hds⟩,haf⟩,hsup⟩,hdeps⟩,hkil⟩:=hc
   have hdst' : o.dst = (tAt ts i).dst:=by simpa using hdst
   rw [Array.all_eq_true_iff_forall_mem] at hia
   have hson : ∀ j,(tAt ts i).sup.contains j = true → j < i∧listed.getD j true = true:=by
    intro j hj
    have h1:=List.all_eq_true.1 hsup j (by simpa using hj)
    simp only [Bool.and_eq_true,decide_eq_true_eq,List.any_eq_true] at h1
    obtain ⟨hji,e,he',hb,h2⟩:=h1
    have he:=Array.mem_toList_iff.1 he'
    refine ⟨hji,?_⟩
    have h3:=hia e he
    rw [hb] at h3
    have h4:=List.all_eq_true.1 haf e he'
    rw [hb] at h4
    simp only [Bool.not_true,Bool.false_or,decide_eq_true_eq] at h3 h4
    rw [hgd e.on (by omega)] at h3
    simp only [Bool.or_eq_true,beq_iff_eq] at h2
    rcases h2 with h2 | h2
    ·rw [← h2];exact h3
    ·exact hcl e.on (by omega) h3 j h2
   have hks : ∀ k ∈ (tAt ts i).kills,k ∈ A:=by
    intro k hk
    rw [hA]
    have h1:=List.all_eq_true.1 hkil k hk
    simp only [Bool.or_eq_true,decide_eq_true_eq] at h1
    refine ⟨?_,?_,fun j hj hjl hkj=>?_⟩
    ·rcases h1 with h1 | h1
     ·have:=(hson k h1).1;omega
     ·omega
    ·rcases h1 with h1 | h1
     ·exact (hson k h1).2
     ·exact hge k h1.1
    ·have:=kills_once hkn hk hkj
     subst this
     rw [hil] at hjl;cases hjl
   have hkin : (tAt ts i).kills.Nodup:=by
    unfold tAt List.getD
    cases hti : ts[i]? with
    | none=>simp
    | some T =>
     simp only [Option.getD_some]
     exact kills_nodup hkn (List.mem_of_getElem? hti)
   obtain ⟨A',hp,hA'n,hA'm⟩:=take_out _ A hkin hAn hks
   have hH1 : ((tAt ts i).kills.flatMap (fun k=>rows k env)++(R0++A'.flatMap (fun k=>rows k env))).Perm H:=by
    refine List.Perm.trans ?_ hH.symm
    refine List.Perm.trans ?_ (List.Perm.append_left R0 (List.Perm.flatMap_right _ hp.symm))
    rw [List.flatMap_append, ← List.append_assoc, ← List.append_assoc]
    exact List.Perm.append_right _ List.perm_append_comm
   have hdp : ∀ k ∈ (tAt ts i).deps,∀ d,(tAt ts k).dst = some d → t[d]? = some (val k env):=by
    intro k hk d hd
    have h1:=List.all_eq_true.1 hdeps k hk
    obtain ⟨h2,h3⟩:=hson k h1
    exact hv k d (by omega) h3 hd
   have hst:=hob i o (by rw [opAt_eq];simpa using ho)
   have hreads : ∀ k ∈ rd i,∀ r ∈ rows k env,r ∈ R0++A'.flatMap (fun k=>rows k env):=by
    intro k hk r hr
    refine List.mem_append_right _ (List.mem_flatMap.2 ⟨k,?_,hr⟩)
    have h1:=List.all_eq_true.1 (List.all_eq_true.1 hrd i (List.mem_range.2 his)) k hk
    simp only [Bool.and_eq_true,Bool.or_eq_true,decide_eq_true_eq,Bool.not_eq_true'] at h1
    obtain ⟨⟨h1,h2⟩,h3⟩:=h1
    rw [hA'm,hA]
    refine ⟨⟨?_,?_,fun j hj hjl hkj=>?_⟩,by simpa using h2⟩
    ·rcases h1 with h1 | h1
     ·have:=(hson k h1).1;omega
     ·omega
    ·rcases h1 with h1 | h1
     ·exact (hson k h1).2
     ·exact hge k h1.1
    ·have h4:=List.all_eq_true.1 h3 j (List.mem_range.2 hj)
     simp only [Bool.or_eq_true,Bool.not_eq_true'] at h4
     rcases h4 with h4 | h4
     ·rw [List.contains_iff_mem.2 hkj] at h4;cases h4
     ·have:=hcl j hj hjl i h4
      rw [hil] at this;cases this
   have hyv : ∀ j ww,o.guard = some (j,ww) → (tAt ts j).dst ≠ none → yielded ops t.toArray j = bv (val j env):=by
    intro j ww hg hj
    rw [hg] at hgu
    obtain ⟨h1,h2⟩:=hson j hgu
    obtain ⟨d,hd'⟩:=Option.ne_none_iff_exists'.1 hj
    have hoj : ops[j]? = some ops[j]:=Array.getElem?_eq_getElem (by omega)
    have hcj:=hopAt j _ hoj
    unfold okOp2 at hcj
    simp only [Bool.and_eq_true] at hcj
    have hdj : (ops[j]).dst = (tAt ts j).dst:=by simpa using hcj.1.1.1.1.1.2
    exact yielded_bv hoj (by rw [hdj,hd']) (hv j d (by omega) h2 hd')
   have hnext : ∀ (v : Value) (w' : World) (H' : List Row),St B w0 H' w' → (∃ p,((tAt ts i).dst ≠ none → v = val i (upd env i p))∧H'.Perm (rows i (upd env i p)++(R0++A'.flatMap (fun k=>rows k env)))) → wpAnyIn (wf ρ) 0 P .any ops (lift ds B w0 Q) fuel (listed.setIfInBounds i true) ⟨(put t o.dst v).toArray,ds⟩ w' := by
    rintro v w' H' hS' ⟨p,hval,hH'⟩
    have hl' : ∀ k,(listed.setIfInBounds i true).getD k true = if k = i then true else listed.getD k true:=by
     intro k
     rw [Array.getD_eq_getD_getElem?,Array.getD_eq_getD_getElem?,Array.getElem?_setIfInBounds]
     by_cases hki : k = i
     ·subst hki;simp;split <;> rfl
     ·rw [if_neg (fun e=>hki e.symm),if_neg hki]
    have hnot : ∀ k,listed.getD k true = true → (tAt ts k).sup.contains i = false:=by
     intro k hk
     by_cases hks' : k < ops.size
     ·cases hcs : (tAt ts k).sup.contains i with
      | false=>rfl
      | true=>have:=hcl k hks' hk i hcs;rw [hil] at this;cases this
     ·by_cases hkt : k < ts.length
      ·have:=List.all_eq_true.1 hps ts[k] (by
        rw [List.mem_iff_getElem?]
        exact ⟨k - ops.size,by rw [List.getElem?_drop,show ops.size + (k - ops.size)=k by omega,List.getElem?_eq_getElem hkt]⟩)
       simp only [Bool.and_eq_true,List.isEmpty_iff] at this
       have e : tAt ts k = ts[k]:=by unfold tAt;simp [List.getD,hkt]
       rw [e,this.2];rfl
      ·have e : tAt ts k = ⟨none,[],[],[]⟩:=by unfold tAt;simp [List.getD,List.getElem?_eq_none (by omega : ts.length ≤ k)]
       rw [e];rfl
    have hiA : i ∉ A:=fun h=>by have:=((hA i).1 h).2.1;rw [hil] at this;cases this
    refine ih (listed.setIfInBounds i true) (U.erase i) (i::A') (put t o.dst v) H' w' (upd env i p) (by simpa using hls) ?_ (hUn.sublist List.erase_sublist) ?_ ?_ ?_ ?_ ?_ ?_ hS' ?_
    ·rw [List.length_erase_of_mem ((hU i).2 ⟨his,hil⟩)];omega
    ·intro k
     rw [hUn.mem_erase_iff,hU,hl']
     by_cases hki : k = i
     ·simp [hki]
     ·simp [hki]
    ·intro k hk hkl j hj
     rw [hl'] at hkl ⊢
     split
     ·rfl
     ·by_cases hki : k = i
      ·subst hki;exact (hson j hj).2
      ·rw [if_neg hki] at hkl;exact hcl k hk hkl j hj
    ·exact List.nodup_cons.2 ⟨fun h=>hiA ((hA'm i).1 h).1,hA'n⟩
    ·intro k
     rw [List.mem_cons,hA'm,hA,hl']
     by_cases hki : k = i
     ·subst hki
      simp only [true_or,if_true,true_and,true_iff]
      refine ⟨by omega,fun j hj hjl hkj=>?_⟩
      have h1 : ops[j]? = some ops[j]:=Array.getElem?_eq_getElem hj
      have hcj:=hopAt j _ h1
      unfold okOp2 at hcj
      simp only [Bool.and_eq_true] at hcj
      have h2:=List.all_eq_true.1 hcj.2 k hkj
      simp only [Bool.or_eq_true,decide_eq_true_eq] at h2
      rw [hl'] at hjl
      rcases h2 with h2 | h2
      ·by_cases hjk : j = k
       ·subst hjk;have:=(hson j h2).1;omega
       ·rw [if_neg hjk] at hjl
        have:=hcl j hj hjl k h2
        rw [hil] at this;cases this
      ·omega
     ·simp only [hki,false_or,if_false]
      constructor
      ·rintro ⟨⟨h1,h2,h3⟩,h4⟩
       refine ⟨h1,h2,fun j hj hjl=>?_⟩
       rw [hl'] at hjl
       by_cases hji : j = i
       ·subst hji;exact h4
       ·rw [if_neg hji] at hjl;exact h3 j hj hjl
      ·rintro ⟨h1,h2,h3⟩
       exact ⟨⟨h1,h2,fun j hj hjl=>h3 j hj (by rw [hl'];split;rfl;exact hjl)⟩,h3 i his (by rw [hl',if_pos rfl])⟩
    ·cases hdd : o.dst with
     | none=>exact hag
     | some d =>
      rw [hdst'] at hdd
      rw [hdd] at hds
      simp only [Bool.and_eq_true,decide_eq_true_eq,Bool.not_eq_true'] at hds
      refine ⟨by simpa [put] using hag.1,fun s u hs=>?_⟩
      have h1:=hag.2 s u hs
      simp only [put,List.getElem?_set]
      rw [if_neg]
      ·exact h1
      ·rintro rfl
       have : d ∈ dom:=by
        rw [← hd]
        exact lk_mem hs
       have h2:=hds.1.2
       simp [this] at h2
    ·intro k d hk hkl hkd
     rw [hl'] at hkl
     by_cases hki : k = i
     ·subst hki
      rw [hdst',hkd]
      rw [hkd] at hds
      simp only [Bool.and_eq_true,decide_eq_true_eq] at hds
      simp only [put,List.getElem?_set,if_true]
      rw [if_pos (by rw [hag.1];exact hds.1.1),hval (by rw [hkd];simp)]
     ·rw [if_neg hki] at hkl
      rw [(hloc k env i p (fun e=>hki e.symm) (hnot k hkl)).1]
      have h1:=hv k d hk hkl hkd
      cases hdd : o.dst with
      | none=>exact h1
      | some d' =>
       simp only [put,List.getElem?_set]
       rw [if_neg]
       ·exact h1
       ·rintro rfl
        rw [hdst'] at hdd
        rcases Nat.lt_or_gt_of_ne hki with hlt | hlt
        ·rw [hdd] at hds
         simp only [Bool.and_eq_true] at hds
         have:=List.all_eq_true.1 hds.2 k (List.mem_range.2 hlt)
         simp [hkd] at this
        ·have hck:=hopAt k _ (Array.getElem?_eq_getElem hk)
         unfold okOp2 at hck
         simp only [Bool.and_eq_true] at hck
         have hdk:=hck.1.1.1.1.2
         rw [hkd] at hdk
         simp only [Bool.and_eq_true] at hdk
         have:=List.all_eq_true.1 hdk.2 i (List.mem_range.2 hlt)
         simp [hdd] at this
    ·refine hH'.trans ?_
     have e : A'.flatMap (fun k=>rows k (upd env i p)) = A'.flatMap (fun k=>rows k env):=by
      have : ∀ k ∈ A',rows k (upd env i p)=rows k env:=fun k hk=>by
       have h1:=(hA'm k).1 hk
       have h2:=((hA k).1 h1.1).2.1
       exact (hloc k env i p (fun e=>hiA (e ▸ h1.1)) (hnot k h2)).2
      exact flatMap_congr' this
     rw [List.flatMap_cons,e, ← List.append_assoc, ← List.append_assoc]
     exact List.Perm.append_right _ List.perm_append_comm
   unfold wpOpIn
   simp only [ho]
   rcases hst with ⟨hgr,hst⟩ | ⟨j,ww,hg,hj,hbv,hki,hvi,hri⟩
   ·have hwant : Region.wanted o (yielded ops t.toArray)=true:=by
     unfold Region.wanted
     rcases hgr with hgr | ⟨j,ww,hg,hj,hb⟩
     ·rw [hgr]
     ·rw [hg];simp only [hyv j ww hg hj,hb];simp
    simp only [hwant,if_true]
    exact hst env (R0++A'.flatMap (fun k=>rows k env)) (fun r hr=>List.mem_append_left _ hr) hreads t (ag_fdeps hag _ hdp) ρ ds B w0 w (hS.perm hH1) _ _ hnext
   ·have hwant : Region.wanted o (yielded ops t.toArray)=false:=by
     unfold Region.wanted
     rw [hg];simp only [hyv j ww hg hj]
     simpa using hbv env
    simp only [hwant,Bool.false_eq_true,if_false]
    rw [put_act]
    refine ⟨fun _ _=>trivial,hnext undef w _ hS ⟨(0,0),fun _=>(hvi _).symm,?_⟩⟩
    --,fun _=>(hvi _).symm,?_⟩
    rw [hri,List.nil_append]
    rw [hki] at hH1
    simpa using hH1.symm
theorem X.regionRd {P : Program} {n : Nat} {c : Code} {F : FS} {H : List Row} {Q : QX} (ts : List TOp) (rd : Nat → List Nat) (dom : List Nat) (F0 : FS) (val : Nat → Env → Value) (rows : Nat → Env → List Row) (env0 : Env) (R0 : List Row)
  (h : c = .region (cid c) (cops c) true) (hm : P.follows .mixedOrders = true) (hsub : Sub F0 F) (hd : F0.map (·.1)=dom) (hok : okReg2 (cops c) ts dom n = true) (hrd : okRd ts rd (cops c).size = true)
  (hloc : ∀ k env i p,i ≠ k → (tAt ts k).sup.contains i = false → val k (upd env i p)=val k env∧rows k (upd env i p)=rows k env)
  (hH : (((List.range ts.length).drop (cops c).size).flatMap (fun k=>rows k env0)++R0).Sublist H)
  (hob' : AllF (cops c).toList 0 fun i o=>ObR P n ts rd val rows F0 R0 i o)
  (hQ : ∀ env t,Ag n F0 t → (∀ i d,i < (cops c).size → (tAt ts i).dst = some d → t[d]? = some (val i env)) → exQ n Q .normal t ((alive ts).flatMap (fun k=>rows k env)++R0)) : X P n c F H Q:=by
 have hob:=fun i o ho=>hob' i o (Nat.zero_le i) ho
 unfold X W
 intro t ha ρ ds B w0 w hS
 rw [h]
 refine wpIn_region_any hm ?_
 have hlen : (cops c).size ≤ ts.length:=by
  have:=hok
  unfold okReg2 at this
  simp only [Bool.and_eq_true,decide_eq_true_eq] at this
  exact this.1.1.1
 have hl : ∀ k d,(Array.replicate (cops c).size false).getD k d = if k < (cops c).size then false else d:=by
  intro k d
  rw [Array.getD_eq_getD_getElem?,Array.getElem?_replicate]
  split <;> rfl
 have hdm : ∀ k,k ∈ (List.range ts.length).drop (cops c).size ↔ (cops c).size ≤ k∧k < ts.length:=by
  intro k
  rw [List.mem_iff_getElem?]
  constructor
  ·rintro ⟨j,hj⟩
   rw [List.getElem?_drop] at hj
   have:=List.getElem?_eq_some_iff.1 hj
   obtain ⟨h1,h2⟩:=this
   simp at h1 h2
   omega
  ·rintro ⟨h1,h2⟩
   exact ⟨k - (cops c).size,by rw [List.getElem?_drop,show (cops c).size + (k - (cops c).size)=k by omega,List.getElem?_range h2]⟩
 refine wpAny_ob hd hok rd hrd val rows hloc R0 hob hQ (cops c).size _ (List.range (cops c).size) ((List.range ts.length).drop (cops c).size) t _ _ env0 (by simp) (by simp) List.nodup_range ?_ ?_ ((List.nodup_range).sublist (List.drop_sublist _ _)) ?_ (ha.sub hsub) ?_ ((hS.drewN 1).sub hH) List.perm_append_comm
 ·intro k
  rw [List.mem_range,hl]
  by_cases hk : k < (cops c).size <;> simp [hk]
 ·intro k hk hkl
  rw [hl,if_pos hk] at hkl
  cases hkl
 ·intro k
  rw [hdm,hl]
  constructor
  ·rintro ⟨h1,h2⟩
   refine ⟨h2,by rw [if_neg (by omega)],fun j hj hjl=>?_⟩
   rw [hl,if_pos hj] at hjl
   cases hjl
  ·rintro ⟨h1,h2,_⟩
   refine ⟨?_,h1⟩
   by_cases hk : k < (cops c).size
   ·rw [if_pos hk] at h2;cases h2
   ·omega
 ·intro k d hk hkl
  rw [hl,if_pos hk] at hkl
  cases hkl
theorem X.regionOb {P : Program} {n : Nat} {c : Code} {F : FS} {H : List Row} {Q : QX} (ts : List TOp) (dom : List Nat) (F0 : FS) (val : Nat → Env → Value) (rows : Nat → Env → List Row) (env0 : Env) (R0 : List Row)
  (h : c = .region (cid c) (cops c) true) (hm : P.follows .mixedOrders = true) (hsub : Sub F0 F) (hd : F0.map (·.1)=dom) (hok : okReg2 (cops c) ts dom n = true)
  (hloc : ∀ k env i p,i ≠ k → (tAt ts k).sup.contains i = false → val k (upd env i p)=val k env∧rows k (upd env i p)=rows k env)
  (hH : (((List.range ts.length).drop (cops c).size).flatMap (fun k=>rows k env0)++R0).Sublist H)
  (hob' : AllF (cops c).toList 0 fun i o=>Ob P n ts val rows F0 R0 i o)
  (hQ : ∀ env t,Ag n F0 t → (∀ i d,i < (cops c).size → (tAt ts i).dst = some d → t[d]? = some (val i env)) → exQ n Q .normal t ((alive ts).flatMap (fun k=>rows k env)++R0)) : X P n c F H Q:=by
 refine X.regionRd ts (fun _=>[]) dom F0 val rows env0 R0 h hm hsub hd hok (by unfold okRd;simp) hloc hH (fun j o hj ho=>(hob' j o hj ho).toR) hQ
section
variable {P : Program} {n : Nat} {ts : List TOp} {val : Nat → Env → Value} {rows : Nat → Env → List Row} {F0 : FS} {R0 : List Row} {i : Nat} {o : Oper}
abbrev ObK (P : Program) (n : Nat) (ts : List TOp) (val : Nat → Env → Value) (rows : Nat → Env → List Row) (F0 : FS) (R0 : List Row) (i : Nat) (o : Oper) : Prop := ∀ env R,(∀ r ∈ R0,r ∈ R) → OpF P n ((tAt ts i).kills.flatMap (fun k=>rows k env)++R) (fdeps ts val env F0 (tAt ts i).deps) o
   (fun v H' => ∃ p,((tAt ts i).dst ≠ none → v = val i (upd env i p))∧H'.Perm (rows i (upd env i p)++R))
abbrev ObKR (P : Program) (n : Nat) (ts : List TOp) (rd : Nat → List Nat) (val : Nat → Env → Value) (rows : Nat → Env → List Row) (F0 : FS) (R0 : List Row) (i : Nat) (o : Oper) : Prop := ∀ env R,(∀ r ∈ R0,r ∈ R) → (∀ k ∈ rd i,∀ r ∈ rows k env,r ∈ R) → OpF P n ((tAt ts i).kills.flatMap (fun k=>rows k env)++R) (fdeps ts val env F0 (tAt ts i).deps) o
   (fun v H' => ∃ p,((tAt ts i).dst ≠ none → v = val i (upd env i p))∧H'.Perm (rows i (upd env i p)++R))
theorem ObR.ng {rd : Nat → List Nat} (hg : o.guard = none) (h : ObKR P n ts rd val rows F0 R0 i o) : ObR P n ts rd val rows F0 R0 i o := .inl ⟨.inl hg,h⟩
theorem Ob.ng (hg : o.guard = none) (h : ObK P n ts val rows F0 R0 i o) : Ob P n ts val rows F0 R0 i o := .inl ⟨.inl hg,h⟩
theorem Ob.g {j : Nat} {w : Bool} (hg : o.guard = some (j,w)) (hj : (tAt ts j).dst.isSome = true) (hb : ∀ env,bv (val j env)=some w) (h : ObK P n ts val rows F0 R0 i o) : Ob P n ts val rows F0 R0 i o :=
 .inl ⟨.inr ⟨j,w,hg,(fun e=>by rw [e] at hj;cases hj),hb⟩,h⟩
theorem Ob.sk {j : Nat} {w : Bool} (hg : o.guard = some (j,w)) (hj : (tAt ts j).dst.isSome = true) (hb : ∀ env,(bv (val j env) == some w)=false) (hk : ∀ env,(tAt ts i).kills.flatMap (fun k=>rows k env) = []) (hv : ∀ env,val i env = undef) (hr : ∀ env,rows i env = []) : Ob P n ts val rows F0 R0 i o :=
 .inr ⟨j,w,hg,(fun e=>by rw [e] at hj;cases hj),(fun env e=>by have:=hb env;rw [e] at this;simp at this),hk,hv,hr⟩
/-- what only reads -/
theorem uK (he : ∀ env R,(∀ r ∈ R0,r ∈ R) → ∃ v,EvF P n ((tAt ts i).kills.flatMap (fun k=>rows k env)++R) (fdeps ts val env F0 (tAt ts i).deps) o v∧v = val i (upd env i (0,0))) (hk : (tAt ts i).kills = []) (hr : ∀ env,rows i (upd env i (0,0)) = []) : ObK P n ts val rows F0 R0 i o:=by
 intro env R hR
 obtain ⟨v,hv,he'⟩:=he env R hR
 refine (StF.ofEv hv).op.mono ?_
 rintro u H' ⟨rfl,rfl⟩
 exact ⟨(0,0),fun _=>he',by rw [hr,hk];exact List.Perm.refl _⟩
end
section
variable {P : Program} {n : Nat} {ops : Array Oper} {i : Nat} {o : Oper} {F : FS} {H : List Row}
/-- a slice that has an address, held against nil -/
theorem EvF.eqNil {T T' e : TypeId} {x : Operand} {ad : Addr} {len cap s y : Nat} (h : o.op = .binOp .eql T x (.const (.slice none 0 0)) T') (hx : evF F x = some (.slice (some ad) len cap)) (hT : tiOf P T = some ⟨.sl e,s,y⟩) : EvF P n H F o (.bool false):=by
 unfold EvF EvOp
 intro t ha B w0 w hS
 have hu:=ti_slice hT
 have h1 : (binOp .eql T (.slice (some ad) len cap) (.slice none 0 0)).run P w = .ok (.bool false) w:=by
  show Sem.run P (do pure (Value.bool (← Op.equalIn 10000 T (.slice (some ad) len cap) (.slice none 0 0)))) w = _
  rw [show (10000 : Nat)=9999 + 1 from rfl]
  unfold Op.equalIn
  simp [underlying,hu]
 have hxv:=ha.ev hx
 simp [execOp,h,hxv,show Fw.ev t (.const (.slice none 0 0)) = .slice none 0 0 from rfl,eqGuard,h1]
/-- what is known of a row may be forgotten from some cell on -/
theorem St.forget {B : Nat} {w0 w : World} (hS : St B w0 H w) {q b cap : Nat} {el : TypeId} {cs cs' : List Value} (hi : H[q]? = some ⟨b,0,cs++cs',some el,cap⟩) : St B w0 (H.set q ⟨b,0,cs,some el,cap⟩) w:=by
 refine ⟨hS.below,hS.size,fun r hr=>?_,pairwise_set H q _ _ hi (fun s k ho=>k ho) (fun s k ho=>k ho) hS.sep⟩
 rcases List.mem_or_eq_of_mem_set hr with hr | rfl
 ·exact hS.ok r hr
 ·obtain ⟨h1,h2,rest,h3,h4⟩:=hS.ok _ (List.mem_of_getElem? hi)
  exact ⟨h1,h2,cs'++rest,by rw [← List.append_assoc];exact h3,by rw [← List.append_assoc];exact h4⟩
theorem X.forget {c : Code} {Q : QX} {q b cap : Nat} {el : TypeId} {cs cs' : List Value} (hi : H[q]? = some ⟨b,0,cs++cs',some el,cap⟩) (k : X P n c F (H.set q ⟨b,0,cs,some el,cap⟩) Q) : X P n c F H Q:=by
 unfold X W at *
 intro t ha ρ ds B w0 w hS
 exact k t ha ρ ds B w0 w (hS.forget hi)
/-- all cells of a row -/
theorem St.reveal {B : Nat} {w0 w : World} (hS : St B w0 H w) {q b cap : Nat} {el : TypeId} {cs : List Value} (hi : H[q]? = some ⟨b,0,cs,some el,cap⟩) : ∃ rest,(cs++rest).length = cap∧St B w0 (H.set q ⟨b,0,cs++rest,some el,cap⟩) w:=by
 obtain ⟨h1,h2,rest,h3,h4⟩:=hS.ok _ (List.mem_of_getElem? hi)
 refine ⟨rest,h4,hS.below,hS.size,fun r hr=>?_,pairwise_set H q _ _ hi (fun s k ho=>k ho) (fun s k ho=>k ho) hS.sep⟩
 rcases List.mem_or_eq_of_mem_set hr with hr | rfl
 ·exact hS.ok r hr
 ·exact ⟨h1,h2,[],by simpa using h3,by simpa using h4⟩
theorem X.reveal {c : Code} {Q : QX} {q b cap : Nat} {el : TypeId} {cs : List Value} (hi : H[q]? = some ⟨b,0,cs,some el,cap⟩) (k : ∀ rest,(cs++rest).length = cap → X P n c F (H.set q ⟨b,0,cs++rest,some el,cap⟩) Q) : X P n c F H Q:=by
 unfold X W at *
 intro t ha ρ ds B w0 w hS
 obtain ⟨rest,hl,hS'⟩:=hS.reveal hi
 exact k rest hl t ha ρ ds B w0 w hS'
/-- a literal of two -/
theorem StF.buildTwo {T e : TypeId} {x y : Operand} {sz y' : Nat} {v0 v1 : Value} {cs ds : List Value} (h : o.op = .buildSlice T 2 #[(0,x),(1,y)]) (hT : ElT P T e sz y') (hx : evF F x = some v0) (hy : evF F y = some v1) (hc : v0.cells.toList = cs) (hd : v1.cells.toList = ds) (hl : cs.length = sz) (hl' : ds.length = sz) (hz : 0 < sz) (hz' : 2 * sz ≤ 16777216) :
  StF P n H F o (fun v H' => ∃ b,v = .slice (some ⟨b,0,none⟩) 2 2∧H' = ⟨b,0,cs++ds,some e,2 * sz⟩::H):=by
 unfold StF StepOp
 intro t ha B w0 w hS
 obtain ⟨z,hzs,hzr⟩:=hT.zero
 have hS' := hS.alloc (cs++ds) e
 refine ⟨.slice (some ⟨w.heap.size,0,none⟩) 2 2,_,_,.inl ?_,hS',_,rfl,by rw [List.length_append,hl,hl'];congr 2;omega⟩
 have hf:=fill_eq (fun i=>some (i * sz,sz)) [(0,v0),(1,v1)] ((Array.range (2 * sz)).map (z.cells[·% z.cells.size]!)) (cs++ds) (by
  simp only [fillL,Nat.zero_mul,Nat.zero_add,Nat.one_mul,hc,hd,hl,hl',Nat.beq_refl,Array.length_toList,Array.size_map,Array.size_range]
  rw [show Nat.ble sz (2 * sz)=true by rw [Nat.ble_eq];omega]
  simp only [splice,List.take_zero,List.nil_append,Nat.zero_add,hl]
  rw [show Nat.ble (sz + sz) (cs++List.drop sz (Array.map (fun x=>z.cells[x % z.cells.size]!) (Array.range (2 * sz))).toList).length = true by
   rw [Nat.ble_eq];simp [hl];omega]
  simp only [Option.some.injEq]
  rw [show List.take sz (cs++List.drop sz (Array.map (fun x=>z.cells[x % z.cells.size]!) (Array.range (2 * sz))).toList)=cs by rw [← hl,List.take_left]]
  rw [List.drop_eq_nil_of_le (by simp [hl,hl'];omega),List.append_nil])
 have h0 : ¬ (sz = 0):=by omega
 have h1 : ¬ (16777216 < 2 * sz):=by omega
 simp [execOp,h,Instr.buildSlice,hT.un,hT.sz,hzr,ha.ev hx,ha.ev hy,h1,hf,newRow,newObj,Sem.run,World.alloc_eq]
 intro h2;omega
theorem zero_one {z : Value} (h : z.cells.all (·.oneCell') = true) (m : Nat) : ∀ v ∈ (Builtin.zeroCells z.cells m).toList,v.oneCell' = true:=by
 intro v hv
 unfold Builtin.zeroCells at hv
 simp only [Array.toList_map,List.mem_map,Array.toList_range,List.mem_range] at hv
 obtain ⟨k,hk,rfl⟩:=hv
 have h0 : 0 < z.cells.size:=by
  rcases Nat.eq_zero_or_pos z.cells.size with h0 | h0
  ·rw [h0,Nat.mul_zero] at hk;omega
  ·exact h0
 have hlt : k % z.cells.size < z.cells.size:=Nat.mod_lt _ h0
 rw [getElem!_pos z.cells _ hlt]
 exact Array.all_eq_true_iff_forall_mem.1 h _ (Array.getElem_mem hlt)
/-- clear of a part of a row of one's own -/
theorem StF.clear {T e : TypeId} {x : Operand} {sz by' q b j m c cap : Nat} {cs : List Value} (h : o.op = .call { callee := .builtin .clear,args := #[x],argTypes := #[T] }) (hT : ElT P T e sz by')
  (hx : evF F x = some (.slice (some ⟨b,j,none⟩) m c)) (hi : H[q]? = some ⟨b,0,cs,some e,cap⟩) (hl : j + m * sz ≤ cs.length) (hone : ∀ (z : Value) (w : World),(zeroValue e).run P w = .ok z w → z.cells.all (·.oneCell') = true) :
  StF P n H F o (fun _ H' => ∃ zs,zs.length = m * sz∧H' = H.set q ⟨b,0,splice cs j zs,some e,cap⟩):=by
 unfold StF StepOp
 intro t ha B w0 w hS
 obtain ⟨z,hzs,hzr⟩:=hT.zero
 have hz1:=zero_one (hone z w (hzr w)) m
 have hzl : (Builtin.zeroCells z.cells m).toList.length = m * sz:=by rw [Array.length_toList,size_zeroCells,hzs]
 obtain ⟨w',hst,hS'⟩:=store_cells (P:=P) (Builtin.zeroCells z.cells m).toList cs H w j 0 hS hi hz1 (by rw [hzl];omega)
 have hxv:=ha.ev hx
 refine ⟨.tuple #[],w',_,.inl ?_,hS',_,hzl,rfl⟩
 cases m with
 | zero =>
  have h0 : (Builtin.zeroCells z.cells 0).toList = []:=List.eq_nil_of_length_eq_zero (by rw [hzl,Nat.zero_mul])
  rw [h0] at hst
  simp [storeCells] at hst
  subst hst
  simp [execOp,h,hxv,resolve,invoke,builtin,Builtin.clear_,hT.un]
 | succ m =>
  simp [execOp,h,hxv,resolve,invoke,builtin,Builtin.clear_,hT.un,hzr,hst]
/-- a struct is stored in a row of one's own -/
theorem StF.storeAt {T : TypeId} {a x : Operand} {q b j cap : Nat} {el : TypeId} {cs vs : List Value} {ti : TI} (h : o.op = .store T a x) (hx : evF F a = some (.pointer (some ⟨b,j,none⟩))) (hv : evF F x = some (.agg vs.toArray)) (hT : tiOf P T = some ti) (hi : H[q]? = some ⟨b,0,cs,some el,cap⟩)
  (hn : vs.length = ti.size) (h1 : vs.all (·.oneCell') = true) (hl : j + vs.length ≤ cs.length) : StF P n H F o (fun u H' => u = undef∧H' = H.set q ⟨b,0,splice cs j vs,some el,cap⟩):=by
 unfold StF
 intro t ha
 exact StepOp.store h (ha.ev hx) hT (by rw [ha.ev hv];rfl) hi hn h1 hl
end
theorem EnF.dyn0 {P : Program} {n : Nat} {H : List Row} {F : FS} {o : Oper} {g : Operand} {f : FuncId} {l : List Operand} {tys : Array TypeId} {vs cap : List Value} (h : o.op = .call { callee := .value g,args:=l.toArray,argTypes:=tys }) (hg : evF F g = some (.func (.func f) #[] cap.toArray)) (hv : Args F l vs) (hc : Callable P f) : EnF P n H F o f (vs++cap) :=
 EnF.dyn (first:=[]) h hg hv hc
end Go.Fw
namespace Go.Proofs.YtbpcbdbclijomaaGreat
open Go Go.Fw
set_option maxRecDepth 10000
theorem withinL_spec (s : Sp) (l : List Int) (a : Option Addr) (c : Nat) (H : List Row) (hl : SlE H a cI 1 l) (hb : l.length ≤ 9223372036854775807) : Fc Tryz.prog 78 [.agg (cSp s).toArray,.slice a l.length c] H (fun v H' => v = .bool (decide (∀ n ∈ l,s.lo ≤ n∧n ≤ s.hi))∧H' = H):=by
 refine Fc.mk (callable Tryz.call78) Tryz.func78 rfl Tryz.ntmps78 rfl ?_;dsimp only [fr]
 repeat' (first | (refine uP rfl ?_;(first | ((first | refine uN rfl ?_);(first | (refine uE (uM rfl rfl) rfl rfl ?_)|(refine uE (uA rfl rfl) rfl rfl ?_)|(refine uE (uQ rfl rfl rfl rfl) rfl rfl ?_)|(refine uE (uY rfl rfl (te rfl)) rfl rfl ?_)|(refine Xg.st (StF.boxAgg rfl rfl) rfl rfl ?_;rintro _ _ ⟨bx,rfl,rfl⟩)))))|(refine uD rfl ?_;refine hK _ _ ?_;clear hK K) | refine uS rfl ?_ | refine uR rfl (fun K hK=>?_) | refine X.block rfl ?_ | (refine X.brk rfl ?_;repeat (first | refine blockX_hit rfl ?_ | refine blockX_miss (by decide) ?_)) | refine X.skip rfl ?_ | refine X.ret rfl ?_ | (refine X.ite rfl rfl (fun hc=>?_);(first | (with_reducible refine Xb.case hc (fun h=>?_) (fun h=>?_))) <;> clear hc))
 refine X.lp rfl (fun q F' H' => ∃ k : Nat,q = l.length - k∧k ≤ l.length∧((∀ n ∈ l,s.lo ≤ n∧n ≤ s.hi) ↔ ∀ n ∈ l.drop k,s.lo ≤ n∧n ≤ s.hi)∧⟨bx,0,cSp s,some 24,2⟩::H = H' ∧
   F' = [(2,.pointer (some ⟨bx,0,none⟩)),(7,.slice a l.length c),(8,.int .i64 l.length),(9,.int .i64 k)])
  l.length [(2,.pointer (some ⟨bx,0,none⟩)),(7,.slice a l.length c),(8,.int .i64 l.length),(9,.int .i64 (0 : Nat))] _ (by repeat (first | exact uU _ | refine uV rfl ?_)) (by repeat (first | exact qR _ | apply qK | apply qC)) ⟨0,by omega,by omega,by simp,rfl,rfl⟩ ?_
 rintro _ _ _ ⟨k,rfl,hk,hn,rfl,rfl⟩
 repeat' (first | (refine uP rfl ?_;(first | ((first | refine uN rfl ?_);(first | (refine uE (uM rfl rfl) rfl rfl ?_)|(refine uE (uA rfl rfl) rfl rfl ?_)|(refine uE (uQ rfl rfl rfl rfl) rfl rfl ?_)|(refine uE (uY rfl rfl (te rfl)) rfl rfl ?_)|(refine Xg.st (StF.boxAgg rfl rfl) rfl rfl ?_;rintro _ _ ⟨bx,rfl,rfl⟩)))))|(refine uD rfl ?_;refine hK _ _ ?_;clear hK K) | refine uS rfl ?_ | refine uR rfl (fun K hK=>?_) | refine X.block rfl ?_ | (refine X.brk rfl ?_;repeat (first | refine blockX_hit rfl ?_ | refine blockX_miss (by decide) ?_)) | refine X.skip rfl ?_ | refine X.ret rfl ?_ | (refine X.ite rfl rfl (fun hc=>?_);(first | (with_reducible refine Xb.case hc (fun h=>?_) (fun h=>?_))) <;> clear hc))
 ·obtain ⟨b,off,e,rfl,he⟩:=hl.elem (i:=k) (by omega)
  have hl1 : ∀ r,SlE (r::H) (some ⟨b,off,none⟩) cI 1 l:=fun r=>hl.sub (fun _ h=>List.mem_cons_of_mem _ h)
  rw [drop_cons he] at hn
  repeat' (first | (refine uP rfl ?_;(first | ((first | refine uN rfl ?_ | (refine Xo.g rfl rfl ?_;with_reducible refine Xw.ff ?_));(first | (refine uE (uL rfl rfl (LoadV.el0 (hl1 _) he (te rfl) rfl (fun _ hm=>hm) rfl)) rfl rfl ?_)|(refine uE (uM rfl rfl) rfl rfl ?_)|(refine uE (uA rfl rfl) rfl rfl ?_)|(refine uE (EvF.pickT rfl rfl rfl) rfl rfl ?_)|(refine uE (EvF.pickF rfl rfl rfl) rfl rfl ?_)|(refine uE (uQ rfl rfl rfl rfl) rfl rfl ?_)|(refine uE (EvF.add64 rfl rfl rfl (by omega) (by omega)) rfl rfl ?_)|(refine uE (uF rfl rfl (te rfl) rfl (te rfl) (by decide)) rfl rfl ?_)|(refine uE (uJ rfl rfl rfl (te rfl) (te rfl) (by omega) (by omega)) rfl rfl ?_)|(refine uE (uL rfl rfl (uO (te rfl) rfl (qH _) rfl)) rfl rfl ?_)))|(refine Xo.g rfl rfl ?_;(first | (with_reducible refine Xw.tf rfl rfl ?_)|(with_reducible refine Xw.case (fun h=>?_) (fun h=>?_) <;> simp only [h,decide_true,decide_false,Bool.not_true,Bool.not_false,and_self,and_true,true_and,and_false,false_and])))))|(refine uD rfl ?_;refine hK _ _ ?_;clear hK K) | refine uS rfl ?_ | refine uR rfl (fun K hK=>?_) | refine X.skip rfl ?_ | refine X.ret rfl ?_ | (refine X.ite rfl rfl (fun hc=>?_);(first | (with_reducible refine Xb.t hc ?_)|(with_reducible refine Xb.case hc (fun h=>?_) (fun h=>?_))) <;> clear hc))
  any_goals (refine ret_one (by simp) Tryz.results78 rfl (H' := H) (by (repeat (first | exact qR _ | apply qC));done) ?_;simp only [and_true,true_and];congr 1;symm;exact decide_eq_false (fun q=>by have:=hn.1 q e List.mem_cons_self;omega))
  refine ⟨_,_,_,(by repeat (first | exact uU _ | refine uV rfl ?_)),(by repeat (first | exact qR _ | apply qK | apply qC)),⟨k + 1,rfl,by omega,hn.trans ⟨fun q n hm=>q n (List.mem_cons_of_mem _ hm),fun q n hm=>?_⟩,rfl,rfl⟩,by omega⟩
  rcases List.mem_cons.1 hm with rfl | hm
  ·omega
  ·exact q n hm
 ·rw [List.drop_eq_nil_of_le (by omega)] at hn
  refine ret_one (by simp) Tryz.results78 rfl (H' := H) (by (repeat (first | exact qR _ | apply qC));done) ?_;simp only [and_true,true_and]
  congr 1;symm
  exact decide_eq_true (hn.2 (fun _ h=>absurd h List.not_mem_nil))
/-- the first place of which something is so -/
def IdxR {α : Type} (p : α → Bool) (l : List α) (z : Int) : Prop:=(z = -1 ∧ ∀ e ∈ l,p e = false) ∨ ∃ k e,z = ((k : Nat) : Int)∧l[k]? = some e∧p e = true ∧ ∀ i e,i < k → l[i]? = some e → p e = false
theorem IdxR.ge {α : Type} {p : α → Bool} {l : List α} {z : Int} (h : IdxR p l z) : z ≥ 0 ↔ ∃ e ∈ l,p e = true:=by
 rcases h with ⟨rfl,h⟩ | ⟨k,e,rfl,he,hp,_⟩
 ·exact ⟨fun q=>absurd q (by decide),fun ⟨e,he,hp⟩=>by rw [h e he] at hp;cases hp⟩
 ·exact ⟨fun _=>⟨e,List.mem_of_getElem? he,hp⟩,fun _=>by omega⟩
theorem indexI_spec (l : List Int) (a : Option Addr) (c : Nat) (x : Int) (H : List Row) (hl : SlE H a cI 1 l) (hb : l.length ≤ 9223372036854775807) :
  Fc Tryz.prog 151 [.slice a l.length c,.int .i64 x] H (fun v H' => (∃ z,v = .int .i64 z∧IdxR (fun n=>decide (x = n)) l z)∧H' = H):=by
 refine Fc.mk (callable Tryz.call151) Tryz.func151 rfl Tryz.ntmps151 rfl ?_;dsimp only [fr]
 repeat' (first | (refine uP rfl ?_;(first | ((first | refine uN rfl ?_);(first | (refine uE (uM rfl rfl) rfl rfl ?_)|(refine uE (uA rfl rfl) rfl rfl ?_)|(refine uE (uQ rfl rfl rfl rfl) rfl rfl ?_)|(refine uE (uY rfl rfl (te rfl)) rfl rfl ?_)))))|(refine uD rfl ?_;refine hK _ _ ?_;clear hK K) | refine uS rfl ?_ | refine uR rfl (fun K hK=>?_) | refine X.block rfl ?_ | (refine X.brk rfl ?_;repeat (first | refine blockX_hit rfl ?_ | refine blockX_miss (by decide) ?_)) | refine X.skip rfl ?_ | refine X.ret rfl ?_ | (refine X.ite rfl rfl (fun hc=>?_);(first | (with_reducible refine Xb.case hc (fun h=>?_) (fun h=>?_))) <;> clear hc))
 refine X.lp rfl (fun q F' H' => ∃ k : Nat,q = l.length - k∧k ≤ l.length∧(∀ i e,i < k → l[i]? = some e → x ≠ e)∧H = H' ∧
   F' = [(0,.slice a l.length c),(1,.int .i64 x),(7,.int .i64 l.length),(8,.int .i64 k)])
  l.length [(0,.slice a l.length c),(1,.int .i64 x),(7,.int .i64 l.length),(8,.int .i64 (0 : Nat))] _ (by repeat (first | exact uU _ | refine uV rfl ?_)) (by repeat (first | exact qR _ | apply qK | apply qC)) ⟨0,by omega,by omega,(fun i e hi=>absurd hi (by omega)),rfl,rfl⟩ ?_
 rintro _ _ H2 ⟨k,rfl,hk,hn,hH,rfl⟩
 subst hH
 repeat' (first | (refine uP rfl ?_;(first | ((first | refine uN rfl ?_);(first | (refine uE (uM rfl rfl) rfl rfl ?_)|(refine uE (uA rfl rfl) rfl rfl ?_)|(refine uE (uQ rfl rfl rfl rfl) rfl rfl ?_)|(refine uE (uY rfl rfl (te rfl)) rfl rfl ?_)))))|(refine uD rfl ?_;refine hK _ _ ?_;clear hK K) | refine uS rfl ?_ | refine uR rfl (fun K hK=>?_) | refine X.block rfl ?_ | (refine X.brk rfl ?_;repeat (first | refine blockX_hit rfl ?_ | refine blockX_miss (by decide) ?_)) | refine X.skip rfl ?_ | refine X.ret rfl ?_ | (refine X.ite rfl rfl (fun hc=>?_);(first | (with_reducible refine Xb.case hc (fun h=>?_) (fun h=>?_))) <;> clear hc))
 ·obtain ⟨b,off,e,rfl,he⟩:=hl.elem (i:=k) (by omega)
  repeat' (first | (refine uP rfl ?_;(first | ((first | refine uN rfl ?_);(first | (refine uE (uL rfl rfl (LoadV.el0 hl he (te rfl) rfl (fun _ hm=>hm) rfl)) rfl rfl ?_)|(refine uE (uM rfl rfl) rfl rfl ?_)|(refine uE (uA rfl rfl) rfl rfl ?_)|(refine uE (uQ rfl rfl rfl rfl) rfl rfl ?_)|(refine uE (EvF.add64 rfl rfl rfl (by omega) (by omega)) rfl rfl ?_)|(refine uE (uJ rfl rfl rfl (te rfl) (te rfl) (by omega) (by omega)) rfl rfl ?_)))))|(refine uD rfl ?_;refine hK _ _ ?_;clear hK K) | refine uS rfl ?_ | refine uR rfl (fun K hK=>?_) | refine X.skip rfl ?_ | refine X.ret rfl ?_ | (refine X.ite rfl rfl (fun hc=>?_);(first | (with_reducible refine Xb.case hc (fun h=>?_) (fun h=>?_))) <;> clear hc))
  ·refine ret_one (by simp) Tryz.results151 rfl (H' := H) (by (repeat (first | exact qR _ | apply qC));done) ?_;simp only [and_true,true_and]
   refine ⟨_,rfl,.inr ⟨k,e,rfl,he,decide_eq_true (by assumption),fun i e hi he=>decide_eq_false (hn i e hi he)⟩⟩
  ·refine ⟨_,_,_,(by repeat (first | exact uU _ | refine uV rfl ?_)),(by repeat (first | exact qR _ | apply qK | apply qC)),⟨k + 1,rfl,by omega,(fun i e' hi he' => ?_),rfl,rfl⟩,by omega⟩
   rcases Nat.lt_or_ge i k with h1 | h1
   ·exact hn i e' h1 he'
   ·obtain rfl : i = k:=by omega
    rw [he] at he';cases he';assumption
 ·refine ret_one (by simp) Tryz.results151 rfl (H' := H) (by (repeat (first | exact qR _ | apply qC));done) ?_;simp only [and_true,true_and]
  refine ⟨_,rfl,.inl ⟨rfl,fun e he=>?_⟩⟩
  obtain ⟨i,hi,rfl⟩:=List.mem_iff_getElem.1 he
  exact decide_eq_false (hn i _ (by omega) (List.getElem?_eq_getElem hi))
theorem contains_spec (l : List Int) (a : Option Addr) (c : Nat) (x : Int) (H : List Row) (hl : SlE H a cI 1 l) (hb : l.length ≤ 9223372036854775807) :
  Fc Tryz.prog 116 [.slice a l.length c,.int .i64 x] H (fun v H' => v = .bool (decide (x ∈ l))∧H' = H):=by
 refine Fc.mk (callable Tryz.call116) Tryz.func116 rfl Tryz.ntmps116 rfl ?_;dsimp only [fr]
 repeat' (first | (refine uP rfl ?_;(first | ((first | refine uN rfl ?_);(first | (refine uC (uT rfl (by (repeat (first | exact Args.nil | refine Args.cons rfl ?_));done)) rfl rfl (indexI_spec l a c x H hl hb) ?_;rintro _ H9 ⟨⟨z,rfl,hz⟩,hH9⟩;subst H9)|(refine uE (uM rfl rfl) rfl rfl ?_)|(refine uE (uA rfl rfl) rfl rfl ?_)|(refine uE (uQ rfl rfl rfl rfl) rfl rfl ?_)))))|(refine uD rfl ?_;refine hK _ _ ?_;clear hK K) | refine uS rfl ?_ | refine uR rfl (fun K hK=>?_) | refine X.ret rfl ?_)
 refine ret_one (by simp) Tryz.results116 rfl (H' := H) (by (repeat (first | exact qR _ | apply qC));done) ?_;simp only [and_true,true_and]
 congr 1
 refine decide_eq_decide.2 (hz.ge.trans ⟨fun ⟨e,he,hp⟩=>?_,fun h=>⟨x,h,by simp⟩⟩)
 have:=of_decide_eq_true hp
 subst this;exact he
end Go.Proofs.YtbpcbdbclijomaaGreat
