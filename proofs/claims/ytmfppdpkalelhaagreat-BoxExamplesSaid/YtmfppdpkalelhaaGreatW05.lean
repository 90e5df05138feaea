/- Own work: The reference: closed.; contracts of functions, from rows of what is known of the memory; Own work: unsigned numbers of 64 bits. No condition.; contracts of functions, from rows of what is known of the memory; contracts of functions, from rows of what is known of the memory; contracts of functions, from rows of what is known of the memory; contracts of functions, from rows of what is known of the memory; contracts of functions, from rows of what is known of the memory -/
import Derived.Test.YtmfppdpkalelhaaGreatW04
section
set_option linter.unusedVariables false
set_option linter.unusedSimpArgs false
namespace Go.Proofs.YtmfppdpkalelhaaGreat
open Go Go.Fw
set_option maxRecDepth 10000
def tsCa : List TOp:=[⟨some 41,[],[],[]⟩,⟨some 42,[],[],[]⟩,⟨some 43,[0],[0],[]⟩,⟨some 44,[0,1,2],[2,1],[]⟩,⟨some 45,[0,1,2,3],[3],[]⟩,⟨some 46,[],[],[]⟩,⟨some 47,[],[],[]⟩,⟨some 48,[6],[6],[]⟩,⟨some 49,[5],[5],[]⟩,⟨some 50,[5,6,7,8],[8,7],[]⟩,⟨some 51,[5,6,7,8,9],[9],[]⟩,⟨some 12,[],[],[]⟩,⟨some 13,[],[],[]⟩,⟨none,[0,1,2,3,4,11,12],[11,4],[11]⟩,⟨none,[0,1,2,3,4,5,6,7,8,9,10,11,12,13],[12,10],[12]⟩]
def valCa (b3 b5 b6 b10 ii m : Nat) (R : Rm) (p : Pl) (e : Bx) (x y : Sp) (g : Bool) (v1 v25 v26 v27 : Value) (k : Nat) (env : Env) : Value :=
 match k with
 | 0 => .int .i64 (ii : Nat)
 | 1 => .int .i64 (m : Nat)
 | 2 => .pointer (some ⟨b5,0 + ii * 24,none⟩)
 | 3 => .pointer (some ⟨b5,0 + ii * 24 + m * 2,none⟩)
 | 4 => .agg (cSp x).toArray
 | 5 => .int .i64 (ii : Nat)
 | 6 => .int .i64 (m : Nat)
 | 7 => .int .i64 ((m : Nat) + 1)
 | 8 => .pointer (some ⟨b5,0 + ii * 24,none⟩)
 | 9 => .pointer (some ⟨b5,0 + ii * 24 + (m + 1) * 2,none⟩)
 | 10 => .agg (cSp y).toArray
 | 11 => .pointer (some ⟨(env 11).1,0,none⟩)
 | 12 => .pointer (some ⟨(env 12).1,0,none⟩)
 | 13=>undef
 | 14=>undef
 | _=>undef
def rowsCa (b3 b5 b6 b10 ii m : Nat) (R : Rm) (p : Pl) (e : Bx) (x y : Sp) (g : Bool) (v1 v25 v26 v27 : Value) (k : Nat) (env : Env) : List Row :=
 match k with
 | 11=>[⟨(env 11).1,0,cSp ⟨0,0⟩,some 24,2⟩]
 | 12=>[⟨(env 12).1,0,cSp ⟨0,0⟩,some 24,2⟩]
 | 13=>[⟨(env 11).1,0,cSp x,some 24,2⟩]
 | 14=>[⟨(env 12).1,0,cSp y,some 24,2⟩]
 | _=>[]
theorem locCa (b3 b5 b6 b10 ii m : Nat) (R : Rm) (p : Pl) (e : Bx) (x y : Sp) (g : Bool) (v1 v25 v26 v27 : Value) : ∀ k env i q9,i ≠ k → (tAt tsCa k).sup.contains i = false → valCa b3 b5 b6 b10 ii m R p e x y g v1 v25 v26 v27 k (upd env i q9)=valCa b3 b5 b6 b10 ii m R p e x y g v1 v25 v26 v27 k env∧rowsCa b3 b5 b6 b10 ii m R p e x y g v1 v25 v26 v27 k (upd env i q9)=rowsCa b3 b5 b6 b10 ii m R p e x y g v1 v25 v26 v27 k env:=by
 intro k env i q hk hs
 have hu : ∀ j,j ≠ i → upd env i q j = env j:=fun j hj=>by unfold upd;rw [if_neg hj]
 match k,hk,hs with
 | 0,_,_=>exact ⟨rfl,rfl⟩
 | 1,_,_=>exact ⟨rfl,rfl⟩
 | 2,_,_=>exact ⟨rfl,rfl⟩
 | 3,_,_=>exact ⟨rfl,rfl⟩
 | 4,_,_=>exact ⟨rfl,rfl⟩
 | 5,_,_=>exact ⟨rfl,rfl⟩
 | 6,_,_=>exact ⟨rfl,rfl⟩
 | 7,_,_=>exact ⟨rfl,rfl⟩
 | 8,_,_=>exact ⟨rfl,rfl⟩
 | 9,_,_=>exact ⟨rfl,rfl⟩
 | 10,_,_=>exact ⟨rfl,rfl⟩
 | 11,hk,hs=>exact ⟨by simp only [valCa,hu 11 (fun e=>hk e.symm)],by simp only [rowsCa,hu 11 (fun e=>hk e.symm)]⟩
 | 12,hk,hs=>exact ⟨by simp only [valCa,hu 12 (fun e=>hk e.symm)],by simp only [rowsCa,hu 12 (fun e=>hk e.symm)]⟩
 | 13,hk,hs=>exact ⟨by simp only [valCa,hu 11 (by rintro rfl;cases hs)],by simp only [rowsCa,hu 11 (by rintro rfl;cases hs)]⟩
 | 14,hk,hs=>exact ⟨by simp only [valCa,hu 12 (by rintro rfl;cases hs)],by simp only [rowsCa,hu 12 (by rintro rfl;cases hs)]⟩
 | _ + 15,_,_=>exact ⟨rfl,rfl⟩
def tsCb : List TOp:=[⟨some 52,[],[],[]⟩,⟨some 53,[],[],[]⟩,⟨some 54,[0],[0],[]⟩,⟨some 55,[0,1,2],[2,1],[]⟩,⟨some 56,[],[],[]⟩,⟨some 57,[4],[4],[]⟩,⟨some 58,[],[],[]⟩,⟨some 59,[6],[6],[]⟩,⟨some 60,[4,5,6,7],[5,7],[]⟩,⟨some 61,[],[],[]⟩,⟨some 62,[9],[9],[]⟩,⟨some 63,[0,1,2,3,4,5,6,7,8,9,10],[3,8,10],[12]⟩,⟨none,[],[],[]⟩]
def valCb (b3 b5 b6 b10 ba bb ii m : Nat) (R : Rm) (p : Pl) (l l1 : List Sp) (x y : Sp) (g w : Bool) (v1 v25 v26 v27 : Value) (k : Nat) (env : Env) : Value :=
 match k with
 | 0 => .int .i64 (ii : Nat)
 | 1 => .int .i64 (m : Nat)
 | 2 => .pointer (some ⟨b5,0 + ii * 24,none⟩)
 | 3 => .pointer (some ⟨b5,0 + ii * 24 + m * 2,none⟩)
 | 4 => .pointer (some ⟨bb,0,none⟩)
 | 5 => .int .i64 y.lo
 | 6 => .pointer (some ⟨b3,1,none⟩)
 | 7 => .int .i64 R.step
 | 8 => .int .i64 (y.lo - R.step)
 | 9 => .pointer (some ⟨bb,1,none⟩)
 | 10 => .int .i64 y.hi
 | 11 => .bool w
 | _=>undef
def rowsCb (b3 b5 b6 b10 ba bb ii m : Nat) (R : Rm) (p : Pl) (l l1 : List Sp) (x y : Sp) (g w : Bool) (v1 v25 v26 v27 : Value) (k : Nat) (env : Env) : List Row :=
 match k with
 | 11=>[⟨b5,0,l1.flatMap cSp,some 149,96⟩]
 | 12=>[⟨b5,0,l.flatMap cSp,some 149,96⟩]
 | _=>[]
theorem locCb (b3 b5 b6 b10 ba bb ii m : Nat) (R : Rm) (p : Pl) (l l1 : List Sp) (x y : Sp) (g w : Bool) (v1 v25 v26 v27 : Value) : ∀ k env i q9,i ≠ k → (tAt tsCb k).sup.contains i = false → valCb b3 b5 b6 b10 ba bb ii m R p l l1 x y g w v1 v25 v26 v27 k (upd env i q9)=valCb b3 b5 b6 b10 ba bb ii m R p l l1 x y g w v1 v25 v26 v27 k env∧rowsCb b3 b5 b6 b10 ba bb ii m R p l l1 x y g w v1 v25 v26 v27 k (upd env i q9)=rowsCb b3 b5 b6 b10 ba bb ii m R p l l1 x y g w v1 v25 v26 v27 k env:=by
 intro k env i q hk hs
 have hu : ∀ j,j ≠ i → upd env i q j = env j:=fun j hj=>by unfold upd;rw [if_neg hj]
 match k,hk,hs with
 | 0,_,_=>exact ⟨rfl,rfl⟩
 | 1,_,_=>exact ⟨rfl,rfl⟩
 | 2,_,_=>exact ⟨rfl,rfl⟩
 | 3,_,_=>exact ⟨rfl,rfl⟩
 | 4,_,_=>exact ⟨rfl,rfl⟩
 | 5,_,_=>exact ⟨rfl,rfl⟩
 | 6,_,_=>exact ⟨rfl,rfl⟩
 | 7,_,_=>exact ⟨rfl,rfl⟩
 | 8,_,_=>exact ⟨rfl,rfl⟩
 | 9,_,_=>exact ⟨rfl,rfl⟩
 | 10,_,_=>exact ⟨rfl,rfl⟩
 | 11,_,_=>exact ⟨rfl,rfl⟩
 | 12,_,_=>exact ⟨rfl,rfl⟩
 | _ + 13,_,_=>exact ⟨rfl,rfl⟩
def tsCc : List TOp:=[⟨some 64,[],[],[]⟩,⟨some 65,[],[],[]⟩,⟨some 66,[1],[1],[]⟩,⟨some 67,[0],[0],[]⟩,⟨some 68,[0,1,2,3],[3,2],[]⟩,⟨some 69,[],[],[]⟩,⟨some 70,[5],[5],[]⟩,⟨some 71,[],[],[]⟩,⟨some 72,[7],[7],[]⟩,⟨some 73,[],[],[]⟩,⟨some 74,[9],[9],[]⟩,⟨some 75,[7,8,9,10],[8,10],[]⟩,⟨some 76,[0,1,2,3,4,5,6,7,8,9,10,11],[4,6,11],[13]⟩,⟨none,[],[],[]⟩]
def valCc (b3 b5 b6 b10 ba bb ii m : Nat) (R : Rm) (p : Pl) (l l1 : List Sp) (x y : Sp) (g w : Bool) (v1 v25 v26 v27 : Value) (k : Nat) (env : Env) : Value :=
 match k with
 | 0 => .int .i64 (ii : Nat)
 | 1 => .int .i64 (m : Nat)
 | 2 => .int .i64 ((m : Nat) + 1)
 | 3 => .pointer (some ⟨b5,0 + ii * 24,none⟩)
 | 4 => .pointer (some ⟨b5,0 + ii * 24 + (m + 1) * 2,none⟩)
 | 5 => .pointer (some ⟨ba,0,none⟩)
 | 6 => .int .i64 x.lo
 | 7 => .pointer (some ⟨ba,1,none⟩)
 | 8 => .int .i64 x.hi
 | 9 => .pointer (some ⟨b3,1,none⟩)
 | 10 => .int .i64 R.step
 | 11 => .int .i64 (x.hi + R.step)
 | 12 => .bool w
 | _=>undef
def rowsCc (b3 b5 b6 b10 ba bb ii m : Nat) (R : Rm) (p : Pl) (l l1 : List Sp) (x y : Sp) (g w : Bool) (v1 v25 v26 v27 : Value) (k : Nat) (env : Env) : List Row :=
 match k with
 | 12=>[⟨b5,0,l1.flatMap cSp,some 149,96⟩]
 | 13=>[⟨b5,0,l.flatMap cSp,some 149,96⟩]
 | _=>[]
theorem locCc (b3 b5 b6 b10 ba bb ii m : Nat) (R : Rm) (p : Pl) (l l1 : List Sp) (x y : Sp) (g w : Bool) (v1 v25 v26 v27 : Value) : ∀ k env i q9,i ≠ k → (tAt tsCc k).sup.contains i = false → valCc b3 b5 b6 b10 ba bb ii m R p l l1 x y g w v1 v25 v26 v27 k (upd env i q9)=valCc b3 b5 b6 b10 ba bb ii m R p l l1 x y g w v1 v25 v26 v27 k env∧rowsCc b3 b5 b6 b10 ba bb ii m R p l l1 x y g w v1 v25 v26 v27 k (upd env i q9)=rowsCc b3 b5 b6 b10 ba bb ii m R p l l1 x y g w v1 v25 v26 v27 k env:=by
 intro k env i q hk hs
 have hu : ∀ j,j ≠ i → upd env i q j = env j:=fun j hj=>by unfold upd;rw [if_neg hj]
 match k,hk,hs with
 | 0,_,_=>exact ⟨rfl,rfl⟩
 | 1,_,_=>exact ⟨rfl,rfl⟩
 | 2,_,_=>exact ⟨rfl,rfl⟩
 | 3,_,_=>exact ⟨rfl,rfl⟩
 | 4,_,_=>exact ⟨rfl,rfl⟩
 | 5,_,_=>exact ⟨rfl,rfl⟩
 | 6,_,_=>exact ⟨rfl,rfl⟩
 | 7,_,_=>exact ⟨rfl,rfl⟩
 | 8,_,_=>exact ⟨rfl,rfl⟩
 | 9,_,_=>exact ⟨rfl,rfl⟩
 | 10,_,_=>exact ⟨rfl,rfl⟩
 | 11,_,_=>exact ⟨rfl,rfl⟩
 | 12,_,_=>exact ⟨rfl,rfl⟩
 | 13,_,_=>exact ⟨rfl,rfl⟩
 | _ + 14,_,_=>exact ⟨rfl,rfl⟩
def tsCd : List TOp:=[⟨some 84,[],[],[]⟩,⟨some 85,[],[],[]⟩,⟨some 86,[1],[1],[]⟩,⟨some 87,[0,1,2],[0,2],[]⟩,⟨some 88,[],[],[]⟩,⟨some 89,[],[],[]⟩,⟨some 90,[5],[5],[]⟩,⟨some 91,[0,1,2,3,4,5,6],[4,6],[]⟩,⟨some 16,[0,1,2,3,4,5,6,7],[3],[]⟩,⟨some 17,[0,1,2,3,4,5,6,7,8],[7],[]⟩]
def valCd (b3 b5 b6 b15 : Nat) (R : Rm) (p : Pl) (x : Mt) (g : Bool) (v1 v79 v80 : Value) (ia ib : Nat) (k : Nat) (env : Env) : Value :=
 match k with
 | 0 => .agg (cRm R p).toArray
 | 1 => .pointer (some ⟨b15,2,none⟩)
 | 2 => .int .i64 x.a
 | 3 => .int .i64 (ia : Nat)
 | 4 => .agg (cRm R p).toArray
 | 5 => .pointer (some ⟨b15,3,none⟩)
 | 6 => .int .i64 x.b
 | 7 => .int .i64 (ib : Nat)
 | 8 => .int .i64 (ia : Nat)
 | 9 => .int .i64 (ib : Nat)
 | _=>undef
def rowsCd (b3 b5 b6 b15 : Nat) (R : Rm) (p : Pl) (x : Mt) (g : Bool) (v1 v79 v80 : Value) (ia ib : Nat) (k : Nat) (env : Env) : List Row :=
 match k with
 | _=>[]
theorem locCd (b3 b5 b6 b15 : Nat) (R : Rm) (p : Pl) (x : Mt) (g : Bool) (v1 v79 v80 : Value) (ia ib : Nat) : ∀ k env i q9,i ≠ k → (tAt tsCd k).sup.contains i = false → valCd b3 b5 b6 b15 R p x g v1 v79 v80 ia ib k (upd env i q9)=valCd b3 b5 b6 b15 R p x g v1 v79 v80 ia ib k env∧rowsCd b3 b5 b6 b15 R p x g v1 v79 v80 ia ib k (upd env i q9)=rowsCd b3 b5 b6 b15 R p x g v1 v79 v80 ia ib k env:=by
 intro k env i q hk hs
 have hu : ∀ j,j ≠ i → upd env i q j = env j:=fun j hj=>by unfold upd;rw [if_neg hj]
 match k,hk,hs with
 | 0,_,_=>exact ⟨rfl,rfl⟩
 | 1,_,_=>exact ⟨rfl,rfl⟩
 | 2,_,_=>exact ⟨rfl,rfl⟩
 | 3,_,_=>exact ⟨rfl,rfl⟩
 | 4,_,_=>exact ⟨rfl,rfl⟩
 | 5,_,_=>exact ⟨rfl,rfl⟩
 | 6,_,_=>exact ⟨rfl,rfl⟩
 | 7,_,_=>exact ⟨rfl,rfl⟩
 | 8,_,_=>exact ⟨rfl,rfl⟩
 | 9,_,_=>exact ⟨rfl,rfl⟩
 | _ + 10,_,_=>exact ⟨rfl,rfl⟩
def tsCe : List TOp:=[⟨some 92,[],[],[]⟩,⟨some 93,[],[],[]⟩,⟨some 94,[1],[1],[]⟩,⟨some 95,[0],[0],[]⟩,⟨some 96,[0,1,2,3],[3,2],[]⟩,⟨some 97,[0,1,2,3,4],[4],[]⟩,⟨some 98,[],[],[]⟩,⟨some 99,[],[],[]⟩,⟨some 100,[7],[7],[]⟩,⟨some 101,[6],[6],[]⟩,⟨some 102,[6,7,8,9],[9,8],[]⟩,⟨some 103,[6,7,8,9,10],[10],[]⟩,⟨some 18,[],[],[]⟩,⟨some 19,[],[],[]⟩,⟨none,[0,1,2,3,4,5,12,13],[12,5],[12]⟩,⟨none,[0,1,2,3,4,5,6,7,8,9,10,11,12,13,14],[13,11],[13]⟩]
def valCe (b3 b5 b6 b15 : Nat) (R : Rm) (p : Pl) (x : Mt) (g : Bool) (v1 v79 v80 : Value) (ia ib : Nat) (u v : Sp) (k : Nat) (env : Env) : Value :=
 match k with
 | 0 => .int .i64 (ia : Nat)
 | 1 => .pointer (some ⟨b15,1,none⟩)
 | 2 => .int .i64 x.month
 | 3 => .pointer (some ⟨b5,0 + ia * 24,none⟩)
 | 4 => .pointer (some ⟨b5,0 + ia * 24 + x.month.toNat * 2,none⟩)
 | 5 => .agg (cSp u).toArray
 | 6 => .int .i64 (ib : Nat)
 | 7 => .pointer (some ⟨b15,1,none⟩)
 | 8 => .int .i64 x.month
 | 9 => .pointer (some ⟨b5,0 + ib * 24,none⟩)
 | 10 => .pointer (some ⟨b5,0 + ib * 24 + x.month.toNat * 2,none⟩)
 | 11 => .agg (cSp v).toArray
 | 12 => .pointer (some ⟨(env 12).1,0,none⟩)
 | 13 => .pointer (some ⟨(env 13).1,0,none⟩)
 | 14=>undef
 | 15=>undef
 | _=>undef
def rowsCe (b3 b5 b6 b15 : Nat) (R : Rm) (p : Pl) (x : Mt) (g : Bool) (v1 v79 v80 : Value) (ia ib : Nat) (u v : Sp) (k : Nat) (env : Env) : List Row :=
 match k with
 | 12=>[⟨(env 12).1,0,cSp ⟨0,0⟩,some 24,2⟩]
 | 13=>[⟨(env 13).1,0,cSp ⟨0,0⟩,some 24,2⟩]
 | 14=>[⟨(env 12).1,0,cSp u,some 24,2⟩]
 | 15=>[⟨(env 13).1,0,cSp v,some 24,2⟩]
 | _=>[]
theorem locCe (b3 b5 b6 b15 : Nat) (R : Rm) (p : Pl) (x : Mt) (g : Bool) (v1 v79 v80 : Value) (ia ib : Nat) (u v : Sp) : ∀ k env i q9,i ≠ k → (tAt tsCe k).sup.contains i = false → valCe b3 b5 b6 b15 R p x g v1 v79 v80 ia ib u v k (upd env i q9)=valCe b3 b5 b6 b15 R p x g v1 v79 v80 ia ib u v k env∧rowsCe b3 b5 b6 b15 R p x g v1 v79 v80 ia ib u v k (upd env i q9)=rowsCe b3 b5 b6 b15 R p x g v1 v79 v80 ia ib u v k env:=by
 intro k env i q hk hs
 have hu : ∀ j,j ≠ i → upd env i q j = env j:=fun j hj=>by unfold upd;rw [if_neg hj]
 match k,hk,hs with
 | 0,_,_=>exact ⟨rfl,rfl⟩
 | 1,_,_=>exact ⟨rfl,rfl⟩
 | 2,_,_=>exact ⟨rfl,rfl⟩
 | 3,_,_=>exact ⟨rfl,rfl⟩
 | 4,_,_=>exact ⟨rfl,rfl⟩
 | 5,_,_=>exact ⟨rfl,rfl⟩
 | 6,_,_=>exact ⟨rfl,rfl⟩
 | 7,_,_=>exact ⟨rfl,rfl⟩
 | 8,_,_=>exact ⟨rfl,rfl⟩
 | 9,_,_=>exact ⟨rfl,rfl⟩
 | 10,_,_=>exact ⟨rfl,rfl⟩
 | 11,_,_=>exact ⟨rfl,rfl⟩
 | 12,hk,hs=>exact ⟨by simp only [valCe,hu 12 (fun e=>hk e.symm)],by simp only [rowsCe,hu 12 (fun e=>hk e.symm)]⟩
 | 13,hk,hs=>exact ⟨by simp only [valCe,hu 13 (fun e=>hk e.symm)],by simp only [rowsCe,hu 13 (fun e=>hk e.symm)]⟩
 | 14,hk,hs=>exact ⟨by simp only [valCe,hu 12 (by rintro rfl;cases hs)],by simp only [rowsCe,hu 12 (by rintro rfl;cases hs)]⟩
 | 15,hk,hs=>exact ⟨by simp only [valCe,hu 13 (by rintro rfl;cases hs)],by simp only [rowsCe,hu 13 (by rintro rfl;cases hs)]⟩
 | _ + 16,_,_=>exact ⟨rfl,rfl⟩
def tsCf : List TOp:=[⟨some 104,[],[],[]⟩,⟨some 105,[],[],[]⟩,⟨some 106,[1],[1],[]⟩,⟨some 107,[0],[0],[]⟩,⟨some 108,[0,1,2,3],[3,2],[]⟩,⟨some 109,[],[],[]⟩,⟨some 110,[5],[5],[]⟩,⟨some 111,[],[],[]⟩,⟨some 112,[7],[7],[]⟩,⟨some 113,[7,8],[8],[]⟩,⟨some 114,[5,6,7,8,9],[6,9],[]⟩,⟨some 115,[],[],[]⟩,⟨some 116,[11],[11],[]⟩,⟨some 117,[],[],[]⟩,⟨some 118,[13],[13],[]⟩,⟨some 119,[13,14],[14],[]⟩,⟨some 120,[11,12,13,14,15],[12,15],[]⟩,⟨some 121,[0,1,2,3,4,5,6,7,8,9,10,11,12,13,14,15,16],[4,10,16],[18]⟩,⟨none,[],[],[]⟩]
def valCf (b3 b5 b6 b15 : Nat) (R : Rm) (p : Pl) (x : Mt) (g : Bool) (v1 v79 v80 : Value) (ia ib bu bv : Nat) (u v : Sp) (l l1 : List Sp) (w : Bool) (k : Nat) (env : Env) : Value :=
 match k with
 | 0 => .int .i64 (ia : Nat)
 | 1 => .pointer (some ⟨b15,1,none⟩)
 | 2 => .int .i64 x.month
 | 3 => .pointer (some ⟨b5,0 + ia * 24,none⟩)
 | 4 => .pointer (some ⟨b5,0 + ia * 24 + x.month.toNat * 2,none⟩)
 | 5 => .pointer (some ⟨bv,0,none⟩)
 | 6 => .int .i64 v.lo
 | 7 => .pointer (some ⟨b15,4,none⟩)
 | 8 => .pointer (some ⟨b15,4,none⟩)
 | 9 => .int .i64 x.lo
 | 10 => .int .i64 (v.lo + x.lo)
 | 11 => .pointer (some ⟨bv,1,none⟩)
 | 12 => .int .i64 v.hi
 | 13 => .pointer (some ⟨b15,4,none⟩)
 | 14 => .pointer (some ⟨b15,5,none⟩)
 | 15 => .int .i64 x.hi
 | 16 => .int .i64 (v.hi + x.hi)
 | 17 => .bool w
 | _=>undef
def rowsCf (b3 b5 b6 b15 : Nat) (R : Rm) (p : Pl) (x : Mt) (g : Bool) (v1 v79 v80 : Value) (ia ib bu bv : Nat) (u v : Sp) (l l1 : List Sp) (w : Bool) (k : Nat) (env : Env) : List Row :=
 match k with
 | 17=>[⟨b5,0,l1.flatMap cSp,some 149,96⟩]
 | 18=>[⟨b5,0,l.flatMap cSp,some 149,96⟩]
 | _=>[]
theorem locCf (b3 b5 b6 b15 : Nat) (R : Rm) (p : Pl) (x : Mt) (g : Bool) (v1 v79 v80 : Value) (ia ib bu bv : Nat) (u v : Sp) (l l1 : List Sp) (w : Bool) : ∀ k env i q9,i ≠ k → (tAt tsCf k).sup.contains i = false → valCf b3 b5 b6 b15 R p x g v1 v79 v80 ia ib bu bv u v l l1 w k (upd env i q9)=valCf b3 b5 b6 b15 R p x g v1 v79 v80 ia ib bu bv u v l l1 w k env∧rowsCf b3 b5 b6 b15 R p x g v1 v79 v80 ia ib bu bv u v l l1 w k (upd env i q9)=rowsCf b3 b5 b6 b15 R p x g v1 v79 v80 ia ib bu bv u v l l1 w k env:=by
 intro k env i q hk hs
 have hu : ∀ j,j ≠ i → upd env i q j = env j:=fun j hj=>by unfold upd;rw [if_neg hj]
 match k,hk,hs with
 | 0,_,_=>exact ⟨rfl,rfl⟩
 | 1,_,_=>exact ⟨rfl,rfl⟩
 | 2,_,_=>exact ⟨rfl,rfl⟩
 | 3,_,_=>exact ⟨rfl,rfl⟩
 | 4,_,_=>exact ⟨rfl,rfl⟩
 | 5,_,_=>exact ⟨rfl,rfl⟩
 | 6,_,_=>exact ⟨rfl,rfl⟩
 | 7,_,_=>exact ⟨rfl,rfl⟩
 | 8,_,_=>exact ⟨rfl,rfl⟩
 | 9,_,_=>exact ⟨rfl,rfl⟩
 | 10,_,_=>exact ⟨rfl,rfl⟩
 | 11,_,_=>exact ⟨rfl,rfl⟩
 | 12,_,_=>exact ⟨rfl,rfl⟩
 | 13,_,_=>exact ⟨rfl,rfl⟩
 | 14,_,_=>exact ⟨rfl,rfl⟩
 | 15,_,_=>exact ⟨rfl,rfl⟩
 | 16,_,_=>exact ⟨rfl,rfl⟩
 | 17,_,_=>exact ⟨rfl,rfl⟩
 | 18,_,_=>exact ⟨rfl,rfl⟩
 | _ + 19,_,_=>exact ⟨rfl,rfl⟩
def tsCg : List TOp:=[⟨some 122,[],[],[]⟩,⟨some 123,[],[],[]⟩,⟨some 124,[1],[1],[]⟩,⟨some 125,[0],[0],[]⟩,⟨some 126,[0,1,2,3],[3,2],[]⟩,⟨some 127,[],[],[]⟩,⟨some 128,[5],[5],[]⟩,⟨some 129,[],[],[]⟩,⟨some 130,[7],[7],[]⟩,⟨some 131,[7,8],[8],[]⟩,⟨some 132,[5,6,7,8,9],[6,9],[]⟩,⟨some 133,[],[],[]⟩,⟨some 134,[11],[11],[]⟩,⟨some 135,[],[],[]⟩,⟨some 136,[13],[13],[]⟩,⟨some 137,[13,14],[14],[]⟩,⟨some 138,[11,12,13,14,15],[12,15],[]⟩,⟨some 139,[0,1,2,3,4,5,6,7,8,9,10,11,12,13,14,15,16],[4,10,16],[18]⟩,⟨none,[],[],[]⟩]
def valCg (b3 b5 b6 b15 : Nat) (R : Rm) (p : Pl) (x : Mt) (g : Bool) (v1 v79 v80 : Value) (ia ib bu bv : Nat) (u v : Sp) (l l1 : List Sp) (w : Bool) (k : Nat) (env : Env) : Value :=
 match k with
 | 0 => .int .i64 (ib : Nat)
 | 1 => .pointer (some ⟨b15,1,none⟩)
 | 2 => .int .i64 x.month
 | 3 => .pointer (some ⟨b5,0 + ib * 24,none⟩)
 | 4 => .pointer (some ⟨b5,0 + ib * 24 + x.month.toNat * 2,none⟩)
 | 5 => .pointer (some ⟨bu,0,none⟩)
 | 6 => .int .i64 u.lo
 | 7 => .pointer (some ⟨b15,4,none⟩)
 | 8 => .pointer (some ⟨b15,5,none⟩)
 | 9 => .int .i64 x.hi
 | 10 => .int .i64 (u.lo - x.hi)
 | 11 => .pointer (some ⟨bu,1,none⟩)
 | 12 => .int .i64 u.hi
 | 13 => .pointer (some ⟨b15,4,none⟩)
 | 14 => .pointer (some ⟨b15,4,none⟩)
 | 15 => .int .i64 x.lo
 | 16 => .int .i64 (u.hi - x.lo)
 | 17 => .bool w
 | _=>undef
def rowsCg (b3 b5 b6 b15 : Nat) (R : Rm) (p : Pl) (x : Mt) (g : Bool) (v1 v79 v80 : Value) (ia ib bu bv : Nat) (u v : Sp) (l l1 : List Sp) (w : Bool) (k : Nat) (env : Env) : List Row :=
 match k with
 | 17=>[⟨b5,0,l1.flatMap cSp,some 149,96⟩]
 | 18=>[⟨b5,0,l.flatMap cSp,some 149,96⟩]
 | _=>[]
theorem locCg (b3 b5 b6 b15 : Nat) (R : Rm) (p : Pl) (x : Mt) (g : Bool) (v1 v79 v80 : Value) (ia ib bu bv : Nat) (u v : Sp) (l l1 : List Sp) (w : Bool) : ∀ k env i q9,i ≠ k → (tAt tsCg k).sup.contains i = false → valCg b3 b5 b6 b15 R p x g v1 v79 v80 ia ib bu bv u v l l1 w k (upd env i q9)=valCg b3 b5 b6 b15 R p x g v1 v79 v80 ia ib bu bv u v l l1 w k env∧rowsCg b3 b5 b6 b15 R p x g v1 v79 v80 ia ib bu bv u v l l1 w k (upd env i q9)=rowsCg b3 b5 b6 b15 R p x g v1 v79 v80 ia ib bu bv u v l l1 w k env:=by
 intro k env i q hk hs
 have hu : ∀ j,j ≠ i → upd env i q j = env j:=fun j hj=>by unfold upd;rw [if_neg hj]
 match k,hk,hs with
 | 0,_,_=>exact ⟨rfl,rfl⟩
 | 1,_,_=>exact ⟨rfl,rfl⟩
 | 2,_,_=>exact ⟨rfl,rfl⟩
 | 3,_,_=>exact ⟨rfl,rfl⟩
 | 4,_,_=>exact ⟨rfl,rfl⟩
 | 5,_,_=>exact ⟨rfl,rfl⟩
 | 6,_,_=>exact ⟨rfl,rfl⟩
 | 7,_,_=>exact ⟨rfl,rfl⟩
 | 8,_,_=>exact ⟨rfl,rfl⟩
 | 9,_,_=>exact ⟨rfl,rfl⟩
 | 10,_,_=>exact ⟨rfl,rfl⟩
 | 11,_,_=>exact ⟨rfl,rfl⟩
 | 12,_,_=>exact ⟨rfl,rfl⟩
 | 13,_,_=>exact ⟨rfl,rfl⟩
 | 14,_,_=>exact ⟨rfl,rfl⟩
 | 15,_,_=>exact ⟨rfl,rfl⟩
 | 16,_,_=>exact ⟨rfl,rfl⟩
 | 17,_,_=>exact ⟨rfl,rfl⟩
 | 18,_,_=>exact ⟨rfl,rfl⟩
 | _ + 19,_,_=>exact ⟨rfl,rfl⟩
def tsCh9 : List TOp:=[⟨some 157,[],[],[]⟩,⟨some 158,[],[],[]⟩,⟨some 159,[0],[0],[]⟩,⟨some 160,[0,1,2],[2,1],[]⟩,⟨some 161,[0,1,2,3],[3],[]⟩,⟨some 162,[0,1,2,3,4],[4],[]⟩,⟨some 163,[],[],[]⟩,⟨some 164,[],[],[]⟩,⟨some 165,[6],[6],[]⟩,⟨some 166,[6,7,8],[8,7],[]⟩,⟨some 167,[6,7,8,9],[9],[]⟩,⟨some 168,[6,7,8,9,10],[10],[]⟩,⟨some 169,[0,1,2,3,4,5,6,7,8,9,10,11],[5,11],[]⟩]
def valCh9 (b3 b5 b6 b21 ii m : Nat) (s : Sp) (w g : Bool) (v1 v142 v143 v144 : Value) (k : Nat) (env : Env) : Value :=
 match k with
 | 0 => .int .i64 (ii : Nat)
 | 1 => .int .i64 (m : Nat)
 | 2 => .pointer (some ⟨b5,0 + ii * 24,none⟩)
 | 3 => .pointer (some ⟨b5,0 + ii * 24 + m * 2,none⟩)
 | 4 => .pointer (some ⟨b5,0 + ii * 24 + m * 2,none⟩)
 | 5 => .int .i64 s.lo
 | 6 => .int .i64 (ii : Nat)
 | 7 => .int .i64 (m : Nat)
 | 8 => .pointer (some ⟨b5,0 + ii * 24,none⟩)
 | 9 => .pointer (some ⟨b5,0 + ii * 24 + m * 2,none⟩)
 | 10 => .pointer (some ⟨b5,0 + ii * 24 + m * 2 + 1,none⟩)
 | 11 => .int .i64 s.hi
 | 12 => .bool w
 | _=>undef
def rowsCh9 (b3 b5 b6 b21 ii m : Nat) (s : Sp) (w g : Bool) (v1 v142 v143 v144 : Value) (k : Nat) (env : Env) : List Row :=
 match k with
 | _=>[]
theorem locCh9 (b3 b5 b6 b21 ii m : Nat) (s : Sp) (w g : Bool) (v1 v142 v143 v144 : Value) : ∀ k env i q9,i ≠ k → (tAt tsCh9 k).sup.contains i = false → valCh9 b3 b5 b6 b21 ii m s w g v1 v142 v143 v144 k (upd env i q9)=valCh9 b3 b5 b6 b21 ii m s w g v1 v142 v143 v144 k env∧rowsCh9 b3 b5 b6 b21 ii m s w g v1 v142 v143 v144 k (upd env i q9)=rowsCh9 b3 b5 b6 b21 ii m s w g v1 v142 v143 v144 k env:=by
 intro k env i q hk hs
 have hu : ∀ j,j ≠ i → upd env i q j = env j:=fun j hj=>by unfold upd;rw [if_neg hj]
 match k,hk,hs with
 | 0,_,_=>exact ⟨rfl,rfl⟩
 | 1,_,_=>exact ⟨rfl,rfl⟩
 | 2,_,_=>exact ⟨rfl,rfl⟩
 | 3,_,_=>exact ⟨rfl,rfl⟩
 | 4,_,_=>exact ⟨rfl,rfl⟩
 | 5,_,_=>exact ⟨rfl,rfl⟩
 | 6,_,_=>exact ⟨rfl,rfl⟩
 | 7,_,_=>exact ⟨rfl,rfl⟩
 | 8,_,_=>exact ⟨rfl,rfl⟩
 | 9,_,_=>exact ⟨rfl,rfl⟩
 | 10,_,_=>exact ⟨rfl,rfl⟩
 | 11,_,_=>exact ⟨rfl,rfl⟩
 | 12,_,_=>exact ⟨rfl,rfl⟩
 | _ + 13,_,_=>exact ⟨rfl,rfl⟩
theorem sp_at {l : List Sp} {k j : Nat} (h : k < l.length) (e : j = k * 2) : ((l.flatMap cSp).drop j).take 2 = cSp (sat l k):=by rw [e];exact (sp_cells l k h).1
theorem nar_at {l : List Sp} {k j b cap T : Nat} {lo hi : Int} (h : k < l.length) (e : j = k * 2) {l1 : List Sp} {w : Bool} (hl : l1 = nar l k ⟨lo,hi⟩) (hw : w = decide (cut (sat l k) ⟨lo,hi⟩ ≠ sat l k)) (S : List Row) :
  Fc Tryz.prog 131 [.pointer (some ⟨b,j,none⟩),.int .i64 lo,.int .i64 hi] (⟨b,0,l.flatMap cSp,some T,cap⟩::S) (fun v H' => v = .bool w∧H' = ⟨b,0,l1.flatMap cSp,some T,cap⟩::S):=by
 rw [e,hl,hw];exact narrow_spec l k b cap T lo hi S h
set_option maxHeartbeats 16000000 in
theorem closed_spec (R : Rm) (p : Pl) (M : List Mt) (am : Option Addr) (cm : Nat) (c : List Sp) (H : List Row) (hr : okRm R) (hR : RmOk H R p) (hM : SlE H am cMt 6 M) (hML : M.length ≤ 100) (hm : matsThere R M) (hc : c.length = 48) (hok : ∀ k,0 ≤ (sat c k).lo∧(sat c k).lo ≤ (sat c k).hi∧(sat c k).hi ≤ 60) :
  Fc Tryz.prog 124 [.agg (cRm R p).toArray,.slice am M.length cm,.agg (c.flatMap cSp).toArray] H (fun v H' => ∃ l,H' = H∧((ClosedT R M c l∧v = .tuple #[.agg (l.flatMap cSp).toArray,.bool true])∨(l.length = 48∧(∀ z,Tru R M z → ¬ Inn R c z)∧v = .tuple #[.agg (l.flatMap cSp).toArray,.bool false]))):=by
 have hb4:=hr.b4
 have hm12:=hr.m12
 have hs0:=hr.s0
 have hs60:=hr.s60
 have hcl : (c.flatMap cSp).length = 96:=by rw [sp_len,hc]
 have ok0 : ∀ b ∈ R.boxes,0 ≤ b.made:=fun b hb=>(okBoxes_mem _ _ _ hr.bx b hb).2.2.1
 obtain ⟨a1,c1,a2,c2,a3,c3⟩:=p
 refine Fc.mk (callable Tryz.call124) Tryz.func124 rfl Tryz.ntmps124 rfl ?_;dsimp only [fr]
 repeat' (first | (refine uP rfl ?_;(first | ((first | refine uN rfl ?_);(first | (refine uE (uA rfl rfl) rfl rfl ?_)|(refine Xg.st (StF.boxAgg rfl rfl) rfl rfl ?_;rintro _ _ ⟨bx,rfl,rfl⟩)|(refine Xg.st (StF.alloc rfl Tryz.zeroValue149 rfl) rfl rfl ?_;rintro _ _ ⟨bx,rfl,rfl⟩)))))|(refine uD rfl ?_;refine hK _ _ ?_;clear hK K) | refine uS rfl ?_ | refine uR rfl (fun K hK=>?_) | refine X.block rfl ?_)
 rename_i b3 b5
 generalize bx = b6
 rw [hcl]
 refine X.permH (H' := ⟨b5,0,c.flatMap cSp,some 149,96⟩::⟨b6,0,zRc.flatMap cSp,some 149,96⟩::⟨b3,0,cRm R ⟨a1,c1,a2,c2,a3,c3⟩,some 32,5⟩::H) (List.Perm.swap _ _ _) ?_
 refine X.lp rfl (fun q F' H' => ∃ (l0 : List Sp) (a : Bool),q = (if a then (wid l0).toNat + 1 else 0)∧Cl R M c l0 a∧H' = ⟨b5,0,l0.flatMap cSp,some 149,96⟩::⟨b6,0,zRc.flatMap cSp,some 149,96⟩::⟨b3,0,cRm R ⟨a1,c1,a2,c2,a3,c3⟩,some 32,5⟩::H∧F' = [(1,.slice am M.length cm),(3,.pointer (some ⟨b3,0,none⟩)),(5,.pointer (some ⟨b5,0,none⟩)),(6,.pointer (some ⟨b6,0,none⟩)),(7,.bool false),(8,.bool a)])
  ((wid c).toNat + 1) [(1,.slice am M.length cm),(3,.pointer (some ⟨b3,0,none⟩)),(5,.pointer (some ⟨b5,0,none⟩)),(6,.pointer (some ⟨b6,0,none⟩)),(7,.bool false),(8,.bool true)] _ (by repeat (first | exact uU _ | refine uV rfl ?_)) (qR _) ⟨c,true,rfl,⟨hc,fun k=>⟨Int.le_refl _,Int.le_refl _⟩,hok,fun _ _ h=>h,fun h=>by cases h⟩,rfl,rfl⟩ ?_
 rintro _ _ _ ⟨l0,a,rfl,hCl,rfl,rfl⟩
 repeat' (first | (refine uP rfl ?_;(first | ((first | refine uN rfl ?_);(first | (refine uE (uM rfl rfl) rfl rfl ?_)|(refine uE (uA rfl rfl) rfl rfl ?_)|(refine uE (uF rfl rfl (te rfl) rfl (te rfl) (by decide)) rfl rfl ?_)|(refine uE (EvF.lenSlice rfl rfl (te rfl)) rfl rfl ?_)|(refine uE (uL rfl rfl (uO (te rfl) rfl (qT _ (qT _ (qH _))) rfl)) rfl rfl ?_)))))|(refine uD rfl ?_;refine hK _ _ ?_;clear hK K) | refine uS rfl ?_ | refine uR rfl (fun K hK=>?_) | refine X.block rfl ?_ | (refine X.brk rfl ?_;repeat (first | refine blockX_hit rfl ?_ | refine blockX_miss (by decide) ?_)) | refine X.skip rfl ?_ | (refine X.ite rfl rfl (fun hc=>?_);(first | (with_reducible refine Xb.caseB hc (fun h=>?_) (fun h=>?_))) <;> clear hc))
 ·-- a round
  subst_vars
  refine X.lp rfl (fun q F' H' => ∃ (i : Nat) (cur : List Sp) (ag : Bool),q = R.boxes.length - i∧i ≤ R.boxes.length∧Mo R M l0 cur ag i 0∧H' = ⟨b5,0,cur.flatMap cSp,some 149,96⟩::⟨b6,0,zRc.flatMap cSp,some 149,96⟩::⟨b3,0,cRm R ⟨a1,c1,a2,c2,a3,c3⟩,some 32,5⟩::H∧F' = [(1,.slice am M.length cm),(3,.pointer (some ⟨b3,0,none⟩)),(5,.pointer (some ⟨b5,0,none⟩)),(6,.pointer (some ⟨b6,0,none⟩)),(7,.bool false),(8,.bool ag),(25,.slice a2 R.boxes.length c2),(26,.int .i64 R.boxes.length),(27,.int .i64 i)])
   R.boxes.length [(1,.slice am M.length cm),(3,.pointer (some ⟨b3,0,none⟩)),(5,.pointer (some ⟨b5,0,none⟩)),(6,.pointer (some ⟨b6,0,none⟩)),(7,.bool false),(8,.bool false),(25,.slice a2 R.boxes.length c2),(26,.int .i64 R.boxes.length),(27,.int .i64 (0 : Nat))] _ (by repeat (first | exact uU _ | refine uV rfl ?_)) (qR _) ⟨0,l0,false,by omega,by omega,hCl.start ok0,rfl,rfl⟩ ?_
  rintro _ _ _ ⟨i,cur,ag,rfl,hi,hMo,rfl,rfl⟩
  repeat' (first | (refine uP rfl ?_;(first | ((first | refine uN rfl ?_);(first | (refine uE (uM rfl rfl) rfl rfl ?_)|(refine uE (uQ rfl rfl rfl rfl) rfl rfl ?_)|(refine uE (EvF.lenSlice rfl rfl (te rfl)) rfl rfl ?_)))))|(refine uD rfl ?_;refine hK _ _ ?_;clear hK K) | refine uS rfl ?_ | refine uR rfl (fun K hK=>?_) | refine X.block rfl ?_ | (refine X.brk rfl ?_;repeat (first | refine blockX_hit rfl ?_ | refine blockX_miss (by decide) ?_)) | refine X.skip rfl ?_ | (refine X.ite rfl rfl (fun hc=>?_);(first | (with_reducible refine Xb.case hc (fun h=>?_) (fun h=>?_))) <;> clear hc))
  ·obtain ⟨b0,off,e,rfl,he⟩:=hR.boxes.elem (i:=i) (by omega)
   have hmem:=List.mem_of_getElem? he
   have hbx:=okBoxes_mem _ _ _ hr.bx e hmem
   obtain ⟨m0,hm0⟩ : ∃ m0 : Nat,(m0 : Int)=e.made:=⟨e.made.toNat,by omega⟩
   repeat' (first | (refine uP rfl ?_;(first | ((first | refine uN rfl ?_);(first | (refine uE (uL rfl rfl (LoadV.elA0 (hR.boxes.sub (fun _ h=>by repeat (first | exact h | apply qT))) he (te rfl) rfl (fun _ hm=>hm) rfl)) rfl rfl ?_)|(refine uE (uA rfl rfl) rfl rfl ?_)|(refine uE (uF rfl rfl (te rfl) rfl (te rfl) (by decide)) rfl rfl ?_)|(refine uE (EvF.indexSlice rfl rfl rfl (te rfl) (te rfl) (by omega) (by omega)) rfl rfl ?_)|(refine uE (uL rfl rfl (uO (te rfl) rfl (qH _) rfl)) rfl rfl ?_)|(refine Xg.st (StF.alloc rfl Tryz.zeroValue24 rfl) rfl rfl ?_;rintro _ _ ⟨bx,rfl,rfl⟩)|(refine Xg.st0 (StF.storeAll (i:=0) rfl rfl rfl (te rfl) rfl rfl rfl rfl) rfl ?_;rintro _ _ ⟨rfl,rfl⟩;dsimp only [List.set])))))|(refine uD rfl ?_;refine hK _ _ ?_;clear hK K) | refine uS rfl ?_ | refine uR rfl (fun K hK=>?_) | refine X.block rfl ?_)
   rename Nat=>b10
   refine X.permH (H' := ⟨b5,0,cur.flatMap cSp,some 149,96⟩::⟨b10,0,cBx e,some 47,2⟩::⟨b6,0,zRc.flatMap cSp,some 149,96⟩::⟨b3,0,cRm R ⟨a1,c1,some ⟨b0,off,none⟩,c2,a3,c3⟩,some 32,5⟩::H) (List.Perm.swap _ _ _) ?_
   refine X.lp rfl (fun q F' H' => ∃ (m : Nat) (cur : List Sp) (ag : Bool),q = R.months.toNat - m∧(m : Int)<R.months∧e.made ≤ m∧Mo R M l0 cur ag i m∧H' = ⟨b5,0,cur.flatMap cSp,some 149,96⟩::⟨b10,0,cBx e,some 47,2⟩::⟨b6,0,zRc.flatMap cSp,some 149,96⟩::⟨b3,0,cRm R ⟨a1,c1,some ⟨b0,off,none⟩,c2,a3,c3⟩,some 32,5⟩::H∧F' = [(1,.slice am M.length cm),(3,.pointer (some ⟨b3,0,none⟩)),(5,.pointer (some ⟨b5,0,none⟩)),(6,.pointer (some ⟨b6,0,none⟩)),(7,.bool false),(8,.bool ag),(9,.int .i64 i),(10,.pointer (some ⟨b10,0,none⟩)),(11,.int .i64 m),(25,.slice (some ⟨b0,off,none⟩) R.boxes.length c2),(26,.int .i64 R.boxes.length),(27,.int .i64 i)])
    (R.months.toNat - m0) [(1,.slice am M.length cm),(3,.pointer (some ⟨b3,0,none⟩)),(5,.pointer (some ⟨b5,0,none⟩)),(6,.pointer (some ⟨b6,0,none⟩)),(7,.bool false),(8,.bool ag),(9,.int .i64 i),(10,.pointer (some ⟨b10,0,none⟩)),(11,.int .i64 m0),(25,.slice (some ⟨b0,off,none⟩) R.boxes.length c2),(26,.int .i64 R.boxes.length),(27,.int .i64 i)] _ (by rw [hm0];exact (by repeat (first | exact uU _ | refine uV rfl ?_))) (qR _) ⟨m0,cur,ag,rfl,by omega,by omega,by rw [hm0];exact hMo.start hr he,rfl,rfl⟩ ?_
   clear hMo cur ag
   rintro _ _ _ ⟨m,cur,ag,rfl,hm1,hme,hMo,rfl,rfl⟩
   repeat' (first | (refine uP rfl ?_;(first | ((first | refine uN rfl ?_);(first | (refine uE (uM rfl rfl) rfl rfl ?_)|(refine uE (uQ rfl rfl rfl rfl) rfl rfl ?_)|(refine uE (EvF.add64 rfl rfl rfl (by omega) (by omega)) rfl rfl ?_)|(refine uE (uF rfl rfl (te rfl) rfl (te rfl) (by decide)) rfl rfl ?_)|(refine uE (uL rfl rfl (uO (te rfl) rfl (qT _ (qT _ (qT _ (qH _)))) rfl)) rfl rfl ?_)))))|(refine uD rfl ?_;refine hK _ _ ?_;clear hK K) | refine uS rfl ?_ | refine uR rfl (fun K hK=>?_) | refine X.block rfl ?_ | (refine X.brk rfl ?_;repeat (first | refine blockX_hit rfl ?_ | refine blockX_miss (by decide) ?_)) | refine X.skip rfl ?_ | (refine X.ite rfl rfl (fun hc=>?_);(first | (with_reducible refine Xb.case hc (fun h=>?_) (fun h=>?_))) <;> clear hc))
   ·have hil : i < R.boxes.length:=(List.getElem?_eq_some_iff.1 he).1
    have ht : there R e m:=⟨hmem,hme,by omega⟩
    have ht2 : there R e ((m : Int) + 1):=⟨hmem,by omega,by omega⟩
    have hcl2 : cur.length = 48:=by obtain ⟨n,_,h⟩:=hMo.nv;exact h.len
    obtain ⟨x,hx⟩ : ∃ x,x = sat cur (i * 12 + m):=⟨_,rfl⟩
    obtain ⟨y,hy⟩ : ∃ y,y = sat cur (i * 12 + (m + 1)):=⟨_,rfl⟩
    obtain ⟨l1,hl1⟩ : ∃ l1,l1 = nar cur (i * 12 + m) ⟨y.lo - R.step,y.hi⟩:=⟨_,rfl⟩
    obtain ⟨l2,hl2⟩ : ∃ l2,l2 = nar l1 (i * 12 + (m + 1)) ⟨x.lo,x.hi + R.step⟩:=⟨_,rfl⟩
    obtain ⟨w1,hw1⟩ : ∃ w1,w1 = decide (cut (sat cur (i * 12 + m)) ⟨y.lo - R.step,y.hi⟩ ≠ sat cur (i * 12 + m)):=⟨_,rfl⟩
    obtain ⟨w2,hw2⟩ : ∃ w2,w2 = decide (cut (sat l1 (i * 12 + (m + 1))) ⟨x.lo,x.hi + R.step⟩ ≠ sat l1 (i * 12 + (m + 1))):=⟨_,rfl⟩
    have hset:=hMo.set hr he ht ht2 hx hy l1 l2 w1 w2 hl1 hl2 hw1 hw2
    have hc1:=sp_at (l:=cur) (k:=i * 12 + m) (j:=0 + i * 24 + m * 2) (by omega) (by omega)
    have hc2:=sp_at (l:=cur) (k:=i * 12 + (m + 1)) (j:=0 + i * 24 + (m + 1) * 2) (by omega) (by omega)
    have hl1l : l1.length = 48:=by rw [hl1];unfold nar;rw [List.length_set];exact hcl2
    have hn1:=nar_at (l:=cur) (k:=i * 12 + m) (j:=0 + i * 24 + m * 2) (b:=b5) (cap:=96) (T:=149) (by omega) (by omega) hl1 hw1
    have hn2:=nar_at (l:=l1) (k:=i * 12 + (m + 1)) (j:=0 + i * 24 + (m + 1) * 2) (b:=b5) (cap:=96) (T:=149) (by omega) (by omega) hl2 hw2
    rw [← hx] at hc1
    rw [← hy] at hc2
    have bdx : -100000 ≤ x.lo∧x.lo ≤ 100000 ∧ -100000 ≤ x.hi∧x.hi ≤ 100000:=by obtain ⟨n,h1,h⟩:=hMo.nv;have:=h.bd (i * 12 + m);rw [← hx] at this;omega
    have bdy : -100000 ≤ y.lo∧y.lo ≤ 100000 ∧ -100000 ≤ y.hi∧y.hi ≤ 100000:=by obtain ⟨n,h1,h⟩:=hMo.nv;have:=h.bd (i * 12 + (m + 1));rw [← hy] at this;omega
    refine X.regionOb tsCa [1,3,5,6,7,8,9,10,11,25,26,27] [(1,(.slice am M.length cm)),(3,.pointer (some ⟨b3,0,none⟩)),(5,.pointer (some ⟨b5,0,none⟩)),(6,.pointer (some ⟨b6,0,none⟩)),(7,.bool false),(8,.bool ag),(9,.int .i64 (i : Nat)),(10,.pointer (some ⟨b10,0,none⟩)),(11,.int .i64 (m : Nat)),(25,(.slice (some ⟨b0,off,none⟩) R.boxes.length c2)),(26,(.int .i64 R.boxes.length)),(27,(.int .i64 i))] (valCa b3 b5 b6 b10 i m R ⟨a1,c1,(some ⟨b0,off,none⟩),c2,a3,c3⟩ e x y ag (.slice am M.length cm) (.slice (some ⟨b0,off,none⟩) R.boxes.length c2) (.int .i64 R.boxes.length) (.int .i64 i)) (rowsCa b3 b5 b6 b10 i m R ⟨a1,c1,(some ⟨b0,off,none⟩),c2,a3,c3⟩ e x y ag (.slice am M.length cm) (.slice (some ⟨b0,off,none⟩) R.boxes.length c2) (.int .i64 R.boxes.length) (.int .i64 i)) (fun _=>(0,0)) (⟨b5,0,cur.flatMap cSp,some 149,96⟩::⟨b10,0,cBx e,some 47,2⟩::⟨b6,0,zRc.flatMap cSp,some 149,96⟩::⟨b3,0,cRm R ⟨a1,c1,some ⟨b0,off,none⟩,c2,a3,c3⟩,some 32,5⟩::H) rfl mixed (by repeat (first | exact uU _ | refine uV rfl ?_)) rfl (by kernel_rfl) (locCa b3 b5 b6 b10 i m R ⟨a1,c1,(some ⟨b0,off,none⟩),c2,a3,c3⟩ e x y ag (.slice am M.length cm) (.slice (some ⟨b0,off,none⟩) R.boxes.length c2) (.int .i64 R.boxes.length) (.int .i64 i)) (qR _) ?_ ?_
    ·repeat' (first | exact AllF.done rfl | (refine AllF.step rfl ?_ ?_;·(first | fail | ((first | refine Ob.ng rfl ?_);(first | exact ObK.pure (fun env R hR=>by exact ⟨_,uM rfl rfl,rfl⟩) rfl (fun _=>rfl)|((refine ObK.pure (fun env S hS=>⟨.pointer (some ⟨b5,0 + i * 24,none⟩),?_,rfl⟩) rfl (fun _=>rfl);exact EvF.indexArray (i:=(i : Int)) (off:=0) (b:=b5) (T:=149) (e:=147) (len:=4) rfl rfl rfl (te rfl) (te rfl) (by omega) (by omega)))|((refine ObK.pure (fun env S hS=>⟨.pointer (some ⟨b5,0 + i * 24 + m * 2,none⟩),?_,rfl⟩) rfl (fun _=>rfl);exact EvF.indexArray (i:=(m : Int)) (off:=0 + i * 24) (b:=b5) (T:=147) (e:=24) (len:=12) rfl rfl rfl (te rfl) (te rfl) (by omega) (by omega)))|((refine ObK.pure (fun env S hS=>⟨.pointer (some ⟨b5,0 + i * 24 + (m + 1) * 2,none⟩),?_,rfl⟩) rfl (fun _=>rfl);exact EvF.indexArray (i:=((m + 1 : Nat) : Int)) (off:=0 + i * 24) (b:=b5) (T:=147) (e:=24) (len:=12) rfl rfl rfl (te rfl) (te rfl) (by omega) (by omega)))|(exact ObK.pure (fun env S hS=>⟨_,uL rfl rfl (LoadV.ownAgg (te rfl) rfl (hS _ (qH _)) hc1 rfl),rfl⟩) rfl (fun _=>rfl))|(exact ObK.pure (fun env S hS=>⟨_,uL rfl rfl (LoadV.ownAgg (te rfl) rfl (hS _ (qH _)) hc2 rfl),rfl⟩) rfl (fun _=>rfl))|(exact fun env S hS=>(StF.alloc rfl Tryz.zeroValue24 rfl).op.mono (fun v H' ⟨b,hv,hH⟩=>⟨(b,0),fun _=>hv,by rw [hH];exact List.Perm.refl _⟩))|(exact fun env S hS=>(StF.storeAll (i:=0) (vs:=cSp x) (cs:=cSp ⟨0,0⟩) rfl rfl rfl (te rfl) rfl rfl rfl rfl).op.mono (fun v H' ⟨hv,hH⟩=>⟨(0,0),fun h=>absurd rfl h,by rw [hH];exact List.Perm.refl _⟩))|(exact fun env S hS=>(StF.storeAll (i:=0) (vs:=cSp y) (cs:=cSp ⟨0,0⟩) rfl rfl rfl (te rfl) rfl rfl rfl rfl).op.mono (fun v H' ⟨hv,hH⟩=>⟨(0,0),fun h=>absurd rfl h,by rw [hH];exact List.Perm.refl _⟩))|(exact ObK.pure (fun env S hS=>⟨_,EvF.add64 rfl rfl rfl (by omega) (by omega),rfl⟩) rfl (fun _=>rfl)))))))
    intro env t ha2 hv;refine ⟨_,(ha2.cons (hv 11 12 (Nat.le_of_ble_eq_true rfl) rfl)).cons (hv 12 13 (Nat.le_of_ble_eq_true rfl) rfl),?_⟩;clear hv ha2
    show X _ _ _ [(13,.pointer (some ⟨(env 12).1,0,none⟩)),(12,.pointer (some ⟨(env 11).1,0,none⟩)),(1,.slice am M.length cm),(3,.pointer (some ⟨b3,0,none⟩)),(5,.pointer (some ⟨b5,0,none⟩)),(6,.pointer (some ⟨b6,0,none⟩)),(7,.bool false),(8,.bool ag),(9,.int .i64 i),(10,.pointer (some ⟨b10,0,none⟩)),(11,.int .i64 m),(25,.slice (some ⟨b0,off,none⟩) R.boxes.length c2),(26,.int .i64 R.boxes.length),(27,.int .i64 i)] (⟨(env 11).1,0,cSp x,some 24,2⟩::⟨(env 12).1,0,cSp y,some 24,2⟩::⟨b5,0,cur.flatMap cSp,some 149,96⟩::⟨b10,0,cBx e,some 47,2⟩::⟨b6,0,zRc.flatMap cSp,some 149,96⟩::⟨b3,0,cRm R ⟨a1,c1,some ⟨b0,off,none⟩,c2,a3,c3⟩,some 32,5⟩::H) _
    generalize (env 11).1 = ba
    generalize (env 12).1 = bb
    clear env
    refine X.permH (H' := ⟨b5,0,cur.flatMap cSp,some 149,96⟩::⟨ba,0,cSp x,some 24,2⟩::⟨bb,0,cSp y,some 24,2⟩::⟨b10,0,cBx e,some 47,2⟩::⟨b6,0,zRc.flatMap cSp,some 149,96⟩::⟨b3,0,cRm R ⟨a1,c1,some ⟨b0,off,none⟩,c2,a3,c3⟩,some 32,5⟩::H) (List.perm_middle (l₁:=[_,_])).symm ?_
    obtain ⟨g1,hg1⟩ : ∃ g1,g1 = (ag || w1):=⟨_,rfl⟩
    obtain ⟨g2,hg2⟩ : ∃ g2,g2 = (g1 || w2):=⟨_,rfl⟩
    rw [← hg1, ← hg2] at hset
    refine uS rfl ?_
    refine X.toN (F1:=[(13,.pointer (some ⟨bb,0,none⟩)),(12,.pointer (some ⟨ba,0,none⟩)),(1,.slice am M.length cm),(3,.pointer (some ⟨b3,0,none⟩)),(5,.pointer (some ⟨b5,0,none⟩)),(6,.pointer (some ⟨b6,0,none⟩)),(7,.bool false),(8,.bool g1),(9,.int .i64 i),(10,.pointer (some ⟨b10,0,none⟩)),(11,.int .i64 m),(25,.slice (some ⟨b0,off,none⟩) R.boxes.length c2),(26,.int .i64 R.boxes.length),(27,.int .i64 i)]) (H1:=⟨b5,0,l1.flatMap cSp,some 149,96⟩::⟨ba,0,cSp x,some 24,2⟩::⟨bb,0,cSp y,some 24,2⟩::⟨b10,0,cBx e,some 47,2⟩::⟨b6,0,zRc.flatMap cSp,some 149,96⟩::⟨b3,0,cRm R ⟨a1,c1,some ⟨b0,off,none⟩,c2,a3,c3⟩,some 32,5⟩::H) ?_ ?_
    ·refine uS rfl ?_
     refine X.regionOb tsCb [1,3,5,6,7,8,9,10,11,12,13,25,26,27] [(1,(.slice am M.length cm)),(3,.pointer (some ⟨b3,0,none⟩)),(5,.pointer (some ⟨b5,0,none⟩)),(6,.pointer (some ⟨b6,0,none⟩)),(7,.bool false),(8,.bool ag),(9,.int .i64 (i : Nat)),(10,.pointer (some ⟨b10,0,none⟩)),(11,.int .i64 (m : Nat)),(12,.pointer (some ⟨ba,0,none⟩)),(13,.pointer (some ⟨bb,0,none⟩)),(25,(.slice (some ⟨b0,off,none⟩) R.boxes.length c2)),(26,(.int .i64 R.boxes.length)),(27,(.int .i64 i))] (valCb b3 b5 b6 b10 ba bb i m R ⟨a1,c1,(some ⟨b0,off,none⟩),c2,a3,c3⟩ cur l1 x y ag w1 (.slice am M.length cm) (.slice (some ⟨b0,off,none⟩) R.boxes.length c2) (.int .i64 R.boxes.length) (.int .i64 i)) (rowsCb b3 b5 b6 b10 ba bb i m R ⟨a1,c1,(some ⟨b0,off,none⟩),c2,a3,c3⟩ cur l1 x y ag w1 (.slice am M.length cm) (.slice (some ⟨b0,off,none⟩) R.boxes.length c2) (.int .i64 R.boxes.length) (.int .i64 i)) (fun _=>(0,0)) (⟨ba,0,cSp x,some 24,2⟩::⟨bb,0,cSp y,some 24,2⟩::⟨b10,0,cBx e,some 47,2⟩::⟨b6,0,zRc.flatMap cSp,some 149,96⟩::⟨b3,0,cRm R ⟨a1,c1,some ⟨b0,off,none⟩,c2,a3,c3⟩,some 32,5⟩::H) rfl mixed (by repeat (first | exact uU _ | refine uV rfl ?_)) rfl (by kernel_rfl) (locCb b3 b5 b6 b10 ba bb i m R ⟨a1,c1,(some ⟨b0,off,none⟩),c2,a3,c3⟩ cur l1 x y ag w1 (.slice am M.length cm) (.slice (some ⟨b0,off,none⟩) R.boxes.length c2) (.int .i64 R.boxes.length) (.int .i64 i)) (qR _) ?_ ?_
     ·repeat' (first | exact AllF.done rfl | (refine AllF.step rfl ?_ ?_;·(first | fail | ((first | refine Ob.ng rfl ?_);(first | exact ObK.pure (fun env R hR=>by exact ⟨_,uM rfl rfl,rfl⟩) rfl (fun _=>rfl) | exact ObK.pure (fun env R hR=>by exact ⟨_,uF rfl rfl (te rfl) rfl (te rfl) (by decide),rfl⟩) rfl (fun _=>rfl) | exact ObK.pure (fun env R hR=>by exact ⟨_,uL rfl rfl (uO (te rfl) rfl (hR _ (qT _ (qH _))) rfl),rfl⟩) rfl (fun _=>rfl)|((refine ObK.pure (fun env S hS=>⟨.pointer (some ⟨b5,0 + i * 24,none⟩),?_,rfl⟩) rfl (fun _=>rfl);exact EvF.indexArray (i:=(i : Int)) (off:=0) (b:=b5) (T:=149) (e:=147) (len:=4) rfl rfl rfl (te rfl) (te rfl) (by omega) (by omega)))|((refine ObK.pure (fun env S hS=>⟨.pointer (some ⟨b5,0 + i * 24 + m * 2,none⟩),?_,rfl⟩) rfl (fun _=>rfl);exact EvF.indexArray (i:=(m : Int)) (off:=0 + i * 24) (b:=b5) (T:=147) (e:=24) (len:=12) rfl rfl rfl (te rfl) (te rfl) (by omega) (by omega)))|(exact fun env S hS=>(OpF.call (uT rfl (Args.cons rfl (Args.cons rfl (Args.cons rfl Args.nil)))) (hn1 S)).mono (fun v H' ⟨hv,hH⟩=>⟨(0,0),fun _=>hv,by rw [hH];exact List.Perm.refl _⟩))|(exact ObK.pure (fun env S hS=>⟨_,uL rfl rfl (uO (te rfl) rfl (hS _ (qT _ (qT _ (qT _ (qT _ (qH _)))))) rfl),rfl⟩) rfl (fun _=>rfl))|(exact ObK.pure (fun env S hS=>⟨_,EvF.sub64 rfl rfl rfl (by omega) (by omega),rfl⟩) rfl (fun _=>rfl)))))))
     intro env t ha2 hv;refine ⟨_,ha2.cons (hv 11 63 (Nat.le_of_ble_eq_true rfl) rfl),?_⟩;clear hv ha2
     show X _ _ _ [(63,.bool w1),(1,.slice am M.length cm),(3,.pointer (some ⟨b3,0,none⟩)),(5,.pointer (some ⟨b5,0,none⟩)),(6,.pointer (some ⟨b6,0,none⟩)),(7,.bool false),(8,.bool ag),(9,.int .i64 i),(10,.pointer (some ⟨b10,0,none⟩)),(11,.int .i64 m),(12,.pointer (some ⟨ba,0,none⟩)),(13,.pointer (some ⟨bb,0,none⟩)),(25,.slice (some ⟨b0,off,none⟩) R.boxes.length c2),(26,.int .i64 R.boxes.length),(27,.int .i64 i)] (⟨b5,0,l1.flatMap cSp,some 149,96⟩::⟨ba,0,cSp x,some 24,2⟩::⟨bb,0,cSp y,some 24,2⟩::⟨b10,0,cBx e,some 47,2⟩::⟨b6,0,zRc.flatMap cSp,some 149,96⟩::⟨b3,0,cRm R ⟨a1,c1,some ⟨b0,off,none⟩,c2,a3,c3⟩,some 32,5⟩::H) _
     clear env
     refine X.iteB rfl rfl (fun q=>?_) (fun q=>?_)
     ·have qg : g1 = true:=by rw [hg1,q];simp
      rw [qg]
      repeat' (first | (refine uP rfl ?_;(first | ((first | refine uN rfl ?_);(first | (refine uE (uA rfl rfl) rfl rfl ?_)))))|(refine uD rfl ?_;refine hK _ _ ?_;clear hK K) | refine uR rfl (fun K hK=>?_))
      exact ⟨rfl,(by repeat (first | exact uU _ | refine uV rfl ?_)),(by repeat (first | exact qR _ | apply qK | apply qC))⟩
     ·have qg : g1 = ag:=by rw [hg1,q];simp
      rw [qg]
      exact X.skip rfl ⟨rfl,(by repeat (first | exact uU _ | refine uV rfl ?_)),(by repeat (first | exact qR _ | apply qK | apply qC))⟩
    ·refine X.toQ (F1:=[(13,.pointer (some ⟨bb,0,none⟩)),(12,.pointer (some ⟨ba,0,none⟩)),(1,.slice am M.length cm),(3,.pointer (some ⟨b3,0,none⟩)),(5,.pointer (some ⟨b5,0,none⟩)),(6,.pointer (some ⟨b6,0,none⟩)),(7,.bool false),(8,.bool g2),(9,.int .i64 i),(10,.pointer (some ⟨b10,0,none⟩)),(11,.int .i64 m),(25,.slice (some ⟨b0,off,none⟩) R.boxes.length c2),(26,.int .i64 R.boxes.length),(27,.int .i64 i)]) (H1:=⟨b5,0,l2.flatMap cSp,some 149,96⟩::⟨ba,0,cSp x,some 24,2⟩::⟨bb,0,cSp y,some 24,2⟩::⟨b10,0,cBx e,some 47,2⟩::⟨b6,0,zRc.flatMap cSp,some 149,96⟩::⟨b3,0,cRm R ⟨a1,c1,some ⟨b0,off,none⟩,c2,a3,c3⟩,some 32,5⟩::H) ?_ (fun F' H' q1 q2=>?_)
     ·refine uS rfl ?_
      refine X.regionOb tsCc [1,3,5,6,7,8,9,10,11,12,13,25,26,27] [(1,(.slice am M.length cm)),(3,.pointer (some ⟨b3,0,none⟩)),(5,.pointer (some ⟨b5,0,none⟩)),(6,.pointer (some ⟨b6,0,none⟩)),(7,.bool false),(8,.bool g1),(9,.int .i64 (i : Nat)),(10,.pointer (some ⟨b10,0,none⟩)),(11,.int .i64 (m : Nat)),(12,.pointer (some ⟨ba,0,none⟩)),(13,.pointer (some ⟨bb,0,none⟩)),(25,(.slice (some ⟨b0,off,none⟩) R.boxes.length c2)),(26,(.int .i64 R.boxes.length)),(27,(.int .i64 i))] (valCc b3 b5 b6 b10 ba bb i m R ⟨a1,c1,(some ⟨b0,off,none⟩),c2,a3,c3⟩ l1 l2 x y g1 w2 (.slice am M.length cm) (.slice (some ⟨b0,off,none⟩) R.boxes.length c2) (.int .i64 R.boxes.length) (.int .i64 i)) (rowsCc b3 b5 b6 b10 ba bb i m R ⟨a1,c1,(some ⟨b0,off,none⟩),c2,a3,c3⟩ l1 l2 x y g1 w2 (.slice am M.length cm) (.slice (some ⟨b0,off,none⟩) R.boxes.length c2) (.int .i64 R.boxes.length) (.int .i64 i)) (fun _=>(0,0)) (⟨ba,0,cSp x,some 24,2⟩::⟨bb,0,cSp y,some 24,2⟩::⟨b10,0,cBx e,some 47,2⟩::⟨b6,0,zRc.flatMap cSp,some 149,96⟩::⟨b3,0,cRm R ⟨a1,c1,some ⟨b0,off,none⟩,c2,a3,c3⟩,some 32,5⟩::H) rfl mixed (by repeat (first | exact uU _ | refine uV rfl ?_)) rfl (by kernel_rfl) (locCc b3 b5 b6 b10 ba bb i m R ⟨a1,c1,(some ⟨b0,off,none⟩),c2,a3,c3⟩ l1 l2 x y g1 w2 (.slice am M.length cm) (.slice (some ⟨b0,off,none⟩) R.boxes.length c2) (.int .i64 R.boxes.length) (.int .i64 i)) (qR _) ?_ ?_
      ·repeat' (first | exact AllF.done rfl | (refine AllF.step rfl ?_ ?_;·(first | fail | ((first | refine Ob.ng rfl ?_);(first | exact ObK.pure (fun env R hR=>by exact ⟨_,uM rfl rfl,rfl⟩) rfl (fun _=>rfl) | exact ObK.pure (fun env R hR=>by exact ⟨_,uF rfl rfl (te rfl) rfl (te rfl) (by decide),rfl⟩) rfl (fun _=>rfl) | exact ObK.pure (fun env R hR=>by exact ⟨_,uL rfl rfl (uO (te rfl) rfl (hR _ (qH _)) rfl),rfl⟩) rfl (fun _=>rfl)|((refine ObK.pure (fun env S hS=>⟨.pointer (some ⟨b5,0 + i * 24,none⟩),?_,rfl⟩) rfl (fun _=>rfl);exact EvF.indexArray (i:=(i : Int)) (off:=0) (b:=b5) (T:=149) (e:=147) (len:=4) rfl rfl rfl (te rfl) (te rfl) (by omega) (by omega)))|((refine ObK.pure (fun env S hS=>⟨.pointer (some ⟨b5,0 + i * 24 + (m + 1) * 2,none⟩),?_,rfl⟩) rfl (fun _=>rfl);exact EvF.indexArray (i:=((m + 1 : Nat) : Int)) (off:=0 + i * 24) (b:=b5) (T:=147) (e:=24) (len:=12) rfl rfl rfl (te rfl) (te rfl) (by omega) (by omega)))|(exact fun env S hS=>(OpF.call (uT rfl (Args.cons rfl (Args.cons rfl (Args.cons rfl Args.nil)))) (hn2 S)).mono (fun v H' ⟨hv,hH⟩=>⟨(0,0),fun _=>hv,by rw [hH];exact List.Perm.refl _⟩))|(exact ObK.pure (fun env S hS=>⟨_,uL rfl rfl (uO (te rfl) rfl (hS _ (qT _ (qT _ (qT _ (qT _ (qH _)))))) rfl),rfl⟩) rfl (fun _=>rfl))|(exact ObK.pure (fun env S hS=>⟨_,EvF.add64 rfl rfl rfl (by omega) (by omega),rfl⟩) rfl (fun _=>rfl)))))))
      intro env t ha2 hv;refine ⟨_,ha2.cons (hv 12 76 (Nat.le_of_ble_eq_true rfl) rfl),?_⟩;clear hv ha2
      show X _ _ _ [(76,.bool w2),(1,.slice am M.length cm),(3,.pointer (some ⟨b3,0,none⟩)),(5,.pointer (some ⟨b5,0,none⟩)),(6,.pointer (some ⟨b6,0,none⟩)),(7,.bool false),(8,.bool g1),(9,.int .i64 i),(10,.pointer (some ⟨b10,0,none⟩)),(11,.int .i64 m),(12,.pointer (some ⟨ba,0,none⟩)),(13,.pointer (some ⟨bb,0,none⟩)),(25,.slice (some ⟨b0,off,none⟩) R.boxes.length c2),(26,.int .i64 R.boxes.length),(27,.int .i64 i)] (⟨b5,0,l2.flatMap cSp,some 149,96⟩::⟨ba,0,cSp x,some 24,2⟩::⟨bb,0,cSp y,some 24,2⟩::⟨b10,0,cBx e,some 47,2⟩::⟨b6,0,zRc.flatMap cSp,some 149,96⟩::⟨b3,0,cRm R ⟨a1,c1,some ⟨b0,off,none⟩,c2,a3,c3⟩,some 32,5⟩::H) _
      clear env
      refine X.iteB rfl rfl (fun q=>?_) (fun q=>?_)
      ·have qg : g2 = true:=by rw [hg2,q];simp
       rw [qg]
       repeat' (first | (refine uP rfl ?_;(first | ((first | refine uN rfl ?_);(first | (refine uE (uA rfl rfl) rfl rfl ?_)))))|(refine uD rfl ?_;refine hK _ _ ?_;clear hK K) | refine uR rfl (fun K hK=>?_))
       exact ⟨rfl,(by repeat (first | exact uU _ | refine uV rfl ?_)),(by repeat (first | exact qR _ | apply qK | apply qC))⟩
      ·have qg : g2 = g1:=by rw [hg2,q];simp
       rw [qg]
       exact X.skip rfl ⟨rfl,(by repeat (first | exact uU _ | refine uV rfl ?_)),(by repeat (first | exact qR _ | apply qK | apply qC))⟩
     ·show X _ _ _ F' H' _
      refine X.weak q1 q2 ?_
      repeat' (first | (refine uP rfl ?_;(first | ((first | refine uN rfl ?_);(first | (refine uE (uM rfl rfl) rfl rfl ?_)|(refine uE (uA rfl rfl) rfl rfl ?_)|(refine uE (EvF.add64 rfl rfl rfl (by omega) (by omega)) rfl rfl ?_)))))|(refine uD rfl ?_;refine hK _ _ ?_;clear hK K) | refine uR rfl (fun K hK=>?_))
      exact ⟨_,_,⟨b5,0,l2.flatMap cSp,some 149,96⟩::⟨b10,0,cBx e,some 47,2⟩::⟨b6,0,zRc.flatMap cSp,some 149,96⟩::⟨b3,0,cRm R ⟨a1,c1,some ⟨b0,off,none⟩,c2,a3,c3⟩,some 32,5⟩::H,(by repeat (first | exact uU _ | refine uV rfl ?_)),(by repeat (first | exact qR _ | apply qK | apply qC)),⟨m + 1,l2,g2,rfl,by omega,by omega,hset,rfl,rfl⟩,by omega⟩
   ·exact ⟨_,_,⟨b5,0,cur.flatMap cSp,some 149,96⟩::⟨b6,0,zRc.flatMap cSp,some 149,96⟩::⟨b3,0,cRm R ⟨a1,c1,some ⟨b0,off,none⟩,c2,a3,c3⟩,some 32,5⟩::H,(by repeat (first | exact uU _ | refine uV rfl ?_)),(by repeat (first | exact qR _ | apply qK | apply qC)),⟨i + 1,cur,ag,rfl,by omega,hMo.next hr (by omega) (by omega),rfl,rfl⟩,by omega⟩
  ·have hi2 : i = R.boxes.length:=by omega
   have hMa:=hMo.ma hr hi2 (by omega)
   clear hMo h hi
   subst hi2
   refine X.lp rfl (fun q F' H' => ∃ (k : Nat) (cur : List Sp) (ag : Bool),q = M.length - k∧k ≤ M.length∧Ma R M l0 cur ag k∧H' = ⟨b5,0,cur.flatMap cSp,some 149,96⟩::⟨b6,0,zRc.flatMap cSp,some 149,96⟩::⟨b3,0,cRm R ⟨a1,c1,a2,c2,a3,c3⟩,some 32,5⟩::H∧F' = [(1,.slice am M.length cm),(3,.pointer (some ⟨b3,0,none⟩)),(5,.pointer (some ⟨b5,0,none⟩)),(6,.pointer (some ⟨b6,0,none⟩)),(7,.bool false),(8,.bool ag),(78,.slice am M.length cm),(79,.int .i64 M.length),(80,.int .i64 k)])
    M.length [(1,.slice am M.length cm),(3,.pointer (some ⟨b3,0,none⟩)),(5,.pointer (some ⟨b5,0,none⟩)),(6,.pointer (some ⟨b6,0,none⟩)),(7,.bool false),(8,.bool ag),(78,.slice am M.length cm),(79,.int .i64 M.length),(80,.int .i64 (0 : Nat))] _ (by repeat (first | exact uU _ | refine uV rfl ?_)) (qR _) ⟨0,cur,ag,by omega,by omega,hMa,rfl,rfl⟩ ?_
   clear hMa cur ag
   rintro _ _ _ ⟨k,cur,ag,rfl,hk,hMa,rfl,rfl⟩
   repeat' (first | (refine uP rfl ?_;(first | ((first | refine uN rfl ?_);(first | (refine uE (uM rfl rfl) rfl rfl ?_)|(refine uE (uQ rfl rfl rfl rfl) rfl rfl ?_)|(refine uE (uF rfl rfl (te rfl) rfl (te rfl) (by decide)) rfl rfl ?_)|(refine uE (EvF.lenSlice rfl rfl (te rfl)) rfl rfl ?_)|(refine uE (uL rfl rfl (uO (te rfl) rfl (qT _ (qT _ (qH _))) rfl)) rfl rfl ?_)))))|(refine uD rfl ?_;refine hK _ _ ?_;clear hK K) | refine uS rfl ?_ | refine uR rfl (fun K hK=>?_) | refine X.block rfl ?_ | (refine X.brk rfl ?_;repeat (first | refine blockX_hit rfl ?_ | refine blockX_miss (by decide) ?_)) | refine X.skip rfl ?_ | (refine X.ite rfl rfl (fun hc=>?_);(first | (with_reducible refine Xb.case hc (fun h=>?_) (fun h=>?_))) <;> clear hc))
   ·obtain ⟨bm,om,x,rfl,he⟩:=hM.elem (i:=k) (by omega)
    repeat' (first | (refine uP rfl ?_;(first | ((first | refine uN rfl ?_);(first | (refine uE (uL rfl rfl (LoadV.elA0 (hM.sub (fun _ h=>by repeat (first | exact h | apply qT))) he (te rfl) rfl (fun _ hm=>hm) rfl)) rfl rfl ?_)|(refine uE (EvF.indexSlice rfl rfl rfl (te rfl) (te rfl) (by omega) (by omega)) rfl rfl ?_)|(refine Xg.st (StF.alloc rfl Tryz.zeroValue44 rfl) rfl rfl ?_;rintro _ _ ⟨bx,rfl,rfl⟩)|(refine Xg.st0 (StF.storeAll (i:=0) rfl rfl rfl (te rfl) rfl rfl rfl rfl) rfl ?_;rintro _ _ ⟨rfl,rfl⟩;dsimp only [List.set])))))|(refine uD rfl ?_;refine hK _ _ ?_;clear hK K) | refine uS rfl ?_)
    rename Nat=>b15
    refine X.permH (H' := ⟨b5,0,cur.flatMap cSp,some 149,96⟩::⟨b15,0,cMt x,some 44,6⟩::⟨b6,0,zRc.flatMap cSp,some 149,96⟩::⟨b3,0,cRm R ⟨a1,c1,a2,c2,a3,c3⟩,some 32,5⟩::H) (List.Perm.swap _ _ _) ?_
    have hxm:=List.mem_of_getElem? he
    obtain ⟨⟨xa,hta,ea⟩,⟨xb,htb,eb⟩,h60⟩:=hm x hxm
    obtain ⟨ia,hia⟩:=box_at hta.1
    obtain ⟨ib,hib⟩:=box_at htb.1
    have hial:=(List.getElem?_eq_some_iff.1 hia).1
    have hibl:=(List.getElem?_eq_some_iff.1 hib).1
    have hmb:=there_bd hr hta
    have ca : cel R ⟨x.a,x.month⟩ = ia * 12 + x.month.toNat:=by rw [← ea];exact cel_box hr.bx hia _
    have cb : cel R ⟨x.b,x.month⟩ = ib * 12 + x.month.toNat:=by rw [← eb];exact cel_box hr.bx hib _
    have xia : ∀ S,RmOk S R ⟨a1,c1,a2,c2,a3,c3⟩ → Fc Tryz.prog 110 [.agg (cRm R ⟨a1,c1,a2,c2,a3,c3⟩).toArray,.int .i64 x.a] S (fun v H' => v = .int .i64 (ia : Nat)∧H' = S):=fun S h=>by
     have:=index_spec R _ x.a S h
     rw [← ea,index_box hr.bx hia] at this
     rw [← ea];exact this
    have xib : ∀ S,RmOk S R ⟨a1,c1,a2,c2,a3,c3⟩ → Fc Tryz.prog 110 [.agg (cRm R ⟨a1,c1,a2,c2,a3,c3⟩).toArray,.int .i64 x.b] S (fun v H' => v = .int .i64 (ib : Nat)∧H' = S):=fun S h=>by
     have:=index_spec R _ x.b S h
     rw [← eb,index_box hr.bx hib] at this
     rw [← eb];exact this
    have hRs : ∀ S : List Row,(∀ r ∈ ⟨b5,0,cur.flatMap cSp,some 149,96⟩::⟨b15,0,cMt x,some 44,6⟩::⟨b6,0,zRc.flatMap cSp,some 149,96⟩::⟨b3,0,cRm R ⟨a1,c1,a2,c2,a3,c3⟩,some 32,5⟩::H,r ∈ S) → RmOk S R ⟨a1,c1,a2,c2,a3,c3⟩:=fun S hS=>hR.sub (fun r h=>hS r (List.mem_append_right [_,_,_,_] h))
    have hcl2 : cur.length = 48:=by obtain ⟨n,_,h⟩:=hMa.nv;exact h.len
    obtain ⟨u,hu⟩ : ∃ u,u = sat cur (cel R ⟨x.a,x.month⟩):=⟨_,rfl⟩
    obtain ⟨v,hv9⟩ : ∃ v,v = sat cur (cel R ⟨x.b,x.month⟩):=⟨_,rfl⟩
    obtain ⟨l1,hl1⟩ : ∃ l1,l1 = nar cur (cel R ⟨x.a,x.month⟩) ⟨v.lo + x.lo,v.hi + x.hi⟩:=⟨_,rfl⟩
    obtain ⟨l2,hl2⟩ : ∃ l2,l2 = nar l1 (cel R ⟨x.b,x.month⟩) ⟨u.lo - x.hi,u.hi - x.lo⟩:=⟨_,rfl⟩
    obtain ⟨w1,hw1⟩ : ∃ w1,w1 = decide (cut (sat cur (cel R ⟨x.a,x.month⟩)) ⟨v.lo + x.lo,v.hi + x.hi⟩ ≠ sat cur (cel R ⟨x.a,x.month⟩)):=⟨_,rfl⟩
    obtain ⟨w2,hw2⟩ : ∃ w2,w2 = decide (cut (sat l1 (cel R ⟨x.b,x.month⟩)) ⟨u.lo - x.hi,u.hi - x.lo⟩ ≠ sat l1 (cel R ⟨x.b,x.month⟩)):=⟨_,rfl⟩
    have hset:=hMa.set hr hm (by omega) he hu hv9 l1 l2 w1 w2 hl1 hl2 hw1 hw2
    have hc1:=sp_at (l:=cur) (k:=cel R ⟨x.a,x.month⟩) (j:=0 + ia * 24 + x.month.toNat * 2) (by omega) (by omega)
    have hc2:=sp_at (l:=cur) (k:=cel R ⟨x.b,x.month⟩) (j:=0 + ib * 24 + x.month.toNat * 2) (by omega) (by omega)
    have hl1l : l1.length = 48:=by rw [hl1];unfold nar;rw [List.length_set];exact hcl2
    have hn1:=nar_at (l:=cur) (k:=cel R ⟨x.a,x.month⟩) (j:=0 + ia * 24 + x.month.toNat * 2) (b:=b5) (cap:=96) (T:=149) (by omega) (by omega) hl1 hw1
    have hn2:=nar_at (l:=l1) (k:=cel R ⟨x.b,x.month⟩) (j:=0 + ib * 24 + x.month.toNat * 2) (b:=b5) (cap:=96) (T:=149) (by omega) (by omega) hl2 hw2
    rw [← hu] at hc1
    rw [← hv9] at hc2
    have bdu : -100000 ≤ u.lo∧u.lo ≤ 100000 ∧ -100000 ≤ u.hi∧u.hi ≤ 100000:=by obtain ⟨n,h1,h⟩:=hMa.nv;have:=h.bd (cel R ⟨x.a,x.month⟩);rw [← hu] at this;omega
    have bdv : -100000 ≤ v.lo∧v.lo ≤ 100000 ∧ -100000 ≤ v.hi∧v.hi ≤ 100000:=by obtain ⟨n,h1,h⟩:=hMa.nv;have:=h.bd (cel R ⟨x.b,x.month⟩);rw [← hv9] at this;omega
    refine X.regionOb tsCd [1,3,5,6,7,8,15,78,79,80] [(1,(.slice (some ⟨bm,om,none⟩) M.length cm)),(3,.pointer (some ⟨b3,0,none⟩)),(5,.pointer (some ⟨b5,0,none⟩)),(6,.pointer (some ⟨b6,0,none⟩)),(7,.bool false),(8,.bool ag),(15,.pointer (some ⟨b15,0,none⟩)),(78,(.slice (some ⟨bm,om,none⟩) M.length cm)),(79,(.int .i64 M.length)),(80,(.int .i64 k))] (valCd b3 b5 b6 b15 R ⟨a1,c1,a2,c2,a3,c3⟩ x ag (.slice (some ⟨bm,om,none⟩) M.length cm) (.int .i64 M.length) (.int .i64 k) ia ib) (rowsCd b3 b5 b6 b15 R ⟨a1,c1,a2,c2,a3,c3⟩ x ag (.slice (some ⟨bm,om,none⟩) M.length cm) (.int .i64 M.length) (.int .i64 k) ia ib) (fun _=>(0,0)) (⟨b5,0,cur.flatMap cSp,some 149,96⟩::⟨b15,0,cMt x,some 44,6⟩::⟨b6,0,zRc.flatMap cSp,some 149,96⟩::⟨b3,0,cRm R ⟨a1,c1,a2,c2,a3,c3⟩,some 32,5⟩::H) rfl mixed (by repeat (first | exact uU _ | refine uV rfl ?_)) rfl (by kernel_rfl) (locCd b3 b5 b6 b15 R ⟨a1,c1,a2,c2,a3,c3⟩ x ag (.slice (some ⟨bm,om,none⟩) M.length cm) (.int .i64 M.length) (.int .i64 k) ia ib) (qR _) ?_ ?_
    ·repeat' (first | exact AllF.done rfl | (refine AllF.step rfl ?_ ?_;·(first | fail | ((first | refine Ob.ng rfl ?_);(first | exact ObK.pure (fun env R hR=>by exact ⟨_,uA rfl rfl,rfl⟩) rfl (fun _=>rfl) | exact ObK.pure (fun env R hR=>by exact ⟨_,uF rfl rfl (te rfl) rfl (te rfl) (by decide),rfl⟩) rfl (fun _=>rfl) | exact ObK.pure (fun env R hR=>by exact ⟨_,uL rfl rfl (uO (te rfl) rfl (hR _ (qT _ (qH _))) rfl),rfl⟩) rfl (fun _=>rfl) | exact ObK.pure (fun env R hR=>by exact ⟨_,uL rfl rfl (uW (te rfl) rfl (hR _ (qT _ (qT _ (qT _ (qH _))))) rfl),rfl⟩) rfl (fun _=>rfl)|(exact fun env S hS=>OpF.callV (Z:=[]) (uT rfl (Args.cons rfl (Args.cons rfl Args.nil))) (xia _ (hRs _ hS)) rfl rfl)|(exact fun env S hS=>OpF.callV (Z:=[]) (uT rfl (Args.cons rfl (Args.cons rfl Args.nil))) (xib _ (hRs _ hS)) rfl rfl))))))
    intro env t ha2 hv;refine ⟨_,(ha2.cons (hv 8 16 (Nat.le_of_ble_eq_true rfl) rfl)).cons (hv 9 17 (Nat.le_of_ble_eq_true rfl) rfl),?_⟩;clear hv ha2
    show X _ _ _ [(17,.int .i64 ib),(16,.int .i64 ia),(1,.slice (some ⟨bm,om,none⟩) M.length cm),(3,.pointer (some ⟨b3,0,none⟩)),(5,.pointer (some ⟨b5,0,none⟩)),(6,.pointer (some ⟨b6,0,none⟩)),(7,.bool false),(8,.bool ag),(15,.pointer (some ⟨b15,0,none⟩)),(78,.slice (some ⟨bm,om,none⟩) M.length cm),(79,.int .i64 M.length),(80,.int .i64 k)] (⟨b5,0,cur.flatMap cSp,some 149,96⟩::⟨b15,0,cMt x,some 44,6⟩::⟨b6,0,zRc.flatMap cSp,some 149,96⟩::⟨b3,0,cRm R ⟨a1,c1,a2,c2,a3,c3⟩,some 32,5⟩::H) _
    clear env
    repeat' (first | refine uS rfl ?_)
    refine X.regionOb tsCe [1,3,5,6,7,8,15,16,17,78,79,80] [(1,(.slice (some ⟨bm,om,none⟩) M.length cm)),(3,.pointer (some ⟨b3,0,none⟩)),(5,.pointer (some ⟨b5,0,none⟩)),(6,.pointer (some ⟨b6,0,none⟩)),(7,.bool false),(8,.bool ag),(15,.pointer (some ⟨b15,0,none⟩)),(16,.int .i64 (ia : Nat)),(17,.int .i64 (ib : Nat)),(78,(.slice (some ⟨bm,om,none⟩) M.length cm)),(79,(.int .i64 M.length)),(80,(.int .i64 k))] (valCe b3 b5 b6 b15 R ⟨a1,c1,a2,c2,a3,c3⟩ x ag (.slice (some ⟨bm,om,none⟩) M.length cm) (.int .i64 M.length) (.int .i64 k) ia ib u v) (rowsCe b3 b5 b6 b15 R ⟨a1,c1,a2,c2,a3,c3⟩ x ag (.slice (some ⟨bm,om,none⟩) M.length cm) (.int .i64 M.length) (.int .i64 k) ia ib u v) (fun _=>(0,0)) (⟨b5,0,cur.flatMap cSp,some 149,96⟩::⟨b15,0,cMt x,some 44,6⟩::⟨b6,0,zRc.flatMap cSp,some 149,96⟩::⟨b3,0,cRm R ⟨a1,c1,a2,c2,a3,c3⟩,some 32,5⟩::H) rfl mixed (by repeat (first | exact uU _ | refine uV rfl ?_)) rfl (by kernel_rfl) (locCe b3 b5 b6 b15 R ⟨a1,c1,a2,c2,a3,c3⟩ x ag (.slice (some ⟨bm,om,none⟩) M.length cm) (.int .i64 M.length) (.int .i64 k) ia ib u v) (qR _) ?_ ?_
    ·repeat' (first | exact AllF.done rfl | (refine AllF.step rfl ?_ ?_;·(first | fail | ((first | refine Ob.ng rfl ?_);(first | exact ObK.pure (fun env R hR=>by exact ⟨_,uM rfl rfl,rfl⟩) rfl (fun _=>rfl) | exact ObK.pure (fun env R hR=>by exact ⟨_,uF rfl rfl (te rfl) rfl (te rfl) (by decide),rfl⟩) rfl (fun _=>rfl) | exact ObK.pure (fun env R hR=>by exact ⟨_,uL rfl rfl (uO (te rfl) rfl (hR _ (qT _ (qH _))) rfl),rfl⟩) rfl (fun _=>rfl)|((refine ObK.pure (fun env S hS=>⟨.pointer (some ⟨b5,0 + ia * 24,none⟩),?_,rfl⟩) rfl (fun _=>rfl);exact EvF.indexArray (i:=(ia : Int)) (off:=0) (b:=b5) (T:=149) (e:=147) (len:=4) rfl rfl rfl (te rfl) (te rfl) (by omega) (by omega)))|((refine ObK.pure (fun env S hS=>⟨.pointer (some ⟨b5,0 + ia * 24 + x.month.toNat * 2,none⟩),?_,rfl⟩) rfl (fun _=>rfl);exact EvF.indexArray (i:=x.month) (off:=0 + ia * 24) (b:=b5) (T:=147) (e:=24) (len:=12) rfl rfl rfl (te rfl) (te rfl) (by omega) (by omega)))|((refine ObK.pure (fun env S hS=>⟨.pointer (some ⟨b5,0 + ib * 24,none⟩),?_,rfl⟩) rfl (fun _=>rfl);exact EvF.indexArray (i:=(ib : Int)) (off:=0) (b:=b5) (T:=149) (e:=147) (len:=4) rfl rfl rfl (te rfl) (te rfl) (by omega) (by omega)))|((refine ObK.pure (fun env S hS=>⟨.pointer (some ⟨b5,0 + ib * 24 + x.month.toNat * 2,none⟩),?_,rfl⟩) rfl (fun _=>rfl);exact EvF.indexArray (i:=x.month) (off:=0 + ib * 24) (b:=b5) (T:=147) (e:=24) (len:=12) rfl rfl rfl (te rfl) (te rfl) (by omega) (by omega)))|(exact ObK.pure (fun env S hS=>⟨_,uL rfl rfl (LoadV.ownAgg (te rfl) rfl (hS _ (qH _)) hc1 rfl),rfl⟩) rfl (fun _=>rfl))|(exact ObK.pure (fun env S hS=>⟨_,uL rfl rfl (LoadV.ownAgg (te rfl) rfl (hS _ (qH _)) hc2 rfl),rfl⟩) rfl (fun _=>rfl))|(exact fun env S hS=>(StF.alloc rfl Tryz.zeroValue24 rfl).op.mono (fun v H' ⟨b,hv,hH⟩=>⟨(b,0),fun _=>hv,by rw [hH];exact List.Perm.refl _⟩))|(exact fun env S hS=>(StF.storeAll (i:=0) (vs:=cSp u) (cs:=cSp ⟨0,0⟩) rfl rfl rfl (te rfl) rfl rfl rfl rfl).op.mono (fun v H' ⟨hv,hH⟩=>⟨(0,0),fun h=>absurd rfl h,by rw [hH];exact List.Perm.refl _⟩))|(exact fun env S hS=>(StF.storeAll (i:=0) (vs:=cSp v) (cs:=cSp ⟨0,0⟩) rfl rfl rfl (te rfl) rfl rfl rfl rfl).op.mono (fun v H' ⟨hv,hH⟩=>⟨(0,0),fun h=>absurd rfl h,by rw [hH];exact List.Perm.refl _⟩)))))))
    intro env t ha2 hv;refine ⟨_,(ha2.cons (hv 12 18 (Nat.le_of_ble_eq_true rfl) rfl)).cons (hv 13 19 (Nat.le_of_ble_eq_true rfl) rfl),?_⟩;clear hv ha2
    show X _ _ _ [(19,.pointer (some ⟨(env 13).1,0,none⟩)),(18,.pointer (some ⟨(env 12).1,0,none⟩)),(1,.slice (some ⟨bm,om,none⟩) M.length cm),(3,.pointer (some ⟨b3,0,none⟩)),(5,.pointer (some ⟨b5,0,none⟩)),(6,.pointer (some ⟨b6,0,none⟩)),(7,.bool false),(8,.bool ag),(15,.pointer (some ⟨b15,0,none⟩)),(16,.int .i64 ia),(17,.int .i64 ib),(78,.slice (some ⟨bm,om,none⟩) M.length cm),(79,.int .i64 M.length),(80,.int .i64 k)] (⟨(env 12).1,0,cSp u,some 24,2⟩::⟨(env 13).1,0,cSp v,some 24,2⟩::⟨b5,0,cur.flatMap cSp,some 149,96⟩::⟨b15,0,cMt x,some 44,6⟩::⟨b6,0,zRc.flatMap cSp,some 149,96⟩::⟨b3,0,cRm R ⟨a1,c1,a2,c2,a3,c3⟩,some 32,5⟩::H) _
    generalize (env 12).1 = bu
    generalize (env 13).1 = bv
    clear env
    refine X.permH (H' := ⟨b5,0,cur.flatMap cSp,some 149,96⟩::⟨bu,0,cSp u,some 24,2⟩::⟨bv,0,cSp v,some 24,2⟩::⟨b15,0,cMt x,some 44,6⟩::⟨b6,0,zRc.flatMap cSp,some 149,96⟩::⟨b3,0,cRm R ⟨a1,c1,a2,c2,a3,c3⟩,some 32,5⟩::H) (List.perm_middle (l₁:=[_,_])).symm ?_
    obtain ⟨g1,hg1⟩ : ∃ g1,g1 = (ag || w1):=⟨_,rfl⟩
    obtain ⟨g2,hg2⟩ : ∃ g2,g2 = (g1 || w2):=⟨_,rfl⟩
    rw [← hg1, ← hg2] at hset
    refine uS rfl ?_
    refine X.toN (F1:=[(1,.slice (some ⟨bm,om,none⟩) M.length cm),(3,.pointer (some ⟨b3,0,none⟩)),(5,.pointer (some ⟨b5,0,none⟩)),(6,.pointer (some ⟨b6,0,none⟩)),(7,.bool false),(8,.bool g1),(15,.pointer (some ⟨b15,0,none⟩)),(16,.int .i64 ia),(17,.int .i64 ib),(18,.pointer (some ⟨bu,0,none⟩)),(19,.pointer (some ⟨bv,0,none⟩)),(78,.slice (some ⟨bm,om,none⟩) M.length cm),(79,.int .i64 M.length),(80,.int .i64 k)]) (H1:=⟨b5,0,l1.flatMap cSp,some 149,96⟩::⟨bu,0,cSp u,some 24,2⟩::⟨bv,0,cSp v,some 24,2⟩::⟨b15,0,cMt x,some 44,6⟩::⟨b6,0,zRc.flatMap cSp,some 149,96⟩::⟨b3,0,cRm R ⟨a1,c1,a2,c2,a3,c3⟩,some 32,5⟩::H) ?_ ?_
    ·refine uS rfl ?_
     refine X.regionOb tsCf [1,3,5,6,7,8,15,16,17,18,19,78,79,80] [(1,(.slice (some ⟨bm,om,none⟩) M.length cm)),(3,.pointer (some ⟨b3,0,none⟩)),(5,.pointer (some ⟨b5,0,none⟩)),(6,.pointer (some ⟨b6,0,none⟩)),(7,.bool false),(8,.bool ag),(15,.pointer (some ⟨b15,0,none⟩)),(16,.int .i64 (ia : Nat)),(17,.int .i64 (ib : Nat)),(18,.pointer (some ⟨bu,0,none⟩)),(19,.pointer (some ⟨bv,0,none⟩)),(78,(.slice (some ⟨bm,om,none⟩) M.length cm)),(79,(.int .i64 M.length)),(80,(.int .i64 k))] (valCf b3 b5 b6 b15 R ⟨a1,c1,a2,c2,a3,c3⟩ x ag (.slice (some ⟨bm,om,none⟩) M.length cm) (.int .i64 M.length) (.int .i64 k) ia ib bu bv u v cur l1 w1) (rowsCf b3 b5 b6 b15 R ⟨a1,c1,a2,c2,a3,c3⟩ x ag (.slice (some ⟨bm,om,none⟩) M.length cm) (.int .i64 M.length) (.int .i64 k) ia ib bu bv u v cur l1 w1) (fun _=>(0,0)) (⟨bu,0,cSp u,some 24,2⟩::⟨bv,0,cSp v,some 24,2⟩::⟨b15,0,cMt x,some 44,6⟩::⟨b6,0,zRc.flatMap cSp,some 149,96⟩::⟨b3,0,cRm R ⟨a1,c1,a2,c2,a3,c3⟩,some 32,5⟩::H) rfl mixed (by repeat (first | exact uU _ | refine uV rfl ?_)) rfl (by kernel_rfl) (locCf b3 b5 b6 b15 R ⟨a1,c1,a2,c2,a3,c3⟩ x ag (.slice (some ⟨bm,om,none⟩) M.length cm) (.int .i64 M.length) (.int .i64 k) ia ib bu bv u v cur l1 w1) (qR _) ?_ ?_
     ·repeat' (first | exact AllF.done rfl | (refine AllF.step rfl ?_ ?_;·(first | fail | ((first | refine Ob.ng rfl ?_);(first | exact ObK.pure (fun env R hR=>by exact ⟨_,uM rfl rfl,rfl⟩) rfl (fun _=>rfl) | exact ObK.pure (fun env R hR=>by exact ⟨_,uF rfl rfl (te rfl) rfl (te rfl) (by decide),rfl⟩) rfl (fun _=>rfl) | exact ObK.pure (fun env R hR=>by exact ⟨_,uL rfl rfl (uO (te rfl) rfl (hR _ (qT _ (qH _))) rfl),rfl⟩) rfl (fun _=>rfl) | exact ObK.pure (fun env R hR=>by exact ⟨_,uL rfl rfl (uO (te rfl) rfl (hR _ (qT _ (qT _ (qH _)))) rfl),rfl⟩) rfl (fun _=>rfl)|((refine ObK.pure (fun env S hS=>⟨.pointer (some ⟨b5,0 + ia * 24,none⟩),?_,rfl⟩) rfl (fun _=>rfl);exact EvF.indexArray (i:=(ia : Int)) (off:=0) (b:=b5) (T:=149) (e:=147) (len:=4) rfl rfl rfl (te rfl) (te rfl) (by omega) (by omega)))|((refine ObK.pure (fun env S hS=>⟨.pointer (some ⟨b5,0 + ia * 24 + x.month.toNat * 2,none⟩),?_,rfl⟩) rfl (fun _=>rfl);exact EvF.indexArray (i:=x.month) (off:=0 + ia * 24) (b:=b5) (T:=147) (e:=24) (len:=12) rfl rfl rfl (te rfl) (te rfl) (by omega) (by omega)))|(exact fun env S hS=>(OpF.call (uT rfl (Args.cons rfl (Args.cons rfl (Args.cons rfl Args.nil)))) (hn1 S)).mono (fun v H' ⟨hv,hH⟩=>⟨(0,0),fun _=>hv,by rw [hH];exact List.Perm.refl _⟩))|(exact ObK.pure (fun env S hS=>⟨_,EvF.add64 rfl rfl rfl (by omega) (by omega),rfl⟩) rfl (fun _=>rfl)))))))
     intro env t ha2 hv;refine ⟨_,ha2.cons (hv 17 121 (Nat.le_of_ble_eq_true rfl) rfl),?_⟩;clear hv ha2
     show X _ _ _ [(121,.bool w1),(1,.slice (some ⟨bm,om,none⟩) M.length cm),(3,.pointer (some ⟨b3,0,none⟩)),(5,.pointer (some ⟨b5,0,none⟩)),(6,.pointer (some ⟨b6,0,none⟩)),(7,.bool false),(8,.bool ag),(15,.pointer (some ⟨b15,0,none⟩)),(16,.int .i64 ia),(17,.int .i64 ib),(18,.pointer (some ⟨bu,0,none⟩)),(19,.pointer (some ⟨bv,0,none⟩)),(78,.slice (some ⟨bm,om,none⟩) M.length cm),(79,.int .i64 M.length),(80,.int .i64 k)] (⟨b5,0,l1.flatMap cSp,some 149,96⟩::⟨bu,0,cSp u,some 24,2⟩::⟨bv,0,cSp v,some 24,2⟩::⟨b15,0,cMt x,some 44,6⟩::⟨b6,0,zRc.flatMap cSp,some 149,96⟩::⟨b3,0,cRm R ⟨a1,c1,a2,c2,a3,c3⟩,some 32,5⟩::H) _
     clear env
     refine X.iteB rfl rfl (fun q=>?_) (fun q=>?_)
     ·have qg : g1 = true:=by rw [hg1,q];simp
      rw [qg]
      repeat' (first | (refine uP rfl ?_;(first | ((first | refine uN rfl ?_);(first | (refine uE (uA rfl rfl) rfl rfl ?_)))))|(refine uD rfl ?_;refine hK _ _ ?_;clear hK K) | refine uR rfl (fun K hK=>?_))
      exact ⟨rfl,(by repeat (first | exact uU _ | refine uV rfl ?_)),(by repeat (first | exact qR _ | apply qK | apply qC))⟩
     ·have qg : g1 = ag:=by rw [hg1,q];simp
      rw [qg]
      exact X.skip rfl ⟨rfl,(by repeat (first | exact uU _ | refine uV rfl ?_)),(by repeat (first | exact qR _ | apply qK | apply qC))⟩
    ·refine X.toQ (F1:=[(1,.slice (some ⟨bm,om,none⟩) M.length cm),(3,.pointer (some ⟨b3,0,none⟩)),(5,.pointer (some ⟨b5,0,none⟩)),(6,.pointer (some ⟨b6,0,none⟩)),(7,.bool false),(8,.bool g2),(15,.pointer (some ⟨b15,0,none⟩)),(16,.int .i64 ia),(17,.int .i64 ib),(18,.pointer (some ⟨bu,0,none⟩)),(19,.pointer (some ⟨bv,0,none⟩)),(78,.slice (some ⟨bm,om,none⟩) M.length cm),(79,.int .i64 M.length),(80,.int .i64 k)]) (H1:=⟨b5,0,l2.flatMap cSp,some 149,96⟩::⟨bu,0,cSp u,some 24,2⟩::⟨bv,0,cSp v,some 24,2⟩::⟨b15,0,cMt x,some 44,6⟩::⟨b6,0,zRc.flatMap cSp,some 149,96⟩::⟨b3,0,cRm R ⟨a1,c1,a2,c2,a3,c3⟩,some 32,5⟩::H) ?_ (fun F' H' q1 q2=>?_)
     ·refine uS rfl ?_
      refine X.regionOb tsCg [1,3,5,6,7,8,15,16,17,18,19,78,79,80] [(1,(.slice (some ⟨bm,om,none⟩) M.length cm)),(3,.pointer (some ⟨b3,0,none⟩)),(5,.pointer (some ⟨b5,0,none⟩)),(6,.pointer (some ⟨b6,0,none⟩)),(7,.bool false),(8,.bool g1),(15,.pointer (some ⟨b15,0,none⟩)),(16,.int .i64 (ia : Nat)),(17,.int .i64 (ib : Nat)),(18,.pointer (some ⟨bu,0,none⟩)),(19,.pointer (some ⟨bv,0,none⟩)),(78,(.slice (some ⟨bm,om,none⟩) M.length cm)),(79,(.int .i64 M.length)),(80,(.int .i64 k))] (valCg b3 b5 b6 b15 R ⟨a1,c1,a2,c2,a3,c3⟩ x g1 (.slice (some ⟨bm,om,none⟩) M.length cm) (.int .i64 M.length) (.int .i64 k) ia ib bu bv u v l1 l2 w2) (rowsCg b3 b5 b6 b15 R ⟨a1,c1,a2,c2,a3,c3⟩ x g1 (.slice (some ⟨bm,om,none⟩) M.length cm) (.int .i64 M.length) (.int .i64 k) ia ib bu bv u v l1 l2 w2) (fun _=>(0,0)) (⟨bu,0,cSp u,some 24,2⟩::⟨bv,0,cSp v,some 24,2⟩::⟨b15,0,cMt x,some 44,6⟩::⟨b6,0,zRc.flatMap cSp,some 149,96⟩::⟨b3,0,cRm R ⟨a1,c1,a2,c2,a3,c3⟩,some 32,5⟩::H) rfl mixed (by repeat (first | exact uU _ | refine uV rfl ?_)) rfl (by kernel_rfl) (locCg b3 b5 b6 b15 R ⟨a1,c1,a2,c2,a3,c3⟩ x g1 (.slice (some ⟨bm,om,none⟩) M.length cm) (.int .i64 M.length) (.int .i64 k) ia ib bu bv u v l1 l2 w2) (qR _) ?_ ?_
      ·repeat' (first | exact AllF.done rfl | (refine AllF.step rfl ?_ ?_;·(first | fail | ((first | refine Ob.ng rfl ?_);(first | exact ObK.pure (fun env R hR=>by exact ⟨_,uM rfl rfl,rfl⟩) rfl (fun _=>rfl) | exact ObK.pure (fun env R hR=>by exact ⟨_,uF rfl rfl (te rfl) rfl (te rfl) (by decide),rfl⟩) rfl (fun _=>rfl) | exact ObK.pure (fun env R hR=>by exact ⟨_,uL rfl rfl (uO (te rfl) rfl (hR _ (qH _)) rfl),rfl⟩) rfl (fun _=>rfl) | exact ObK.pure (fun env R hR=>by exact ⟨_,uL rfl rfl (uO (te rfl) rfl (hR _ (qT _ (qT _ (qH _)))) rfl),rfl⟩) rfl (fun _=>rfl)|((refine ObK.pure (fun env S hS=>⟨.pointer (some ⟨b5,0 + ib * 24,none⟩),?_,rfl⟩) rfl (fun _=>rfl);exact EvF.indexArray (i:=(ib : Int)) (off:=0) (b:=b5) (T:=149) (e:=147) (len:=4) rfl rfl rfl (te rfl) (te rfl) (by omega) (by omega)))|((refine ObK.pure (fun env S hS=>⟨.pointer (some ⟨b5,0 + ib * 24 + x.month.toNat * 2,none⟩),?_,rfl⟩) rfl (fun _=>rfl);exact EvF.indexArray (i:=x.month) (off:=0 + ib * 24) (b:=b5) (T:=147) (e:=24) (len:=12) rfl rfl rfl (te rfl) (te rfl) (by omega) (by omega)))|(exact fun env S hS=>(OpF.call (uT rfl (Args.cons rfl (Args.cons rfl (Args.cons rfl Args.nil)))) (hn2 S)).mono (fun v H' ⟨hv,hH⟩=>⟨(0,0),fun _=>hv,by rw [hH];exact List.Perm.refl _⟩))|(exact ObK.pure (fun env S hS=>⟨_,EvF.sub64 rfl rfl rfl (by omega) (by omega),rfl⟩) rfl (fun _=>rfl)))))))
      intro env t ha2 hv;refine ⟨_,ha2.cons (hv 17 139 (Nat.le_of_ble_eq_true rfl) rfl),?_⟩;clear hv ha2
      show X _ _ _ [(139,.bool w2),(1,.slice (some ⟨bm,om,none⟩) M.length cm),(3,.pointer (some ⟨b3,0,none⟩)),(5,.pointer (some ⟨b5,0,none⟩)),(6,.pointer (some ⟨b6,0,none⟩)),(7,.bool false),(8,.bool g1),(15,.pointer (some ⟨b15,0,none⟩)),(16,.int .i64 ia),(17,.int .i64 ib),(18,.pointer (some ⟨bu,0,none⟩)),(19,.pointer (some ⟨bv,0,none⟩)),(78,.slice (some ⟨bm,om,none⟩) M.length cm),(79,.int .i64 M.length),(80,.int .i64 k)] (⟨b5,0,l2.flatMap cSp,some 149,96⟩::⟨bu,0,cSp u,some 24,2⟩::⟨bv,0,cSp v,some 24,2⟩::⟨b15,0,cMt x,some 44,6⟩::⟨b6,0,zRc.flatMap cSp,some 149,96⟩::⟨b3,0,cRm R ⟨a1,c1,a2,c2,a3,c3⟩,some 32,5⟩::H) _
      clear env
      refine X.iteB rfl rfl (fun q=>?_) (fun q=>?_)
      ·have qg : g2 = true:=by rw [hg2,q];simp
       rw [qg]
       repeat' (first | (refine uP rfl ?_;(first | ((first | refine uN rfl ?_);(first | (refine uE (uA rfl rfl) rfl rfl ?_)))))|(refine uD rfl ?_;refine hK _ _ ?_;clear hK K) | refine uR rfl (fun K hK=>?_))
       exact ⟨rfl,(by repeat (first | exact uU _ | refine uV rfl ?_)),(by repeat (first | exact qR _ | apply qK | apply qC))⟩
      ·have qg : g2 = g1:=by rw [hg2,q];simp
       rw [qg]
       exact X.skip rfl ⟨rfl,(by repeat (first | exact uU _ | refine uV rfl ?_)),(by repeat (first | exact qR _ | apply qK | apply qC))⟩
     ·show X _ _ _ F' H' _
      refine X.weak q1 q2 ?_
      repeat' (first | (refine uP rfl ?_;(first | ((first | refine uN rfl ?_);(first | (refine uE (uM rfl rfl) rfl rfl ?_)|(refine uE (EvF.add64 rfl rfl rfl (by omega) (by omega)) rfl rfl ?_)))))|(refine uD rfl ?_;refine hK _ _ ?_;clear hK K) | refine uR rfl (fun K hK=>?_))
      exact ⟨_,_,⟨b5,0,l2.flatMap cSp,some 149,96⟩::⟨b6,0,zRc.flatMap cSp,some 149,96⟩::⟨b3,0,cRm R ⟨a1,c1,a2,c2,a3,c3⟩,some 32,5⟩::H,(by repeat (first | exact uU _ | refine uV rfl ?_)),(by repeat (first | exact qR _ | apply qK | apply qC)),⟨k + 1,l2,g2,rfl,by omega,hset,rfl,rfl⟩,by omega⟩
   ·-- the check
    have hk2 : k = M.length:=by omega
    clear h hk
    subst hk2
    refine X.lp rfl (fun q F' H' => ∃ (i : Nat),q = R.boxes.length - i∧i ≤ R.boxes.length∧Ch R cur i 0∧H' = ⟨b5,0,cur.flatMap cSp,some 149,96⟩::⟨b6,0,zRc.flatMap cSp,some 149,96⟩::⟨b3,0,cRm R ⟨a1,c1,a2,c2,a3,c3⟩,some 32,5⟩::H∧F' = [(1,.slice am M.length cm),(3,.pointer (some ⟨b3,0,none⟩)),(5,.pointer (some ⟨b5,0,none⟩)),(6,.pointer (some ⟨b6,0,none⟩)),(7,.bool false),(8,.bool ag),(142,.slice a2 R.boxes.length c2),(143,.int .i64 R.boxes.length),(144,.int .i64 i)])
     R.boxes.length [(1,.slice am M.length cm),(3,.pointer (some ⟨b3,0,none⟩)),(5,.pointer (some ⟨b5,0,none⟩)),(6,.pointer (some ⟨b6,0,none⟩)),(7,.bool false),(8,.bool ag),(142,.slice a2 R.boxes.length c2),(143,.int .i64 R.boxes.length),(144,.int .i64 (0 : Nat))] _ (by repeat (first | exact uU _ | refine uV rfl ?_)) (qR _) ⟨0,by omega,by omega,Ch.zero ok0,rfl,rfl⟩ ?_
    rintro _ _ _ ⟨i,rfl,hi,hCh,rfl,rfl⟩
    repeat' (first | (refine uP rfl ?_;(first | ((first | refine uN rfl ?_);(first | (refine uE (uM rfl rfl) rfl rfl ?_)|(refine uE (uQ rfl rfl rfl rfl) rfl rfl ?_)))))|(refine uD rfl ?_;refine hK _ _ ?_;clear hK K) | refine uS rfl ?_ | refine uR rfl (fun K hK=>?_) | refine X.block rfl ?_ | (refine X.brk rfl ?_;repeat (first | refine blockX_hit rfl ?_ | refine blockX_miss (by decide) ?_)) | refine X.skip rfl ?_ | (refine X.ite rfl rfl (fun hc=>?_);(first | (with_reducible refine Xb.case hc (fun h=>?_) (fun h=>?_))) <;> clear hc))
    ·obtain ⟨b0,off,e,rfl,he⟩:=hR.boxes.elem (i:=i) (by omega)
     have hmem:=List.mem_of_getElem? he
     have hbx:=okBoxes_mem _ _ _ hr.bx e hmem
     obtain ⟨m0,hm0⟩ : ∃ m0 : Nat,(m0 : Int)=e.made:=⟨e.made.toNat,by omega⟩
     repeat' (first | (refine uP rfl ?_;(first | ((first | refine uN rfl ?_);(first | (refine uE (uL rfl rfl (LoadV.elA0 (hR.boxes.sub (fun _ h=>by repeat (first | exact h | apply qT))) he (te rfl) rfl (fun _ hm=>hm) rfl)) rfl rfl ?_)|(refine uE (uA rfl rfl) rfl rfl ?_)|(refine uE (uF rfl rfl (te rfl) rfl (te rfl) (by decide)) rfl rfl ?_)|(refine uE (EvF.indexSlice rfl rfl rfl (te rfl) (te rfl) (by omega) (by omega)) rfl rfl ?_)|(refine uE (uL rfl rfl (uO (te rfl) rfl (qH _) rfl)) rfl rfl ?_)|(refine Xg.st (StF.alloc rfl Tryz.zeroValue24 rfl) rfl rfl ?_;rintro _ _ ⟨bx,rfl,rfl⟩)|(refine Xg.st0 (StF.storeAll (i:=0) rfl rfl rfl (te rfl) rfl rfl rfl rfl) rfl ?_;rintro _ _ ⟨rfl,rfl⟩;dsimp only [List.set])))))|(refine uD rfl ?_;refine hK _ _ ?_;clear hK K) | refine uS rfl ?_ | refine uR rfl (fun K hK=>?_) | refine X.block rfl ?_)
     rename Nat=>b10
     refine X.permH (H' := ⟨b5,0,cur.flatMap cSp,some 149,96⟩::⟨b10,0,cBx e,some 47,2⟩::⟨b6,0,zRc.flatMap cSp,some 149,96⟩::⟨b3,0,cRm R ⟨a1,c1,some ⟨b0,off,none⟩,c2,a3,c3⟩,some 32,5⟩::H) (List.Perm.swap _ _ _) ?_
     refine X.lp rfl (fun q F' H' => ∃ (m : Nat),q = R.months.toNat - m∧(m : Int)≤R.months∧e.made ≤ m∧Ch R cur i m∧H' = ⟨b5,0,cur.flatMap cSp,some 149,96⟩::⟨b10,0,cBx e,some 47,2⟩::⟨b6,0,zRc.flatMap cSp,some 149,96⟩::⟨b3,0,cRm R ⟨a1,c1,some ⟨b0,off,none⟩,c2,a3,c3⟩,some 32,5⟩::H∧F' = [(1,.slice am M.length cm),(3,.pointer (some ⟨b3,0,none⟩)),(5,.pointer (some ⟨b5,0,none⟩)),(6,.pointer (some ⟨b6,0,none⟩)),(7,.bool false),(8,.bool ag),(20,.int .i64 i),(21,.pointer (some ⟨b10,0,none⟩)),(22,.int .i64 m),(142,.slice (some ⟨b0,off,none⟩) R.boxes.length c2),(143,.int .i64 R.boxes.length),(144,.int .i64 i)])
      (R.months.toNat - m0) [(1,.slice am M.length cm),(3,.pointer (some ⟨b3,0,none⟩)),(5,.pointer (some ⟨b5,0,none⟩)),(6,.pointer (some ⟨b6,0,none⟩)),(7,.bool false),(8,.bool ag),(20,.int .i64 i),(21,.pointer (some ⟨b10,0,none⟩)),(22,.int .i64 m0),(142,.slice (some ⟨b0,off,none⟩) R.boxes.length c2),(143,.int .i64 R.boxes.length),(144,.int .i64 i)] _ (by rw [hm0];exact (by repeat (first | exact uU _ | refine uV rfl ?_))) (qR _) ⟨m0,rfl,by omega,by omega,by rw [hm0];exact hCh.start he (by omega),rfl,rfl⟩ ?_
     clear hCh
     rintro _ _ _ ⟨m,rfl,hm1,hme,hCh,rfl,rfl⟩
     repeat' (first | (refine uP rfl ?_;(first | ((first | refine uN rfl ?_);(first | (refine uE (uM rfl rfl) rfl rfl ?_)|(refine uE (uQ rfl rfl rfl rfl) rfl rfl ?_)|(refine uE (EvF.add64 rfl rfl rfl (by omega) (by omega)) rfl rfl ?_)|(refine uE (uF rfl rfl (te rfl) rfl (te rfl) (by decide)) rfl rfl ?_)|(refine uE (uL rfl rfl (uO (te rfl) rfl (qT _ (qT _ (qT _ (qH _)))) rfl)) rfl rfl ?_)))))|(refine uD rfl ?_;refine hK _ _ ?_;clear hK K) | refine uS rfl ?_ | refine uR rfl (fun K hK=>?_) | refine X.block rfl ?_ | (refine X.brk rfl ?_;repeat (first | refine blockX_hit rfl ?_ | refine blockX_miss (by decide) ?_)) | refine X.skip rfl ?_ | (refine X.ite rfl rfl (fun hc=>?_);(first | (with_reducible refine Xb.case hc (fun h=>?_) (fun h=>?_))) <;> clear hc))
     ·have hm2 : (m : Int)<R.months:=by omega
      have hil : i < R.boxes.length:=(List.getElem?_eq_some_iff.1 he).1
      have ht : there R e m:=⟨hmem,hme,by omega⟩
      have hcl2 : cur.length = 48:=by obtain ⟨n,_,h⟩:=hMa.nv;exact h.len
      obtain ⟨s,hs⟩ : ∃ s,s = sat cur (i * 12 + m):=⟨_,rfl⟩
      obtain ⟨w,hw⟩ : ∃ w,w = decide (s.lo > s.hi):=⟨_,rfl⟩
      obtain ⟨_,hlo,hhi⟩:=sp_cells cur (i * 12 + m) (by omega)
      rw [← hs,show (i * 12 + m) * 2 = 0 + i * 24 + m * 2 by omega] at hlo hhi
      refine X.regionOb tsCh9 [1,3,5,6,7,8,20,21,22,142,143,144] [(1,(.slice am M.length cm)),(3,.pointer (some ⟨b3,0,none⟩)),(5,.pointer (some ⟨b5,0,none⟩)),(6,.pointer (some ⟨b6,0,none⟩)),(7,.bool false),(8,.bool ag),(20,.int .i64 (i : Nat)),(21,.pointer (some ⟨b10,0,none⟩)),(22,.int .i64 (m : Nat)),(142,(.slice (some ⟨b0,off,none⟩) R.boxes.length c2)),(143,(.int .i64 R.boxes.length)),(144,(.int .i64 i))] (valCh9 b3 b5 b6 b10 i m s w ag (.slice am M.length cm) (.slice (some ⟨b0,off,none⟩) R.boxes.length c2) (.int .i64 R.boxes.length) (.int .i64 i)) (rowsCh9 b3 b5 b6 b10 i m s w ag (.slice am M.length cm) (.slice (some ⟨b0,off,none⟩) R.boxes.length c2) (.int .i64 R.boxes.length) (.int .i64 i)) (fun _=>(0,0)) (⟨b5,0,cur.flatMap cSp,some 149,96⟩::⟨b10,0,cBx e,some 47,2⟩::⟨b6,0,zRc.flatMap cSp,some 149,96⟩::⟨b3,0,cRm R ⟨a1,c1,some ⟨b0,off,none⟩,c2,a3,c3⟩,some 32,5⟩::H) rfl mixed (by repeat (first | exact uU _ | refine uV rfl ?_)) rfl (by kernel_rfl) (locCh9 b3 b5 b6 b10 i m s w ag (.slice am M.length cm) (.slice (some ⟨b0,off,none⟩) R.boxes.length c2) (.int .i64 R.boxes.length) (.int .i64 i)) (qR _) ?_ ?_
      ·repeat' (first | exact AllF.done rfl | (refine AllF.step rfl ?_ ?_;·(first | fail | ((first | refine Ob.ng rfl ?_);(first | exact ObK.pure (fun env R hR=>by exact ⟨_,uM rfl rfl,rfl⟩) rfl (fun _=>rfl) | exact ObK.pure (fun env R hR=>by exact ⟨_,uF rfl rfl (te rfl) rfl (te rfl) (by decide),rfl⟩) rfl (fun _=>rfl)|((refine ObK.pure (fun env S hS=>⟨.pointer (some ⟨b5,0 + i * 24,none⟩),?_,rfl⟩) rfl (fun _=>rfl);exact EvF.indexArray (i:=(i : Int)) (off:=0) (b:=b5) (T:=149) (e:=147) (len:=4) rfl rfl rfl (te rfl) (te rfl) (by omega) (by omega)))|((refine ObK.pure (fun env S hS=>⟨.pointer (some ⟨b5,0 + i * 24 + m * 2,none⟩),?_,rfl⟩) rfl (fun _=>rfl);exact EvF.indexArray (i:=(m : Int)) (off:=0 + i * 24) (b:=b5) (T:=147) (e:=24) (len:=12) rfl rfl rfl (te rfl) (te rfl) (by omega) (by omega)))|(exact ObK.pure (fun env S hS=>⟨_,uL rfl rfl (uO (te rfl) rfl (hS _ (qH _)) hlo),rfl⟩) rfl (fun _=>rfl))|(exact ObK.pure (fun env S hS=>⟨_,uL rfl rfl (uO (te rfl) rfl (hS _ (qH _)) hhi),rfl⟩) rfl (fun _=>rfl))|(exact ObK.pure (fun env S hS=>⟨_,uQ (b:=w) rfl rfl rfl (congrArg some hw.symm),rfl⟩) rfl (fun _=>rfl)))))))
      intro env t ha2 hv;refine ⟨_,ha2.cons (hv 12 169 (Nat.le_of_ble_eq_true rfl) rfl),?_⟩;clear hv ha2
      show X _ _ _ [(169,.bool w),(1,.slice am M.length cm),(3,.pointer (some ⟨b3,0,none⟩)),(5,.pointer (some ⟨b5,0,none⟩)),(6,.pointer (some ⟨b6,0,none⟩)),(7,.bool false),(8,.bool ag),(20,.int .i64 i),(21,.pointer (some ⟨b10,0,none⟩)),(22,.int .i64 m),(142,.slice (some ⟨b0,off,none⟩) R.boxes.length c2),(143,.int .i64 R.boxes.length),(144,.int .i64 i)] (⟨b5,0,cur.flatMap cSp,some 149,96⟩::⟨b10,0,cBx e,some 47,2⟩::⟨b6,0,zRc.flatMap cSp,some 149,96⟩::⟨b3,0,cRm R ⟨a1,c1,some ⟨b0,off,none⟩,c2,a3,c3⟩,some 32,5⟩::H) _
      clear env
      cases w with
      | true =>
       have hf:=hCl.fail hMa ht (by rw [cel_box hr.bx he,show (m : Int).toNat = m from rfl, ← hs];exact of_decide_eq_true hw.symm)
       have hll : (cur.flatMap cSp).length = 96:=by rw [sp_len,hcl2]
       repeat' (first | (refine uP rfl ?_;(first | ((first | refine uN rfl ?_);(first | (refine uE (uL rfl rfl (uW (te rfl) rfl (qH _) hll)) rfl rfl ?_)|(refine Xg.st0 (StF.storeAll (i:=2) (vs:=cur.flatMap cSp) (cs:=zRc.flatMap cSp) rfl rfl rfl (te rfl) rfl hll (sp_one cur) (by rw [hll,sp_len];rfl)) rfl ?_;rintro _ _ ⟨rfl,rfl⟩;dsimp only [List.set])|(refine uE (uA rfl rfl) rfl rfl ?_)))))|(refine uD rfl ?_;refine hK _ _ ?_;clear hK K) | refine uS rfl ?_ | refine uR rfl (fun K hK=>?_) | refine X.ret rfl ?_ | (refine X.ite rfl rfl (fun hc=>?_);(first | (with_reducible refine Xb.t hc ?_)) <;> clear hc))
       exact ret_two (v := .agg (cur.flatMap cSp).toArray) (by simp) Tryz.results124 ⟨_,rfl,uW (te rfl) rfl (qT _ (qT _ (qH _))) hll⟩ rfl (H' := H) (by repeat (first | exact qR _ | apply qK | apply qC)) ⟨cur,rfl,.inr ⟨hf.1,hf.2,rfl⟩⟩
      | false =>
       have hns:=of_decide_eq_false hw.symm
       repeat' (first | (refine uP rfl ?_;(first | ((first | refine uN rfl ?_);(first | (refine uE (uM rfl rfl) rfl rfl ?_)|(refine uE (uA rfl rfl) rfl rfl ?_)|(refine uE (EvF.add64 rfl rfl rfl (by omega) (by omega)) rfl rfl ?_)))))|(refine uD rfl ?_;refine hK _ _ ?_;clear hK K) | refine uR rfl (fun K hK=>?_) | refine X.skip rfl ?_ | (refine X.ite rfl rfl (fun hc=>?_);(first | (with_reducible refine Xb.f hc ?_)) <;> clear hc))
       exact ⟨_,_,⟨b5,0,cur.flatMap cSp,some 149,96⟩::⟨b10,0,cBx e,some 47,2⟩::⟨b6,0,zRc.flatMap cSp,some 149,96⟩::⟨b3,0,cRm R ⟨a1,c1,some ⟨b0,off,none⟩,c2,a3,c3⟩,some 32,5⟩::H,(by repeat (first | exact uU _ | refine uV rfl ?_)),(by repeat (first | exact qR _ | apply qK | apply qC)),⟨m + 1,rfl,by omega,by omega,hCh.set (by rw [← hs];omega),rfl,rfl⟩,by omega⟩
     ·exact ⟨_,_,⟨b5,0,cur.flatMap cSp,some 149,96⟩::⟨b6,0,zRc.flatMap cSp,some 149,96⟩::⟨b3,0,cRm R ⟨a1,c1,some ⟨b0,off,none⟩,c2,a3,c3⟩,some 32,5⟩::H,(by repeat (first | exact uU _ | refine uV rfl ?_)),(by repeat (first | exact qR _ | apply qK | apply qC)),⟨i + 1,rfl,by omega,hCh.next hr (by omega),rfl,rfl⟩,by omega⟩
    ·have hi2 : i = R.boxes.length:=by omega
     subst hi2
     obtain ⟨hn,hw0,hw1⟩:=hCl.next hr hMa (hCh.done hr)
     refine ⟨_,_,⟨b5,0,cur.flatMap cSp,some 149,96⟩::⟨b6,0,zRc.flatMap cSp,some 149,96⟩::⟨b3,0,cRm R ⟨a1,c1,a2,c2,a3,c3⟩,some 32,5⟩::H,(by repeat (first | exact uU _ | refine uV rfl ?_)),(by repeat (first | exact qR _ | apply qK | apply qC)),⟨cur,ag,rfl,hn,rfl,rfl⟩,?_⟩
     cases ag with
     | true=>have:=hw1 rfl;simp only [if_true];omega
     | false=>simp
 ·-- the end
  cases a with
  | true=>exact absurd h (by decide)
  | false =>
   have hll : (l0.flatMap cSp).length = 96:=by rw [sp_len,hCl.len]
   repeat' (first | (refine uP rfl ?_;(first | ((first | refine uN rfl ?_);(first | (refine uE (uL rfl rfl (uW (te rfl) rfl (qH _) hll)) rfl rfl ?_)|(refine Xg.st0 (StF.storeAll (i:=1) (vs:=l0.flatMap cSp) (cs:=zRc.flatMap cSp) rfl rfl rfl (te rfl) rfl hll (sp_one l0) (by rw [hll,sp_len];rfl)) rfl ?_;rintro _ _ ⟨rfl,rfl⟩;dsimp only [List.set])|(refine uE (uA rfl rfl) rfl rfl ?_)))))|(refine uD rfl ?_;refine hK _ _ ?_;clear hK K) | refine X.ret rfl ?_)
   exact ret_two (v := .agg (l0.flatMap cSp).toArray) (by simp) Tryz.results124 ⟨_,rfl,uW (te rfl) rfl (qT _ (qH _)) hll⟩ rfl (H' := H) (by repeat (first | exact qR _ | apply qK | apply qC)) ⟨l0,rfl,.inl ⟨hCl.done,rfl⟩⟩
end Go.Proofs.YtmfppdpkalelhaaGreat
end
section
set_option linter.unusedVariables false
set_option linter.unusedSimpArgs false
namespace Go.Proofs.YtmfppdpkalelhaaGreat
open Go Go.Fw
set_option maxRecDepth 10000
def bnd (B : Int) (l : List Int) : Prop := ∀ i,i < l.length → -B ≤ gt0 l i∧gt0 l i ≤ 1048576
theorem bnd.mono {B C : Int} {l : List Int} (h : bnd B l) (hc : B ≤ C) : bnd C l:=fun i hi=>by have:=h i hi;omega
theorem bnd_rlx {B : Int} {l : List Int} {e : Ed} (h : bnd B l) (ha : e.a < l.length) (hb : e.b < l.length) (hw : -60 ≤ e.w∧e.w ≤ 60) : bnd (B + 60) (rlx l e):=by
 intro i hi
 rw [rlx_len] at hi
 rw [gt0_rlx l e i ha]
 have h1:=h e.a ha
 have h2:=h e.b hb
 have h3:=h i hi
 split <;> omega
theorem bnd_rnd : ∀ (es : List Ed) (l : List Int) (B : Int),bnd B l → inE l.length es → (∀ e ∈ es, -60 ≤ e.w∧e.w ≤ 60) → bnd (B + 60 * es.length) (rnd es l)
 | [],l,B,h,_,_=>by
  have : B + 60 * (([] : List Ed).length : Int)=B:=by simp
  rw [this];exact h
 | e::es,l,B,h,hi,hw=>by
  have h1:=hi e List.mem_cons_self
  have h2:=bnd_rnd es (rlx l e) (B + 60) (bnd_rlx h h1.1 h1.2 (hw e List.mem_cons_self)) (by rw [rlx_len];exact fun f hf=>hi f (List.mem_cons_of_mem _ hf)) (fun f hf=>hw f (List.mem_cons_of_mem _ hf))
  refine h2.mono ?_
  simp only [List.length_cons]
  omega
theorem bds_w {R : Rm} {M : List Mt} (hr : okRm R) (hm : matsThere R M) : ∀ d ∈ bds R M, -60 ≤ d.s.lo∧d.s.lo ≤ 60 ∧ -60 ≤ d.s.hi∧d.s.hi ≤ 60:=by
 intro d hd
 unfold bds at hd
 rcases List.mem_append.1 hd with hd | hd
 ·rcases List.mem_append.1 hd with hd | hd
  ·obtain ⟨b,hb,hd⟩:=List.mem_flatMap.1 hd
   obtain ⟨k,hk,rfl⟩:=List.mem_map.1 hd
   have hk:=List.mem_range.1 hk
   have ht : there R b (b.made + k):=⟨hb,by omega,by unfold nAge at hk;omega⟩
   have:=hr.age ht
   rw [show (b.made + (k : Int) - b.made).toNat = k by omega] at this
   dsimp only
   omega
  ·obtain ⟨i,hi,hd⟩:=List.mem_flatMap.1 hd
   unfold bdS1 at hd
   split at hd
   ·simp only [List.mem_cons,List.not_mem_nil,or_false] at hd
    subst hd
    have:=hr.s0
    have:=hr.s60
    dsimp only;omega
   ·exact absurd hd List.not_mem_nil
 ·obtain ⟨x,hx,rfl⟩:=List.mem_map.1 hd
  have:=(hm x hx).2.2
  dsimp only
  omega
theorem edges_w {B : List Bd} (h : ∀ d ∈ B, -60 ≤ d.s.lo∧d.s.lo ≤ 60 ∧ -60 ≤ d.s.hi∧d.s.hi ≤ 60) : ∀ e ∈ edges B, -60 ≤ e.w∧e.w ≤ 60:=by
 intro e he
 obtain ⟨d,hd,he⟩:=List.mem_flatMap.1 he
 have:=h d hd
 simp only [List.mem_cons,List.not_mem_nil,or_false] at he
 rcases he with rfl | rfl <;> dsimp only <;> omega
theorem edges_len (B : List Bd) : (edges B).length = 2 * B.length:=by
 unfold edges
 induction B with
 | nil=>rfl
 | cons d B ih=>rw [List.flatMap_cons,List.length_append,ih];simp only [List.length_cons,List.length_nil];omega
theorem flat_le {α β : Type} (f : α → List β) (n : Nat) : ∀ l : List α,(∀ a ∈ l,(f a).length ≤ n) → (l.flatMap f).length ≤ n * l.length
 | [],_=>by simp
 | a::l,h=>by
  have h1:=flat_le f n l (fun b hb=>h b (List.mem_cons_of_mem _ hb))
  have h2:=h a List.mem_cons_self
  rw [List.flatMap_cons,List.length_append,List.length_cons,Nat.mul_succ]
  omega
theorem nAge_le {R : Rm} (hr : okRm R) {b : Bx} (hb : b ∈ R.boxes) : nAge R b ≤ 12:=by
 have:=okBoxes_mem _ _ _ hr.bx b hb
 have:=hr.m12
 unfold nAge
 omega
theorem plcs_len {R : Rm} (hr : okRm R) : (plcs R).length ≤ 49:=by
 have h1:=flat_le (agesOf R) 12 R.boxes (fun b hb=>by unfold agesOf;rw [List.length_map,List.length_range];exact nAge_le hr hb)
 have h2:=hr.b4
 unfold plcs
 rw [List.length_cons]
 omega
theorem bds_len {R : Rm} {M : List Mt} (hr : okRm R) (hM : M.length ≤ 1000) : (bds R M).length ≤ 1096:=by
 have h1 : (bdA R).length ≤ 12 * R.boxes.length:=flat_le _ 12 R.boxes (fun b hb=>by rw [List.length_map,List.length_range];exact nAge_le hr hb)
 have h2 : (bdS R).length ≤ 1 * (List.range ((plcs R).length - 1)).length:=flat_le (bdS1 R) 1 _ (fun i _=>by unfold bdS1;split <;> simp)
 have h3:=plcs_len hr
 have h4:=hr.b4
 rw [List.length_range] at h2
 unfold bds bdM
 rw [List.length_append,List.length_append,List.length_map]
 omega
end Go.Proofs.YtmfppdpkalelhaaGreat
end
section
set_option linter.unusedVariables false
namespace Go.Fw
open Go Go.RowKit
section
variable {P : Program} {H : List Row} {F : FS} {n : Nat} {o : Oper}
theorem wrap_u64 {q : Int} (h1 : 0 ≤ q) (h2 : q < 18446744073709551616) : IntKind.u64.wrap q = q:=by
 simp only [IntKind.wrap,IntKind.bits,IntKind.signed]
 have : q % 2 ^ 64 = q:=Int.emod_eq_of_lt h1 (by omega)
 simp;omega
/-- a mask of 32 bits -/
theorem EvF.mask32 {T T' : TypeId} {x y : Operand} {p : Int} (h : o.op = .binOp .and T x y T') (hx : evF F x = some (.int .u64 p)) (hy : evF F y = some (.int .u64 4294967295))
  (h0 : 0 ≤ p) (h1 : p < 4294967296) : EvF P n H F o (.int .u64 p):=by
 unfold EvF EvOp
 intro t ha B w0 w hS
 have e : (BitVec.ofInt 64 p &&& BitVec.ofInt 64 4294967295).toNat = p.toNat:=by
  rw [BitVec.toNat_and]
  have h2 : (BitVec.ofInt 64 p).toNat = p.toNat:=by
   rw [BitVec.toNat_ofInt]
   rw [Int.emod_eq_of_lt h0 (by omega)]
  have h3 : (BitVec.ofInt 64 4294967295).toNat = 2 ^ 32 - 1:=by decide
  rw [h2,h3,Nat.and_two_pow_sub_one_eq_mod,Nat.mod_eq_of_lt (by omega)]
 have hw : IntKind.u64.wrap ((p.toNat : Nat) : Int)=p:=by rw [wrap_u64 (by omega) (by omega)];omega
 have e' : (BitVec.ofInt 64 p &&& 4294967295#64).toNat = p.toNat:=e
 simp only [execOp,h,ha.ev hx,ha.ev hy,eqGuard,binOp,Op.intBits]
 simp [IntKind.bits,Sem.run_pure]
 exact (congrArg (fun (q : Nat)=>IntKind.u64.wrap (q : Int)) e').trans hw
/-- what is shifted out by 32 bits -/
theorem EvF.shr32 {T T' : TypeId} {x y : Operand} {p : Int} (h : o.op = .binOp .shr T x y T') (hx : evF F x = some (.int .u64 p)) (hy : evF F y = some (.int .u64 32))
  (h0 : 0 ≤ p) (h1 : p < 4294967296) : EvF P n H F o (.int .u64 0):=by
 unfold EvF EvOp
 intro t ha B w0 w hS
 have e : p.fdiv (2 ^ 32)=0:=by
  rw [Int.fdiv_eq_ediv_of_nonneg _ (by decide)]
  exact Int.ediv_eq_zero_of_lt h0 (by omega)
 have e2 : p.fdiv 4294967296 = 0:=e
 simp [execOp,h,ha.ev hx,ha.ev hy,eqGuard,binOp,Op.shift,IntKind.bits,e2]
theorem EvF.convU {S D : TypeId} {x : Operand} {k : IntKind} {q : Int} (h : o.op = .convert S D x) (hx : evF F x = some (.int k q)) (hs : (P.underlying S).isSome = true) (hd : P.underlying D = some (.int .u64)) (h1 : 0 ≤ q) (h2 : q < 18446744073709551616) : EvF P n H F o (.int .u64 q):=by
 unfold EvF EvOp
 intro t ha B w0 w hS
 have hw:=wrap_u64 h1 h2
 have e:=ha.ev hx
 obtain ⟨d,hd'⟩:=Option.isSome_iff_exists.mp hs
 simp [execOp,h,e,convert,run_underlying hd',run_underlying hd,Conv.intToInt,hw]
theorem EvF.mulU {T T' : TypeId} {x y : Operand} {p q : Int} (h : o.op = .binOp .mul T x y T') (hx : evF F x = some (.int .u64 p)) (hy : evF F y = some (.int .u64 q))
  (h1 : 0 ≤ p * q) (h2 : p * q < 18446744073709551616) : EvF P n H F o (.int .u64 (p * q)):=by
 have:=EvF.arith (P:=P) (n:=n) (H:=H) h hx hy rfl
 rwa [wrap_u64 h1 h2] at this
theorem EvF.addU {T T' : TypeId} {x y : Operand} {p q : Int} (h : o.op = .binOp .add T x y T') (hx : evF F x = some (.int .u64 p)) (hy : evF F y = some (.int .u64 q))
  (h1 : 0 ≤ p + q) (h2 : p + q < 18446744073709551616) : EvF P n H F o (.int .u64 (p + q)):=by
 have:=EvF.arith (P:=P) (n:=n) (H:=H) h hx hy rfl
 rwa [wrap_u64 h1 h2] at this
theorem zeros_rep (z : Value) (m : Nat) : ((Array.range (m * 1)).map ((#[z] : Array Value)[·% (#[z] : Array Value).size]!)).toList = List.replicate m z:=by
 apply List.ext_getElem
 ·simp
 ·intro i h1 h2
  simp [Nat.mod_one]
end
end Go.Fw
end
section
set_option linter.unusedVariables false
set_option linter.unusedSimpArgs false
namespace Go.Proofs.YtmfppdpkalelhaaGreat
open Go Go.Fw
set_option maxRecDepth 10000
def cPk (p : Pk) : List Value:=[.int .i64 p.box,.int .i64 p.month]
theorem lenPk (l : List Pk) : (l.flatMap cPk).length = l.length * 2:=flat_len (fun _ _=>rfl)
theorem elPk : ElT Tryz.prog 77 86 2 16:=⟨Tryz.underlying77,Tryz.t86,.agg #[.int .i64 0,.int .i64 0],by kernel_rfl,by kernel_rfl,by kernel_rfl,by kernel_rfl,rfl⟩
theorem eqPk (d : Nat) (e f : Pk) (w : World) : (Op.equalIn (d + 2) 86 (.agg (cPk e).toArray) (.agg (cPk f).toArray)).run Tryz.prog w = .ok (decide (e = f)) w:=by
 have hS : Tryz.prog.underlying 86 = some (.struct (Tryz.prog.fieldsOf 86)):=by kernel_rfl
 rw [run_equalIn_agg w (d + 1) 86 _ _ hS (by kernel_rfl)]
 simp only [Program.fieldsOf,Tryz.underlying86]
 go_simp
 obtain ⟨e1,e2⟩:=e
 obtain ⟨f1,f2⟩:=f
 by_cases h1 : e1 = f1 <;> by_cases h2 : e2 = f2 <;> simp [cPk,eqI,Result.andThen,h1,h2]
theorem indexPk_spec (l : List Pk) (a : Option Addr) (c : Nat) (x : Pk) (H : List Row) (hl : SlE H a cPk 2 l) (hb : l.length ≤ 9223372036854775807) :
  Fc Tryz.prog 116 [.slice a l.length c,.agg (cPk x).toArray] H (fun v H' => (∃ z,v = .int .i64 z∧IdxR (fun n=>decide (x = n)) l z)∧H' = H):=by
 refine Fc.mk (callable Tryz.call116) Tryz.func116 rfl Tryz.ntmps116 rfl ?_;dsimp only [fr]
 repeat' (first | (refine uP rfl ?_;(first | ((first | refine uN rfl ?_);(first | (refine uE (uM rfl rfl) rfl rfl ?_)|(refine uE (uA rfl rfl) rfl rfl ?_)|(refine uE (uQ rfl rfl rfl rfl) rfl rfl ?_)|(refine uE (EvF.lenSlice rfl rfl (te rfl)) rfl rfl ?_)|(refine Xg.st (StF.boxAgg rfl rfl) rfl rfl ?_;rintro _ _ ⟨bx,rfl,rfl⟩)))))|(refine uD rfl ?_;refine hK _ _ ?_;clear hK K)|(refine XQ.op rfl ?_;(first | ((first | refine Yo.ng rfl ?_);(first | (refine Yg.ev (uM rfl rfl) rfl rfl ?_)|(refine Yg.ev (uL rfl rfl (uW (te rfl) rfl (qH _) rfl)) rfl rfl ?_))))) | refine uS rfl ?_ | refine uR rfl (fun K hK=>?_) | refine X.regionD rfl mixed (by kernel_rfl) (fun K hK=>?_) | refine X.block rfl ?_ | (refine X.brk rfl ?_;repeat (first | refine blockX_hit rfl ?_ | refine blockX_miss (by decide) ?_)) | refine X.skip rfl ?_ | refine X.ret rfl ?_ | (refine X.ite rfl rfl (fun hc=>?_);(first | (with_reducible refine Xb.case hc (fun h=>?_) (fun h=>?_))) <;> clear hc))
 refine X.lp rfl (fun q F' H' => ∃ k : Nat,q = l.length - k∧k ≤ l.length∧(∀ i e,i < k → l[i]? = some e → x ≠ e)∧⟨bx,0,cPk x,some 86,2⟩::H = H' ∧
   F' = [(0,.slice a l.length c),(3,.pointer (some ⟨bx,0,none⟩)),(7,.int .i64 l.length),(8,.int .i64 k)])
  l.length [(0,.slice a l.length c),(3,.pointer (some ⟨bx,0,none⟩)),(7,.int .i64 l.length),(8,.int .i64 (0 : Nat))] _ (by repeat (first | exact uU _ | refine uV rfl ?_)) (by repeat (first | exact qR _ | apply qK | apply qC)) ⟨0,by omega,by omega,(fun i e hi=>absurd hi (by omega)),rfl,rfl⟩ ?_
 rintro _ _ H2 ⟨k,rfl,hk,hn,hH,rfl⟩
 subst hH
 repeat' (first | (refine uP rfl ?_;(first | ((first | refine uN rfl ?_);(first | (refine uE (uM rfl rfl) rfl rfl ?_)|(refine uE (uA rfl rfl) rfl rfl ?_)|(refine uE (uQ rfl rfl rfl rfl) rfl rfl ?_)|(refine uE (EvF.lenSlice rfl rfl (te rfl)) rfl rfl ?_)|(refine Xg.st (StF.boxAgg rfl rfl) rfl rfl ?_;rintro _ _ ⟨bx,rfl,rfl⟩)))))|(refine uD rfl ?_;refine hK _ _ ?_;clear hK K)|(refine XQ.op rfl ?_;(first | ((first | refine Yo.ng rfl ?_);(first | (refine Yg.ev (uM rfl rfl) rfl rfl ?_)|(refine Yg.ev (uL rfl rfl (uW (te rfl) rfl (qH _) rfl)) rfl rfl ?_))))) | refine uS rfl ?_ | refine uR rfl (fun K hK=>?_) | refine X.regionD rfl mixed (by kernel_rfl) (fun K hK=>?_) | refine X.block rfl ?_ | (refine X.brk rfl ?_;repeat (first | refine blockX_hit rfl ?_ | refine blockX_miss (by decide) ?_)) | refine X.skip rfl ?_ | refine X.ret rfl ?_ | (refine X.ite rfl rfl (fun hc=>?_);(first | (with_reducible refine Xb.case hc (fun h=>?_) (fun h=>?_))) <;> clear hc))
 ·obtain ⟨b,off,e,rfl,he⟩:=hl.elem (i:=k) (by omega)
  have hl1 : ∀ r,SlE (r::H) (some ⟨b,off,none⟩) cPk 2 l:=fun r=>hl.sub (fun _ h=>List.mem_cons_of_mem _ h)
  repeat' (first | (refine uP rfl ?_;(first | ((first | refine uN rfl ?_);(first | (refine uE (uM rfl rfl) rfl rfl ?_)|(refine uE (uA rfl rfl) rfl rfl ?_)|(refine uE (EvF.add64 rfl rfl rfl (by omega) (by omega)) rfl rfl ?_)))))|(refine uD rfl ?_;refine hK _ _ ?_;clear hK K)|(refine XQ.op rfl ?_;(first | ((first | refine Yo.ng rfl ?_);(first | (refine Yg.ev (uL rfl rfl (LoadV.elA0 (hl1 _) he (te rfl) rfl (fun _ hm=>hm) rfl)) rfl rfl ?_)|(refine Yg.ev (EvF.eqSt rfl rfl rfl (by kernel_rfl) (fun w=>eqPk 9998 x e w) rfl) rfl rfl ?_)|(refine Yg.ev (EvF.indexSlice rfl rfl rfl (te rfl) (te rfl) (by omega) (by omega)) rfl rfl ?_)))))|(refine XQ.done rfl ?_;refine hK _ ?_;clear hK K) | refine uS rfl ?_ | refine uR rfl (fun K hK=>?_) | refine X.skip rfl ?_ | refine X.ret rfl ?_ | (refine X.ite rfl rfl (fun hc=>?_);(first | (with_reducible refine Xb.case hc (fun h=>?_) (fun h=>?_))) <;> clear hc))
  ·refine ret_one (by simp) Tryz.results116 rfl (H' := H) (by (repeat (first | exact qR _ | apply qC));done) ?_;simp only [and_true,true_and]
   refine ⟨_,rfl,.inr ⟨k,e,rfl,he,decide_eq_true (by assumption),fun i e hi he=>decide_eq_false (hn i e hi he)⟩⟩
  ·refine ⟨_,_,_,(by repeat (first | exact uU _ | refine uV rfl ?_)),(by repeat (first | exact qR _ | apply qK | apply qC)),⟨k + 1,rfl,by omega,(fun i e' hi he' => ?_),rfl,rfl⟩,by omega⟩
   rcases Nat.lt_or_ge i k with h1 | h1
   ·exact hn i e' h1 he'
   ·obtain rfl : i = k:=by omega
    rw [he] at he';cases he';assumption
 ·refine ret_one (by simp) Tryz.results116 rfl (H' := H) (by (repeat (first | exact qR _ | apply qC));done) ?_;simp only [and_true,true_and]
  refine ⟨_,rfl,.inl ⟨rfl,fun e he=>?_⟩⟩
  obtain ⟨i,hi,rfl⟩:=List.mem_iff_getElem.1 he
  exact decide_eq_false (hn i _ (by omega) (List.getElem?_eq_getElem hi))
/-- a chart: a room with its places -/
def cCt (R : Rm) (p : Pl) (a : Option Addr) (c : Nat) : List Value:=cRm R p++[.slice a (plcs R).length c]
structure CtOk (H : List Row) (R : Rm) (p : Pl) (a : Option Addr) : Prop where
 rm : RmOk H R p
 pl : SlE H a cPk 2 (plcs R)
theorem CtOk.sub {H H' : List Row} {R : Rm} {p : Pl} {a : Option Addr} (h : CtOk H R p a) (hs : ∀ r ∈ H,r ∈ H') : CtOk H' R p a:=⟨h.rm.sub hs,h.pl.sub hs⟩
open Classical in
noncomputable def atZ (R : Rm) (q : Pk) : Int:=if q ∈ plcs R then (pidx R q : Int) else -1
theorem atZ_idx {R : Rm} {q : Pk} {z : Int} (hb : okBoxes R.months 0 R.boxes) (h : IdxR (fun n=>decide (q = n)) (plcs R) z) : z = atZ R q:=by
 unfold atZ
 rcases h with ⟨rfl,h⟩ | ⟨k,e,rfl,he,hp,_⟩
 ·rw [if_neg (fun hm=>by have:=h q hm;simp at this)]
 ·have:=of_decide_eq_true hp
  subst this
  rw [if_pos (List.mem_of_getElem? he),pidx_eq hb he]
theorem at_spec (R : Rm) (p : Pl) (a : Option Addr) (c : Nat) (b m : Int) (H : List Row) (hr : okRm R) (hC : CtOk H R p a) :
  Fc Tryz.prog 84 [.agg (cCt R p a c).toArray,.int .i64 b,.int .i64 m] H (fun v H' => v = .int .i64 (atZ R ⟨b,m⟩)∧H' = H):=by
 have hpl:=plcs_len hr
 obtain ⟨a1,c1,a2,c2,a3,c3⟩:=p
 refine Fc.mk (callable Tryz.call84) Tryz.func84 rfl Tryz.ntmps84 rfl ?_;dsimp only [fr]
 repeat' (first | (refine uP rfl ?_;(first | ((first | refine uN rfl ?_);(first | (refine uE (EvF.build (cs:=cPk ⟨b,m⟩) rfl (ArgsP.cons rfl (ArgsP.cons rfl ArgsP.nil)) (te rfl) (Places.cons (te rfl) (Places.cons (te rfl) Places.nil)) Tryz.zeroValue86 rfl) rfl rfl ?_)|(refine uC (uT rfl (Args.cons rfl (Args.cons rfl Args.nil))) rfl rfl (indexPk_spec (plcs R) a c ⟨b,m⟩ _ (hC.pl.sub (fun _ h=>by repeat (first | exact h | apply qT))) (by omega)) ?_;rintro _ H9 ⟨⟨z,rfl,hz⟩,hH9⟩;subst H9)|(refine uE (uM rfl rfl) rfl rfl ?_)|(refine uE (uA rfl rfl) rfl rfl ?_)|(refine uE (uF rfl rfl (te rfl) rfl (te rfl) (by decide)) rfl rfl ?_)|(refine uE (uL rfl rfl (uO (te rfl) rfl (qH _) rfl)) rfl rfl ?_)|(refine Xg.st (StF.boxAgg rfl rfl) rfl rfl ?_;rintro _ _ ⟨bx,rfl,rfl⟩)))))|(refine uD rfl ?_;refine hK _ _ ?_;clear hK K) | refine uS rfl ?_ | refine uR rfl (fun K hK=>?_) | refine X.ret rfl ?_)
 refine ret_one (by simp) Tryz.results84 rfl (H' := H) (by (repeat (first | exact qR _ | apply qC));done) ?_;simp only [and_true,true_and]
 rw [atZ_idx hr.bx hz]
end Go.Proofs.YtmfppdpkalelhaaGreat
end
section
set_option linter.unusedVariables false
set_option linter.unusedSimpArgs false
namespace Go.Proofs.YtmfppdpkalelhaaGreat
open Go Go.Fw
set_option maxRecDepth 10000
def zCt : List Value:=[.int .i64 0,.int .i64 0,.slice none 0 0,.slice none 0 0,.slice none 0 0,.slice none 0 0]
theorem plcs_take (R : Rm) {i : Nat} {b : Bx} (h : R.boxes[i]? = some b) (k : Nat) : (⟨0,0⟩ : Pk)::((R.boxes.take i).flatMap (agesOf R)++(agesOf R b).take (nAge R b)) = (⟨0,0⟩ : Pk)::(R.boxes.take (i + 1)).flatMap (agesOf R):=by
 rw [take_snoc h,List.flatMap_append]
 have : (agesOf R b).take (nAge R b)=agesOf R b:=List.take_of_length_le (by unfold agesOf;rw [List.length_map,List.length_range];exact Nat.le_refl _)
 rw [this]
 simp
theorem agesOf_get (R : Rm) (b : Bx) {k : Nat} (h : k < nAge R b) : (agesOf R b)[k]? = some ⟨b.id,b.made + k⟩:=by
 unfold agesOf
 rw [List.getElem?_map,List.getElem?_range h]
 rfl
set_option maxHeartbeats 4000000 in
theorem draw_spec (R : Rm) (p : Pl) (H : List Row) (hr : okRm R) (hR : RmOk H R p) :
  Fc Tryz.prog 72 [.agg (cRm R p).toArray] H (fun v H' => ∃ b k,(plcs R).length ≤ k∧v = .agg (cCt R p (some ⟨b,0,none⟩) k).toArray∧H' = ⟨b,0,(plcs R).flatMap cPk,some 86,k * 2⟩::H):=by
 have hR2 : ∀ r1 r2,RmOk (r1::r2::H) R p:=fun r1 r2=>hR.sub (fun _ h=>qT _ (qT _ h))
 have hb4:=hr.b4
 have hm12:=hr.m12
 obtain ⟨a1,c1,a2,c2,a3,c3⟩:=p
 refine Fc.mk (callable Tryz.call72) Tryz.func72 rfl Tryz.ntmps72 rfl ?_;dsimp only [fr]
 repeat' (first | (refine uP rfl ?_;(first | ((first | refine uN rfl ?_);(first | (refine uE (EvF.build (cs:=cPk ⟨0,0⟩) rfl ArgsP.nil (te rfl) (Places.cons (te rfl) (Places.cons (te rfl) Places.nil)) Tryz.zeroValue86 rfl) rfl rfl ?_)|(refine Xg.st (StF.buildOne rfl elPk rfl rfl rfl (by decide) (by decide)) rfl rfl ?_;rintro _ _ ⟨bs,rfl,rfl⟩)|(refine uE (uM rfl rfl) rfl rfl ?_)|(refine uE (uA rfl rfl) rfl rfl ?_)|(refine uE (uF rfl rfl (te rfl) rfl (te rfl) (by decide)) rfl rfl ?_)|(refine uE (EvF.lenSlice rfl rfl (te rfl)) rfl rfl ?_)|(refine uE (uL rfl rfl (uO (te rfl) rfl (qT _ (qT _ (qH _))) rfl)) rfl rfl ?_)|(refine Xg.st (StF.boxAgg rfl rfl) rfl rfl ?_;rintro _ _ ⟨bx,rfl,rfl⟩)|(refine Xg.st (StF.alloc rfl Tryz.zeroValue79 rfl) rfl rfl ?_;rintro _ _ ⟨bx,rfl,rfl⟩)))))|(refine uD rfl ?_;refine hK _ _ ?_;clear hK K) | refine uS rfl ?_ | refine uR rfl (fun K hK=>?_) | refine X.block rfl ?_)
 rename_i b1
 generalize bx = b2
 refine X.lp rfl (fun q F' H' => ∃ (i b n k : Nat),q = R.boxes.length - i∧i ≤ R.boxes.length∧n = ((⟨0,0⟩ : Pk)::(R.boxes.take i).flatMap (agesOf R)).length ∧
   ⟨b,0,((⟨0,0⟩ : Pk)::(R.boxes.take i).flatMap (agesOf R)).flatMap cPk,some 86,k * 2⟩::⟨b2,0,zCt,some 79,6⟩::⟨b1,0,cRm R ⟨a1,c1,a2,c2,a3,c3⟩,some 32,5⟩::H = H' ∧
   F' = [(1,.pointer (some ⟨b1,0,none⟩)),(2,.pointer (some ⟨b2,0,none⟩)),(3,.slice (some ⟨b,0,none⟩) n k),(10,.slice a2 R.boxes.length c2),(11,.int .i64 R.boxes.length),(12,.int .i64 i)])
  R.boxes.length [(1,.pointer (some ⟨b1,0,none⟩)),(2,.pointer (some ⟨b2,0,none⟩)),(3,.slice (some ⟨bs,0,none⟩) 1 1),(10,.slice a2 R.boxes.length c2),(11,.int .i64 R.boxes.length),(12,.int .i64 (0 : Nat))] _ (by repeat (first | exact uU _ | refine uV rfl ?_)) (by repeat (first | exact qR _ | apply qK | apply qC)) ⟨0,bs,1,1,by omega,by omega,rfl,rfl,rfl⟩ ?_
 rintro _ _ _ ⟨i,b,n,k,rfl,hi,hn,rfl,rfl⟩
 repeat' (first | (refine uP rfl ?_;(first | ((first | refine uN rfl ?_);(first | (refine uE (uM rfl rfl) rfl rfl ?_)|(refine uE (uA rfl rfl) rfl rfl ?_)|(refine uE (uQ rfl rfl rfl rfl) rfl rfl ?_)|(refine uE (EvF.add64 rfl rfl rfl (by omega) (by omega)) rfl rfl ?_)|(refine uE (uF rfl rfl (te rfl) rfl (te rfl) (by decide)) rfl rfl ?_)|(refine uE (uL rfl rfl (uO (te rfl) rfl (qT _ (qH _)) rfl)) rfl rfl ?_)|(refine uE (uL rfl rfl (uW (te rfl) rfl (qT _ (qT _ (qH _))) rfl)) rfl rfl ?_)))))|(refine uD rfl ?_;refine hK _ _ ?_;clear hK K) | refine uS rfl ?_ | refine uR rfl (fun K hK=>?_) | refine X.block rfl ?_ | (refine X.brk rfl ?_;repeat (first | refine blockX_hit rfl ?_ | refine blockX_miss (by decide) ?_)) | refine X.skip rfl ?_ | (refine X.ite rfl rfl (fun hc=>?_);(first | (with_reducible refine Xb.case hc (fun h=>?_) (fun h=>?_))) <;> clear hc))
 ·obtain ⟨bb,off,e,rfl,he⟩:=hR.boxes.elem (i:=i) (by omega)
  have hmem:=List.mem_of_getElem? he
  have hbx:=okBoxes_mem _ _ _ hr.bx e hmem
  have hnA : ((nAge R e : Nat) : Int)=R.months - e.made:=by unfold nAge;omega
  have hnA12:=nAge_le hr hmem
  have hfl : ((R.boxes.take i).flatMap (agesOf R)).length ≤ 12 * (R.boxes.take i).length:=flat_le (agesOf R) 12 _ (fun b hb=>by unfold agesOf;rw [List.length_map,List.length_range];exact nAge_le hr (List.mem_of_mem_take hb))
  rw [List.length_take] at hfl
  rw [List.length_cons] at hn
  repeat' (first | (refine uP rfl ?_;(first | ((first | refine uN rfl ?_);(first | (refine uE (uL rfl rfl (LoadV.elA0 (hR.boxes.sub (fun _ h=>by repeat (first | exact h | apply qT))) he (te rfl) rfl (fun _ hm=>hm) rfl)) rfl rfl ?_)|(refine uE (uM rfl rfl) rfl rfl ?_)|(refine uE (EvF.sub64 rfl rfl rfl (by omega) (by omega)) rfl rfl ?_)|(refine uE (uF rfl rfl (te rfl) rfl (te rfl) (by decide)) rfl rfl ?_)|(refine uE (EvF.indexSlice rfl rfl rfl (te rfl) (te rfl) (by omega) (by omega)) rfl rfl ?_)|(refine uE (uL rfl rfl (uO (te rfl) rfl (qH _) rfl)) rfl rfl ?_)|(refine uE (uL rfl rfl (uO (te rfl) rfl (qT _ (qT _ (qT _ (qH _)))) rfl)) rfl rfl ?_)|(refine Xg.st (StF.alloc rfl Tryz.zeroValue24 rfl) rfl rfl ?_;rintro _ _ ⟨bx,rfl,rfl⟩)|(refine Xg.st0 (StF.storeAll (i:=0) rfl rfl rfl (te rfl) rfl rfl rfl rfl) rfl ?_;rintro _ _ ⟨rfl,rfl⟩;dsimp only [List.set])))))|(refine uD rfl ?_;refine hK _ _ ?_;clear hK K) | refine uS rfl ?_ | refine uR rfl (fun K hK=>?_) | refine X.block rfl ?_)
  rename Nat=>be
  refine X.permH (H' := ⟨b,0,((⟨0,0⟩ : Pk)::(R.boxes.take i).flatMap (agesOf R)).flatMap cPk,some 86,k * 2⟩::⟨be,0,cBx e,some 47,2⟩::⟨b2,0,zCt,some 79,6⟩::⟨b1,0,cRm R ⟨a1,c1,some ⟨bb,off,none⟩,c2,a3,c3⟩,some 32,5⟩::H) (List.Perm.swap _ _ _) ?_
  refine X.lp rfl (fun q F' H' => ∃ (j b n k : Nat),q = nAge R e - j∧j ≤ nAge R e∧n = ((⟨0,0⟩ : Pk)::((R.boxes.take i).flatMap (agesOf R)++(agesOf R e).take j)).length ∧
    ⟨b,0,((⟨0,0⟩ : Pk)::((R.boxes.take i).flatMap (agesOf R)++(agesOf R e).take j)).flatMap cPk,some 86,k * 2⟩::⟨be,0,cBx e,some 47,2⟩::⟨b2,0,zCt,some 79,6⟩::⟨b1,0,cRm R ⟨a1,c1,some ⟨bb,off,none⟩,c2,a3,c3⟩,some 32,5⟩::H = H' ∧
    F' = [(1,.pointer (some ⟨b1,0,none⟩)),(2,.pointer (some ⟨b2,0,none⟩)),(3,.slice (some ⟨b,0,none⟩) n k),(5,.pointer (some ⟨be,0,none⟩)),(10,.slice (some ⟨bb,off,none⟩) R.boxes.length c2),(11,.int .i64 R.boxes.length),(12,.int .i64 i),(20,.int .i64 (nAge R e : Nat)),(21,.int .i64 j)])
   (nAge R e) [(1,.pointer (some ⟨b1,0,none⟩)),(2,.pointer (some ⟨b2,0,none⟩)),(3,.slice (some ⟨b,0,none⟩) n k),(5,.pointer (some ⟨be,0,none⟩)),(10,.slice (some ⟨bb,off,none⟩) R.boxes.length c2),(11,.int .i64 R.boxes.length),(12,.int .i64 i),(20,.int .i64 (nAge R e : Nat)),(21,.int .i64 (0 : Nat))]
   (⟨b,0,((⟨0,0⟩ : Pk)::((R.boxes.take i).flatMap (agesOf R)++(agesOf R e).take 0)).flatMap cPk,some 86,k * 2⟩::⟨be,0,cBx e,some 47,2⟩::⟨b2,0,zCt,some 79,6⟩::⟨b1,0,cRm R ⟨a1,c1,some ⟨bb,off,none⟩,c2,a3,c3⟩,some 32,5⟩::H) (by rw [hnA];exact (by repeat (first | exact uU _ | refine uV rfl ?_))) (by rw [List.take_zero,List.append_nil];exact (by repeat (first | exact qR _ | apply qK | apply qC))) ⟨0,b,n,k,by omega,by omega,by rw [hn];simp,rfl,rfl⟩ ?_
  rintro _ _ _ ⟨j,b',n',k',rfl,hj,hn',rfl,rfl⟩
  have hlen' : (((⟨0,0⟩ : Pk)::((R.boxes.take i).flatMap (agesOf R)++(agesOf R e).take j)).flatMap cPk).length = n' * 2:=by rw [lenPk,hn']
  rw [List.length_cons,List.length_append,List.length_take] at hn'
  repeat' (first | (refine uP rfl ?_;(first | ((first | refine uN rfl ?_);(first | (refine uE (uM rfl rfl) rfl rfl ?_)|(refine uE (uA rfl rfl) rfl rfl ?_)|(refine uE (uQ rfl rfl rfl rfl) rfl rfl ?_)|(refine uE (EvF.add64 rfl rfl rfl (by omega) (by omega)) rfl rfl ?_)|(refine uE (uF rfl rfl (te rfl) rfl (te rfl) (by decide)) rfl rfl ?_)|(refine uE (uL rfl rfl (uO (te rfl) rfl (qT _ (qH _)) rfl)) rfl rfl ?_)|(refine uE (uL rfl rfl (uW (te rfl) rfl (qT _ (qT _ (qH _))) rfl)) rfl rfl ?_)))))|(refine uD rfl ?_;refine hK _ _ ?_;clear hK K) | refine uS rfl ?_ | refine uR rfl (fun K hK=>?_) | refine X.block rfl ?_ | (refine X.brk rfl ?_;repeat (first | refine blockX_hit rfl ?_ | refine blockX_miss (by decide) ?_)) | refine X.skip rfl ?_ | (refine X.ite rfl rfl (fun hc=>?_);(first | (with_reducible refine Xb.case hc (fun h=>?_) (fun h=>?_))) <;> clear hc))
  ·have hga:=agesOf_get R e (k:=j) (by omega)
   repeat' (first | (refine uP rfl ?_;(first | ((first | refine uN rfl ?_);(first | (refine uE (EvF.build (cs:=cPk ⟨e.id,e.made + j⟩) rfl (ArgsP.cons rfl (ArgsP.cons rfl ArgsP.nil)) (te rfl) (Places.cons (te rfl) (Places.cons (te rfl) Places.nil)) Tryz.zeroValue86 rfl) rfl rfl ?_)|(refine Xg.st (StF.buildOne rfl elPk rfl rfl rfl (by decide) (by decide)) rfl rfl ?_;rintro _ _ ⟨bs2,rfl,rfl⟩)|(refine Xg.st (StF.appendOwn (i:=1) rfl elPk rfl rfl rfl hlen' rfl (Rd.own (qH _)) rfl (by omega)) rfl rfl ?_;rintro _ _ ⟨bn,kn,rfl,rfl⟩;dsimp only [List.eraseIdx])|(refine uE (uM rfl rfl) rfl rfl ?_)|(refine uE (uA rfl rfl) rfl rfl ?_)|(refine uE (EvF.add64 rfl rfl rfl (by omega) (by omega)) rfl rfl ?_)))))|(refine uD rfl ?_;refine hK _ _ ?_;clear hK K) | refine uR rfl (fun K hK=>?_))
   have hsn : ((⟨0,0⟩ : Pk)::((R.boxes.take i).flatMap (agesOf R)++(agesOf R e).take (j + 1))).flatMap cPk = ((⟨0,0⟩ : Pk)::((R.boxes.take i).flatMap (agesOf R)++(agesOf R e).take j)).flatMap cPk++cPk ⟨e.id,e.made + j⟩:=by
    rw [take_snoc hga, ← List.append_assoc, ← List.cons_append,List.flatMap_append]
    simp
   refine ⟨_,_,_,(by repeat (first | exact uU _ | refine uV rfl ?_)),?_,⟨j + 1,bn,n' + 1,kn,rfl,by omega,by rw [take_snoc hga, ← List.append_assoc];simp only [List.length_cons,List.length_append,List.length_nil,List.length_take];omega,rfl,rfl⟩,by omega⟩
   rw [hsn]
   exact (by repeat (first | exact qR _ | apply qK | apply qC))
  ·have hj2 : j = nAge R e:=by omega
   subst hj2
   have hp:=plcs_take R he 0
   refine ⟨_,_,⟨b',0,((⟨0,0⟩ : Pk)::(R.boxes.take (i + 1)).flatMap (agesOf R)).flatMap cPk,some 86,k' * 2⟩::⟨b2,0,zCt,some 79,6⟩::⟨b1,0,cRm R ⟨a1,c1,some ⟨bb,off,none⟩,c2,a3,c3⟩,some 32,5⟩::H,(by repeat (first | exact uU _ | refine uV rfl ?_)),?_,⟨i + 1,b',n',k',rfl,by omega,?_,rfl,rfl⟩,by omega⟩
   ·rw [← hp];exact (by repeat (first | exact qR _ | apply qK | apply qC))
   ·rw [← hp,hn'];simp only [List.length_cons,List.length_append,List.length_take]
 ·have hi2 : i = R.boxes.length:=by omega
  subst hi2
  rw [List.take_length] at hn ⊢
  have hn2 : n = (plcs R).length:=hn
  subst hn2
  refine XO.capLe (q:=0) (b:=b) (cap:=k * 2) (el:=86) (cs:=((⟨0,0⟩ : Pk)::R.boxes.flatMap (agesOf R)).flatMap cPk) ?_ (fun hcap=>?_)
  ·rfl
  have hcap' : (plcs R).length ≤ k:=by
   have:=lenPk ((⟨0,0⟩ : Pk)::R.boxes.flatMap (agesOf R))
   have h2 : ((⟨0,0⟩ : Pk)::R.boxes.flatMap (agesOf R)).length = (plcs R).length:=rfl
   omega
  repeat' (first | (refine uP rfl ?_;(first | ((first | refine uN rfl ?_);(first | (refine uE (EvF.build (cs:=cCt R ⟨a1,c1,a2,c2,a3,c3⟩ (some ⟨b,0,none⟩) k) rfl (ArgsP.cons rfl (ArgsP.cons rfl ArgsP.nil)) (te rfl) (Places.cons (te rfl) (Places.cons (te rfl) Places.nil)) Tryz.zeroValue79 rfl) rfl rfl ?_)|(refine Xg.st0 (StF.storeAll (i:=1) (vs:=cCt R ⟨a1,c1,a2,c2,a3,c3⟩ (some ⟨b,0,none⟩) k) rfl rfl rfl (te rfl) rfl rfl rfl rfl) rfl ?_;rintro _ _ ⟨rfl,rfl⟩;dsimp only [List.set])))))|(refine uD rfl ?_;refine hK _ _ ?_;clear hK K) | refine X.ret rfl ?_)
  exact ret_one (by simp) Tryz.results72 ⟨_,rfl,uW (te rfl) rfl (qT _ (qH _)) rfl⟩ (H' := ⟨b,0,(plcs R).flatMap cPk,some 86,k * 2⟩::H) (by repeat (first | exact qR _ | apply qK | apply qC)) ⟨b,k,hcap',rfl,rfl⟩
end Go.Proofs.YtmfppdpkalelhaaGreat
end
section
set_option linter.unusedVariables false
set_option linter.unusedSimpArgs false
namespace Go.Proofs.YtmfppdpkalelhaaGreat
open Go Go.Fw
set_option maxRecDepth 10000
theorem uint_und : Tryz.prog.underlying 168 = some (.int .u64):=by kernel_rfl
theorem i64_und : (Tryz.prog.underlying 3).isSome = true:=by kernel_rfl
theorem i64_undI : Tryz.prog.underlying 3 = some (.int .i64):=by kernel_rfl
theorem u64_und : (Tryz.prog.underlying 168).isSome = true:=by kernel_rfl
set_option maxHeartbeats 4000000 in
theorem mul64one_spec (y : Int) (H : List Row) (h0 : 0 ≤ y) (h1 : y < 4294967296) : Fc Tryz.prog 133 [.int .u64 1,.int .u64 y] H (fun v H' => v = .tuple #[.int .u64 0,.int .u64 y]∧H' = H):=by
 have z1 : (0 : Int) * y = 0:=Int.zero_mul _
 have z2 : (1 : Int) * y = y:=Int.one_mul _
 refine Fc.mk (callable Tryz.call133) Tryz.func133 rfl Tryz.ntmps133 rfl ?_;dsimp only [fr]
 repeat' (first | (refine uP rfl ?_;(first | ((first | refine uN rfl ?_);(first | (refine uE (EvF.mask32 rfl rfl rfl (by omega) (by omega)) rfl rfl ?_)|(refine uE (EvF.shr32 rfl rfl rfl (by omega) (by omega)) rfl rfl ?_)|(refine uE (EvF.mulU rfl rfl rfl (by omega) (by omega)) rfl rfl ?_)|(refine uE (EvF.addU rfl rfl rfl (by omega) (by omega)) rfl rfl ?_)|(refine uE (uM rfl rfl) rfl rfl ?_)|(refine uE (uA rfl rfl) rfl rfl ?_)))))|(refine uD rfl ?_;refine hK _ _ ?_;clear hK K) | refine uS rfl ?_ | refine uR rfl (fun K hK=>?_) | refine X.ret rfl ?_)
 refine ret_two (by simp) Tryz.results133 rfl rfl (H' := H) (by (repeat (first | exact qR _ | apply qC));done) ⟨?_,rfl⟩
 rw [z2]
 congr 1
theorem mulone_spec (y : Int) (H : List Row) (h0 : 0 ≤ y) (h1 : y < 4294967296) : Fc Tryz.prog 126 [.int .u64 1,.int .u64 y] H (fun v H' => v = .tuple #[.int .u64 0,.int .u64 y]∧H' = H):=by
 refine Fc.mk (callable Tryz.call126) Tryz.func126 rfl Tryz.ntmps126 rfl ?_;dsimp only [fr]
 repeat' (first | (refine uP rfl ?_;(first | ((first | refine uN rfl ?_);(first | (refine uC (uT rfl (Args.cons rfl (Args.cons rfl Args.nil))) rfl rfl (mul64one_spec y _ h0 h1) ?_;rintro _ H9 ⟨rfl,hH9⟩;subst H9)|(refine uE (uM rfl rfl) rfl rfl ?_)|(refine uE (uA rfl rfl) rfl rfl ?_)|(refine uE (uX rfl rfl rfl) rfl rfl ?_)))))|(refine uD rfl ?_;refine hK _ _ ?_;clear hK K) | refine uS rfl ?_ | refine uR rfl (fun K hK=>?_) | refine X.skip rfl ?_ | refine X.ret rfl ?_ | (refine X.ite rfl rfl (fun hc=>?_);(first | (with_reducible refine Xb.f hc ?_)) <;> clear hc))
 exact ret_two (by simp) Tryz.results126 rfl rfl (H' := H) (by (repeat (first | exact qR _ | apply qC));done) ⟨rfl,rfl⟩
def farI : Value := .int .i64 1048576
def zI : Value := .int .i64 0
def tsRp : List TOp:=[⟨some 38,[],[],[]⟩,⟨some 39,[],[],[]⟩,⟨some 40,[],[],[]⟩,⟨some 41,[1,2],[1,2],[]⟩,⟨some 42,[],[],[]⟩,⟨some 43,[],[],[]⟩,⟨some 44,[4,5],[4,5],[]⟩,⟨some 45,[1,2,3,4,5,6],[3,6],[10]⟩,⟨some 46,[0,1,2,3,4,5,6,7],[0,7],[]⟩,⟨some 8,[0,1,2,3,4,5,6,7,8],[8],[]⟩,⟨none,[],[],[]⟩]
def valRp (b : Nat) (n j m : Nat) (k : Nat) (env : Env) : Value :=
 match k with
 | 0 => .int .i64 j
 | 1 => .slice (some ⟨b,0,none⟩) n n
 | 2 => .int .i64 j
 | 3 => .slice (some ⟨b,0 + j * 1,none⟩) (n - j) (n - j)
 | 4 => .slice (some ⟨b,0,none⟩) n n
 | 5 => .int .i64 j
 | 6 => .slice (some ⟨b,0,none⟩) j n
 | 7 => .int .i64 m
 | 8 => .int .i64 ((j : Int) + (m : Int))
 | 9 => .int .i64 ((j : Int) + (m : Int))
 | _=>undef
def rowsRp (b : Nat) (n j m : Nat) (k : Nat) (env : Env) : List Row :=
 match k with
 | 7=>[⟨b,0,List.replicate (j + m) farI++List.replicate (n - (j + m)) zI,some 3,n * 1⟩]
 | 10=>[⟨b,0,List.replicate j farI++List.replicate (n - j) zI,some 3,n * 1⟩]
 | _=>[]
theorem locRp (b : Nat) (n j m : Nat) : ∀ k env i q9,i ≠ k → (tAt tsRp k).sup.contains i = false → valRp b n j m k (upd env i q9)=valRp b n j m k env∧rowsRp b n j m k (upd env i q9)=rowsRp b n j m k env:=by
 intro k env i q hk hs
 have hu : ∀ j,j ≠ i → upd env i q j = env j:=fun j hj=>by unfold upd;rw [if_neg hj]
 match k,hk,hs with
 | 0,_,_=>exact ⟨rfl,rfl⟩
 | 1,_,_=>exact ⟨rfl,rfl⟩
 | 2,_,_=>exact ⟨rfl,rfl⟩
 | 3,_,_=>exact ⟨rfl,rfl⟩
 | 4,_,_=>exact ⟨rfl,rfl⟩
 | 5,_,_=>exact ⟨rfl,rfl⟩
 | 6,_,_=>exact ⟨rfl,rfl⟩
 | 7,_,_=>exact ⟨rfl,rfl⟩
 | 8,_,_=>exact ⟨rfl,rfl⟩
 | 9,_,_=>exact ⟨rfl,rfl⟩
 | 10,_,_=>exact ⟨rfl,rfl⟩
 | _ + 11,_,_=>exact ⟨rfl,rfl⟩
def rdRp (_ : Nat) : List Nat:=[]
set_option maxHeartbeats 4000000 in
theorem repeat_spec (bo n : Nat) (ow : Option Kd) (cap : Nat) (H : List Row) (hm : ⟨bo,0,[farI],ow,cap⟩ ∈ H) (h1 : 1 ≤ n) (h2 : n ≤ 1000) :
  Fc Tryz.prog 114 [.slice (some ⟨bo,0,none⟩) 1 1,.int .i64 n] H (fun v H' => ∃ b,v = .slice (some ⟨b,0,none⟩) n n∧H' = ⟨b,0,(List.replicate n (1048576 : Int)).flatMap cI,some 3,n * 1⟩::H):=by
 have hz : ((Array.range (n * 1)).map ((#[zI] : Array Value)[·% (#[zI] : Array Value).size]!)).toList = List.replicate n zI:=zeros_rep zI n
 have hrep : ∀ k : Nat,(List.replicate k (1048576 : Int)).flatMap cI = List.replicate k farI:=by
  intro k
  induction k with
  | zero=>rfl
  | succ k ih=>rw [List.replicate_succ,List.replicate_succ,List.flatMap_cons,ih];rfl
 refine Fc.mk (callable Tryz.call114) Tryz.func114 rfl Tryz.ntmps114 rfl ?_;dsimp only [fr]
 repeat' (first | (refine uP rfl ?_;(first | ((first | refine uN rfl ?_ | (refine Xo.g rfl rfl ?_;with_reducible refine Xw.ff ?_));(first | (refine uE (uQ (b:=false) rfl rfl rfl (congrArg some (decide_eq_false (by omega)))) rfl rfl ?_)|(refine uE (EvF.convU rfl rfl i64_und uint_und (by omega) (by omega)) rfl rfl ?_)|(refine uE (EvF.conv rfl rfl u64_und i64_undI (by omega) (by omega)) rfl rfl ?_)|(refine uC (uT rfl (Args.cons rfl (Args.cons rfl Args.nil))) rfl rfl (mulone_spec (n : Nat) _ (by omega) (by omega)) ?_;rintro _ H9 ⟨rfl,hH9⟩;subst H9)|(refine Xg.st (StF.makeN (len:=n) (sz:=1) (y:=8) (z:=zI) (cs:=List.replicate n zI) rfl el55 Tryz.zeroValue3 rfl rfl hz (Nat.ble_eq_true_of_le (by omega)) (Nat.ble_eq_true_of_le (by omega)) rfl (by simp)) rfl rfl ?_;rintro _ _ ⟨bn,rfl,rfl⟩)|(refine Xg.st (StF.copyOwn (q:=0) (j:=0) (m:=1) (vs:=[farI]) rfl el55 rfl rfl rfl (Nat.min_eq_left (by omega)) rfl (Rd.own (qT _ hm)) rfl (by simp;omega)) rfl rfl ?_;rintro _ _ ⟨rfl,rfl⟩;dsimp only [List.set])|(refine uE (uM rfl rfl) rfl rfl ?_)|(refine uE (uA rfl rfl) rfl rfl ?_)|(refine uE (EvF.pickF rfl rfl rfl) rfl rfl ?_)|(refine uE (EvF.lenSlice rfl rfl (te rfl)) rfl rfl ?_)|(refine uE (uX rfl rfl rfl) rfl rfl ?_)))))|(refine uD rfl ?_;refine hK _ _ ?_;clear hK K) | refine uS rfl ?_ | refine uR rfl (fun K hK=>?_) | refine X.block rfl ?_ | refine X.skip rfl ?_ | (refine X.ite rfl rfl (fun hc=>?_);(first | (with_reducible refine Xb.f hc ?_)) <;> clear hc))
 have hs0 : splice (List.replicate n zI) 0 [farI] = List.replicate 1 farI++List.replicate (n - 1) zI:=by
  unfold splice
  simp [List.drop_replicate]
 refine X.lp rfl (fun q F' H' => ∃ k : Nat,q = n - k∧1 ≤ k∧k ≤ n∧⟨bn,0,List.replicate k farI++List.replicate (n - k) zI,some 3,n * 1⟩::H = H'∧F' = [(7,.slice (some ⟨bn,0,none⟩) n n),(8,.int .i64 k)])
  (n - 1) [(7,.slice (some ⟨bn,0,none⟩) n n),(8,.int .i64 (1 : Nat))] (⟨bn,0,List.replicate 1 farI++List.replicate (n - 1) zI,some 3,n * 1⟩::H) (by repeat (first | exact uU _ | refine uV rfl ?_)) (by rw [hs0];exact (by repeat (first | exact qR _ | apply qK | apply qC))) ⟨1,rfl,by omega,by omega,rfl,rfl⟩ ?_
 rintro _ _ _ ⟨k,rfl,hk1,hkn,rfl,rfl⟩
 repeat' (first | (refine uP rfl ?_;(first | ((first | refine uN rfl ?_);(first | (refine uE (uM rfl rfl) rfl rfl ?_)|(refine uE (uA rfl rfl) rfl rfl ?_)|(refine uE (uQ rfl rfl rfl rfl) rfl rfl ?_)|(refine uE (EvF.lenSlice rfl rfl (te rfl)) rfl rfl ?_)))))|(refine uD rfl ?_;refine hK _ _ ?_;clear hK K) | refine uS rfl ?_ | refine uR rfl (fun K hK=>?_) | refine X.block rfl ?_ | (refine X.brk rfl ?_;repeat (first | refine blockX_hit rfl ?_ | refine blockX_miss (by decide) ?_)) | refine X.skip rfl ?_ | refine X.ret rfl ?_ | (refine X.ite rfl rfl (fun hc=>?_);(first | (with_reducible refine Xb.case hc (fun h=>?_) (fun h=>?_))) <;> clear hc))
 ·obtain ⟨m,hmm⟩ : ∃ m,m = Nat.min k (n - k):=⟨_,rfl⟩
  have hm1 : 1 ≤ m∧m ≤ k∧k + m ≤ n:=by
   have h3 : k < n:=by omega
   rw [hmm]
   have : Nat.min k (n - k)=min k (n - k):=rfl
   omega
  have hrow : splice (List.replicate k farI++List.replicate (n - k) zI) (0 + k * 1) (List.replicate m farI)=List.replicate (k + m) farI++List.replicate (n - (k + m)) zI:=by
   have:=splice_at (xs:=List.replicate k farI) (ys:=List.replicate m zI) (zs:=List.replicate (n - (k + m)) zI) (vs:=List.replicate m farI) (j:=0 + k * 1) (by simp) (by simp)
   rw [List.append_assoc,List.replicate_append_replicate,show m + (n - (k + m)) = n - k by omega,List.replicate_append_replicate] at this
   exact this
  refine X.regionRs [] tsRp rdRp [7] [(7,.slice (some ⟨bn,0,none⟩) n n)] (valRp bn n k m) (rowsRp bn n k m) (fun _=>(0,0)) (H) rfl mixed (by repeat (first | exact uU _ | refine uV rfl ?_)) rfl (by kernel_rfl) (by kernel_rfl) (locRp bn n k m) (fun i d hi=>by cases hi) (qR _) [(9,8,.int .i64 k)] (by intro e he;simp only [List.mem_cons,List.not_mem_nil,or_false] at he;rcases he with rfl <;> exact ⟨rfl,Nat.le_of_ble_eq_true rfl⟩) (by intro e he;simp only [List.mem_cons,List.not_mem_nil,or_false] at he;rcases he with rfl <;> exact rfl) ?_ ?_
  ·have hsrc : List.replicate k farI++List.replicate (n - k) zI = []++List.replicate m farI++(List.replicate (k - m) farI++List.replicate (n - k) zI):=by
    rw [List.nil_append, ← List.append_assoc,List.replicate_append_replicate,show m + (k - m)=k by omega]
   repeat' (first | exact AllF.done rfl | (refine AllF.step rfl ?_ ?_;·(first | fail | (refine Ob.toR ?_;((first | refine Ob.ng rfl ?_);(first | exact ObK.pure (fun env R hR=>by exact ⟨_,uM rfl rfl,rfl⟩) rfl (fun _=>rfl) | exact ObK.pure (fun env R hR=>by exact ⟨_,uA rfl rfl,rfl⟩) rfl (fun _=>rfl)|(exact ObK.pure (fun env S hS=>⟨_,EvF.sliceFromL (lo:=k) rfl rfl (te rfl) (te rfl) rfl (by omega) (by omega) (by omega),rfl⟩) rfl (fun _=>rfl))|(exact ObK.pure (fun env S hS=>⟨_,EvF.sliceTo (hh:=k) rfl rfl (te rfl) (te rfl) rfl (by omega),rfl⟩) rfl (fun _=>rfl))|(exact ObK.pure (fun env S hS=>⟨_,EvF.add64 rfl rfl rfl (by omega) (by omega),rfl⟩) rfl (fun _=>rfl))|(exact fun env S hS=>(StF.copyOwn (q:=0) (j:=0 + k * 1) (m:=m) (vs:=List.replicate m farI) rfl el55 rfl rfl rfl hmm.symm (by simp) (Rd.piece (xs:=[]) (zs:=List.replicate (k - m) farI++List.replicate (n - k) zI) (j:=0) (by rw [← hsrc];exact qH _) rfl) (by simp [farI];exact .inr rfl) (by simp;omega)).op.mono (fun v H' ⟨hv,hH⟩=>⟨(0,0),fun _=>hv,by rw [hH,hrow];exact List.Perm.refl _⟩))))))))
  ·intro env t ha2 hv;refine ⟨_,ha2.cons (hv 9 8 (Nat.le_of_ble_eq_true rfl) rfl),?_⟩;clear hv ha2
   refine ⟨_,[(7,.slice (some ⟨bn,0,none⟩) n n),(8,.int .i64 (k + m : Nat))],_,(by rw [show ((k + m : Nat) : Int)=(k : Int) + (m : Int) by omega];exact (by repeat (first | exact uU _ | refine uV rfl ?_))),qR _,⟨k + m,rfl,by omega,by omega,rfl,rfl⟩,by omega⟩
 ·have hk2 : k = n:=by omega
  subst hk2
  refine ret_one (by simp) Tryz.results114 rfl (H' := _) (qR _) ⟨bn,rfl,?_⟩
  rw [hrep,Nat.sub_self,List.replicate_zero,List.append_nil]
end Go.Proofs.YtmfppdpkalelhaaGreat
end
section
set_option linter.unusedVariables false
set_option linter.unusedSimpArgs false
namespace Go.Proofs.YtmfppdpkalelhaaGreat
open Go Go.Fw
set_option maxRecDepth 10000
def cBd (d : Bd) : List Value:=[.int .i64 d.a,.int .i64 d.b,.int .i64 d.s.lo,.int .i64 d.s.hi]
noncomputable def bdA1 (R : Rm) (x : Bx) : List Bd:=(List.range (nAge R x)).map (fun (k : Nat)=>⟨pidx R ⟨x.id,x.made⟩ + k,0,R.ages.getD k ⟨0,0⟩⟩)
theorem bdA1_get (R : Rm) (b : Bx) {k : Nat} (h : k < nAge R b) : (bdA1 R b)[k]? = some ⟨pidx R ⟨b.id,b.made⟩ + k,0,R.ages.getD k ⟨0,0⟩⟩:=by
 unfold bdA1
 rw [List.getElem?_map,List.getElem?_range h]
 rfl
theorem take_full {α : Type} {l : List α} {n : Nat} (h : l.length = n) : l.take n = l:=List.take_of_length_le (by omega)
theorem flat_step {α β : Type} (f : α → List β) {l : List α} {i : Nat} {e : α} (h : l[i]? = some e) : (l.take (i + 1)).flatMap f = (l.take i).flatMap f++f e:=by
 rw [take_snoc h,List.flatMap_append];simp
theorem flat_pre {α β : Type} (f : α → List β) {l : List α} {i j : Nat} {e : α} {x : β} (h : l[i]? = some e) (hx : (f e)[j]? = some x) : (l.take i).flatMap f++(f e).take j++[x] <+: l.flatMap f:=by
 have h1 : l.flatMap f = (l.take i).flatMap f++(f e++(l.drop (i + 1)).flatMap f):=by
  conv=>lhs;rw [← List.take_append_drop i l,List.flatMap_append,drop_cons h,List.flatMap_cons]
 rw [h1,List.append_assoc]
 refine (List.prefix_append_right_inj _).2 ?_
 rw [← take_snoc hx]
 exact (List.take_prefix _ _).trans (List.prefix_append _ _)
theorem allOk_snoc {α : Type} {ok : List α → Bool} {pre : List α} {x : α} (h : allOk ok pre) (hx : ok (pre++[x]) = true) : allOk ok (pre++[x]):=by
 intro q hq hne
 rcases List.prefix_concat_iff.1 hq with rfl | h1
 ·exact hx
 ·exact h q h1 hne
def tsBy : List TOp:=[⟨some 58,[],[],[]⟩,⟨some 59,[0],[0],[]⟩,⟨some 60,[],[],[]⟩,⟨some 61,[0,1,2],[1,2],[]⟩,⟨some 62,[0,1,2,3],[3],[]⟩,⟨some 63,[],[],[]⟩,⟨some 64,[5],[5],[]⟩,⟨some 65,[],[],[]⟩,⟨some 66,[7],[7],[]⟩,⟨some 67,[7,8],[8],[]⟩,⟨some 68,[5,6,7,8,9],[6,9],[]⟩,⟨some 69,[0,1,2,3,4,5,6,7,8,9,10],[4,10],[]⟩,⟨some 70,[0,1,2,3,4,5,6,7,8,9,10,11],[11],[]⟩,⟨some 71,[0,1,2,3,4,5,6,7,8,9,10,11,12],[],[]⟩,⟨some 72,[0,1,2,3,4,5,6,7,8,9,10,11,12],[],[]⟩,⟨some 73,[0,1,2,3,4,5,6,7,8,9,10,11,12,14],[14],[]⟩,⟨some 74,[0,1,2,3,4,5,6,7,8,9,10,11,12],[],[]⟩,⟨some 75,[0,1,2,3,4,5,6,7,8,9,10,11,12],[],[]⟩,⟨some 76,[0,1,2,3,4,5,6,7,8,9,10,11,12,17],[17],[]⟩,⟨some 77,[0,1,2,3,4,5,6,7,8,9,10,11,12,17,18],[18],[]⟩,⟨some 78,[0,1,2,3,4,5,6,7,8,9,10,11,12,17,18,19],[19],[]⟩,⟨some 79,[0,1,2,3,4,5,6,7,8,9,10,11,12,14,15,16,17,18,19,20],[15,16,20],[]⟩,⟨some 80,[0,1,2,3,4,5,6,7,8,9,10,11,12,13,14,15,16,17,18,19,20,21],[13,21],[25]⟩,⟨some 81,[0,1,2,3,4,5,6,7,8,9,10,11,12,13,14,15,16,17,18,19,20,21,22],[22],[]⟩,⟨some 82,[0,1,2,3,4,5,6,7,8,9,10,11,12,13,14,15,16,17,18,19,20,21,22,23],[12,23],[]⟩,⟨none,[],[],[]⟩]
def valBy (bo b8 y pb po : Nat) (R : Rm) (p : Pl) (c ix : Nat) (q e : Pk) (w u : Bool) (v51 v52 v53 : Value) (hp hn : List Row) (k : Nat) (env : Env) : Value :=
 match k with
 | 0 => .pointer (some ⟨bo,5,none⟩)
 | 1 => .slice (some ⟨pb,po,none⟩) (plcs R).length c
 | 2 => .int .i64 ix
 | 3 => .pointer (some ⟨pb,po + ix * 2,none⟩)
 | 4 => .agg (cPk e).toArray
 | 5 => .pointer (some ⟨b8,0,none⟩)
 | 6 => .int .i64 q.box
 | 7 => .pointer (some ⟨b8,1,none⟩)
 | 8 => .int .i64 q.month
 | 9 => .int .i64 (q.month - 1)
 | 10 => .agg (cPk ⟨q.box,q.month - 1⟩).toArray
 | 11 => .bool w
 | 12 => .bool w
 | 13=>gt (!w) (.func (.yield y) #[] #[])
 | 14=>gt (!w) (.int .i64 ix)
 | 15=>gt (!w) (.int .i64 (ix + 1))
 | 16=>gt (!w) (.int .i64 ix)
 | 17=>gt (!w) (.pointer (some ⟨bo,0,none⟩))
 | 18=>gt (!w) (.pointer (some ⟨bo,1,none⟩))
 | 19=>gt (!w) (.int .i64 R.step)
 | 20=>gt (!w) (.agg (cSp ⟨0,R.step⟩).toArray)
 | 21=>gt (!w) (.agg (cBd ⟨ix + 1,ix,⟨0,R.step⟩⟩).toArray)
 | 22=>gt (!w) (.bool u)
 | 23=>gt (!w) (.bool (!u))
 | 24 => .bool (w && !u)
 | _=>undef
def rowsBy (bo b8 y pb po : Nat) (R : Rm) (p : Pl) (c ix : Nat) (q e : Pk) (w u : Bool) (v51 v52 v53 : Value) (hp hn : List Row) (k : Nat) (env : Env) : List Row :=
 match k with
 | 22=>gr (!w) (hn)
 | 25=>hp
 | _=>[]
theorem locBy (bo b8 y pb po : Nat) (R : Rm) (p : Pl) (c ix : Nat) (q e : Pk) (w u : Bool) (v51 v52 v53 : Value) (hp hn : List Row) : ∀ k env i q9,i ≠ k → (tAt tsBy k).sup.contains i = false → valBy bo b8 y pb po R p c ix q e w u v51 v52 v53 hp hn k (upd env i q9)=valBy bo b8 y pb po R p c ix q e w u v51 v52 v53 hp hn k env∧rowsBy bo b8 y pb po R p c ix q e w u v51 v52 v53 hp hn k (upd env i q9)=rowsBy bo b8 y pb po R p c ix q e w u v51 v52 v53 hp hn k env:=by
 intro k env i q hk hs
 have hu : ∀ j,j ≠ i → upd env i q j = env j:=fun j hj=>by unfold upd;rw [if_neg hj]
 match k,hk,hs with
 | 0,_,_=>exact ⟨rfl,rfl⟩
 | 1,_,_=>exact ⟨rfl,rfl⟩
 | 2,_,_=>exact ⟨rfl,rfl⟩
 | 3,_,_=>exact ⟨rfl,rfl⟩
 | 4,_,_=>exact ⟨rfl,rfl⟩
 | 5,_,_=>exact ⟨rfl,rfl⟩
 | 6,_,_=>exact ⟨rfl,rfl⟩
 | 7,_,_=>exact ⟨rfl,rfl⟩
 | 8,_,_=>exact ⟨rfl,rfl⟩
 | 9,_,_=>exact ⟨rfl,rfl⟩
 | 10,_,_=>exact ⟨rfl,rfl⟩
 | 11,_,_=>exact ⟨rfl,rfl⟩
 | 12,_,_=>exact ⟨rfl,rfl⟩
 | 13,_,_=>exact ⟨rfl,rfl⟩
 | 14,_,_=>exact ⟨rfl,rfl⟩
 | 15,_,_=>exact ⟨rfl,rfl⟩
 | 16,_,_=>exact ⟨rfl,rfl⟩
 | 17,_,_=>exact ⟨rfl,rfl⟩
 | 18,_,_=>exact ⟨rfl,rfl⟩
 | 19,_,_=>exact ⟨rfl,rfl⟩
 | 20,_,_=>exact ⟨rfl,rfl⟩
 | 21,_,_=>exact ⟨rfl,rfl⟩
 | 22,_,_=>exact ⟨rfl,rfl⟩
 | 23,_,_=>exact ⟨rfl,rfl⟩
 | 24,_,_=>exact ⟨rfl,rfl⟩
 | 25,_,_=>exact ⟨rfl,rfl⟩
 | _ + 26,_,_=>exact ⟨rfl,rfl⟩
def tsBm : List TOp:=[⟨some 92,[],[],[]⟩,⟨some 93,[],[],[]⟩,⟨some 94,[],[],[]⟩,⟨some 95,[2],[2],[]⟩,⟨some 96,[],[],[]⟩,⟨some 97,[4],[4],[]⟩,⟨some 98,[1,2,3,4,5],[1,3,5],[]⟩,⟨some 99,[],[],[]⟩,⟨some 100,[],[],[]⟩,⟨some 101,[8],[8],[]⟩,⟨some 102,[],[],[]⟩,⟨some 103,[10],[10],[]⟩,⟨some 104,[1,2,3,4,5,6,7,8,9,10,11],[7,9,11],[]⟩,⟨some 105,[],[],[]⟩,⟨some 106,[13],[13],[]⟩,⟨some 107,[1,2,3,4,5,6,7,8,9,10,11,12,13,14],[6,12,14],[]⟩,⟨some 108,[0,1,2,3,4,5,6,7,8,9,10,11,12,13,14,15],[0,15],[18]⟩,⟨some 109,[0,1,2,3,4,5,6,7,8,9,10,11,12,13,14,15,16],[16],[]⟩,⟨none,[],[],[]⟩]
def valBm (bo b10 y : Nat) (R : Rm) (p : Pl) (a : Option Addr) (c : Nat) (x : Mt) (ia ib : Nat) (u : Bool) (v86 v87 v88 : Value) (hp hn : List Row) (k : Nat) (env : Env) : Value :=
 match k with
 | 0 => .func (.yield y) #[] #[]
 | 1 => .agg (cCt R p a c).toArray
 | 2 => .pointer (some ⟨b10,2,none⟩)
 | 3 => .int .i64 x.a
 | 4 => .pointer (some ⟨b10,1,none⟩)
 | 5 => .int .i64 x.month
 | 6 => .int .i64 ia
 | 7 => .agg (cCt R p a c).toArray
 | 8 => .pointer (some ⟨b10,3,none⟩)
 | 9 => .int .i64 x.b
 | 10 => .pointer (some ⟨b10,1,none⟩)
 | 11 => .int .i64 x.month
 | 12 => .int .i64 ib
 | 13 => .pointer (some ⟨b10,4,none⟩)
 | 14 => .agg (cSp ⟨x.lo,x.hi⟩).toArray
 | 15 => .agg (cBd ⟨ia,ib,⟨x.lo,x.hi⟩⟩).toArray
 | 16 => .bool u
 | 17 => .bool (!u)
 | _=>undef
def rowsBm (bo b10 y : Nat) (R : Rm) (p : Pl) (a : Option Addr) (c : Nat) (x : Mt) (ia ib : Nat) (u : Bool) (v86 v87 v88 : Value) (hp hn : List Row) (k : Nat) (env : Env) : List Row :=
 match k with
 | 16=>hn
 | 18=>hp
 | _=>[]
theorem locBm (bo b10 y : Nat) (R : Rm) (p : Pl) (a : Option Addr) (c : Nat) (x : Mt) (ia ib : Nat) (u : Bool) (v86 v87 v88 : Value) (hp hn : List Row) : ∀ k env i q9,i ≠ k → (tAt tsBm k).sup.contains i = false → valBm bo b10 y R p a c x ia ib u v86 v87 v88 hp hn k (upd env i q9)=valBm bo b10 y R p a c x ia ib u v86 v87 v88 hp hn k env∧rowsBm bo b10 y R p a c x ia ib u v86 v87 v88 hp hn k (upd env i q9)=rowsBm bo b10 y R p a c x ia ib u v86 v87 v88 hp hn k env:=by
 intro k env i q hk hs
 have hu : ∀ j,j ≠ i → upd env i q j = env j:=fun j hj=>by unfold upd;rw [if_neg hj]
 match k,hk,hs with
 | 0,_,_=>exact ⟨rfl,rfl⟩
 | 1,_,_=>exact ⟨rfl,rfl⟩
 | 2,_,_=>exact ⟨rfl,rfl⟩
 | 3,_,_=>exact ⟨rfl,rfl⟩
 | 4,_,_=>exact ⟨rfl,rfl⟩
 | 5,_,_=>exact ⟨rfl,rfl⟩
 | 6,_,_=>exact ⟨rfl,rfl⟩
 | 7,_,_=>exact ⟨rfl,rfl⟩
 | 8,_,_=>exact ⟨rfl,rfl⟩
 | 9,_,_=>exact ⟨rfl,rfl⟩
 | 10,_,_=>exact ⟨rfl,rfl⟩
 | 11,_,_=>exact ⟨rfl,rfl⟩
 | 12,_,_=>exact ⟨rfl,rfl⟩
 | 13,_,_=>exact ⟨rfl,rfl⟩
 | 14,_,_=>exact ⟨rfl,rfl⟩
 | 15,_,_=>exact ⟨rfl,rfl⟩
 | 16,_,_=>exact ⟨rfl,rfl⟩
 | 17,_,_=>exact ⟨rfl,rfl⟩
 | 18,_,_=>exact ⟨rfl,rfl⟩
 | _ + 19,_,_=>exact ⟨rfl,rfl⟩
theorem bdS_step (R : Rm) (j : Nat) : (List.range (j + 1)).flatMap (bdS1 R)=(List.range j).flatMap (bdS1 R)++bdS1 R j:=by
 rw [List.range_succ,List.flatMap_append];simp
theorem bdS_le (R : Rm) {j n : Nat} (h : j ≤ n) : (List.range j).flatMap (bdS1 R) <+: (List.range n).flatMap (bdS1 R):=by
 have : List.range n = List.range j++(List.range n).drop j:=by
  conv=>lhs;rw [← List.take_append_drop j (List.range n)]
  rw [List.take_range,Nat.min_eq_left h]
 rw [this,List.flatMap_append]
 exact List.prefix_append _ _
set_option maxHeartbeats 16000000 in
theorem bounds1_itd (R : Rm) (p : Pl) (a : Option Addr) (c bo capo : Nat) (owo : Option Kd) (E : List Row) (hr : okRm R) (hm : matsThere R R.mats) (hC : CtOk E R p a) (hla : R.ages.length ≤ 1000000) (hlm : R.mats.length ≤ 1000000) (hpc : (plcs R).length ≤ c)
  (ho : ⟨bo,0,cCt R p a c,owo,capo⟩ ∈ E) :
  Itd Tryz.prog 127 [.pointer (some ⟨bo,0,none⟩)] E (bds R R.mats) (fun d=>[.agg (cBd d).toArray]):=by
 refine ⟨callable Tryz.call127,fun y hh ok hx hY=>?_⟩
 have ho0 : ∀ Z : List Row,(⟨bo,0,cCt R p a c,owo,capo⟩ : Row) ∈ Z++E:=fun Z=>List.mem_append_right _ ho
 have hC0 : ∀ Z : List Row,CtOk (Z++E) R p a:=fun Z=>hC.sub (fun _ h=>List.mem_append_right _ h)
 have hb4:=hr.b4
 have hm12:=hr.m12
 have hm1:=hr.m1
 have hpl:=plcs_len hr
 obtain ⟨a1,c1,a2,c2,a3,c3⟩:=p
 refine Fc.mk (callable Tryz.call127) Tryz.func127 rfl Tryz.ntmps127 rfl ?_;dsimp only [fr]
 repeat' (first | (refine uP rfl ?_;(first | ((first | refine uN rfl ?_);(first | (refine uE (uL rfl rfl (uO (te rfl) rfl (ho0 _) rfl)) rfl rfl ?_)|(refine uE (uM rfl rfl) rfl rfl ?_)|(refine uE (uF rfl rfl (te rfl) rfl (te rfl) (by decide)) rfl rfl ?_)|(refine uE (EvF.lenSlice rfl rfl (te rfl)) rfl rfl ?_)))))|(refine uD rfl ?_;refine hK _ _ ?_;clear hK K) | refine uS rfl ?_ | refine uR rfl (fun K hK=>?_) | refine X.block rfl ?_)
 refine X.lp rfl (fun m F' H' => ∃ (i : Nat),m = R.boxes.length - i∧i ≤ R.boxes.length∧allOk ok ((R.boxes.take i).flatMap (bdA1 R))∧H' = hh ((R.boxes.take i).flatMap (bdA1 R))++E ∧
   F' = [(0,.func (.yield y) #[] #[]),(1,.pointer (some ⟨bo,0,none⟩)),(13,.slice a2 R.boxes.length c2),(14,.int .i64 R.boxes.length),(15,.int .i64 i)])
  R.boxes.length [(0,.func (.yield y) #[] #[]),(1,.pointer (some ⟨bo,0,none⟩)),(13,.slice a2 R.boxes.length c2),(14,.int .i64 R.boxes.length),(15,.int .i64 (0 : Nat))] _ (by repeat (first | exact uU _ | refine uV rfl ?_)) (qR _) ⟨0,by omega,by omega,(fun q hq hne=>absurd (List.prefix_nil.1 (by simpa using hq)) hne),rfl,rfl⟩ ?_
 rintro _ _ _ ⟨i,rfl,hi,hall,rfl,rfl⟩
 repeat' (first | (refine uP rfl ?_;(first | ((first | refine uN rfl ?_);(first | (refine uE (uQ rfl rfl rfl rfl) rfl rfl ?_)|(refine uE (uF rfl rfl (te rfl) rfl (te rfl) (by decide)) rfl rfl ?_)))))|(refine uD rfl ?_;refine hK _ _ ?_;clear hK K) | refine uS rfl ?_ | refine uR rfl (fun K hK=>?_) | refine X.block rfl ?_ | (refine X.brk rfl ?_;repeat (first | refine blockX_hit rfl ?_ | refine blockX_miss (by decide) ?_)) | refine X.skip rfl ?_ | (refine X.ite rfl rfl (fun hc=>?_);(first | (with_reducible refine Xb.case hc (fun h=>?_) (fun h=>?_))) <;> clear hc))
 ·obtain ⟨bb,off,e,hae,he⟩:=hC.rm.boxes.elem (i:=i) (by omega)
  simp only at hae
  subst hae
  have hmem:=List.mem_of_getElem? he
  have hbx:=okBoxes_mem _ _ _ hr.bx e hmem
  have hnA : ((nAge R e : Nat) : Int)=R.months - e.made:=by unfold nAge;omega
  have hnA12:=nAge_le hr hmem
  have hth : there R e e.made:=⟨hmem,Int.le_refl _,by omega⟩
  have hz : atZ R ⟨e.id,e.made⟩ = (pidx R ⟨e.id,e.made⟩ : Nat):=by unfold atZ;rw [if_pos (plcs_mem hth)]
  have hpi:=pidx_lt (plcs_mem hth)
  have hlen:=hr.len
  have hat:=fun H' hH' => at_spec R ⟨a1,c1,some ⟨bb,off,none⟩,c2,a3,c3⟩ a c e.id e.made H' hr hH'
  rw [hz] at hat
  repeat' (first | (refine uP rfl ?_;(first | ((first | refine uN rfl ?_);(first | (refine uE (uL rfl rfl (LoadV.elA0 (hC0 _).rm.boxes he (te rfl) rfl (fun _ hm=>hm) rfl)) rfl rfl ?_)|(refine uE (uL rfl rfl (uW (te rfl) rfl (qT _ (ho0 _)) rfl)) rfl rfl ?_)|(refine uC (uT rfl (Args.cons rfl (Args.cons rfl (Args.cons rfl Args.nil)))) rfl rfl (hat _ (hC.sub (fun _ q=>qT _ (List.mem_append_right _ q)))) ?_;rintro _ H9 ⟨rfl,hH9⟩;subst H9)|(refine uE (uL rfl rfl (uO (te rfl) rfl (qT _ (ho0 _)) rfl)) rfl rfl ?_)|(refine uE (uM rfl rfl) rfl rfl ?_)|(refine uE (uA rfl rfl) rfl rfl ?_)|(refine uE (EvF.sub64 rfl rfl rfl (by omega) (by omega)) rfl rfl ?_)|(refine uE (uF rfl rfl (te rfl) rfl (te rfl) (by decide)) rfl rfl ?_)|(refine uE (EvF.indexSlice rfl rfl rfl (te rfl) (te rfl) (by omega) (by omega)) rfl rfl ?_)|(refine uE (uL rfl rfl (uO (te rfl) rfl (qH _) rfl)) rfl rfl ?_)|(refine Xg.st (StF.alloc rfl Tryz.zeroValue24 rfl) rfl rfl ?_;rintro _ _ ⟨bx,rfl,rfl⟩)|(refine Xg.st0 (StF.storeAll (i:=0) rfl rfl rfl (te rfl) rfl rfl rfl rfl) rfl ?_;rintro _ _ ⟨rfl,rfl⟩;dsimp only [List.set])))))|(refine uD rfl ?_;refine hK _ _ ?_;clear hK K) | refine uS rfl ?_ | refine uR rfl (fun K hK=>?_) | refine X.block rfl ?_)
  rename Nat=>be
  have hpa : pidx R ⟨e.id,e.made⟩ < 49:=by omega
  refine X.permH (H' := hh ((R.boxes.take i).flatMap (bdA1 R))++(⟨be,0,cBx e,some 47,2⟩::E)) List.perm_middle ?_
  refine X.lp rfl (fun m F' H' => ∃ (j : Nat),m = nAge R e - j∧j ≤ nAge R e∧allOk ok ((R.boxes.take i).flatMap (bdA1 R)++(bdA1 R e).take j)∧H' = hh ((R.boxes.take i).flatMap (bdA1 R)++(bdA1 R e).take j)++(⟨be,0,cBx e,some 47,2⟩::E) ∧
    F' = [(0,.func (.yield y) #[] #[]),(1,.pointer (some ⟨bo,0,none⟩)),(13,.slice (some ⟨bb,off,none⟩) R.boxes.length c2),(14,.int .i64 R.boxes.length),(15,.int .i64 i),(5,.int .i64 (pidx R ⟨e.id,e.made⟩ : Nat)),(30,.int .i64 (nAge R e : Nat)),(31,.int .i64 j)])
   (nAge R e) [(0,.func (.yield y) #[] #[]),(1,.pointer (some ⟨bo,0,none⟩)),(13,.slice (some ⟨bb,off,none⟩) R.boxes.length c2),(14,.int .i64 R.boxes.length),(15,.int .i64 i),(5,.int .i64 (pidx R ⟨e.id,e.made⟩ : Nat)),(30,.int .i64 (nAge R e : Nat)),(31,.int .i64 (0 : Nat))]
   (hh ((R.boxes.take i).flatMap (bdA1 R)++(bdA1 R e).take 0)++(⟨be,0,cBx e,some 47,2⟩::E)) (by rw [hnA];exact (by repeat (first | exact uU _ | refine uV rfl ?_))) (by rw [List.take_zero,List.append_nil];exact qR _) ⟨0,by omega,by omega,by rw [List.take_zero,List.append_nil];exact hall,rfl,rfl⟩ ?_
  rintro _ _ _ ⟨j,rfl,hj,hallj,rfl,rfl⟩
  repeat' (first | (refine uP rfl ?_;(first | ((first | refine uN rfl ?_);(first | (refine uE (uM rfl rfl) rfl rfl ?_)|(refine uE (uA rfl rfl) rfl rfl ?_)|(refine uE (uQ rfl rfl rfl rfl) rfl rfl ?_)|(refine uE (EvF.add64 rfl rfl rfl (by omega) (by omega)) rfl rfl ?_)|(refine uE (uF rfl rfl (te rfl) rfl (te rfl) (by decide)) rfl rfl ?_)))))|(refine uD rfl ?_;refine hK _ _ ?_;clear hK K) | refine uS rfl ?_ | refine uR rfl (fun K hK=>?_) | refine X.block rfl ?_ | (refine X.brk rfl ?_;repeat (first | refine blockX_hit rfl ?_ | refine blockX_miss (by decide) ?_)) | refine X.skip rfl ?_ | (refine X.ite rfl rfl (fun hc=>?_);(first | (with_reducible refine Xb.case hc (fun h=>?_) (fun h=>?_))) <;> clear hc))
  ·have hjn : j < nAge R e:=by omega
   have hga:=bdA1_get R e hjn
   have hpre : ((R.boxes.take i).flatMap (bdA1 R)++(bdA1 R e).take j)++[⟨pidx R ⟨e.id,e.made⟩ + j,0,R.ages.getD j ⟨0,0⟩⟩] <+: bds R R.mats:=by
    refine (flat_pre (bdA1 R) he hga).trans ?_
    unfold bds
    rw [List.append_assoc]
    exact List.prefix_append _ _
   have hagl : j < R.ages.length:=by omega
   obtain ⟨ba,oa,ea,haa,hea⟩:=hC.rm.ages.elem (i:=j) hagl
   simp only at haa
   subst haa
   have heg : R.ages.getD j ⟨0,0⟩ = ea:=by simp [List.getD_eq_getElem?_getD,hea]
   rw [heg] at hga hpre
   have hsn:=take_snoc hga
   have hyy:=fun E' => hY _ _ hpre hallj E'
   obtain ⟨u,hu⟩ : ∃ u,u = ok ((R.boxes.take i).flatMap (bdA1 R)++(bdA1 R e).take j++[⟨pidx R ⟨e.id,e.made⟩ + j,0,ea⟩]):=⟨_,rfl⟩
   rw [← hu] at hyy
   repeat' (first | (refine uP rfl ?_;(first | ((first | refine uN rfl ?_);(first | (refine uE (uL rfl rfl (uO (te rfl) rfl (List.mem_append_right _ (qT _ ho)) rfl)) rfl rfl ?_)|(refine uE (EvF.add64 rfl rfl rfl (by omega) (by omega)) rfl rfl ?_)|(refine uE (uL rfl rfl (LoadV.elA0 (hC.rm.ages.sub (fun _ q=>List.mem_append_right _ (qT _ q))) hea (te rfl) rfl (fun _ hm=>hm) rfl)) rfl rfl ?_)|(refine uE (EvF.build (cs:=cBd ⟨pidx R ⟨e.id,e.made⟩ + j,0,ea⟩) rfl (ArgsP.cons rfl (ArgsP.cons rfl (ArgsP.cons rfl ArgsP.nil))) (te rfl) (Places.cons (te rfl) (Places.cons (te rfl) (Places.cons (te rfl) Places.nil))) Tryz.zeroValue159 rfl) rfl rfl ?_)|(refine Xg.yield rfl rfl (Args.cons rfl Args.nil) rfl rfl (hyy _) ?_;rintro _ _ ⟨rfl,rfl⟩)|(refine uE (uM rfl rfl) rfl rfl ?_)|(refine uE (EvF.not rfl rfl) rfl rfl ?_)|(refine uE (EvF.indexSlice rfl rfl rfl (te rfl) (te rfl) (by omega) (by omega)) rfl rfl ?_)))))|(refine uD rfl ?_;refine hK _ _ ?_;clear hK K) | refine uR rfl (fun K hK=>?_) | refine X.skip rfl ?_ | refine X.ret rfl ?_ | (refine X.ite rfl rfl (fun hc=>?_);(first | (with_reducible refine Xb.caseB hc (fun h=>?_) (fun h=>?_))) <;> clear hc))
   ·have hu1 : u = false:=by simpa using (by assumption : (!u)=true)
    rw [hu1]
    exact ret_none (by simp) Tryz.results127 (H' := _) (List.Sublist.append (qR _) (List.sublist_cons_self _ _)) (.inr ⟨_,hpre,by rw [← hu];exact hu1,rfl⟩)
   ·have hu1 : u = true:=by simpa using (by assumption : (!u)=false)
    rw [hu1,if_pos rfl]
    refine ⟨_,[(0,.func (.yield y) #[] #[]),(1,.pointer (some ⟨bo,0,none⟩)),(13,.slice (some ⟨bb,off,none⟩) R.boxes.length c2),(14,.int .i64 R.boxes.length),(15,.int .i64 i),(5,.int .i64 (pidx R ⟨e.id,e.made⟩ : Nat)),(30,.int .i64 (nAge R e : Nat)),(31,.int .i64 (j + 1 : Nat))],hh ((R.boxes.take i).flatMap (bdA1 R)++(bdA1 R e).take (j + 1))++(⟨be,0,cBx e,some 47,2⟩::E),(by repeat (first | exact uU _ | refine uV rfl ?_)),?_,⟨j + 1,rfl,by omega,?_,rfl,rfl⟩,by omega⟩
    ·rw [hsn, ← List.append_assoc]
     exact qR _
    ·rw [hsn, ← List.append_assoc]
     exact allOk_snoc hallj (by rw [← hu];exact hu1)
  ·have hj2 : j = nAge R e:=by omega
   subst hj2
   have hfull : (bdA1 R e).take (nAge R e)=bdA1 R e:=take_full (by unfold bdA1;rw [List.length_map,List.length_range])
   rw [hfull, ← flat_step (bdA1 R) he] at hallj ⊢
   exact ⟨_,[(0,.func (.yield y) #[] #[]),(1,.pointer (some ⟨bo,0,none⟩)),(13,.slice (some ⟨bb,off,none⟩) R.boxes.length c2),(14,.int .i64 R.boxes.length),(15,.int .i64 (i + 1 : Nat))],_,(by repeat (first | exact uU _ | refine uV rfl ?_)),List.Sublist.append (qR _) (List.sublist_cons_self _ _),⟨i + 1,rfl,by omega,hallj,rfl,rfl⟩,by omega⟩
 ·have hi2 : i = R.boxes.length:=by omega
  subst hi2
  rw [List.take_length] at hall ⊢
  have hbA : R.boxes.flatMap (bdA1 R)=bdA R:=rfl
  rw [hbA] at hall ⊢
  have hallA:=hall
  clear hall
  have hall : allOk ok (bdA R++(List.range 0).flatMap (bdS1 R)):=by simpa using hallA
  obtain ⟨pb,po,q0,hpa,hq0,_⟩:=hC.pl.elem (i:=0) (by unfold plcs;simp)
  subst hpa
  have hp1 : 1 ≤ (plcs R).length:=by unfold plcs;simp
  have hdl : ((plcs R).drop 1).length = (plcs R).length - 1:=List.length_drop
  have hS1 : SlE E (sfrom (some ⟨pb,po,none⟩) c 1 2) cPk 2 ((plcs R).drop 1):=sleFrom hC.pl hpc 1
  obtain ⟨a9,ha9⟩ : ∃ a9,a9 = sfrom (some ⟨pb,po,none⟩) c 1 2:=⟨_,rfl⟩
  repeat' (first | (refine uP rfl ?_;(first | ((first | refine uN rfl ?_);(first | (refine uE (uL rfl rfl (uO (te rfl) rfl (ho0 _) rfl)) rfl rfl ?_)|(refine uE (EvF.sliceFrom (lo:=1) rfl rfl (te rfl) (te rfl) rfl (by omega) hpc) rfl rfl ?_)|(refine uE (uM rfl rfl) rfl rfl ?_)|(refine uE (EvF.lenSlice rfl rfl (te rfl)) rfl rfl ?_)))))|(refine uD rfl ?_;refine hK _ _ ?_;clear hK K) | refine X.block rfl ?_)
  rw [← ha9, ← hdl]
  rw [← ha9] at hS1
  refine X.lp rfl (fun m F' H' => ∃ (j : Nat),m = ((plcs R).drop 1).length - j∧j ≤ ((plcs R).drop 1).length∧allOk ok (bdA R++(List.range j).flatMap (bdS1 R))∧H' = hh (bdA R++(List.range j).flatMap (bdS1 R))++E ∧
    F' = [(0,.func (.yield y) #[] #[]),(1,.pointer (some ⟨bo,0,none⟩)),(51,.slice a9 ((plcs R).drop 1).length (c - 1)),(52,.int .i64 ((plcs R).drop 1).length),(53,.int .i64 j)])
   ((plcs R).drop 1).length [(0,.func (.yield y) #[] #[]),(1,.pointer (some ⟨bo,0,none⟩)),(51,.slice a9 ((plcs R).drop 1).length (c - 1)),(52,.int .i64 ((plcs R).drop 1).length),(53,.int .i64 (0 : Nat))] (hh (bdA R++(List.range 0).flatMap (bdS1 R))++E) (by repeat (first | exact uU _ | refine uV rfl ?_)) (by rw [List.range_zero,List.flatMap_nil,List.append_nil];exact qR _) ⟨0,by omega,by omega,hall,rfl,rfl⟩ ?_
  rintro _ _ _ ⟨j,rfl,hj,hallj,rfl,rfl⟩
  clear hall hallA
  repeat' (first | (refine uP rfl ?_;(first | ((first | refine uN rfl ?_);(first | (refine uE (uM rfl rfl) rfl rfl ?_)|(refine uE (uQ rfl rfl rfl rfl) rfl rfl ?_)|(refine uE (uF rfl rfl (te rfl) rfl (te rfl) (by decide)) rfl rfl ?_)))))|(refine uD rfl ?_;refine hK _ _ ?_;clear hK K) | refine uS rfl ?_ | refine uR rfl (fun K hK=>?_) | refine X.block rfl ?_ | (refine X.brk rfl ?_;repeat (first | refine blockX_hit rfl ?_ | refine blockX_miss (by decide) ?_)) | refine X.skip rfl ?_ | (refine X.ite rfl rfl (fun hc=>?_);(first | (with_reducible refine Xb.case hc (fun h=>?_) (fun h=>?_))) <;> clear hc))
  ·have hjl : j + 1 < (plcs R).length:=by omega
   obtain ⟨b9,o9,q,hq9,hq⟩:=hS1.elem (i:=j) (by omega)
   subst hq9
   have hq' : (plcs R)[j + 1]? = some q:=by
    have:=hq
    rwa [List.getElem?_drop,Nat.add_comm] at this
   obtain ⟨e,he⟩ : ∃ e,(plcs R)[j]? = some e:=⟨_,List.getElem?_eq_getElem (by omega)⟩
   have hqm : -100 ≤ q.month∧q.month ≤ 100:=by
    rcases mem_plcs (List.mem_of_getElem? hq') with rfl | ⟨b,hb,_⟩
    ·exact ⟨by decide,by decide⟩
    ·have:=there_bd hr hb;omega
   have hbS : bdS1 R j = if e = ⟨q.box,q.month - 1⟩ then [⟨j + 1,j,⟨0,R.step⟩⟩] else []:=by
    unfold bdS1
    simp only [List.getD_eq_getElem?_getD,he,hq',Option.getD_some]
   repeat' (first | (refine uP rfl ?_;(first | ((first | refine uN rfl ?_);(first | (refine uE (uL rfl rfl (LoadV.elA0 (hS1.sub (fun _ q=>List.mem_append_right _ q)) hq (te rfl) rfl (fun _ hm=>hm) rfl)) rfl rfl ?_)|(refine uE (uA rfl rfl) rfl rfl ?_)|(refine uE (EvF.indexSlice rfl rfl rfl (te rfl) (te rfl) (by omega) (by omega)) rfl rfl ?_)|(refine Xg.st (StF.alloc rfl Tryz.zeroValue24 rfl) rfl rfl ?_;rintro _ _ ⟨bx,rfl,rfl⟩)|(refine Xg.st0 (StF.storeAll (i:=0) rfl rfl rfl (te rfl) rfl rfl rfl rfl) rfl ?_;rintro _ _ ⟨rfl,rfl⟩;dsimp only [List.set])))))|(refine uD rfl ?_;refine hK _ _ ?_;clear hK K) | refine uS rfl ?_)
   rename Nat=>b8
   refine X.weak (F' := [(0,.func (.yield y) #[] #[]),(1,.pointer (some ⟨bo,0,none⟩)),(7,.int .i64 j),(8,.pointer (some ⟨b8,0,none⟩)),(51,.slice (some ⟨b9,o9,none⟩) ((plcs R).drop 1).length (c - 1)),(52,.int .i64 ((plcs R).drop 1).length),(53,.int .i64 j)]) (H' := ⟨b8,0,cPk q,some 86,2⟩::(hh (bdA R++(List.range j).flatMap (bdS1 R))++E)) (by repeat (first | exact uU _ | refine uV rfl ?_)) (by repeat (first | exact qR _ | apply qK | apply qC)) ?_
   by_cases hw : e = ⟨q.box,q.month - 1⟩
   ·rw [if_pos hw] at hbS
    have hpre : (bdA R++(List.range j).flatMap (bdS1 R))++[⟨j + 1,j,⟨0,R.step⟩⟩] <+: bds R R.mats:=by
     rw [List.append_assoc, ← hbS, ← bdS_step]
     unfold bds
     rw [List.append_assoc]
     exact (List.prefix_append_right_inj _).2 ((bdS_le R (by omega : j + 1 ≤ (plcs R).length - 1)).trans (List.prefix_append _ _))
    have hyy:=fun E' => hY _ _ hpre hallj E'
    obtain ⟨u,hu⟩ : ∃ u,u = ok ((bdA R++(List.range j).flatMap (bdS1 R))++[⟨j + 1,j,⟨0,R.step⟩⟩]):=⟨_,rfl⟩
    rw [← hu] at hyy
    refine X.permH (H' := (hh (bdA R++(List.range j).flatMap (bdS1 R))++[])++(⟨b8,0,cPk q,some 86,2⟩::E)) (by rw [List.append_nil];exact List.perm_middle) ?_
    refine X.regionOb tsBy [0,1,7,8,51,52,53] [(0,.func (.yield y) #[] #[]),(1,.pointer (some ⟨bo,0,none⟩)),(7,.int .i64 j),(8,.pointer (some ⟨b8,0,none⟩)),(51,(.slice (some ⟨b9,o9,none⟩) ((plcs R).drop 1).length (c - 1))),(52,(.int .i64 ((plcs R).drop 1).length)),(53,(.int .i64 j))] (valBy bo b8 y pb po R ⟨a1,c1,a2,c2,a3,c3⟩ c j q e true u (.slice (some ⟨b9,o9,none⟩) ((plcs R).drop 1).length (c - 1)) (.int .i64 ((plcs R).drop 1).length) (.int .i64 j) (hh (bdA R++(List.range j).flatMap (bdS1 R))) (if u = true then hh ((bdA R++(List.range j).flatMap (bdS1 R))++[⟨j + 1,j,⟨0,R.step⟩⟩]) else hx ((bdA R++(List.range j).flatMap (bdS1 R))++[⟨j + 1,j,⟨0,R.step⟩⟩]))) (rowsBy bo b8 y pb po R ⟨a1,c1,a2,c2,a3,c3⟩ c j q e true u (.slice (some ⟨b9,o9,none⟩) ((plcs R).drop 1).length (c - 1)) (.int .i64 ((plcs R).drop 1).length) (.int .i64 j) (hh (bdA R++(List.range j).flatMap (bdS1 R))) (if u = true then hh ((bdA R++(List.range j).flatMap (bdS1 R))++[⟨j + 1,j,⟨0,R.step⟩⟩]) else hx ((bdA R++(List.range j).flatMap (bdS1 R))++[⟨j + 1,j,⟨0,R.step⟩⟩]))) (fun _=>(0,0)) (⟨b8,0,cPk q,some 86,2⟩::E) rfl mixed (by repeat (first | exact uU _ | refine uV rfl ?_)) rfl (by kernel_rfl) (locBy bo b8 y pb po R ⟨a1,c1,a2,c2,a3,c3⟩ c j q e true u (.slice (some ⟨b9,o9,none⟩) ((plcs R).drop 1).length (c - 1)) (.int .i64 ((plcs R).drop 1).length) (.int .i64 j) (hh (bdA R++(List.range j).flatMap (bdS1 R))) (if u = true then hh ((bdA R++(List.range j).flatMap (bdS1 R))++[⟨j + 1,j,⟨0,R.step⟩⟩]) else hx ((bdA R++(List.range j).flatMap (bdS1 R))++[⟨j + 1,j,⟨0,R.step⟩⟩]))) (qR _) ?_ ?_
    ·have hlo : ∀ S : List Row,(∀ r ∈ ⟨b8,0,cPk q,some 86,2⟩::E,r ∈ S) → (⟨bo,0,cCt R ⟨a1,c1,a2,c2,a3,c3⟩ (some ⟨pb,po,none⟩) c,owo,capo⟩ : Row) ∈ S:=fun S hS=>hS _ (qT _ ho)
     have hyn : ∀ S : List Row,Yc Tryz.prog y [Value.agg (cBd ⟨j + 1,j,⟨0,R.step⟩⟩).toArray] ((hh (bdA R++(List.range j).flatMap (bdS1 R))++[])++S) (fun v H' => v = .bool u∧H' = (if u = true then hh ((bdA R++(List.range j).flatMap (bdS1 R))++[⟨j + 1,j,⟨0,R.step⟩⟩]) else hx ((bdA R++(List.range j).flatMap (bdS1 R))++[⟨j + 1,j,⟨0,R.step⟩⟩]))++S):=fun S=>by rw [List.append_nil];exact hyy S
     repeat' (first | exact AllF.done rfl | (refine AllF.step rfl ?_ ?_;·(first | fail | ((first | refine Ob.ng rfl ?_ | refine Ob.g rfl rfl (fun _=>rfl) ?_);(first | exact ObK.pure (fun env R hR=>by exact ⟨_,uM rfl rfl,rfl⟩) rfl (fun _=>rfl) | exact ObK.pure (fun env R hR=>by exact ⟨_,EvF.pickT rfl rfl rfl,rfl⟩) rfl (fun _=>rfl) | exact ObK.pure (fun env R hR=>by exact ⟨_,uF rfl rfl (te rfl) rfl (te rfl) (by decide),rfl⟩) rfl (fun _=>rfl) | exact ObK.pure (fun env R hR=>by exact ⟨_,EvF.not rfl rfl,rfl⟩) rfl (fun _=>rfl) | exact ObK.pure (fun env R hR=>by exact ⟨_,uL rfl rfl (uO (te rfl) rfl (hR _ (qH _)) rfl),rfl⟩) rfl (fun _=>rfl)|(exact ObK.pure (fun env S hS=>⟨_,uL rfl rfl (uO (te rfl) rfl (hlo _ hS) rfl),rfl⟩) rfl (fun _=>rfl))|((refine ObK.pure (fun env S hS=>⟨.pointer (some ⟨pb,po + j * 2,none⟩),?_,rfl⟩) rfl (fun _=>rfl);exact EvF.indexSlice (i:=(j : Int)) (off:=po) (b:=pb) (T:=77) (e:=86) (len:=(plcs R).length) rfl rfl rfl (te rfl) (te rfl) (by omega) (by omega)))|(exact ObK.pure (fun env S hS=>⟨.agg (cPk e).toArray,uL rfl rfl (LoadV.elA0 (hC.pl.sub (fun _ h=>hS _ (qT _ h))) he (te rfl) rfl (fun _ h=>h) rfl),rfl⟩) rfl (fun _=>rfl))|(exact ObK.pure (fun env S hS=>⟨_,EvF.build (cs:=cPk ⟨q.box,q.month - 1⟩) rfl (ArgsP.cons rfl (ArgsP.cons rfl ArgsP.nil)) (te rfl) (Places.cons (te rfl) (Places.cons (te rfl) Places.nil)) Tryz.zeroValue86 rfl,rfl⟩) rfl (fun _=>rfl))|(exact ObK.pure (fun env S hS=>⟨_,EvF.eqSt rfl rfl rfl (by kernel_rfl) (fun w=>eqPk 9998 e ⟨q.box,q.month - 1⟩ w) rfl,by rw [decide_eq_true hw];rfl⟩) rfl (fun _=>rfl))|(exact ObK.pure (fun env S hS=>⟨_,EvF.build (cs:=cSp ⟨0,R.step⟩) rfl (ArgsP.cons rfl (ArgsP.cons rfl ArgsP.nil)) (te rfl) (Places.cons (te rfl) (Places.cons (te rfl) Places.nil)) Tryz.zeroValue24 rfl,rfl⟩) rfl (fun _=>rfl))|(exact ObK.pure (fun env S hS=>⟨_,EvF.build (cs:=cBd ⟨j + 1,j,⟨0,R.step⟩⟩) rfl (ArgsP.cons rfl (ArgsP.cons rfl (ArgsP.cons rfl ArgsP.nil))) (te rfl) (Places.cons (te rfl) (Places.cons (te rfl) (Places.cons (te rfl) Places.nil))) Tryz.zeroValue159 rfl,rfl⟩) rfl (fun _=>rfl))|(exact fun env S hS=>(OpF.yield rfl rfl (Args.cons rfl Args.nil) (hyn S)).mono (fun v H' ⟨hv,hH⟩=>⟨(0,0),fun _=>hv,by rw [hH];exact List.Perm.refl _⟩))|(exact ObK.pure (fun env S hS=>⟨_,EvF.add64 rfl rfl rfl (by omega) (by omega),rfl⟩) rfl (fun _=>rfl))|(exact ObK.pure (fun env S hS=>⟨_,EvF.sub64 rfl rfl rfl (by omega) (by omega),rfl⟩) rfl (fun _=>rfl)))))))
    ·intro env t ha2 hv
     refine ⟨_,ha2.cons (hv 24 82 (Nat.le_of_ble_eq_true rfl) rfl),?_⟩
     clear hv ha2
     cases u
     ·show X _ _ _ _ ((hx ((bdA R++(List.range j).flatMap (bdS1 R))++[⟨j + 1,j,⟨0,R.step⟩⟩])++[])++(⟨b8,0,cPk q,some 86,2⟩::E)) _
      rw [List.append_nil]
      repeat' (first | (refine uP rfl ?_;(first | ((first | refine uN rfl ?_);(first | (refine uE (uM rfl rfl) rfl rfl ?_)|(refine uE (EvF.add64 rfl rfl rfl (by omega) (by omega)) rfl rfl ?_)))))|(refine uD rfl ?_;refine hK _ _ ?_;clear hK K) | refine uR rfl (fun K hK=>?_) | refine X.skip rfl ?_ | refine X.ret rfl ?_ | (refine X.ite rfl rfl (fun hc=>?_);(first | (with_reducible refine Xb.caseB hc (fun h=>?_) (fun h=>?_))) <;> clear hc))
      all_goals try (exfalso;contradiction)
      exact ret_none (by simp) Tryz.results127 (H' := _) (List.Sublist.append (qR _) (List.sublist_cons_self _ _)) (.inr ⟨_,hpre,hu.symm,rfl⟩)
     ·show X _ _ _ _ ((hh ((bdA R++(List.range j).flatMap (bdS1 R))++[⟨j + 1,j,⟨0,R.step⟩⟩])++[])++(⟨b8,0,cPk q,some 86,2⟩::E)) _
      have e9 : (bdA R++(List.range j).flatMap (bdS1 R))++[⟨j + 1,j,⟨0,R.step⟩⟩] = bdA R++(List.range (j + 1)).flatMap (bdS1 R):=by rw [bdS_step,hbS,List.append_assoc]
      have hall2:=allOk_snoc hallj hu.symm
      rw [List.append_nil]
      rw [e9] at hall2 ⊢
      repeat' (first | (refine uP rfl ?_;(first | ((first | refine uN rfl ?_);(first | (refine uE (uM rfl rfl) rfl rfl ?_)|(refine uE (EvF.add64 rfl rfl rfl (by omega) (by omega)) rfl rfl ?_)))))|(refine uD rfl ?_;refine hK _ _ ?_;clear hK K) | refine uR rfl (fun K hK=>?_) | refine X.skip rfl ?_ | refine X.ret rfl ?_ | (refine X.ite rfl rfl (fun hc=>?_);(first | (with_reducible refine Xb.caseB hc (fun h=>?_) (fun h=>?_))) <;> clear hc))
      all_goals try (exfalso;contradiction)
      exact ⟨_,[(0,.func (.yield y) #[] #[]),(1,.pointer (some ⟨bo,0,none⟩)),(51,.slice (some ⟨b9,o9,none⟩) ((plcs R).drop 1).length (c - 1)),(52,.int .i64 ((plcs R).drop 1).length),(53,.int .i64 (j + 1 : Nat))],_,(by repeat (first | exact uU _ | refine uV rfl ?_)),List.Sublist.append (qR _) (List.sublist_cons_self _ _),⟨j + 1,rfl,by omega,hall2,rfl,rfl⟩,by omega⟩
   ·rw [if_neg hw] at hbS
    refine X.permH (H' := hh (bdA R++(List.range j).flatMap (bdS1 R))++(⟨b8,0,cPk q,some 86,2⟩::E)) List.perm_middle ?_
    refine X.regionOb tsBy [0,1,7,8,51,52,53] [(0,.func (.yield y) #[] #[]),(1,.pointer (some ⟨bo,0,none⟩)),(7,.int .i64 j),(8,.pointer (some ⟨b8,0,none⟩)),(51,(.slice (some ⟨b9,o9,none⟩) ((plcs R).drop 1).length (c - 1))),(52,(.int .i64 ((plcs R).drop 1).length)),(53,(.int .i64 j))] (valBy bo b8 y pb po R ⟨a1,c1,a2,c2,a3,c3⟩ c j q e false false (.slice (some ⟨b9,o9,none⟩) ((plcs R).drop 1).length (c - 1)) (.int .i64 ((plcs R).drop 1).length) (.int .i64 j) [] []) (rowsBy bo b8 y pb po R ⟨a1,c1,a2,c2,a3,c3⟩ c j q e false false (.slice (some ⟨b9,o9,none⟩) ((plcs R).drop 1).length (c - 1)) (.int .i64 ((plcs R).drop 1).length) (.int .i64 j) [] []) (fun _=>(0,0)) (hh (bdA R++(List.range j).flatMap (bdS1 R))++(⟨b8,0,cPk q,some 86,2⟩::E)) rfl mixed (by repeat (first | exact uU _ | refine uV rfl ?_)) rfl (by kernel_rfl) (locBy bo b8 y pb po R ⟨a1,c1,a2,c2,a3,c3⟩ c j q e false false (.slice (some ⟨b9,o9,none⟩) ((plcs R).drop 1).length (c - 1)) (.int .i64 ((plcs R).drop 1).length) (.int .i64 j) [] []) (qR _) ?_ ?_
    ·have hlo : ∀ S : List Row,(∀ r ∈ hh (bdA R++(List.range j).flatMap (bdS1 R))++(⟨b8,0,cPk q,some 86,2⟩::E),r ∈ S) → (⟨bo,0,cCt R ⟨a1,c1,a2,c2,a3,c3⟩ (some ⟨pb,po,none⟩) c,owo,capo⟩ : Row) ∈ S:=fun S hS=>hS _ (List.mem_append_right _ (qT _ ho))
     repeat' (first | exact AllF.done rfl | (refine AllF.step rfl ?_ ?_;·(first | exact Ob.sk rfl rfl (fun _=>rfl) (fun _=>rfl) (fun _=>rfl) (fun _=>rfl)|((first | refine Ob.ng rfl ?_);(first | exact ObK.pure (fun env R hR=>by exact ⟨_,uM rfl rfl,rfl⟩) rfl (fun _=>rfl) | exact ObK.pure (fun env R hR=>by exact ⟨_,EvF.pickF rfl rfl rfl,rfl⟩) rfl (fun _=>rfl) | exact ObK.pure (fun env R hR=>by exact ⟨_,uF rfl rfl (te rfl) rfl (te rfl) (by decide),rfl⟩) rfl (fun _=>rfl)|(exact ObK.pure (fun env S hS=>⟨_,uL rfl rfl (uO (te rfl) rfl (hlo _ hS) rfl),rfl⟩) rfl (fun _=>rfl))|(exact ObK.pure (fun env S hS=>⟨_,uL rfl rfl (uO (te rfl) rfl (hS _ (List.mem_append_right _ (qH _))) rfl),rfl⟩) rfl (fun _=>rfl))|((refine ObK.pure (fun env S hS=>⟨.pointer (some ⟨pb,po + j * 2,none⟩),?_,rfl⟩) rfl (fun _=>rfl);exact EvF.indexSlice (i:=(j : Int)) (off:=po) (b:=pb) (T:=77) (e:=86) (len:=(plcs R).length) rfl rfl rfl (te rfl) (te rfl) (by omega) (by omega)))|(exact ObK.pure (fun env S hS=>⟨.agg (cPk e).toArray,uL rfl rfl (LoadV.elA0 (hC.pl.sub (fun _ h=>hS _ (List.mem_append_right _ (qT _ h)))) he (te rfl) rfl (fun _ h=>h) rfl),rfl⟩) rfl (fun _=>rfl))|(exact ObK.pure (fun env S hS=>⟨_,EvF.build (cs:=cPk ⟨q.box,q.month - 1⟩) rfl (ArgsP.cons rfl (ArgsP.cons rfl ArgsP.nil)) (te rfl) (Places.cons (te rfl) (Places.cons (te rfl) Places.nil)) Tryz.zeroValue86 rfl,rfl⟩) rfl (fun _=>rfl))|(exact ObK.pure (fun env S hS=>⟨_,EvF.eqSt rfl rfl rfl (by kernel_rfl) (fun w=>eqPk 9998 e ⟨q.box,q.month - 1⟩ w) rfl,by rw [decide_eq_false hw];rfl⟩) rfl (fun _=>rfl))|(exact ObK.pure (fun env S hS=>⟨_,EvF.sub64 rfl rfl rfl (by omega) (by omega),rfl⟩) rfl (fun _=>rfl)))))))
    ·intro env t ha2 hv
     refine ⟨_,ha2.cons (hv 24 82 (Nat.le_of_ble_eq_true rfl) rfl),?_⟩
     clear hv ha2
     have e9 : bdA R++(List.range j).flatMap (bdS1 R)=bdA R++(List.range (j + 1)).flatMap (bdS1 R):=by rw [bdS_step,hbS,List.append_nil]
     show X _ _ _ _ (hh (bdA R++(List.range j).flatMap (bdS1 R))++(⟨b8,0,cPk q,some 86,2⟩::E)) _
     rw [e9] at hallj ⊢
     repeat' (first | (refine uP rfl ?_;(first | ((first | refine uN rfl ?_);(first | (refine uE (uM rfl rfl) rfl rfl ?_)|(refine uE (EvF.add64 rfl rfl rfl (by omega) (by omega)) rfl rfl ?_)))))|(refine uD rfl ?_;refine hK _ _ ?_;clear hK K) | refine uR rfl (fun K hK=>?_) | refine X.skip rfl ?_ | refine X.ret rfl ?_ | (refine X.ite rfl rfl (fun hc=>?_);(first | (with_reducible refine Xb.caseB hc (fun h=>?_) (fun h=>?_))) <;> clear hc))
     all_goals try (exfalso;contradiction)
     exact ⟨_,[(0,.func (.yield y) #[] #[]),(1,.pointer (some ⟨bo,0,none⟩)),(51,.slice (some ⟨b9,o9,none⟩) ((plcs R).drop 1).length (c - 1)),(52,.int .i64 ((plcs R).drop 1).length),(53,.int .i64 (j + 1 : Nat))],_,(by repeat (first | exact uU _ | refine uV rfl ?_)),List.Sublist.append (qR _) (List.sublist_cons_self _ _),⟨j + 1,rfl,by omega,hallj,rfl,rfl⟩,by omega⟩
  ·have hj2 : j = (plcs R).length - 1:=by omega
   subst hj2
   have hbS2 : (List.range ((plcs R).length - 1)).flatMap (bdS1 R)=bdS R:=rfl
   rw [hbS2] at hallj ⊢
   repeat' (first | (refine uP rfl ?_;(first | ((first | refine uN rfl ?_);(first | (refine uE (uL rfl rfl (uO (te rfl) rfl (ho0 _) rfl)) rfl rfl ?_)|(refine uE (uM rfl rfl) rfl rfl ?_)|(refine uE (EvF.lenSlice rfl rfl (te rfl)) rfl rfl ?_)))))|(refine uD rfl ?_;refine hK _ _ ?_;clear hK K) | refine X.block rfl ?_)
   clear hS1 ha9 hdl
   refine X.lp rfl (fun m F' H' => ∃ (k : Nat),m = R.mats.length - k∧k ≤ R.mats.length∧allOk ok (bdA R++bdS R++bdM R (R.mats.take k))∧H' = hh (bdA R++bdS R++bdM R (R.mats.take k))++E ∧
     F' = [(0,.func (.yield y) #[] #[]),(1,.pointer (some ⟨bo,0,none⟩)),(86,.slice a3 R.mats.length c3),(87,.int .i64 R.mats.length),(88,.int .i64 k)])
    R.mats.length [(0,.func (.yield y) #[] #[]),(1,.pointer (some ⟨bo,0,none⟩)),(86,.slice a3 R.mats.length c3),(87,.int .i64 R.mats.length),(88,.int .i64 (0 : Nat))] (hh (bdA R++bdS R++bdM R (R.mats.take 0))++E) (by repeat (first | exact uU _ | refine uV rfl ?_)) (by simp [bdM]) ⟨0,by omega,by omega,by simpa [bdM] using hallj,rfl,rfl⟩ ?_
   rintro _ _ _ ⟨k,rfl,hk,hallk,rfl,rfl⟩
   clear hallj
   repeat' (first | (refine uP rfl ?_;(first | ((first | refine uN rfl ?_);(first | (refine uE (uQ rfl rfl rfl rfl) rfl rfl ?_)))))|(refine uD rfl ?_;refine hK _ _ ?_;clear hK K) | refine uS rfl ?_ | refine uR rfl (fun K hK=>?_) | refine X.block rfl ?_ | (refine X.brk rfl ?_;repeat (first | refine blockX_hit rfl ?_ | refine blockX_miss (by decide) ?_)) | refine X.skip rfl ?_ | (refine X.ite rfl rfl (fun hc=>?_);(first | (with_reducible refine Xb.case hc (fun h=>?_) (fun h=>?_))) <;> clear hc))
   ·obtain ⟨bx0,ox0,x,hax,hx9⟩:=hC.rm.mats.elem (i:=k) (by omega)
    simp only at hax
    subst hax
    have hmem:=List.mem_of_getElem? hx9
    have hza : atZ R ⟨x.a,x.month⟩ = (pidx R ⟨x.a,x.month⟩ : Nat):=by unfold atZ;rw [if_pos (hm.a hmem)]
    have hzb : atZ R ⟨x.b,x.month⟩ = (pidx R ⟨x.b,x.month⟩ : Nat):=by unfold atZ;rw [if_pos (hm.b hmem)]
    have hata:=fun H' hH' => at_spec R ⟨a1,c1,a2,c2,some ⟨bx0,ox0,none⟩,c3⟩ (some ⟨pb,po,none⟩) c x.a x.month H' hr hH'
    have hatb:=fun H' hH' => at_spec R ⟨a1,c1,a2,c2,some ⟨bx0,ox0,none⟩,c3⟩ (some ⟨pb,po,none⟩) c x.b x.month H' hr hH'
    rw [hza] at hata
    rw [hzb] at hatb
    have hsn : bdA R++bdS R++bdM R (R.mats.take (k + 1)) = (bdA R++bdS R++bdM R (R.mats.take k))++[⟨pidx R ⟨x.a,x.month⟩,pidx R ⟨x.b,x.month⟩,⟨x.lo,x.hi⟩⟩]:=by
     rw [take_snoc hx9]
     unfold bdM
     rw [List.map_append, ← List.append_assoc];rfl
    have hpre : (bdA R++bdS R++bdM R (R.mats.take k))++[⟨pidx R ⟨x.a,x.month⟩,pidx R ⟨x.b,x.month⟩,⟨x.lo,x.hi⟩⟩] <+: bds R R.mats:=by
     rw [← hsn]
     unfold bds
     refine (List.prefix_append_right_inj _).2 ?_
     unfold bdM
     exact (List.take_prefix (k + 1) R.mats).map _
    have hyy:=fun E' => hY _ _ hpre hallk E'
    obtain ⟨u,hu⟩ : ∃ u,u = ok ((bdA R++bdS R++bdM R (R.mats.take k))++[⟨pidx R ⟨x.a,x.month⟩,pidx R ⟨x.b,x.month⟩,⟨x.lo,x.hi⟩⟩]):=⟨_,rfl⟩
    rw [← hu] at hyy
    repeat' (first | (refine uP rfl ?_;(first | ((first | refine uN rfl ?_);(first | (refine uE (uL rfl rfl (LoadV.elA0 (hC.rm.mats.sub (fun _ q=>List.mem_append_right _ q)) hx9 (te rfl) rfl (fun _ hm=>hm) rfl)) rfl rfl ?_)|(refine uE (EvF.indexSlice rfl rfl rfl (te rfl) (te rfl) (by omega) (by omega)) rfl rfl ?_)|(refine Xg.st (StF.alloc rfl Tryz.zeroValue44 rfl) rfl rfl ?_;rintro _ _ ⟨bx,rfl,rfl⟩)|(refine Xg.st0 (StF.storeAll (i:=0) rfl rfl rfl (te rfl) rfl rfl rfl rfl) rfl ?_;rintro _ _ ⟨rfl,rfl⟩;dsimp only [List.set])))))|(refine uD rfl ?_;refine hK _ _ ?_;clear hK K) | refine uS rfl ?_)
    rename Nat=>b10
    refine X.weak (F' := [(0,.func (.yield y) #[] #[]),(1,.pointer (some ⟨bo,0,none⟩)),(10,.pointer (some ⟨b10,0,none⟩)),(86,.slice (some ⟨bx0,ox0,none⟩) R.mats.length c3),(87,.int .i64 R.mats.length),(88,.int .i64 k)]) (H' := ⟨b10,0,cMt x,some 44,6⟩::(hh (bdA R++bdS R++bdM R (R.mats.take k))++E)) (by repeat (first | exact uU _ | refine uV rfl ?_)) (by repeat (first | exact qR _ | apply qK | apply qC)) ?_
    refine X.permH (H' := (hh (bdA R++bdS R++bdM R (R.mats.take k))++[])++(⟨b10,0,cMt x,some 44,6⟩::E)) (by rw [List.append_nil];exact List.perm_middle) ?_
    refine X.regionOb tsBm [0,1,10,86,87,88] [(0,.func (.yield y) #[] #[]),(1,.pointer (some ⟨bo,0,none⟩)),(10,.pointer (some ⟨b10,0,none⟩)),(86,(.slice (some ⟨bx0,ox0,none⟩) R.mats.length c3)),(87,(.int .i64 R.mats.length)),(88,(.int .i64 k))] (valBm bo b10 y R ⟨a1,c1,a2,c2,some ⟨bx0,ox0,none⟩,c3⟩ (some ⟨pb,po,none⟩) c x (pidx R ⟨x.a,x.month⟩) (pidx R ⟨x.b,x.month⟩) u (.slice (some ⟨bx0,ox0,none⟩) R.mats.length c3) (.int .i64 R.mats.length) (.int .i64 k) (hh (bdA R++bdS R++bdM R (R.mats.take k))) (if u = true then hh ((bdA R++bdS R++bdM R (R.mats.take k))++[⟨pidx R ⟨x.a,x.month⟩,pidx R ⟨x.b,x.month⟩,⟨x.lo,x.hi⟩⟩]) else hx ((bdA R++bdS R++bdM R (R.mats.take k))++[⟨pidx R ⟨x.a,x.month⟩,pidx R ⟨x.b,x.month⟩,⟨x.lo,x.hi⟩⟩]))) (rowsBm bo b10 y R ⟨a1,c1,a2,c2,some ⟨bx0,ox0,none⟩,c3⟩ (some ⟨pb,po,none⟩) c x (pidx R ⟨x.a,x.month⟩) (pidx R ⟨x.b,x.month⟩) u (.slice (some ⟨bx0,ox0,none⟩) R.mats.length c3) (.int .i64 R.mats.length) (.int .i64 k) (hh (bdA R++bdS R++bdM R (R.mats.take k))) (if u = true then hh ((bdA R++bdS R++bdM R (R.mats.take k))++[⟨pidx R ⟨x.a,x.month⟩,pidx R ⟨x.b,x.month⟩,⟨x.lo,x.hi⟩⟩]) else hx ((bdA R++bdS R++bdM R (R.mats.take k))++[⟨pidx R ⟨x.a,x.month⟩,pidx R ⟨x.b,x.month⟩,⟨x.lo,x.hi⟩⟩]))) (fun _=>(0,0)) (⟨b10,0,cMt x,some 44,6⟩::E) rfl mixed (by repeat (first | exact uU _ | refine uV rfl ?_)) rfl (by kernel_rfl) (locBm bo b10 y R ⟨a1,c1,a2,c2,some ⟨bx0,ox0,none⟩,c3⟩ (some ⟨pb,po,none⟩) c x (pidx R ⟨x.a,x.month⟩) (pidx R ⟨x.b,x.month⟩) u (.slice (some ⟨bx0,ox0,none⟩) R.mats.length c3) (.int .i64 R.mats.length) (.int .i64 k) (hh (bdA R++bdS R++bdM R (R.mats.take k))) (if u = true then hh ((bdA R++bdS R++bdM R (R.mats.take k))++[⟨pidx R ⟨x.a,x.month⟩,pidx R ⟨x.b,x.month⟩,⟨x.lo,x.hi⟩⟩]) else hx ((bdA R++bdS R++bdM R (R.mats.take k))++[⟨pidx R ⟨x.a,x.month⟩,pidx R ⟨x.b,x.month⟩,⟨x.lo,x.hi⟩⟩]))) (qR _) ?_ ?_
    ·have hlo : ∀ S : List Row,(∀ r ∈ ⟨b10,0,cMt x,some 44,6⟩::E,r ∈ S) → (⟨bo,0,cCt R ⟨a1,c1,a2,c2,some ⟨bx0,ox0,none⟩,c3⟩ (some ⟨pb,po,none⟩) c,owo,capo⟩ : Row) ∈ S:=fun S hS=>hS _ (qT _ ho)
     have hyn : ∀ S : List Row,Yc Tryz.prog y [Value.agg (cBd ⟨pidx R ⟨x.a,x.month⟩,pidx R ⟨x.b,x.month⟩,⟨x.lo,x.hi⟩⟩).toArray] ((hh (bdA R++bdS R++bdM R (R.mats.take k))++[])++S) (fun v H' => v = .bool u∧H' = (if u = true then hh ((bdA R++bdS R++bdM R (R.mats.take k))++[⟨pidx R ⟨x.a,x.month⟩,pidx R ⟨x.b,x.month⟩,⟨x.lo,x.hi⟩⟩]) else hx ((bdA R++bdS R++bdM R (R.mats.take k))++[⟨pidx R ⟨x.a,x.month⟩,pidx R ⟨x.b,x.month⟩,⟨x.lo,x.hi⟩⟩]))++S):=fun S=>by rw [List.append_nil];exact hyy S
     repeat' (first | exact AllF.done rfl | (refine AllF.step rfl ?_ ?_;·(first | fail | ((first | refine Ob.ng rfl ?_);(first | exact ObK.pure (fun env R hR=>by exact ⟨_,uM rfl rfl,rfl⟩) rfl (fun _=>rfl) | exact ObK.pure (fun env R hR=>by exact ⟨_,uF rfl rfl (te rfl) rfl (te rfl) (by decide),rfl⟩) rfl (fun _=>rfl) | exact ObK.pure (fun env R hR=>by exact ⟨_,EvF.not rfl rfl,rfl⟩) rfl (fun _=>rfl) | exact ObK.pure (fun env R hR=>by exact ⟨_,uL rfl rfl (uO (te rfl) rfl (hR _ (qH _)) rfl),rfl⟩) rfl (fun _=>rfl) | exact ObK.pure (fun env R hR=>by exact ⟨_,uL rfl rfl (LoadV.ownAgg (te rfl) rfl (hR _ (qH _)) rfl rfl),rfl⟩) rfl (fun _=>rfl)|(exact ObK.pure (fun env S hS=>⟨_,uL rfl rfl (uW (te rfl) rfl (hlo _ hS) rfl),rfl⟩) rfl (fun _=>rfl))|(exact fun env S hS=>OpF.callV (Z:=[]) (uT rfl (Args.cons rfl (Args.cons rfl (Args.cons rfl Args.nil)))) (hata _ (hC.sub (fun _ h=>hS _ (qT _ h)))) rfl rfl)|(exact fun env S hS=>OpF.callV (Z:=[]) (uT rfl (Args.cons rfl (Args.cons rfl (Args.cons rfl Args.nil)))) (hatb _ (hC.sub (fun _ h=>hS _ (qT _ h)))) rfl rfl)|(exact ObK.pure (fun env S hS=>⟨_,EvF.build (cs:=cBd ⟨pidx R ⟨x.a,x.month⟩,pidx R ⟨x.b,x.month⟩,⟨x.lo,x.hi⟩⟩) rfl (ArgsP.cons rfl (ArgsP.cons rfl (ArgsP.cons rfl ArgsP.nil))) (te rfl) (Places.cons (te rfl) (Places.cons (te rfl) (Places.cons (te rfl) Places.nil))) Tryz.zeroValue159 rfl,rfl⟩) rfl (fun _=>rfl))|(exact fun env S hS=>(OpF.yield rfl rfl (Args.cons rfl Args.nil) (hyn S)).mono (fun v H' ⟨hv,hH⟩=>⟨(0,0),fun _=>hv,by rw [hH];exact List.Perm.refl _⟩)))))))
    ·intro env t ha2 hv
     refine ⟨_,ha2.cons (hv 17 109 (Nat.le_of_ble_eq_true rfl) rfl),?_⟩
     clear hv ha2
     cases u
     ·show X _ _ _ _ ((hx ((bdA R++bdS R++bdM R (R.mats.take k))++[⟨pidx R ⟨x.a,x.month⟩,pidx R ⟨x.b,x.month⟩,⟨x.lo,x.hi⟩⟩])++[])++(⟨b10,0,cMt x,some 44,6⟩::E)) _
      rw [List.append_nil]
      repeat' (first | (refine uP rfl ?_;(first | ((first | refine uN rfl ?_);(first | (refine uE (uM rfl rfl) rfl rfl ?_)|(refine uE (EvF.add64 rfl rfl rfl (by omega) (by omega)) rfl rfl ?_)))))|(refine uD rfl ?_;refine hK _ _ ?_;clear hK K) | refine uR rfl (fun K hK=>?_) | refine X.skip rfl ?_ | refine X.ret rfl ?_ | (refine X.ite rfl rfl (fun hc=>?_);(first | (with_reducible refine Xb.caseB hc (fun h=>?_) (fun h=>?_))) <;> clear hc))
      all_goals try (exfalso;contradiction)
      exact ret_none (by simp) Tryz.results127 (H' := _) (List.Sublist.append (qR _) (List.sublist_cons_self _ _)) (.inr ⟨_,hpre,hu.symm,rfl⟩)
     ·show X _ _ _ _ ((hh ((bdA R++bdS R++bdM R (R.mats.take k))++[⟨pidx R ⟨x.a,x.month⟩,pidx R ⟨x.b,x.month⟩,⟨x.lo,x.hi⟩⟩])++[])++(⟨b10,0,cMt x,some 44,6⟩::E)) _
      have hall2:=allOk_snoc hallk hu.symm
      rw [List.append_nil]
      rw [← hsn] at hall2 ⊢
      repeat' (first | (refine uP rfl ?_;(first | ((first | refine uN rfl ?_);(first | (refine uE (uM rfl rfl) rfl rfl ?_)|(refine uE (EvF.add64 rfl rfl rfl (by omega) (by omega)) rfl rfl ?_)))))|(refine uD rfl ?_;refine hK _ _ ?_;clear hK K) | refine uR rfl (fun K hK=>?_) | refine X.skip rfl ?_ | refine X.ret rfl ?_ | (refine X.ite rfl rfl (fun hc=>?_);(first | (with_reducible refine Xb.caseB hc (fun h=>?_) (fun h=>?_))) <;> clear hc))
      all_goals try (exfalso;contradiction)
      exact ⟨_,[(0,.func (.yield y) #[] #[]),(1,.pointer (some ⟨bo,0,none⟩)),(86,.slice (some ⟨bx0,ox0,none⟩) R.mats.length c3),(87,.int .i64 R.mats.length),(88,.int .i64 (k + 1 : Nat))],_,(by repeat (first | exact uU _ | refine uV rfl ?_)),List.Sublist.append (qR _) (List.sublist_cons_self _ _),⟨k + 1,rfl,by omega,hall2,rfl,rfl⟩,by omega⟩
   ·have hk2 : k = R.mats.length:=by omega
    subst hk2
    rw [List.take_length] at hallk ⊢
    exact ret_none (by simp) Tryz.results127 (H' := _) (qR _) (.inl ⟨hallk,rfl⟩)
end Go.Proofs.YtmfppdpkalelhaaGreat
end
section
set_option linter.unusedVariables false
set_option linter.unusedSimpArgs false
namespace Go.Proofs.YtmfppdpkalelhaaGreat
open Go Go.Fw
set_option maxRecDepth 10000
theorem bounds_spec (R : Rm) (p : Pl) (a : Option Addr) (c : Nat) (H : List Row) : Fc Tryz.prog 115 [.agg (cCt R p a c).toArray] H (fun v H' => ∃ bo,v = .func (.func 127) #[] #[.pointer (some ⟨bo,0,none⟩)]∧H' = ⟨bo,0,cCt R p a c,some 79,6⟩::H):=by
 refine Fc.mk (callable Tryz.call115) Tryz.func115 rfl Tryz.ntmps115 rfl ?_;dsimp only [fr]
 repeat' (first | (refine uP rfl ?_;(first | ((first | refine uN rfl ?_);(first | (refine uE (EvF.makeFunc (fl:=[]) rfl Args.nil (Args.cons rfl Args.nil)) rfl rfl ?_)|(refine uE (uA rfl rfl) rfl rfl ?_)|(refine Xg.st (StF.boxAgg rfl rfl) rfl rfl ?_;rintro _ _ ⟨bx,rfl,rfl⟩)))))|(refine uD rfl ?_;refine hK _ _ ?_;clear hK K) | refine uS rfl ?_ | refine uR rfl (fun K hK=>?_) | refine X.ret rfl ?_)
 exact ret_one (by simp) Tryz.results115 rfl (H' := _) (qR _) ⟨bx,rfl,rfl⟩
theorem flat_set : ∀ (l : List Int) (j : Nat) (v : Int),(l.flatMap cI).set j (.int .i64 v)=(l.set j v).flatMap cI
 | [],j,v=>by simp
 | x::l,0,v=>by simp [cI]
 | x::l,j + 1,v=>by
  have:=flat_set l j v
  simp only [List.flatMap_cons,List.set_cons_succ,cI,List.cons_append,List.nil_append] at this ⊢
  rw [this]
theorem get_cell (c : List Int) (i : Nat) : (c.flatMap cI)[i]? = c[i]?.map (Value.int .i64):=by
 induction c generalizing i with
 | nil=>rfl
 | cons a c ih =>
  cases i with
  | zero=>rfl
  | succ i=>simpa [List.flatMap_cons,cI] using ih i
theorem gt0_get {l : List Int} {i : Nat} (h : i < l.length) : l[i]? = some (gt0 l i):=by
 unfold gt0
 simp [List.getD_eq_getElem?_getD,List.getElem?_eq_getElem h]
def okB (l : List Int) (q : List Bd) : Bool:=match q.getLast? with
 | some d=>decide (d.s.lo ≤ gt0 l d.a - gt0 l d.b∧gt0 l d.a - gt0 l d.b ≤ d.s.hi)
 | none=>true
theorem okB_snoc (l : List Int) (q : List Bd) (d : Bd) : okB l (q++[d]) = decide (d.s.lo ≤ gt0 l d.a - gt0 l d.b∧gt0 l d.a - gt0 l d.b ≤ d.s.hi):=by
 unfold okB
 rw [List.getLast?_append]
 rfl
theorem okB_all {l : List Int} {B : List Bd} (h : allOk (okB l) B) : fitB (gt0 l) B:=by
 intro d hd
 obtain ⟨s,t,rfl⟩:=List.append_of_mem hd
 have:=h (s++[d]) ⟨t,by simp⟩ (by simp)
 rw [okB_snoc] at this
 exact of_decide_eq_true this
theorem okB_no {l : List Int} {B q : List Bd} (hq : q <+: B) (h : okB l q = false) : ¬ fitB (gt0 l) B:=by
 intro hf
 rcases List.eq_nil_or_concat q with rfl | ⟨s,d,rfl⟩
 ·cases h
 ·rw [List.concat_eq_append,okB_snoc] at h
  rw [List.concat_eq_append] at hq
  exact absurd (hf d (hq.subset (List.mem_append_right _ List.mem_cons_self))) (of_decide_eq_false h)
end Go.Proofs.YtmfppdpkalelhaaGreat
end
