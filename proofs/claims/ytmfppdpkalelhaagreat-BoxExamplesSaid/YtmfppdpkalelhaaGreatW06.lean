/- Own work: contracts of functions, from rows of what is known of the memory; contracts of functions, from rows of what is known of the memory; contracts of functions, from rows of what is known of the memory; contracts of functions, from rows of what is known of the memory; contracts of functions, from rows of what is known of the memory; contracts of functions, from rows of what is known of the memory; contracts of functions, from rows of what is known of the memory; contracts of functions, from rows of what is known of the memory; contracts of functions, from rows of what is known of the memory; contracts of functions, from rows of what is known of the memory; contracts of functions, from rows of what is known of the memory; contracts of functions, from rows of what is known of the memory -/
import Derived.Test.YtmfppdpkalelhaaGreatW05
section
set_option linter.unusedVariables false
set_option linter.unusedSimpArgs false
namespace Go.Proofs.YtmfppdpkalelhaaGreat
open Go Go.Fw
set_option maxRecDepth 10000
def tsMa : List TOp:=[⟨some 14,[],[],[]⟩,⟨some 15,[],[],[]⟩,⟨some 16,[],[],[]⟩,⟨some 17,[2],[2],[]⟩,⟨some 18,[],[],[]⟩,⟨some 19,[4],[4],[]⟩,⟨some 20,[1,2,3,4,5],[1,3,5],[]⟩,⟨some 21,[0,1,2,3,4,5,6],[0,6],[]⟩,⟨none,[0,1,2,3,4,5,6,7],[7],[9]⟩,⟨none,[],[],[]⟩]
def valMa (b2 b3 b6 bl n ix : Nat) (R : Rm) (p : Pl) (a : Option Addr) (c : Nat) (f : Pk) (k : Nat) (env : Env) : Value :=
 match k with
 | 0 => .slice (some ⟨bl,0,none⟩) n n
 | 1 => .agg (cCt R p a c).toArray
 | 2 => .pointer (some ⟨b3,0,none⟩)
 | 3 => .int .i64 f.box
 | 4 => .pointer (some ⟨b3,1,none⟩)
 | 5 => .int .i64 f.month
 | 6 => .int .i64 (ix : Nat)
 | 7 => .pointer (some ⟨bl,0 + ix * 1,none⟩)
 | 8=>undef
 | _=>undef
def rowsMa (b2 b3 b6 bl n ix : Nat) (R : Rm) (p : Pl) (a : Option Addr) (c : Nat) (f : Pk) (k : Nat) (env : Env) : List Row :=
 match k with
 | 8=>[⟨bl,0,(start n ix).flatMap cI,some 3,n * 1⟩]
 | 9=>[⟨bl,0,(List.replicate n (1048576 : Int)).flatMap cI,some 3,n * 1⟩]
 | _=>[]
theorem locMa (b2 b3 b6 bl n ix : Nat) (R : Rm) (p : Pl) (a : Option Addr) (c : Nat) (f : Pk) : ∀ k env i q9,i ≠ k → (tAt tsMa k).sup.contains i = false → valMa b2 b3 b6 bl n ix R p a c f k (upd env i q9)=valMa b2 b3 b6 bl n ix R p a c f k env∧rowsMa b2 b3 b6 bl n ix R p a c f k (upd env i q9)=rowsMa b2 b3 b6 bl n ix R p a c f k env:=by
 intro k env i q hk hs
 have hu : ∀ j,j ≠ i → upd env i q j = env j:=fun j hj=>by unfold upd;rw [if_neg hj]
 match k,hk,hs with
 | 0,_,_=>exact ⟨rfl,rfl⟩
 | 1,_,_=>exact ⟨rfl,rfl⟩
 | 2,_,_=>exact ⟨rfl,rfl⟩
 | 3,_,_=>exact ⟨rfl,rfl⟩
 | 4,_,_=>exact ⟨rfl,rfl⟩
 | 5,_,_=>exact ⟨rfl,rfl⟩
 | 6,_,_=>exact ⟨rfl,rfl⟩
 | 7,_,_=>exact ⟨rfl,rfl⟩
 | 8,_,_=>exact ⟨rfl,rfl⟩
 | 9,_,_=>exact ⟨rfl,rfl⟩
 | _ + 10,_,_=>exact ⟨rfl,rfl⟩
def tsMb : List TOp:=[⟨some 30,[],[],[]⟩,⟨some 31,[],[],[]⟩,⟨some 32,[1],[1],[]⟩,⟨some 33,[],[],[]⟩,⟨some 34,[],[],[]⟩,⟨some 35,[4],[4],[]⟩,⟨some 36,[3,4,5],[3,5],[]⟩,⟨some 37,[3,4,5,6],[6],[]⟩,⟨some 38,[],[],[]⟩,⟨some 39,[],[],[]⟩,⟨some 40,[9],[9],[]⟩,⟨some 41,[8,9,10],[8,10],[]⟩,⟨some 42,[8,9,10,11],[11],[]⟩,⟨some 43,[],[],[]⟩,⟨some 44,[13],[13],[]⟩,⟨some 45,[13,14],[14],[]⟩,⟨some 46,[8,9,10,11,12,13,14,15],[12,15],[]⟩,⟨some 47,[3,4,5,6,7,8,9,10,11,12,13,14,15,16],[7,16],[]⟩,⟨some 48,[0,1,2,3,4,5,6,7,8,9,10,11,12,13,14,15,16,17],[0,2],[]⟩,⟨none,[0,1,2,3,4,5,6,7,8,9,10,11,12,13,14,15,16,17,18],[18,17],[20]⟩,⟨none,[],[],[]⟩]
def valMb (b6 b7 bl n : Nat) (d : Bd) (l : List Int) (k : Nat) (env : Env) : Value :=
 match k with
 | 0 => .slice (some ⟨bl,0,none⟩) n n
 | 1 => .pointer (some ⟨b7,0,none⟩)
 | 2 => .int .i64 d.a
 | 3 => .slice (some ⟨bl,0,none⟩) n n
 | 4 => .pointer (some ⟨b7,0,none⟩)
 | 5 => .int .i64 d.a
 | 6 => .pointer (some ⟨bl,0 + d.a * 1,none⟩)
 | 7 => .int .i64 (gt0 l d.a)
 | 8 => .slice (some ⟨bl,0,none⟩) n n
 | 9 => .pointer (some ⟨b7,1,none⟩)
 | 10 => .int .i64 d.b
 | 11 => .pointer (some ⟨bl,0 + d.b * 1,none⟩)
 | 12 => .int .i64 (gt0 l d.b)
 | 13 => .pointer (some ⟨b7,2,none⟩)
 | 14 => .pointer (some ⟨b7,3,none⟩)
 | 15 => .int .i64 d.s.hi
 | 16 => .int .i64 ((gt0 l d.b) + d.s.hi)
 | 17 => .int .i64 (min (gt0 l d.a) (gt0 l d.b + d.s.hi))
 | 18 => .pointer (some ⟨bl,0 + d.a * 1,none⟩)
 | 19=>undef
 | _=>undef
def rowsMb (b6 b7 bl n : Nat) (d : Bd) (l : List Int) (k : Nat) (env : Env) : List Row :=
 match k with
 | 19=>[⟨bl,0,(rlx l ⟨d.a,d.b,d.s.hi⟩).flatMap cI,some 3,n * 1⟩]
 | 20=>[⟨bl,0,l.flatMap cI,some 3,n * 1⟩]
 | _=>[]
theorem locMb (b6 b7 bl n : Nat) (d : Bd) (l : List Int) : ∀ k env i q9,i ≠ k → (tAt tsMb k).sup.contains i = false → valMb b6 b7 bl n d l k (upd env i q9)=valMb b6 b7 bl n d l k env∧rowsMb b6 b7 bl n d l k (upd env i q9)=rowsMb b6 b7 bl n d l k env:=by
 intro k env i q hk hs
 have hu : ∀ j,j ≠ i → upd env i q j = env j:=fun j hj=>by unfold upd;rw [if_neg hj]
 match k,hk,hs with
 | 0,_,_=>exact ⟨rfl,rfl⟩
 | 1,_,_=>exact ⟨rfl,rfl⟩
 | 2,_,_=>exact ⟨rfl,rfl⟩
 | 3,_,_=>exact ⟨rfl,rfl⟩
 | 4,_,_=>exact ⟨rfl,rfl⟩
 | 5,_,_=>exact ⟨rfl,rfl⟩
 | 6,_,_=>exact ⟨rfl,rfl⟩
 | 7,_,_=>exact ⟨rfl,rfl⟩
 | 8,_,_=>exact ⟨rfl,rfl⟩
 | 9,_,_=>exact ⟨rfl,rfl⟩
 | 10,_,_=>exact ⟨rfl,rfl⟩
 | 11,_,_=>exact ⟨rfl,rfl⟩
 | 12,_,_=>exact ⟨rfl,rfl⟩
 | 13,_,_=>exact ⟨rfl,rfl⟩
 | 14,_,_=>exact ⟨rfl,rfl⟩
 | 15,_,_=>exact ⟨rfl,rfl⟩
 | 16,_,_=>exact ⟨rfl,rfl⟩
 | 17,_,_=>exact ⟨rfl,rfl⟩
 | 18,_,_=>exact ⟨rfl,rfl⟩
 | 19,_,_=>exact ⟨rfl,rfl⟩
 | 20,_,_=>exact ⟨rfl,rfl⟩
 | _ + 21,_,_=>exact ⟨rfl,rfl⟩
def rdMb (k : Nat) : List Nat:=match k with
 | 7=>[20]
 | 12=>[20]
 | _=>[]
def tsMc : List TOp:=[⟨some 49,[],[],[]⟩,⟨some 50,[],[],[]⟩,⟨some 51,[1],[1],[]⟩,⟨some 52,[],[],[]⟩,⟨some 53,[],[],[]⟩,⟨some 54,[4],[4],[]⟩,⟨some 55,[3,4,5],[3,5],[]⟩,⟨some 56,[3,4,5,6],[6],[]⟩,⟨some 57,[],[],[]⟩,⟨some 58,[],[],[]⟩,⟨some 59,[9],[9],[]⟩,⟨some 60,[8,9,10],[8,10],[]⟩,⟨some 61,[8,9,10,11],[11],[]⟩,⟨some 62,[],[],[]⟩,⟨some 63,[13],[13],[]⟩,⟨some 64,[13,14],[14],[]⟩,⟨some 65,[8,9,10,11,12,13,14,15],[12,15],[]⟩,⟨some 66,[3,4,5,6,7,8,9,10,11,12,13,14,15,16],[7,16],[]⟩,⟨some 67,[0,1,2,3,4,5,6,7,8,9,10,11,12,13,14,15,16,17],[0,2],[]⟩,⟨none,[0,1,2,3,4,5,6,7,8,9,10,11,12,13,14,15,16,17,18],[18,17],[20]⟩,⟨none,[],[],[]⟩]
def valMc (b6 b7 bl n : Nat) (d : Bd) (l : List Int) (k : Nat) (env : Env) : Value :=
 match k with
 | 0 => .slice (some ⟨bl,0,none⟩) n n
 | 1 => .pointer (some ⟨b7,1,none⟩)
 | 2 => .int .i64 d.b
 | 3 => .slice (some ⟨bl,0,none⟩) n n
 | 4 => .pointer (some ⟨b7,1,none⟩)
 | 5 => .int .i64 d.b
 | 6 => .pointer (some ⟨bl,0 + d.b * 1,none⟩)
 | 7 => .int .i64 (gt0 l d.b)
 | 8 => .slice (some ⟨bl,0,none⟩) n n
 | 9 => .pointer (some ⟨b7,0,none⟩)
 | 10 => .int .i64 d.a
 | 11 => .pointer (some ⟨bl,0 + d.a * 1,none⟩)
 | 12 => .int .i64 (gt0 l d.a)
 | 13 => .pointer (some ⟨b7,2,none⟩)
 | 14 => .pointer (some ⟨b7,2,none⟩)
 | 15 => .int .i64 d.s.lo
 | 16 => .int .i64 ((gt0 l d.a) - d.s.lo)
 | 17 => .int .i64 (min (gt0 l d.b) (gt0 l d.a - d.s.lo))
 | 18 => .pointer (some ⟨bl,0 + d.b * 1,none⟩)
 | 19=>undef
 | _=>undef
def rowsMc (b6 b7 bl n : Nat) (d : Bd) (l : List Int) (k : Nat) (env : Env) : List Row :=
 match k with
 | 19=>[⟨bl,0,(rlx l ⟨d.b,d.a, -d.s.lo⟩).flatMap cI,some 3,n * 1⟩]
 | 20=>[⟨bl,0,l.flatMap cI,some 3,n * 1⟩]
 | _=>[]
theorem locMc (b6 b7 bl n : Nat) (d : Bd) (l : List Int) : ∀ k env i q9,i ≠ k → (tAt tsMc k).sup.contains i = false → valMc b6 b7 bl n d l k (upd env i q9)=valMc b6 b7 bl n d l k env∧rowsMc b6 b7 bl n d l k (upd env i q9)=rowsMc b6 b7 bl n d l k env:=by
 intro k env i q hk hs
 have hu : ∀ j,j ≠ i → upd env i q j = env j:=fun j hj=>by unfold upd;rw [if_neg hj]
 match k,hk,hs with
 | 0,_,_=>exact ⟨rfl,rfl⟩
 | 1,_,_=>exact ⟨rfl,rfl⟩
 | 2,_,_=>exact ⟨rfl,rfl⟩
 | 3,_,_=>exact ⟨rfl,rfl⟩
 | 4,_,_=>exact ⟨rfl,rfl⟩
 | 5,_,_=>exact ⟨rfl,rfl⟩
 | 6,_,_=>exact ⟨rfl,rfl⟩
 | 7,_,_=>exact ⟨rfl,rfl⟩
 | 8,_,_=>exact ⟨rfl,rfl⟩
 | 9,_,_=>exact ⟨rfl,rfl⟩
 | 10,_,_=>exact ⟨rfl,rfl⟩
 | 11,_,_=>exact ⟨rfl,rfl⟩
 | 12,_,_=>exact ⟨rfl,rfl⟩
 | 13,_,_=>exact ⟨rfl,rfl⟩
 | 14,_,_=>exact ⟨rfl,rfl⟩
 | 15,_,_=>exact ⟨rfl,rfl⟩
 | 16,_,_=>exact ⟨rfl,rfl⟩
 | 17,_,_=>exact ⟨rfl,rfl⟩
 | 18,_,_=>exact ⟨rfl,rfl⟩
 | 19,_,_=>exact ⟨rfl,rfl⟩
 | 20,_,_=>exact ⟨rfl,rfl⟩
 | _ + 21,_,_=>exact ⟨rfl,rfl⟩
def rdMc (k : Nat) : List Nat:=match k with
 | 7=>[20]
 | 12=>[20]
 | _=>[]
def tsMd : List TOp:=[⟨some 71,[],[],[]⟩,⟨some 72,[0],[0],[]⟩,⟨some 73,[],[],[]⟩,⟨some 74,[],[],[]⟩,⟨some 75,[3],[3],[]⟩,⟨some 76,[2,3,4],[2,4],[]⟩,⟨some 77,[2,3,4,5],[5],[]⟩,⟨some 78,[],[],[]⟩,⟨some 79,[],[],[]⟩,⟨some 80,[8],[8],[]⟩,⟨some 81,[7,8,9],[7,9],[]⟩,⟨some 82,[7,8,9,10],[10],[]⟩,⟨some 83,[2,3,4,5,6,7,8,9,10,11],[6,11],[]⟩,⟨some 84,[2,3,4,5,6,7,8,9,10,11,12],[12],[]⟩,⟨some 85,[0,1,2,3,4,5,6,7,8,9,10,11,12,13],[1,13],[13]⟩,⟨some 86,[0,1,2,3,4,5,6,7,8,9,10,11,12,13,14],[14],[]⟩]
def valMd (b6 b8 bl n : Nat) (d : Bd) (l : List Int) (w : Bool) (k : Nat) (env : Env) : Value :=
 match k with
 | 0 => .pointer (some ⟨b8,2,none⟩)
 | 1 => .agg (cSp d.s).toArray
 | 2 => .slice (some ⟨bl,0,none⟩) n n
 | 3 => .pointer (some ⟨b8,0,none⟩)
 | 4 => .int .i64 d.a
 | 5 => .pointer (some ⟨bl,0 + d.a * 1,none⟩)
 | 6 => .int .i64 (gt0 l d.a)
 | 7 => .slice (some ⟨bl,0,none⟩) n n
 | 8 => .pointer (some ⟨b8,1,none⟩)
 | 9 => .int .i64 d.b
 | 10 => .pointer (some ⟨bl,0 + d.b * 1,none⟩)
 | 11 => .int .i64 (gt0 l d.b)
 | 12 => .int .i64 ((gt0 l d.a) - (gt0 l d.b))
 | 13 => .slice (some ⟨(env 13).1,0,none⟩) 1 1
 | 14 => .bool w
 | 15 => .bool (!w)
 | _=>undef
def rowsMd (b6 b8 bl n : Nat) (d : Bd) (l : List Int) (w : Bool) (k : Nat) (env : Env) : List Row :=
 match k with
 | 13=>[⟨(env 13).1,0,[.int .i64 ((gt0 l d.a) - (gt0 l d.b))],some 3,1 * 1⟩]
 | _=>[]
theorem locMd (b6 b8 bl n : Nat) (d : Bd) (l : List Int) (w : Bool) : ∀ k env i q9,i ≠ k → (tAt tsMd k).sup.contains i = false → valMd b6 b8 bl n d l w k (upd env i q9)=valMd b6 b8 bl n d l w k env∧rowsMd b6 b8 bl n d l w k (upd env i q9)=rowsMd b6 b8 bl n d l w k env:=by
 intro k env i q hk hs
 have hu : ∀ j,j ≠ i → upd env i q j = env j:=fun j hj=>by unfold upd;rw [if_neg hj]
 match k,hk,hs with
 | 0,_,_=>exact ⟨rfl,rfl⟩
 | 1,_,_=>exact ⟨rfl,rfl⟩
 | 2,_,_=>exact ⟨rfl,rfl⟩
 | 3,_,_=>exact ⟨rfl,rfl⟩
 | 4,_,_=>exact ⟨rfl,rfl⟩
 | 5,_,_=>exact ⟨rfl,rfl⟩
 | 6,_,_=>exact ⟨rfl,rfl⟩
 | 7,_,_=>exact ⟨rfl,rfl⟩
 | 8,_,_=>exact ⟨rfl,rfl⟩
 | 9,_,_=>exact ⟨rfl,rfl⟩
 | 10,_,_=>exact ⟨rfl,rfl⟩
 | 11,_,_=>exact ⟨rfl,rfl⟩
 | 12,_,_=>exact ⟨rfl,rfl⟩
 | 13,hk,hs=>exact ⟨by simp only [valMd,hu 13 (fun e=>hk e.symm)],by simp only [rowsMd,hu 13 (fun e=>hk e.symm)]⟩
 | 14,_,_=>exact ⟨rfl,rfl⟩
 | 15,_,_=>exact ⟨rfl,rfl⟩
 | _ + 16,_,_=>exact ⟨rfl,rfl⟩
set_option maxHeartbeats 16000000 in
theorem most_spec (R : Rm) (p : Pl) (a : Option Addr) (c : Nat) (f : Pk) (H : List Row) (hr : okRm R) (hm : matsThere R R.mats) (hC : CtOk H R p a) (hla : R.ages.length ≤ 1000) (hlm : R.mats.length ≤ 1000) (hpc : (plcs R).length ≤ c) (hf : f ∈ plcs R) :
  Fc Tryz.prog 83 [.agg (cCt R p a c).toArray,.agg (cPk f).toArray] H (fun v H' => (mostR R R.mats (pidx R f)=none∧v = .tuple #[.slice none 0 0,.bool false]∧H' = H) ∨
   ∃ t b k,mostR R R.mats (pidx R f)=some t∧v = .tuple #[.slice (some ⟨b,0,none⟩) (plcs R).length k,.bool true]∧H' = ⟨b,0,t.flatMap cI,some 3,k * 1⟩::H):=by
 have hpl:=plcs_len hr
 have hp1 : 1 ≤ (plcs R).length:=by unfold plcs;simp
 have hpf:=pidx_lt hf
 have hz : atZ R ⟨f.box,f.month⟩ = (pidx R f : Nat):=by unfold atZ;rw [if_pos hf]
 obtain ⟨n,hn⟩ : ∃ n,n = (plcs R).length:=⟨_,rfl⟩
 obtain ⟨ix,hix⟩ : ∃ ix,ix = pidx R f:=⟨_,rfl⟩
 rw [← hix] at hz hpf ⊢
 have hat:=fun H' hH' => at_spec R p a c f.box f.month H' hr hH'
 rw [hz] at hat
 refine Fc.mkT (callable Tryz.call83) Tryz.func83 rfl Tryz.ntmps83 rfl ?_
 dsimp only [fr]
 refine XT.seq rfl (XT.of0 ?_)
 repeat' (first | (refine uP rfl ?_;(first | ((first | refine uN rfl ?_);(first | (refine uE (uA rfl rfl) rfl rfl ?_)|(refine Xg.st (StF.boxAgg rfl rfl) rfl rfl ?_;rintro _ _ ⟨bx,rfl,rfl⟩)))))|(refine uD rfl ?_;refine hK _ _ ?_;clear hK K) | refine uR rfl (fun K hK=>?_) | refine X.label rfl ?_)
 refine XT.scope rfl ?_
 refine XT.seq rfl (XT.of0 ?_)
 rename_i b2;generalize bx = b3
 repeat' (first | (refine uP rfl ?_;(first | ((first | refine uN rfl ?_);(first | (refine Xg.st (StF.buildOne rfl el55 rfl rfl rfl (by decide) (by decide)) rfl rfl ?_;rintro _ _ ⟨bs,rfl,rfl⟩)|(refine uC (uT rfl (Args.cons rfl (Args.cons rfl Args.nil))) rfl rfl (repeat_spec bs (plcs R).length _ _ _ (qH _) (by omega) (by omega)) ?_;rintro _ _ ⟨bl,rfl,rfl⟩)|(refine uE (uF rfl rfl (te rfl) rfl (te rfl) (by decide)) rfl rfl ?_)|(refine uE (EvF.lenSlice rfl rfl (te rfl)) rfl rfl ?_)|(refine uE (uL rfl rfl (uO (te rfl) rfl (qT _ (qT _ (qH _))) rfl)) rfl rfl ?_)|(refine Xg.st (StF.alloc rfl Tryz.zeroValue38 rfl) rfl rfl ?_;rintro _ _ ⟨bx,rfl,rfl⟩)|(refine Xg.st0 (StF.storeOne (i:=0) rfl rfl rfl rfl (te rfl) rfl rfl (Nat.le_of_ble_eq_true rfl)) rfl ?_;rintro _ _ ⟨rfl,rfl⟩;dsimp only [List.set])))))|(refine uD rfl ?_;refine hK _ _ ?_;clear hK K) | refine uR rfl (fun K hK=>?_))
 rw [← hn]
 rw [← hn] at hpf hpc hp1 hpl
 rename Nat=>b6
 refine XT.seq rfl (XT.of0 ?_)
 refine X.weak (F' := [(2,.pointer (some ⟨b2,0,none⟩)),(3,.pointer (some ⟨b3,0,none⟩)),(6,.pointer (some ⟨b6,0,none⟩))]) (H' := ⟨b6,0,[.slice (some ⟨bl,0,none⟩) n n],some 38,1⟩::⟨bl,0,(List.replicate n (1048576 : Int)).flatMap cI,some 3,n * 1⟩::⟨b3,0,cPk f,some 86,2⟩::⟨b2,0,cCt R p a c,some 79,6⟩::H) (by repeat (first | exact uU _ | refine uV rfl ?_)) (by repeat (first | exact qR _ | apply qK | apply qC)) ?_
 refine X.permH (H' := ⟨bl,0,(List.replicate n (1048576 : Int)).flatMap cI,some 3,n * 1⟩::⟨b6,0,[.slice (some ⟨bl,0,none⟩) n n],some 38,1⟩::⟨b3,0,cPk f,some 86,2⟩::⟨b2,0,cCt R p a c,some 79,6⟩::H) (List.Perm.swap _ _ _) ?_
 refine X.regionOb tsMa [2,3,6] [(2,.pointer (some ⟨b2,0,none⟩)),(3,.pointer (some ⟨b3,0,none⟩)),(6,.pointer (some ⟨b6,0,none⟩))] (valMa b2 b3 b6 bl n ix R p a c f) (rowsMa b2 b3 b6 bl n ix R p a c f) (fun _=>(0,0)) (⟨b6,0,[.slice (some ⟨bl,0,none⟩) n n],some 38,1⟩::⟨b3,0,cPk f,some 86,2⟩::⟨b2,0,cCt R p a c,some 79,6⟩::H) rfl mixed (by repeat (first | exact uU _ | refine uV rfl ?_)) rfl (by kernel_rfl) (locMa b2 b3 b6 bl n ix R p a c f) (qR _) ?_ ?_
 ·have hCs : ∀ S : List Row,(∀ r ∈ ⟨b6,0,[.slice (some ⟨bl,0,none⟩) n n],some 38,1⟩::⟨b3,0,cPk f,some 86,2⟩::⟨b2,0,cCt R p a c,some 79,6⟩::H,r ∈ S) → CtOk S R p a:=fun S hS=>hC.sub (fun r h=>hS r (List.mem_append_right [_,_,_] h))
  repeat' (first | exact AllF.done rfl | (refine AllF.step rfl ?_ ?_;·(first | fail | ((first | refine Ob.ng rfl ?_);(first | exact ObK.pure (fun env R hR=>by exact ⟨_,uF rfl rfl (te rfl) rfl (te rfl) (by decide),rfl⟩) rfl (fun _=>rfl) | exact ObK.pure (fun env R hR=>by exact ⟨_,uL rfl rfl (uO (te rfl) rfl (hR _ (qH _)) rfl),rfl⟩) rfl (fun _=>rfl) | exact ObK.pure (fun env R hR=>by exact ⟨_,uL rfl rfl (uO (te rfl) rfl (hR _ (qT _ (qH _))) rfl),rfl⟩) rfl (fun _=>rfl) | exact ObK.pure (fun env R hR=>by exact ⟨_,uL rfl rfl (uW (te rfl) rfl (hR _ (qT _ (qT _ (qH _)))) rfl),rfl⟩) rfl (fun _=>rfl)|(exact fun env S hS=>OpF.callV (Z:=[]) (uT rfl (Args.cons rfl (Args.cons rfl (Args.cons rfl Args.nil)))) (hat _ (hCs _ hS)) rfl rfl)|((refine ObK.pure (fun env S hS=>⟨.pointer (some ⟨bl,0 + ix * 1,none⟩),?_,rfl⟩) rfl (fun _=>rfl);exact EvF.indexSlice (i:=(ix : Int)) (off:=0) (b:=bl) (T:=38) (e:=3) (len:=n) (ti:=⟨.int .i64,1,8⟩) rfl rfl rfl (te rfl) (te rfl) (by omega) (by omega)))|(exact fun env S hS=>(StF.storeOne (i:=0) (cs:=(List.replicate n (1048576 : Int)).flatMap cI) (j:=0 + ix * 1) rfl rfl rfl rfl (te rfl) rfl rfl (by rw [lenI,List.length_replicate];omega)).op.mono (fun v H' ⟨hv,hH⟩=>⟨(0,0),fun h=>absurd rfl h,by rw [hH];show List.Perm (⟨bl,0,((List.replicate n (1048576 : Int)).flatMap cI).set (0 + ix * 1) (.int .i64 0),some 3,n * 1⟩::S) _;rw [flat_set,show 0 + ix * 1 = ix by omega];exact List.Perm.refl _⟩)))))))
 intro env t ha2 hv
 refine ⟨_,ha2,?_⟩
 clear hv ha2
 show XT _ _ _ _ _ (⟨bl,0,(start n ix).flatMap cI,some 3,n * 1⟩::⟨b6,0,[.slice (some ⟨bl,0,none⟩) n n],some 38,1⟩::⟨b3,0,cPk f,some 86,2⟩::⟨b2,0,cCt R p a c,some 79,6⟩::H) _
 clear env
 refine XT.seq rfl (XT.of0 ?_)
 repeat' (first | (refine uP rfl ?_;(first | ((first | refine uN rfl ?_);(first | (refine uE (uA rfl rfl) rfl rfl ?_)|(refine Xg.st (StF.boxAgg rfl rfl) rfl rfl ?_;rintro _ _ ⟨bx,rfl,rfl⟩)))))|(refine uD rfl ?_;refine hK _ _ ?_;clear hK K) | refine uR rfl (fun K hK=>?_) | refine X.label rfl ?_)
 refine XT.seq rfl (XT.seq rfl (XT.of0 ?_))
 repeat' (first | (refine uP rfl ?_;(first | ((first | refine uN rfl ?_);(first | (refine uE (uL rfl rfl (uO (te rfl) rfl (qT _ (qT _ (qT _ (qH _)))) rfl)) rfl rfl ?_)|(refine uE (uM rfl rfl) rfl rfl ?_)|(refine uE (uF rfl rfl (te rfl) rfl (te rfl) (by decide)) rfl rfl ?_)|(refine uE (EvF.lenSlice rfl rfl (te rfl)) rfl rfl ?_)))))|(refine uD rfl ?_;refine hK _ _ ?_;clear hK K) | refine uR rfl (fun K hK=>?_))
 rw [← hn]
 obtain ⟨es,hes⟩ : ∃ es,es = edges (bds R R.mats):=⟨_,rfl⟩
 have hsl : (start n ix).length = n:=start_len n ix
 have hin : inE n es:=by rw [hes,hn];exact edges_in hr.bx hm
 have hsb : bnd 0 (start n ix):=fun i hi=>by
  rw [hsl] at hi
  rw [start_at hpf hi]
  split <;> omega
 have hwt : ∀ e ∈ es, -60 ≤ e.w∧e.w ≤ 60:=by rw [hes];exact edges_w (bds_w hr hm)
 have hel : es.length ≤ 5000:=by
  have:=bds_len hr (M:=R.mats) hlm
  rw [hes,edges_len];omega
 have hmost : mostR R R.mats ix = mostL es n (start n ix):=by unfold mostR;rw [← hn, ← hes]
 refine XT.block rfl ?_
 refine XT.lp rfl (fun m F' Ds' H' => ∃ (r : Nat) (l : List Int),m = n - r∧r ≤ n∧l.length = n∧bnd (300000 * r) l∧mostR R R.mats ix = mostL es (n - r) l ∧
   H' = ⟨bl,0,l.flatMap cI,some 3,n * 1⟩::⟨b6,0,[.slice (some ⟨bl,0,none⟩) n n],some 38,1⟩::⟨b2,0,cCt R p a c,some 79,6⟩::H ∧
   F' = [(2,.pointer (some ⟨b2,0,none⟩)),(6,.pointer (some ⟨b6,0,none⟩)),(24,.int .i64 n),(25,.int .i64 r)])
  n [(2,.pointer (some ⟨b2,0,none⟩)),(6,.pointer (some ⟨b6,0,none⟩)),(24,.int .i64 n),(25,.int .i64 (0 : Nat))] (⟨bl,0,(start n ix).flatMap cI,some 3,n * 1⟩::⟨b6,0,[.slice (some ⟨bl,0,none⟩) n n],some 38,1⟩::⟨b2,0,cCt R p a c,some 79,6⟩::H) (by repeat (first | exact uU _ | refine uV rfl ?_)) (by repeat (first | exact qR _ | apply qK | apply qC)) ⟨0,start n ix,by omega,by omega,hsl,hsb.mono (by omega),hmost,rfl,rfl⟩ ?_
 rintro m _ Ds _ ⟨r,l,rfl,hrn,hll,hbl,hml,rfl,rfl⟩
 refine XT.seq rfl (XT.ofX ?_)
 obtain ⟨D,hD⟩ : ∃ D,D = Ds.map dRow:=⟨_,rfl⟩
 rw [← hD]
 repeat' (first | (refine uP rfl ?_;(first | ((first | refine uN rfl ?_);(first | (refine uE (uQ rfl rfl rfl rfl) rfl rfl ?_)))))|(refine uD rfl ?_;refine hK _ _ ?_;clear hK K) | refine uR rfl (fun K hK=>?_))
 refine ⟨⟨bl,0,l.flatMap cI,some 3,n * 1⟩::⟨b6,0,[.slice (some ⟨bl,0,none⟩) n n],some 38,1⟩::⟨b2,0,cCt R p a c,some 79,6⟩::H,qR _,XT.seq rfl (XT.ofX ?_)⟩
 rw [← hD]
 have hes2 : es.length = 2 * (bds R R.mats).length:=by rw [hes,edges_len]
 have hbl2 : ∀ pre,pre <+: bds R R.mats → (rnd (edges pre) l).length = n∧bnd (300000 * r + 300000) (rnd (edges pre) l):=by
  intro pre hp
  obtain ⟨q,hq⟩:=hp
  have he : es = edges pre++edges q:=by rw [hes, ← hq];unfold edges;rw [List.flatMap_append]
  have hsub : ∀ e ∈ edges pre,e ∈ es:=fun e h=>by rw [he];exact List.mem_append_left _ h
  refine ⟨by rw [rnd_len];exact hll,(bnd_rnd (edges pre) l _ hbl (by rw [hll];exact fun e h=>hin e (hsub e h)) (fun e h=>hwt e (hsub e h))).mono ?_⟩
  have : (edges pre).length ≤ es.length:=by rw [he,List.length_append];omega
  omega
 have hdin:=bds_in hr.bx hm
 rw [← hn] at hdin
 have hdw:=bds_w hr hm
 repeat' (first | (refine X.brk rfl ?_;repeat (first | refine blockX_hit rfl ?_ | refine blockX_miss (by decide) ?_)) | refine X.skip rfl ?_ | (refine X.ite rfl rfl (fun hc=>?_);(first | (with_reducible refine Xb.case hc (fun h=>?_) (fun h=>?_))) <;> clear hc))
 ·have hrl : r < n:=by omega
  refine ⟨⟨bl,0,l.flatMap cI,some 3,n * 1⟩::⟨b6,0,[.slice (some ⟨bl,0,none⟩) n n],some 38,1⟩::⟨b2,0,cCt R p a c,some 79,6⟩::H,qR _,XT.seq rfl (XT.block rfl (XT.seq rfl (XT.seq rfl (XT.ofX ?_))))⟩
  rw [← hD]
  repeat' (first | (refine uP rfl ?_;(first | ((first | refine uN rfl ?_);(first | (refine uE (uL rfl rfl (uW (te rfl) rfl (qT _ (qT _ (qH _))) rfl)) rfl rfl ?_)|(refine uC (uT rfl (by (repeat (first | exact Args.nil | refine Args.cons rfl ?_));done)) rfl rfl (bounds_spec R p a c _) ?_;rintro _ _ ⟨bo,rfl,rfl⟩)))))|(refine uD rfl ?_;refine hK _ _ ?_;clear hK K) | refine uR rfl (fun K hK=>?_))
  refine ⟨⟨bo,0,cCt R p a c,some 79,6⟩::⟨bl,0,l.flatMap cI,some 3,n * 1⟩::⟨b6,0,[.slice (some ⟨bl,0,none⟩) n n],some 38,1⟩::⟨b2,0,cCt R p a c,some 79,6⟩::H,qR _,XT.block rfl ?_⟩
  refine XT.weak (F' := [(2,.pointer (some ⟨b2,0,none⟩)),(6,.pointer (some ⟨b6,0,none⟩)),(24,.int .i64 n),(25,.int .i64 r),(28,.func (.func 127) #[] #[.pointer (some ⟨bo,0,none⟩)])]) (H' := ⟨bo,0,cCt R p a c,some 79,6⟩::⟨bl,0,l.flatMap cI,some 3,n * 1⟩::⟨b6,0,[.slice (some ⟨bl,0,none⟩) n n],some 38,1⟩::⟨b2,0,cCt R p a c,some 79,6⟩::H) (by repeat (first | exact uU _ | refine uV rfl ?_)) (by repeat (first | exact qR _ | apply qK | apply qC)) ?_
  refine XT.perm (H' := [⟨bl,0,l.flatMap cI,some 3,n * 1⟩,⟨b6,0,[.slice (some ⟨bl,0,none⟩) n n],some 38,1⟩]++(⟨bo,0,cCt R p a c,some 79,6⟩::⟨b2,0,cCt R p a c,some 79,6⟩::H)) (List.perm_middle (l₁:=[_,_])) ?_
  have hCs : CtOk (⟨bo,0,cCt R p a c,some 79,6⟩::⟨b2,0,cCt R p a c,some 79,6⟩::H) R p a:=hC.sub (fun _ h=>qT _ (qT _ h))
  refine XT.rangeD (ps:=[29]) rfl rfl (bounds1_itd R p a c bo 6 _ _ hr hm hCs (by omega) (by omega) (by omega) (qH _)) rfl (fun _=>rfl) (fun pre=>[⟨bl,0,(rnd (edges pre) l).flatMap cI,some 3,n * 1⟩,⟨b6,0,[.slice (some ⟨bl,0,none⟩) n n],some 38,1⟩]) (fun _=>true) (fun _=>[]) .ret rfl ?_ ?_ (fun _ _ _ _ h=>by cases h) (fun _ _ _ h=>by cases h) (.inl rfl)
  ·intro pre d hpre _ Z
   obtain ⟨hl1,hb1⟩:=hbl2 pre ((List.prefix_append _ _).trans hpre)
   have hdm : d ∈ bds R R.mats:=hpre.subset (List.mem_append_right _ List.mem_cons_self)
   obtain ⟨hda,hdb⟩:=hdin d hdm
   have hdd:=hdw d hdm
   obtain ⟨l1,hl1e⟩ : ∃ l1,l1 = rnd (edges pre) l:=⟨_,rfl⟩
   have hsn : rnd (edges (pre++[d])) l = rlx (rlx l1 ⟨d.a,d.b,d.s.hi⟩) ⟨d.b,d.a, -d.s.lo⟩:=by
    unfold edges
    rw [List.flatMap_append,rnd_app]
    rw [hl1e];rfl
   rw [hsn]
   rw [← hl1e] at hl1 hb1 ⊢
   have hva:=hb1 d.a (by omega)
   have hvb:=hb1 d.b (by omega)
   show X _ _ _ _ (⟨bl,0,l1.flatMap cI,some 3,n * 1⟩::⟨b6,0,[.slice (some ⟨bl,0,none⟩) n n],some 38,1⟩::Z) _
   repeat' (first | (refine uP rfl ?_;(first | ((first | refine uN rfl ?_);(first | (refine Xg.st (StF.alloc rfl Tryz.zeroValue159 rfl) rfl rfl ?_;rintro _ _ ⟨bx,rfl,rfl⟩)|(refine Xg.st0 (StF.storeAll (i:=0) rfl rfl rfl (te rfl) rfl rfl rfl rfl) rfl ?_;rintro _ _ ⟨rfl,rfl⟩;dsimp only [List.set])))))|(refine uD rfl ?_;refine hK _ _ ?_;clear hK K) | refine uR rfl (fun K hK=>?_))
   rename Nat=>b7
   refine ⟨rfl,[⟨b7,0,cBd d,some 159,4⟩,⟨bl,0,l1.flatMap cI,some 3,n * 1⟩,⟨b6,0,[.slice (some ⟨bl,0,none⟩) n n],some 38,1⟩],qR _,fun Z' => ?_⟩
   refine X.weak (F' := [(6,.pointer (some ⟨b6,0,none⟩)),(7,.pointer (some ⟨b7,0,none⟩))]) (H' := ⟨b7,0,cBd d,some 159,4⟩::⟨bl,0,l1.flatMap cI,some 3,n * 1⟩::⟨b6,0,[.slice (some ⟨bl,0,none⟩) n n],some 38,1⟩::Z') (by repeat (first | exact uU _ | refine uV rfl ?_)) (by repeat (first | exact qR _ | apply qK | apply qC)) ?_
   refine X.permH (H' := ⟨bl,0,l1.flatMap cI,some 3,n * 1⟩::⟨b7,0,cBd d,some 159,4⟩::⟨b6,0,[.slice (some ⟨bl,0,none⟩) n n],some 38,1⟩::Z') (List.Perm.swap _ _ _) ?_
   refine X.block rfl (uS rfl ?_)
   refine X.regionRd tsMb rdMb [6,7] [(6,.pointer (some ⟨b6,0,none⟩)),(7,.pointer (some ⟨b7,0,none⟩))] (valMb b6 b7 bl n d l1) (rowsMb b6 b7 bl n d l1) (fun _=>(0,0)) (⟨b7,0,cBd d,some 159,4⟩::⟨b6,0,[.slice (some ⟨bl,0,none⟩) n n],some 38,1⟩::Z') rfl mixed (by repeat (first | exact uU _ | refine uV rfl ?_)) rfl (by kernel_rfl) (by kernel_rfl) (locMb b6 b7 bl n d l1) (qR _) ?_ ?_
   ·have hca : (l1.flatMap cI)[0 + d.a * 1]? = some (.int .i64 (gt0 l1 d.a)):=by rw [get_cell,show 0 + d.a * 1 = d.a by omega,gt0_get (by omega)];rfl
    have hcb : (l1.flatMap cI)[0 + d.b * 1]? = some (.int .i64 (gt0 l1 d.b)):=by rw [get_cell,show 0 + d.b * 1 = d.b by omega,gt0_get (by omega)];rfl
    repeat' (first | exact AllF.done rfl | (refine AllF.step rfl ?_ ?_;·(first | exact (Ob.ng rfl (ObK.pure (fun env R hR=>by exact ⟨_,uF rfl rfl (te rfl) rfl (te rfl) (by decide),rfl⟩) rfl (fun _=>rfl))).toR | exact (Ob.ng rfl (ObK.pure (fun env R hR=>by exact ⟨_,uL rfl rfl (uO (te rfl) rfl (hR _ (qH _)) rfl),rfl⟩) rfl (fun _=>rfl))).toR | exact (Ob.ng rfl (ObK.pure (fun env R hR=>by exact ⟨_,uL rfl rfl (uO (te rfl) rfl (hR _ (qT _ (qH _))) rfl),rfl⟩) rfl (fun _=>rfl))).toR | (refine ObR.ng rfl ?_;(first | ((refine fun env S hS hrd=>(StF.ofEv (v := .pointer (some ⟨bl,0 + d.a * 1,none⟩)) ?_).op.mono (fun v H' ⟨hv,hH⟩=>⟨(0,0),fun _=>hv,by rw [hH];exact List.Perm.refl _⟩);exact EvF.indexSlice (i:=(d.a : Int)) (off:=0) (b:=bl) (T:=38) (e:=3) (len:=n) (ti:=⟨.int .i64,1,8⟩) rfl rfl rfl (te rfl) (te rfl) (by omega) (by omega)))|((refine fun env S hS hrd=>(StF.ofEv (v := .pointer (some ⟨bl,0 + d.b * 1,none⟩)) ?_).op.mono (fun v H' ⟨hv,hH⟩=>⟨(0,0),fun _=>hv,by rw [hH];exact List.Perm.refl _⟩);exact EvF.indexSlice (i:=(d.b : Int)) (off:=0) (b:=bl) (T:=38) (e:=3) (len:=n) (ti:=⟨.int .i64,1,8⟩) rfl rfl rfl (te rfl) (te rfl) (by omega) (by omega)))|(exact fun env S hS hrd=>(StF.ofEv (uL rfl rfl (uO (te rfl) rfl (hrd 20 (qH _) _ (qH _)) hca))).op.mono (fun v H' ⟨hv,hH⟩=>⟨(0,0),fun _=>hv,by rw [hH];exact List.Perm.refl _⟩))|(exact fun env S hS hrd=>(StF.ofEv (uL rfl rfl (uO (te rfl) rfl (hrd 20 (qH _) _ (qH _)) hcb))).op.mono (fun v H' ⟨hv,hH⟩=>⟨(0,0),fun _=>hv,by rw [hH];exact List.Perm.refl _⟩))|(exact fun env S hS hrd=>(StF.ofEv (EvF.add64 rfl rfl rfl (by omega) (by omega))).op.mono (fun v H' ⟨hv,hH⟩=>⟨(0,0),fun _=>hv,by rw [hH];exact List.Perm.refl _⟩))|(exact fun env S hS hrd=>(StF.ofEv (EvF.min64 rfl rfl rfl)).op.mono (fun v H' ⟨hv,hH⟩=>⟨(0,0),fun _=>hv,by rw [hH];exact List.Perm.refl _⟩))|(exact fun env S hS hrd=>(StF.storeOne (i:=0) (cs:=l1.flatMap cI) (j:=0 + d.a * 1) rfl rfl rfl rfl (te rfl) rfl rfl (by rw [lenI];omega)).op.mono (fun v H' ⟨hv,hH⟩=>⟨(0,0),fun h=>absurd rfl h,by rw [hH];exact by show List.Perm (⟨bl,0,(l1.flatMap cI).set (0 + d.a * 1) (.int .i64 (min (gt0 l1 d.a) (gt0 l1 d.b + d.s.hi))),some 3,n * 1⟩::S) _;rw [flat_set,show 0 + d.a * 1 = d.a by omega];exact List.Perm.refl _⟩)))))))
   intro env t2 ha2 hv
   refine ⟨_,ha2,?_⟩
   clear hv ha2
   obtain ⟨l2,hl2e⟩ : ∃ l2,l2 = rlx l1 ⟨d.a,d.b,d.s.hi⟩:=⟨_,rfl⟩
   have hl2 : l2.length = n:=by rw [hl2e,rlx_len];exact hl1
   have hb2 : bnd (300000 * r + 300060) l2:=by rw [hl2e];exact (bnd_rlx hb1 (by dsimp only;omega) (by dsimp only;omega) (by dsimp only;omega)).mono (by omega)
   show X _ _ _ _ (⟨bl,0,(rlx l1 ⟨d.a,d.b,d.s.hi⟩).flatMap cI,some 3,n * 1⟩::⟨b7,0,cBd d,some 159,4⟩::⟨b6,0,[.slice (some ⟨bl,0,none⟩) n n],some 38,1⟩::Z') _
   rw [← hl2e]
   clear env
   have hva:=hb2 d.a (by omega)
   have hvb:=hb2 d.b (by omega)
   refine X.regionRd tsMc rdMc [6,7] [(6,.pointer (some ⟨b6,0,none⟩)),(7,.pointer (some ⟨b7,0,none⟩))] (valMc b6 b7 bl n d l2) (rowsMc b6 b7 bl n d l2) (fun _=>(0,0)) (⟨b7,0,cBd d,some 159,4⟩::⟨b6,0,[.slice (some ⟨bl,0,none⟩) n n],some 38,1⟩::Z') rfl mixed (by repeat (first | exact uU _ | refine uV rfl ?_)) rfl (by kernel_rfl) (by kernel_rfl) (locMc b6 b7 bl n d l2) (qR _) ?_ ?_
   ·have hca : (l2.flatMap cI)[0 + d.a * 1]? = some (.int .i64 (gt0 l2 d.a)):=by rw [get_cell,show 0 + d.a * 1 = d.a by omega,gt0_get (by omega)];rfl
    have hcb : (l2.flatMap cI)[0 + d.b * 1]? = some (.int .i64 (gt0 l2 d.b)):=by rw [get_cell,show 0 + d.b * 1 = d.b by omega,gt0_get (by omega)];rfl
    repeat' (first | exact AllF.done rfl | (refine AllF.step rfl ?_ ?_;·(first | exact (Ob.ng rfl (ObK.pure (fun env R hR=>by exact ⟨_,uF rfl rfl (te rfl) rfl (te rfl) (by decide),rfl⟩) rfl (fun _=>rfl))).toR | exact (Ob.ng rfl (ObK.pure (fun env R hR=>by exact ⟨_,uL rfl rfl (uO (te rfl) rfl (hR _ (qH _)) rfl),rfl⟩) rfl (fun _=>rfl))).toR | exact (Ob.ng rfl (ObK.pure (fun env R hR=>by exact ⟨_,uL rfl rfl (uO (te rfl) rfl (hR _ (qT _ (qH _))) rfl),rfl⟩) rfl (fun _=>rfl))).toR | (refine ObR.ng rfl ?_;(first | ((refine fun env S hS hrd=>(StF.ofEv (v := .pointer (some ⟨bl,0 + d.a * 1,none⟩)) ?_).op.mono (fun v H' ⟨hv,hH⟩=>⟨(0,0),fun _=>hv,by rw [hH];exact List.Perm.refl _⟩);exact EvF.indexSlice (i:=(d.a : Int)) (off:=0) (b:=bl) (T:=38) (e:=3) (len:=n) (ti:=⟨.int .i64,1,8⟩) rfl rfl rfl (te rfl) (te rfl) (by omega) (by omega)))|((refine fun env S hS hrd=>(StF.ofEv (v := .pointer (some ⟨bl,0 + d.b * 1,none⟩)) ?_).op.mono (fun v H' ⟨hv,hH⟩=>⟨(0,0),fun _=>hv,by rw [hH];exact List.Perm.refl _⟩);exact EvF.indexSlice (i:=(d.b : Int)) (off:=0) (b:=bl) (T:=38) (e:=3) (len:=n) (ti:=⟨.int .i64,1,8⟩) rfl rfl rfl (te rfl) (te rfl) (by omega) (by omega)))|(exact fun env S hS hrd=>(StF.ofEv (uL rfl rfl (uO (te rfl) rfl (hrd 20 (qH _) _ (qH _)) hca))).op.mono (fun v H' ⟨hv,hH⟩=>⟨(0,0),fun _=>hv,by rw [hH];exact List.Perm.refl _⟩))|(exact fun env S hS hrd=>(StF.ofEv (uL rfl rfl (uO (te rfl) rfl (hrd 20 (qH _) _ (qH _)) hcb))).op.mono (fun v H' ⟨hv,hH⟩=>⟨(0,0),fun _=>hv,by rw [hH];exact List.Perm.refl _⟩))|(exact fun env S hS hrd=>(StF.ofEv (EvF.sub64 rfl rfl rfl (by omega) (by omega))).op.mono (fun v H' ⟨hv,hH⟩=>⟨(0,0),fun _=>hv,by rw [hH];exact List.Perm.refl _⟩))|(exact fun env S hS hrd=>(StF.ofEv (EvF.min64 rfl rfl rfl)).op.mono (fun v H' ⟨hv,hH⟩=>⟨(0,0),fun _=>hv,by rw [hH];exact List.Perm.refl _⟩))|(exact fun env S hS hrd=>(StF.storeOne (i:=0) (cs:=l2.flatMap cI) (j:=0 + d.b * 1) rfl rfl rfl rfl (te rfl) rfl rfl (by rw [lenI];omega)).op.mono (fun v H' ⟨hv,hH⟩=>⟨(0,0),fun h=>absurd rfl h,by rw [hH];exact by show List.Perm (⟨bl,0,(l2.flatMap cI).set (0 + d.b * 1) (.int .i64 (min (gt0 l2 d.b) (gt0 l2 d.a - d.s.lo))),some 3,n * 1⟩::S) _;rw [flat_set,show 0 + d.b * 1 = d.b by omega];exact List.Perm.refl _⟩)))))))
   intro env t3 ha3 hv
   refine ⟨_,ha3,?_⟩
   clear hv ha3
   exact ⟨[⟨bl,0,(rlx l2 ⟨d.b,d.a, -d.s.lo⟩).flatMap cI,some 3,n * 1⟩,⟨b6,0,[.slice (some ⟨bl,0,none⟩) n n],some 38,1⟩],qK _ (qC _ (qR _)),rfl,by rw [hl2e]⟩
  ·intro D1 _
   obtain ⟨l',hl'e⟩ : ∃ l',l' = rnd es l:=⟨_,rfl⟩
   rw [← hes, ← hl'e]
   obtain ⟨hl',hb'⟩:=hbl2 _ (List.prefix_refl _)
   rw [← hes, ← hl'e] at hl' hb'
   have hmr : mostL es (n - r) l = open Classical in if fitE (gt0 l') es then some l' else mostL es (n - (r + 1)) l' := by
    rw [show n - r = (n - (r + 1)) + 1 by omega,hl'e];rfl
   clear hl'e
   show XT _ _ _ _ (D1::Ds) (⟨bl,0,l'.flatMap cI,some 3,n * 1⟩::⟨b6,0,[.slice (some ⟨bl,0,none⟩) n n],some 38,1⟩::⟨bo,0,cCt R p a c,some 79,6⟩::⟨b2,0,cCt R p a c,some 79,6⟩::H) _
   refine XT.seq rfl (XT.seq rfl (XT.ofX ?_))
   obtain ⟨D2,hD2⟩ : ∃ D2,D2 = (D1::Ds).map dRow:=⟨_,rfl⟩
   rw [← hD2]
   refine X.weak (F' := [(2,.pointer (some ⟨b2,0,none⟩)),(6,.pointer (some ⟨b6,0,none⟩)),(24,.int .i64 n),(25,.int .i64 r)]) (H' := ⟨bl,0,l'.flatMap cI,some 3,n * 1⟩::⟨b6,0,[.slice (some ⟨bl,0,none⟩) n n],some 38,1⟩::⟨b2,0,cCt R p a c,some 79,6⟩::(H++D2)) (by repeat (first | exact uU _ | refine uV rfl ?_)) (by repeat (first | exact qR _ | apply qK | apply qC)) ?_
   clear hCs
   repeat' (first | (refine uP rfl ?_;(first | ((first | refine uN rfl ?_);(first | (refine uE (uL rfl rfl (uW (te rfl) rfl (qT _ (qT _ (qH _))) rfl)) rfl rfl ?_)|(refine uC (uT rfl (by (repeat (first | exact Args.nil | refine Args.cons rfl ?_));done)) rfl rfl (bounds_spec R p a c _) ?_;rintro _ _ ⟨b9,rfl,rfl⟩)))))|(refine uD rfl ?_;refine hK _ _ ?_;clear hK K) | refine uR rfl (fun K hK=>?_))
   refine ⟨⟨b9,0,cCt R p a c,some 79,6⟩::⟨bl,0,l'.flatMap cI,some 3,n * 1⟩::⟨b6,0,[.slice (some ⟨bl,0,none⟩) n n],some 38,1⟩::⟨b2,0,cCt R p a c,some 79,6⟩::H,qR _,XT.block rfl ?_⟩
   refine XT.weak (F' := [(2,.pointer (some ⟨b2,0,none⟩)),(6,.pointer (some ⟨b6,0,none⟩)),(24,.int .i64 n),(25,.int .i64 r),(69,.func (.func 127) #[] #[.pointer (some ⟨b9,0,none⟩)])]) (H' := ⟨b9,0,cCt R p a c,some 79,6⟩::⟨bl,0,l'.flatMap cI,some 3,n * 1⟩::⟨b6,0,[.slice (some ⟨bl,0,none⟩) n n],some 38,1⟩::⟨b2,0,cCt R p a c,some 79,6⟩::H) (by repeat (first | exact uU _ | refine uV rfl ?_)) (by repeat (first | exact qR _ | apply qK | apply qC)) ?_
   refine XT.perm (H' := [⟨bl,0,l'.flatMap cI,some 3,n * 1⟩,⟨b6,0,[.slice (some ⟨bl,0,none⟩) n n],some 38,1⟩]++(⟨b9,0,cCt R p a c,some 79,6⟩::⟨b2,0,cCt R p a c,some 79,6⟩::H)) (List.perm_middle (l₁:=[_,_])) ?_
   have hCs : CtOk (⟨b9,0,cCt R p a c,some 79,6⟩::⟨b2,0,cCt R p a c,some 79,6⟩::H) R p a:=hC.sub (fun _ h=>qT _ (qT _ h))
   refine XT.rangeD (ps:=[70]) rfl rfl (bounds1_itd R p a c b9 6 _ _ hr hm hCs (by omega) (by omega) (by omega) (qH _)) rfl (fun _=>rfl) (fun pre=>[⟨bl,0,l'.flatMap cI,some 3,n * 1⟩,⟨b6,0,[.slice (some ⟨bl,0,none⟩) n n],some 38,1⟩]) (okB l') (fun _=>[⟨bl,0,l'.flatMap cI,some 3,n * 1⟩,⟨b6,0,[.slice (some ⟨bl,0,none⟩) n n],some 38,1⟩]) (.exit 1) rfl ?_ ?_ (fun _ _ h=>by cases h) ?_ (.inr ⟨1,rfl⟩)
   ·intro pre d hpre _ Z
    have hdm : d ∈ bds R R.mats:=hpre.subset (List.mem_append_right _ List.mem_cons_self)
    obtain ⟨hda,hdb⟩:=hdin d hdm
    have hdd:=hdw d hdm
    have hva:=hb' d.a (by omega)
    have hvb:=hb' d.b (by omega)
    rw [okB_snoc]
    show X _ _ _ _ (⟨bl,0,l'.flatMap cI,some 3,n * 1⟩::⟨b6,0,[.slice (some ⟨bl,0,none⟩) n n],some 38,1⟩::Z) _
    repeat' (first | (refine uP rfl ?_;(first | ((first | refine uN rfl ?_);(first | (refine Xg.st (StF.alloc rfl Tryz.zeroValue159 rfl) rfl rfl ?_;rintro _ _ ⟨bx,rfl,rfl⟩)|(refine Xg.st0 (StF.storeAll (i:=0) rfl rfl rfl (te rfl) rfl rfl rfl rfl) rfl ?_;rintro _ _ ⟨rfl,rfl⟩;dsimp only [List.set])))))|(refine uD rfl ?_;refine hK _ _ ?_;clear hK K) | refine uR rfl (fun K hK=>?_))
    rename Nat=>b8
    refine ⟨rfl,[⟨b8,0,cBd d,some 159,4⟩,⟨bl,0,l'.flatMap cI,some 3,n * 1⟩,⟨b6,0,[.slice (some ⟨bl,0,none⟩) n n],some 38,1⟩],qR _,fun Z' => ?_⟩
    refine X.weak (F' := [(6,.pointer (some ⟨b6,0,none⟩)),(8,.pointer (some ⟨b8,0,none⟩))]) (H' := ⟨b8,0,cBd d,some 159,4⟩::⟨bl,0,l'.flatMap cI,some 3,n * 1⟩::⟨b6,0,[.slice (some ⟨bl,0,none⟩) n n],some 38,1⟩::Z') (by repeat (first | exact uU _ | refine uV rfl ?_)) (by repeat (first | exact qR _ | apply qK | apply qC)) ?_
    refine X.block rfl (uS rfl ?_)
    obtain ⟨w,hw⟩ : ∃ w,w = decide (d.s.lo ≤ gt0 l' d.a - gt0 l' d.b∧gt0 l' d.a - gt0 l' d.b ≤ d.s.hi):=⟨_,rfl⟩
    rw [← hw]
    refine X.regionOb tsMd [6,8] [(6,.pointer (some ⟨b6,0,none⟩)),(8,.pointer (some ⟨b8,0,none⟩))] (valMd b6 b8 bl n d l' w) (rowsMd b6 b8 bl n d l' w) (fun _=>(0,0)) (⟨b8,0,cBd d,some 159,4⟩::⟨bl,0,l'.flatMap cI,some 3,n * 1⟩::⟨b6,0,[.slice (some ⟨bl,0,none⟩) n n],some 38,1⟩::Z') rfl mixed (by repeat (first | exact uU _ | refine uV rfl ?_)) rfl (by kernel_rfl) (locMd b6 b8 bl n d l' w) (qR _) ?_ ?_
    ·have hca : (l'.flatMap cI)[0 + d.a * 1]? = some (.int .i64 (gt0 l' d.a)):=by rw [get_cell,show 0 + d.a * 1 = d.a by omega,gt0_get (by omega)];rfl
     have hcb : (l'.flatMap cI)[0 + d.b * 1]? = some (.int .i64 (gt0 l' d.b)):=by rw [get_cell,show 0 + d.b * 1 = d.b by omega,gt0_get (by omega)];rfl
     have hwv : decide (∀ x ∈ [gt0 l' d.a - gt0 l' d.b],d.s.lo ≤ x∧x ≤ d.s.hi)=w:=by rw [hw];simp
     repeat' (first | exact AllF.done rfl | (refine AllF.step rfl ?_ ?_;·(first | fail | ((first | refine Ob.ng rfl ?_);(first | exact ObK.pure (fun env R hR=>by exact ⟨_,uF rfl rfl (te rfl) rfl (te rfl) (by decide),rfl⟩) rfl (fun _=>rfl) | exact ObK.pure (fun env R hR=>by exact ⟨_,EvF.not rfl rfl,rfl⟩) rfl (fun _=>rfl) | exact ObK.pure (fun env R hR=>by exact ⟨_,uL rfl rfl (uO (te rfl) rfl (hR _ (qH _)) rfl),rfl⟩) rfl (fun _=>rfl) | exact ObK.pure (fun env R hR=>by exact ⟨_,uL rfl rfl (uO (te rfl) rfl (hR _ (qT _ (qT _ (qH _)))) rfl),rfl⟩) rfl (fun _=>rfl) | exact ObK.pure (fun env R hR=>by exact ⟨_,uL rfl rfl (LoadV.ownAgg (te rfl) rfl (hR _ (qH _)) rfl rfl),rfl⟩) rfl (fun _=>rfl)|(exact ObK.pure (fun env S hS=>⟨_,uL rfl rfl (uO (te rfl) rfl (hS _ (qT _ (qH _))) hca),rfl⟩) rfl (fun _=>rfl))|(exact ObK.pure (fun env S hS=>⟨_,uL rfl rfl (uO (te rfl) rfl (hS _ (qT _ (qH _))) hcb),rfl⟩) rfl (fun _=>rfl))|((refine ObK.pure (fun env S hS=>⟨.pointer (some ⟨bl,0 + d.a * 1,none⟩),?_,rfl⟩) rfl (fun _=>rfl);exact EvF.indexSlice (i:=(d.a : Int)) (off:=0) (b:=bl) (T:=38) (e:=3) (len:=n) (ti:=⟨.int .i64,1,8⟩) rfl rfl rfl (te rfl) (te rfl) (by omega) (by omega)))|((refine ObK.pure (fun env S hS=>⟨.pointer (some ⟨bl,0 + d.b * 1,none⟩),?_,rfl⟩) rfl (fun _=>rfl);exact EvF.indexSlice (i:=(d.b : Int)) (off:=0) (b:=bl) (T:=38) (e:=3) (len:=n) (ti:=⟨.int .i64,1,8⟩) rfl rfl rfl (te rfl) (te rfl) (by omega) (by omega)))|(exact fun env S hS=>(StF.buildOne rfl el55 rfl rfl rfl (by decide) (by decide)).op.mono (fun v H' ⟨b,hv,hH⟩=>⟨(b,1),fun _=>hv,by rw [hH];exact List.Perm.refl _⟩))|(exact fun env S hS=>OpF.callV (uT rfl (Args.cons rfl (Args.cons rfl Args.nil))) (withinL_spec d.s [gt0 l' d.a - gt0 l' d.b] _ _ _ (SlE.ofRow (l:=[gt0 l' d.a - gt0 l' d.b]) (qH _) (fun _ _=>rfl)) (by simp)) (congrArg Value.bool hwv) rfl)|(exact ObK.pure (fun env S hS=>⟨_,EvF.sub64 rfl rfl rfl (by omega) (by omega),rfl⟩) rfl (fun _=>rfl)))))))
    ·intro env t4 ha4 hv
     refine ⟨_,ha4.cons (hv 15 86 (Nat.le_of_ble_eq_true rfl) rfl),?_⟩
     clear hv ha4
     cases w
     ·repeat' (first | (refine X.brk rfl ?_;repeat (first | refine blockX_hit rfl ?_ | refine blockX_miss (by decide) ?_)) | refine X.skip rfl ?_ | (refine X.ite rfl rfl (fun hc=>?_);(first | (with_reducible refine Xb.caseB hc (fun h=>?_) (fun h=>?_))) <;> clear hc))
      all_goals try (exfalso;contradiction)
      exact ⟨[⟨bl,0,l'.flatMap cI,some 3,n * 1⟩,⟨b6,0,[.slice (some ⟨bl,0,none⟩) n n],some 38,1⟩],qC _ (qR _),rfl,rfl,rfl⟩
     ·repeat' (first | (refine X.brk rfl ?_;repeat (first | refine blockX_hit rfl ?_ | refine blockX_miss (by decide) ?_)) | refine X.skip rfl ?_ | (refine X.ite rfl rfl (fun hc=>?_);(first | (with_reducible refine Xb.caseB hc (fun h=>?_) (fun h=>?_))) <;> clear hc))
      all_goals try (exfalso;contradiction)
      exact ⟨[⟨bl,0,l'.flatMap cI,some 3,n * 1⟩,⟨b6,0,[.slice (some ⟨bl,0,none⟩) n n],some 38,1⟩],qC _ (qR _),rfl,rfl⟩
   ·intro D3 hall
    have hfit : fitE (gt0 l') es:=by rw [hes];exact fitB_edges.2 (okB_all hall)
    rw [if_pos hfit] at hmr
    show XT _ _ _ _ (D3::D1::Ds) (⟨bl,0,l'.flatMap cI,some 3,n * 1⟩::⟨b6,0,[.slice (some ⟨bl,0,none⟩) n n],some 38,1⟩::⟨b9,0,cCt R p a c,some 79,6⟩::⟨b2,0,cCt R p a c,some 79,6⟩::H) _
    refine XT.seq rfl (XT.ofX ?_)
    obtain ⟨D4,hD4⟩ : ∃ D4,D4 = (D3::D1::Ds).map dRow:=⟨_,rfl⟩
    rw [← hD4]
    repeat' (first | (refine uP rfl ?_;(first | ((first | refine uN rfl ?_);(first | (refine uE (uL rfl rfl (uO (te rfl) rfl (qT _ (qH _)) rfl)) rfl rfl ?_)|(refine uE (uA rfl rfl) rfl rfl ?_)))))|(refine uD rfl ?_;refine hK _ _ ?_;clear hK K) | refine uR rfl (fun K hK=>?_))
    refine ⟨_,qR _,XT.ofX ?_⟩
    repeat' (first | refine X.ret rfl ?_)
    refine ⟨_,qR _,?_⟩
    exact retT_two (by simp) Tryz.results83 rfl rfl (H' := ⟨bl,0,l'.flatMap cI,some 3,n * 1⟩::H) (qK _ (qC _ (qC _ (qC _ (qR _))))) (.inr ⟨l',bl,n,hml.trans hmr,rfl,rfl⟩)
   ·intro D3 id pre hid hpre hno
    cases hid
    have hfit : ¬ fitE (gt0 l') es:=fun q=>by rw [hes] at q;exact okB_no hpre hno (fitB_edges.1 q)
    rw [if_neg hfit] at hmr
    show XT _ _ _ _ (D3::D1::Ds) (⟨bl,0,l'.flatMap cI,some 3,n * 1⟩::⟨b6,0,[.slice (some ⟨bl,0,none⟩) n n],some 38,1⟩::⟨b9,0,cCt R p a c,some 79,6⟩::⟨b2,0,cCt R p a c,some 79,6⟩::H) _
    refine XT.ofX ?_
    repeat' (first | (refine uP rfl ?_;(first | ((first | refine uN rfl ?_);(first | (refine uE (uM rfl rfl) rfl rfl ?_)|(refine uE (EvF.add64 rfl rfl rfl (by omega) (by omega)) rfl rfl ?_)))))|(refine uD rfl ?_;refine hK _ _ ?_;clear hK K) | refine uR rfl (fun K hK=>?_))
    refine ⟨_,qR _,?_⟩
    refine ⟨_,[(2,.pointer (some ⟨b2,0,none⟩)),(6,.pointer (some ⟨b6,0,none⟩)),(24,.int .i64 n),(25,.int .i64 (r + 1 : Nat))],⟨bl,0,l'.flatMap cI,some 3,n * 1⟩::⟨b6,0,[.slice (some ⟨bl,0,none⟩) n n],some 38,1⟩::⟨b2,0,cCt R p a c,some 79,6⟩::H,(by repeat (first | exact uU _ | refine uV rfl ?_)),(by repeat (first | exact qR _ | apply qK | apply qC)),⟨r + 1,l',rfl,by omega,hl',hb'.mono (by omega),hml.trans hmr,rfl,rfl⟩,by omega⟩
 ·have hr2 : r = n:=by omega
  subst hr2
  rw [Nat.sub_self] at hml
  refine ⟨⟨bl,0,l.flatMap cI,some 3,r * 1⟩::⟨b6,0,[.slice (some ⟨bl,0,none⟩) r r],some 38,1⟩::⟨b2,0,cCt R p a c,some 79,6⟩::H,qR _,?_⟩
  show XT _ _ _ _ Ds (⟨bl,0,l.flatMap cI,some 3,r * 1⟩::⟨b6,0,[.slice (some ⟨bl,0,none⟩) r r],some 38,1⟩::⟨b2,0,cCt R p a c,some 79,6⟩::H) _
  refine XT.seq rfl (XT.ofX ?_)
  rw [← hD]
  repeat' (first | (refine uP rfl ?_;(first | ((first | refine uN rfl ?_);(first | (refine uE (uA rfl rfl) rfl rfl ?_)))))|(refine uD rfl ?_;refine hK _ _ ?_;clear hK K) | refine uR rfl (fun K hK=>?_))
  refine ⟨⟨bl,0,l.flatMap cI,some 3,r * 1⟩::⟨b6,0,[.slice (some ⟨bl,0,none⟩) r r],some 38,1⟩::⟨b2,0,cCt R p a c,some 79,6⟩::H,qR _,XT.ofX ?_⟩
  repeat' (first | refine X.ret rfl ?_)
  refine ⟨_,qR _,?_⟩
  exact retT_two (by simp) Tryz.results83 rfl rfl (H' := H) (qC _ (qC _ (qC _ (qR _)))) (.inl ⟨hml,rfl,rfl⟩)
end Go.Proofs.YtmfppdpkalelhaaGreat
end
section
set_option linter.unusedVariables false
set_option linter.unusedSimpArgs false
namespace Go.Proofs.YtmfppdpkalelhaaGreat
open Go Go.Fw
set_option maxRecDepth 10000
theorem bxAt_mem {R : Rm} {id : Int} (h : 0 ≤ index R.boxes id) : bxAt R.boxes id ∈ R.boxes:=List.mem_of_getElem? (index_get h)
theorem bxAt_id : ∀ (l : List Bx) (id : Int),0 ≤ index l id → (bxAt l id).id = id:=by
 intro l id h
 exact index_id l id _ h (index_get h)
theorem okMats_mem (R : Rm) : ∀ (l : List Mt) (p : Int),okMats R p l → ∀ x ∈ l,matchOk R x
 | [],_,_,_,h=>absurd h List.not_mem_nil
 | c::l,p,h,x,hx=>by
  rcases List.mem_cons.1 hx with rfl | hx
  ·exact h.2.2.1
  ·exact okMats_mem R l c.number h.2.2.2 x hx
theorem matchOk.there {R : Rm} {x : Mt} (h : matchOk R x) : (∃ b,there R b x.month∧b.id = x.a)∧(∃ b,there R b x.month∧b.id = x.b) ∧ -60 ≤ x.lo∧x.lo ≤ x.hi∧x.hi ≤ 60:=by
 obtain ⟨h1,h2,_,h4,h5,h6,h7,h8,h9,h10⟩:=h
 exact ⟨⟨_,⟨bxAt_mem h1,h6,h5⟩,bxAt_id _ _ h1⟩,⟨_,⟨bxAt_mem h2,h7,h5⟩,bxAt_id _ _ h2⟩,h8,h9,h10⟩
theorem roomOk.mats {R : Rm} (h : roomOk R) : matsThere R R.mats:=fun x hx=>(okMats_mem R R.mats 0 h.2.2.2 x hx).there
theorem hasT_iff {R : Rm} {k : Nat} (hr : okRm R) (hm : matsThere R R.mats) (hk : k < (plcs R).length) : hasT R R.mats ↔ ∃ t,mostR R R.mats k = some t:=by
 constructor
 ·intro h
  cases q : mostR R R.mats k with
  | none=>exact absurd h (most_none hr hm hk q)
  | some t=>exact ⟨t,rfl⟩
 ·rintro ⟨t,ht⟩
  exact ⟨_,(most_some hr hm hk ht).tru hr⟩
noncomputable instance (R : Rm) (M : List Mt) : Decidable (hasT R M):=Classical.propDecidable _
theorem zp_mem (R : Rm) : zp ∈ plcs R:=List.mem_cons_self
theorem mostS_spec (R : Rm) (p : Pl) (a : Option Addr) (c : Nat) (f : Pk) (t : List Int) (H : List Row) (hr : okRm R) (hm : matsThere R R.mats) (hC : CtOk H R p a) (hla : R.ages.length ≤ 1000) (hlm : R.mats.length ≤ 1000) (hpc : (plcs R).length ≤ c) (hf : f ∈ plcs R) (ht : mostR R R.mats (pidx R f)=some t) :
  Fc Tryz.prog 83 [.agg (cCt R p a c).toArray,.agg (cPk f).toArray] H (fun v H' => ∃ b k,v = .tuple #[.slice (some ⟨b,0,none⟩) (plcs R).length k,.bool true]∧H' = ⟨b,0,t.flatMap cI,some 3,k * 1⟩::H):=by
 refine (most_spec R p a c f H hr hm hC hla hlm hpc hf).mono fun v H' h=>?_
 rcases h with ⟨h,_⟩ | ⟨t',b,k,h,h1,h2⟩
 ·rw [ht] at h;cases h
 ·rw [ht] at h;cases h
  exact ⟨b,k,h1,h2⟩
theorem can_spec (R : Rm) (p : Pl) (a : Option Addr) (c : Nat) (H : List Row) (hr : okRm R) (hm : matsThere R R.mats) (hC : CtOk H R p a) (hla : R.ages.length ≤ 1000) (hlm : R.mats.length ≤ 1000) (hpc : (plcs R).length ≤ c) :
  Fc Tryz.prog 73 [.agg (cCt R p a c).toArray] H (fun v H' => v = .bool (decide (hasT R R.mats))∧H' = H):=by
 have hz : pidx R zp < (plcs R).length:=pidx_lt (zp_mem R)
 cases q : mostR R R.mats (pidx R zp) with
 | none =>
  have hT : ¬ hasT R R.mats:=most_none hr hm hz q
  rw [decide_eq_false hT]
  have hms : ∀ H',CtOk H' R p a → Fc Tryz.prog 83 [.agg (cCt R p a c).toArray,.agg (cPk zp).toArray] H' (fun v H'' => v = .tuple #[.slice none 0 0,.bool false]∧H'' = H'):=fun H' hC' => (most_spec R p a c zp H' hr hm hC' hla hlm hpc (zp_mem R)).mono fun v H'' h=>by
   rcases h with ⟨_,h1,h2⟩ | ⟨t',b,k,h,h1,h2⟩
   ·exact ⟨h1,h2⟩
   ·rw [q] at h;cases h
  refine Fc.mk (callable Tryz.call73) Tryz.func73 rfl Tryz.ntmps73 rfl ?_;dsimp only [fr]
  repeat' (first | (refine uP rfl ?_;(first | ((first | refine uN rfl ?_);(first | (refine uE (uL rfl rfl (uW (te rfl) rfl (qH _) rfl)) rfl rfl ?_)|(refine uE (EvF.build (cs:=cPk zp) rfl ArgsP.nil (te rfl) (Places.cons (te rfl) (Places.cons (te rfl) Places.nil)) Tryz.zeroValue86 rfl) rfl rfl ?_)|(refine uC (uT rfl (Args.cons rfl (Args.cons rfl Args.nil))) rfl rfl (hms _ (hC.sub (fun _ h=>by repeat (first | exact h | apply qT)))) ?_;rintro _ H9 ⟨rfl,hH9⟩;subst H9)|(refine uE (uM rfl rfl) rfl rfl ?_)|(refine uE (uA rfl rfl) rfl rfl ?_)|(refine uE (uX rfl rfl rfl) rfl rfl ?_)|(refine Xg.st (StF.boxAgg rfl rfl) rfl rfl ?_;rintro _ _ ⟨bx,rfl,rfl⟩)))))|(refine uD rfl ?_;refine hK _ _ ?_;clear hK K) | refine uS rfl ?_ | refine uR rfl (fun K hK=>?_) | refine X.ret rfl ?_)
  refine ret_one (by simp) Tryz.results73 rfl (H' := H) (by (repeat (first | exact qR _ | apply qC));done) ?_;simp only [and_true,true_and]
 | some t =>
  have hT : hasT R R.mats:=(hasT_iff hr hm hz).2 ⟨t,q⟩
  rw [decide_eq_true hT]
  refine Fc.mk (callable Tryz.call73) Tryz.func73 rfl Tryz.ntmps73 rfl ?_;dsimp only [fr]
  repeat' (first | (refine uP rfl ?_;(first | ((first | refine uN rfl ?_);(first | (refine uE (uL rfl rfl (uW (te rfl) rfl (qH _) rfl)) rfl rfl ?_)|(refine uE (EvF.build (cs:=cPk zp) rfl ArgsP.nil (te rfl) (Places.cons (te rfl) (Places.cons (te rfl) Places.nil)) Tryz.zeroValue86 rfl) rfl rfl ?_)|(refine uC (uT rfl (by (repeat (first | exact Args.nil | refine Args.cons rfl ?_));done)) rfl rfl (mostS_spec R p a c zp t _ hr hm (hC.sub (fun _ h=>by repeat (first | exact h | apply qT))) hla hlm hpc (zp_mem R) q) ?_;rintro _ _ ⟨b,k,rfl,rfl⟩)|(refine uE (uM rfl rfl) rfl rfl ?_)|(refine uE (uA rfl rfl) rfl rfl ?_)|(refine uE (uX rfl rfl rfl) rfl rfl ?_)|(refine Xg.st (StF.boxAgg rfl rfl) rfl rfl ?_;rintro _ _ ⟨bx,rfl,rfl⟩)))))|(refine uD rfl ?_;refine hK _ _ ?_;clear hK K) | refine uS rfl ?_ | refine uR rfl (fun K hK=>?_) | refine X.ret rfl ?_)
  refine ret_one (by simp) Tryz.results73 rfl (H' := H) (by (repeat (first | exact qR _ | apply qC));done) ?_;simp only [and_true,true_and]
def tsDf : List TOp:=[⟨some 23,[],[],[]⟩,⟨some 24,[],[],[]⟩,⟨some 25,[],[],[]⟩,⟨some 26,[2],[2],[]⟩,⟨some 27,[],[],[]⟩,⟨some 28,[4],[4],[]⟩,⟨some 29,[1,2,3,4,5],[1,3,5],[]⟩,⟨some 30,[0,1,2,3,4,5,6],[0,6],[]⟩,⟨some 31,[0,1,2,3,4,5,6,7],[7],[]⟩,⟨some 32,[0,1,2,3,4,5,6,7,8],[8],[]⟩,⟨some 33,[],[],[]⟩,⟨some 34,[],[],[]⟩,⟨some 35,[],[],[]⟩,⟨some 36,[12],[12],[]⟩,⟨some 37,[],[],[]⟩,⟨some 38,[14],[14],[]⟩,⟨some 39,[1,2,3,4,5,6,11,12,13,14,15],[11,13,15],[]⟩,⟨some 40,[1,2,3,4,5,6,10,11,12,13,14,15,16],[10,16],[]⟩,⟨some 41,[1,2,3,4,5,6,10,11,12,13,14,15,16,17],[17],[]⟩,⟨some 42,[0,1,2,3,4,5,6,7,8,9,10,11,12,13,14,15,16,17,18],[9,18],[]⟩,⟨none,[0,1,2,3,4,5,6,7,8,9,10,11,12,13,14,15,16,17,18,19],[19],[21]⟩,⟨none,[],[],[]⟩]
def valDf (b3 b4 b5 b6 bu bd ku kd n ia ib : Nat) (R : Rm) (p : Pl) (a : Option Addr) (c : Nat) (x y : Pk) (u v : Int) (k : Nat) (env : Env) : Value :=
 match k with
 | 0 => .slice (some ⟨bd,0,none⟩) n kd
 | 1 => .agg (cCt R p a c).toArray
 | 2 => .pointer (some ⟨b5,0,none⟩)
 | 3 => .int .i64 y.box
 | 4 => .pointer (some ⟨b5,1,none⟩)
 | 5 => .int .i64 y.month
 | 6 => .int .i64 (ib : Nat)
 | 7 => .pointer (some ⟨bd,0 + ib * 1,none⟩)
 | 8 => .int .i64 v
 | 9 => .int .i64 (-v)
 | 10 => .slice (some ⟨bu,0,none⟩) n ku
 | 11 => .agg (cCt R p a c).toArray
 | 12 => .pointer (some ⟨b4,0,none⟩)
 | 13 => .int .i64 x.box
 | 14 => .pointer (some ⟨b4,1,none⟩)
 | 15 => .int .i64 x.month
 | 16 => .int .i64 (ia : Nat)
 | 17 => .pointer (some ⟨bu,0 + ia * 1,none⟩)
 | 18 => .int .i64 u
 | 19 => .agg (cSp ⟨-v,u⟩).toArray
 | 20=>undef
 | _=>undef
def rowsDf (b3 b4 b5 b6 bu bd ku kd n ia ib : Nat) (R : Rm) (p : Pl) (a : Option Addr) (c : Nat) (x y : Pk) (u v : Int) (k : Nat) (env : Env) : List Row :=
 match k with
 | 20=>[⟨b6,0,cSp ⟨-v,u⟩,some 24,2⟩]
 | 21=>[⟨b6,0,cSp ⟨0,0⟩,some 24,2⟩]
 | _=>[]
theorem locDf (b3 b4 b5 b6 bu bd ku kd n ia ib : Nat) (R : Rm) (p : Pl) (a : Option Addr) (c : Nat) (x y : Pk) (u v : Int) : ∀ k env i q9,i ≠ k → (tAt tsDf k).sup.contains i = false → valDf b3 b4 b5 b6 bu bd ku kd n ia ib R p a c x y u v k (upd env i q9)=valDf b3 b4 b5 b6 bu bd ku kd n ia ib R p a c x y u v k env∧rowsDf b3 b4 b5 b6 bu bd ku kd n ia ib R p a c x y u v k (upd env i q9)=rowsDf b3 b4 b5 b6 bu bd ku kd n ia ib R p a c x y u v k env:=by
 intro k env i q hk hs
 have hu : ∀ j,j ≠ i → upd env i q j = env j:=fun j hj=>by unfold upd;rw [if_neg hj]
 match k,hk,hs with
 | 0,_,_=>exact ⟨rfl,rfl⟩
 | 1,_,_=>exact ⟨rfl,rfl⟩
 | 2,_,_=>exact ⟨rfl,rfl⟩
 | 3,_,_=>exact ⟨rfl,rfl⟩
 | 4,_,_=>exact ⟨rfl,rfl⟩
 | 5,_,_=>exact ⟨rfl,rfl⟩
 | 6,_,_=>exact ⟨rfl,rfl⟩
 | 7,_,_=>exact ⟨rfl,rfl⟩
 | 8,_,_=>exact ⟨rfl,rfl⟩
 | 9,_,_=>exact ⟨rfl,rfl⟩
 | 10,_,_=>exact ⟨rfl,rfl⟩
 | 11,_,_=>exact ⟨rfl,rfl⟩
 | 12,_,_=>exact ⟨rfl,rfl⟩
 | 13,_,_=>exact ⟨rfl,rfl⟩
 | 14,_,_=>exact ⟨rfl,rfl⟩
 | 15,_,_=>exact ⟨rfl,rfl⟩
 | 16,_,_=>exact ⟨rfl,rfl⟩
 | 17,_,_=>exact ⟨rfl,rfl⟩
 | 18,_,_=>exact ⟨rfl,rfl⟩
 | 19,_,_=>exact ⟨rfl,rfl⟩
 | 20,_,_=>exact ⟨rfl,rfl⟩
 | 21,_,_=>exact ⟨rfl,rfl⟩
 | _ + 22,_,_=>exact ⟨rfl,rfl⟩
set_option maxHeartbeats 8000000 in
theorem differ_spec (R : Rm) (p : Pl) (a : Option Addr) (c : Nat) (x y : Pk) (H : List Row) (hr : okRm R) (hm : matsThere R R.mats) (hC : CtOk H R p a) (hla : R.ages.length ≤ 1000) (hlm : R.mats.length ≤ 1000) (hpc : (plcs R).length ≤ c) (hx : x ∈ plcs R) (hy : y ∈ plcs R) (hT : hasT R R.mats) :
  Fc Tryz.prog 44 [.agg (cCt R p a c).toArray,.agg (cPk x).toArray,.agg (cPk y).toArray] H (fun v H' => v = .agg (cSp (rng R R.mats x y)).toArray∧H' = H):=by
 obtain ⟨tx,htx⟩:=(hasT_iff hr hm (pidx_lt hx)).1 hT
 obtain ⟨ty,hty⟩:=(hasT_iff hr hm (pidx_lt hy)).1 hT
 have hpx:=most_some hr hm (pidx_lt hx) htx
 have hpy:=most_some hr hm (pidx_lt hy) hty
 have hrng:=rng_eq (most_rng hr hx hy hpy hpx)
 rw [hrng]
 have hbd : -60 ≤ gt0 tx (pidx R y)∧gt0 tx (pidx R y)≤60:=by
  have h1:=hpx.tru hr
  have h2:=h1.in60 hr hx
  have h3:=h1.in60 hr hy
  have h4:=hpx.at0
  omega
 have hlx:=hpx.len
 have hly:=hpy.len
 have hix:=pidx_lt hx
 have hiy:=pidx_lt hy
 have hpl:=plcs_len hr
 have hzx : atZ R ⟨x.box,x.month⟩ = (pidx R x : Nat):=by unfold atZ;rw [if_pos hx]
 have hzy : atZ R ⟨y.box,y.month⟩ = (pidx R y : Nat):=by unfold atZ;rw [if_pos hy]
 have hatx:=fun H' hH' => at_spec R p a c x.box x.month H' hr hH'
 have haty:=fun H' hH' => at_spec R p a c y.box y.month H' hr hH'
 rw [hzx] at hatx
 rw [hzy] at haty
 refine Fc.mk (callable Tryz.call44) Tryz.func44 rfl Tryz.ntmps44 rfl ?_;dsimp only [fr]
 refine uS rfl ?_;refine uR rfl (fun K hK=>?_);repeat' (first | (refine uP rfl ?_;(first | ((first | refine uN rfl ?_);(first | (refine Xg.st (StF.boxAgg rfl rfl) rfl rfl ?_;rintro _ _ ⟨bx,rfl,rfl⟩)|(refine Xg.st (StF.alloc rfl Tryz.zeroValue24 rfl) rfl rfl ?_;rintro _ _ ⟨bx,rfl,rfl⟩)))))|(refine uD rfl ?_;refine hK _ _ ?_;clear hK K))
 rename_i b3 b4 b5
 generalize bx = b6
 repeat' (first | (refine uP rfl ?_;(first | ((first | refine uN rfl ?_);(first | (refine uE (uL rfl rfl (uW (T:=79) (cs:=cCt R p a c) (te rfl) rfl (by repeat (first | exact qH _ | apply qT)) rfl)) rfl rfl ?_)|(refine uC (uT rfl (Args.cons rfl (Args.cons rfl Args.nil))) rfl rfl (mostS_spec R p a c y ty _ hr hm (hC.sub (fun _ h=>by repeat (first | exact h | apply qT))) hla hlm hpc hy hty) ?_;rintro _ _ ⟨bu,ku,rfl,rfl⟩)|(refine uC (uT rfl (Args.cons rfl (Args.cons rfl Args.nil))) rfl rfl (mostS_spec R p a c x tx _ hr hm (hC.sub (fun _ h=>by repeat (first | exact h | apply qT))) hla hlm hpc hx htx) ?_;rintro _ _ ⟨bd,kd,rfl,rfl⟩)|(refine uE (uM rfl rfl) rfl rfl ?_)|(refine uE (uA rfl rfl) rfl rfl ?_)|(refine uE (uL rfl rfl (uW (te rfl) rfl (qT _ (qH _)) rfl)) rfl rfl ?_)|(refine uE (uL rfl rfl (uW (te rfl) rfl (qT _ (qT _ (qT _ (qH _)))) rfl)) rfl rfl ?_)|(refine uE (uX rfl rfl rfl) rfl rfl ?_)))))|(refine uD rfl ?_;refine hK _ _ ?_;clear hK K) | refine uS rfl ?_ | refine uR rfl (fun K hK=>?_))
 refine X.permH (H' := ⟨b6,0,cSp ⟨0,0⟩,some 24,2⟩::⟨bd,0,tx.flatMap cI,some 3,kd * 1⟩::⟨bu,0,ty.flatMap cI,some 3,ku * 1⟩::⟨b5,0,cPk y,some 86,2⟩::⟨b4,0,cPk x,some 86,2⟩::⟨b3,0,cCt R p a c,some 79,6⟩::H) (List.perm_middle (l₁:=[_,_])).symm ?_
 refine X.regionOb tsDf [3,4,5,6,7,9] [(3,.pointer (some ⟨b3,0,none⟩)),(4,.pointer (some ⟨b4,0,none⟩)),(5,.pointer (some ⟨b5,0,none⟩)),(6,.pointer (some ⟨b6,0,none⟩)),(7,.slice (some ⟨bu,0,none⟩) (plcs R).length ku),(9,.slice (some ⟨bd,0,none⟩) (plcs R).length kd)] (valDf b3 b4 b5 b6 bu bd ku kd (plcs R).length (pidx R x) (pidx R y) R p a c x y (gt0 ty (pidx R x)) (gt0 tx (pidx R y))) (rowsDf b3 b4 b5 b6 bu bd ku kd (plcs R).length (pidx R x) (pidx R y) R p a c x y (gt0 ty (pidx R x)) (gt0 tx (pidx R y))) (fun _=>(0,0)) (⟨bd,0,tx.flatMap cI,some 3,kd * 1⟩::⟨bu,0,ty.flatMap cI,some 3,ku * 1⟩::⟨b5,0,cPk y,some 86,2⟩::⟨b4,0,cPk x,some 86,2⟩::⟨b3,0,cCt R p a c,some 79,6⟩::H) rfl mixed (by repeat (first | exact uU _ | refine uV rfl ?_)) rfl (by kernel_rfl) (locDf b3 b4 b5 b6 bu bd ku kd (plcs R).length (pidx R x) (pidx R y) R p a c x y (gt0 ty (pidx R x)) (gt0 tx (pidx R y))) (qR _) ?_ ?_
 ·have hCs : ∀ S : List Row,(∀ r ∈ ⟨bd,0,tx.flatMap cI,some 3,kd * 1⟩::⟨bu,0,ty.flatMap cI,some 3,ku * 1⟩::⟨b5,0,cPk y,some 86,2⟩::⟨b4,0,cPk x,some 86,2⟩::⟨b3,0,cCt R p a c,some 79,6⟩::H,r ∈ S) → CtOk S R p a:=fun S hS=>hC.sub (fun r h=>hS r (List.mem_append_right [_,_,_,_,_] h))
  have hcu : (ty.flatMap cI)[0 + pidx R x * 1]? = some (.int .i64 (gt0 ty (pidx R x))):=by rw [get_cell,show 0 + pidx R x * 1 = pidx R x by omega,gt0_get (by omega)];rfl
  have hcd : (tx.flatMap cI)[0 + pidx R y * 1]? = some (.int .i64 (gt0 tx (pidx R y))):=by rw [get_cell,show 0 + pidx R y * 1 = pidx R y by omega,gt0_get (by omega)];rfl
  repeat' (first | exact AllF.done rfl | (refine AllF.step rfl ?_ ?_;·(first | fail | ((first | refine Ob.ng rfl ?_);(first | exact ObK.pure (fun env R hR=>by exact ⟨_,uM rfl rfl,rfl⟩) rfl (fun _=>rfl) | exact ObK.pure (fun env R hR=>by exact ⟨_,uF rfl rfl (te rfl) rfl (te rfl) (by decide),rfl⟩) rfl (fun _=>rfl) | exact ObK.pure (fun env R hR=>by exact ⟨_,uL rfl rfl (uO (te rfl) rfl (hR _ (qT _ (qT _ (qH _)))) rfl),rfl⟩) rfl (fun _=>rfl) | exact ObK.pure (fun env R hR=>by exact ⟨_,uL rfl rfl (uO (te rfl) rfl (hR _ (qT _ (qT _ (qT _ (qH _))))) rfl),rfl⟩) rfl (fun _=>rfl)|(exact ObK.pure (fun env S hS=>⟨_,uL rfl rfl (uW (te rfl) rfl (hS _ (qT _ (qT _ (qT _ (qT _ (qH _)))))) rfl),rfl⟩) rfl (fun _=>rfl))|(exact fun env S hS=>OpF.callV (Z:=[]) (uT rfl (Args.cons rfl (Args.cons rfl (Args.cons rfl Args.nil)))) (hatx _ (hCs _ hS)) rfl rfl)|(exact fun env S hS=>OpF.callV (Z:=[]) (uT rfl (Args.cons rfl (Args.cons rfl (Args.cons rfl Args.nil)))) (haty _ (hCs _ hS)) rfl rfl)|(exact ObK.pure (fun env S hS=>⟨_,uL rfl rfl (uO (te rfl) rfl (hS _ (qH _)) hcd),rfl⟩) rfl (fun _=>rfl))|(exact ObK.pure (fun env S hS=>⟨_,uL rfl rfl (uO (te rfl) rfl (hS _ (qT _ (qH _))) hcu),rfl⟩) rfl (fun _=>rfl))|((refine ObK.pure (fun env S hS=>⟨.pointer (some ⟨bd,0 + pidx R y * 1,none⟩),?_,rfl⟩) rfl (fun _=>rfl);exact EvF.indexSlice (i:=(pidx R y : Int)) (off:=0) (b:=bd) (T:=38) (e:=3) (len:=(plcs R).length) (ti:=⟨.int .i64,1,8⟩) rfl rfl rfl (te rfl) (te rfl) (by omega) (by omega)))|((refine ObK.pure (fun env S hS=>⟨.pointer (some ⟨bu,0 + pidx R x * 1,none⟩),?_,rfl⟩) rfl (fun _=>rfl);exact EvF.indexSlice (i:=(pidx R x : Int)) (off:=0) (b:=bu) (T:=38) (e:=3) (len:=(plcs R).length) (ti:=⟨.int .i64,1,8⟩) rfl rfl rfl (te rfl) (te rfl) (by omega) (by omega)))|(exact ObK.pure (fun env S hS=>⟨_,EvF.neg64 rfl rfl (by omega) (by omega),rfl⟩) rfl (fun _=>rfl))|(exact ObK.pure (fun env S hS=>⟨_,EvF.build (cs:=cSp ⟨-(gt0 tx (pidx R y)),gt0 ty (pidx R x)⟩) rfl (ArgsP.cons rfl (ArgsP.cons rfl ArgsP.nil)) (te rfl) (Places.cons (te rfl) (Places.cons (te rfl) Places.nil)) Tryz.zeroValue24 rfl,rfl⟩) rfl (fun _=>rfl))|(exact fun env S hS=>(StF.storeAll (i:=0) (cs:=cSp ⟨0,0⟩) (vs:=cSp ⟨-(gt0 tx (pidx R y)),gt0 ty (pidx R x)⟩) rfl rfl rfl (te rfl) rfl rfl rfl rfl).op.mono (fun v H' ⟨hv,hH⟩=>⟨(0,0),fun h=>absurd rfl h,by rw [hH];exact List.Perm.refl _⟩)))))))
 intro env t ha2 hv
 refine ⟨_,ha2,?_⟩
 clear hv ha2
 show X _ _ _ _ (⟨b6,0,cSp ⟨-(gt0 tx (pidx R y)),gt0 ty (pidx R x)⟩,some 24,2⟩::⟨bd,0,tx.flatMap cI,some 3,kd * 1⟩::⟨bu,0,ty.flatMap cI,some 3,ku * 1⟩::⟨b5,0,cPk y,some 86,2⟩::⟨b4,0,cPk x,some 86,2⟩::⟨b3,0,cCt R p a c,some 79,6⟩::H) _
 clear env
 repeat' (first | refine X.ret rfl ?_)
 exact ret_one (by simp) Tryz.results44 ⟨_,rfl,uW (te rfl) rfl (qH _) rfl⟩ (H' := H) (by (repeat (first | exact qR _ | apply qC));done) ⟨rfl,rfl⟩
theorem yellow_spec (R : Rm) (p : Pl) (a : Option Addr) (c : Nat) (x : Pk) (H : List Row) (hr : okRm R) (hm : matsThere R R.mats) (hC : CtOk H R p a) (hla : R.ages.length ≤ 1000) (hlm : R.mats.length ≤ 1000) (hpc : (plcs R).length ≤ c) (hx : x ∈ plcs R) (hT : hasT R R.mats) :
  Fc Tryz.prog 43 [.agg (cCt R p a c).toArray,.agg (cPk x).toArray] H (fun v H' => v = .agg (cSp (rng R R.mats x zp)).toArray∧H' = H):=by
 refine Fc.mk (callable Tryz.call43) Tryz.func43 rfl Tryz.ntmps43 rfl ?_;dsimp only [fr]
 repeat' (first | (refine uP rfl ?_;(first | ((first | refine uN rfl ?_);(first | (refine uE (uL rfl rfl (uW (T:=79) (cs:=cCt R p a c) (te rfl) rfl (by repeat (first | exact qH _ | apply qT)) rfl)) rfl rfl ?_)|(refine uE (EvF.build (cs:=cPk zp) rfl ArgsP.nil (te rfl) (Places.cons (te rfl) (Places.cons (te rfl) Places.nil)) Tryz.zeroValue86 rfl) rfl rfl ?_)|(refine uC (uT rfl (Args.cons rfl (Args.cons rfl (Args.cons rfl Args.nil)))) rfl rfl (differ_spec R p a c x zp _ hr hm (hC.sub (fun _ h=>by repeat (first | exact h | apply qT))) hla hlm hpc hx (zp_mem R) hT) ?_;rintro _ H9 ⟨rfl,hH9⟩;subst H9)|(refine uE (uL rfl rfl (uW (te rfl) rfl (qT _ (qH _)) rfl)) rfl rfl ?_)|(refine Xg.st (StF.boxAgg rfl rfl) rfl rfl ?_;rintro _ _ ⟨bx,rfl,rfl⟩)|(refine Xg.st (StF.alloc rfl Tryz.zeroValue24 rfl) rfl rfl ?_;rintro _ _ ⟨bx,rfl,rfl⟩)|(refine Xg.st0 (StF.storeAll (i:=0) rfl rfl rfl (te rfl) rfl rfl rfl rfl) rfl ?_;rintro _ _ ⟨rfl,rfl⟩;dsimp only [List.set])))))|(refine uD rfl ?_;refine hK _ _ ?_;clear hK K) | refine uS rfl ?_ | refine uR rfl (fun K hK=>?_) | refine X.ret rfl ?_)
 exact ret_one (by simp) Tryz.results43 ⟨_,rfl,uW (te rfl) rfl (qH _) rfl⟩ (H' := H) (by (repeat (first | exact qR _ | apply qC));done) ⟨rfl,rfl⟩
end Go.Proofs.YtmfppdpkalelhaaGreat
end
section
set_option linter.unusedVariables false
set_option linter.unusedSimpArgs false
namespace Go.Proofs.YtmfppdpkalelhaaGreat
open Go Go.Fw
set_option maxRecDepth 10000
/-- a question: the function that is asked, and the error -/
structure Qn where
 f : Nat
 e : Int
def cQn (q : Qn) : List Value:=[.func (.func q.f) #[] #[],.int .i64 q.e]
def qs4 : List Qn:=[⟨112,10⟩,⟨107,6⟩,⟨108,11⟩,⟨113,8⟩]
def cQ4 : List Value:=qs4.flatMap cQn
theorem questions_spec (H : List Row) : Fc Tryz.prog 81 [] H (fun v H' => v = .agg cQ4.toArray∧H' = H):=by
 refine Fc.mk (callable Tryz.call81) Tryz.func81 rfl Tryz.ntmps81 rfl ?_;dsimp only [fr]
 repeat' (first | (refine uP rfl ?_;(first | ((first | refine uN rfl ?_);(first | (refine uE (EvF.build (cs:=cQn ⟨112,10⟩) rfl (ArgsP.cons rfl (ArgsP.cons rfl ArgsP.nil)) (te rfl) (Places.cons (te rfl) (Places.cons (te rfl) Places.nil)) Tryz.zeroValue122 rfl) rfl rfl ?_)|(refine uE (EvF.build (cs:=cQn ⟨107,6⟩) rfl (ArgsP.cons rfl (ArgsP.cons rfl ArgsP.nil)) (te rfl) (Places.cons (te rfl) (Places.cons (te rfl) Places.nil)) Tryz.zeroValue122 rfl) rfl rfl ?_)|(refine uE (EvF.build (cs:=cQn ⟨108,11⟩) rfl (ArgsP.cons rfl (ArgsP.cons rfl ArgsP.nil)) (te rfl) (Places.cons (te rfl) (Places.cons (te rfl) Places.nil)) Tryz.zeroValue122 rfl) rfl rfl ?_)|(refine uE (EvF.build (cs:=cQn ⟨113,8⟩) rfl (ArgsP.cons rfl (ArgsP.cons rfl ArgsP.nil)) (te rfl) (Places.cons (te rfl) (Places.cons (te rfl) Places.nil)) Tryz.zeroValue122 rfl) rfl rfl ?_)|(refine uE (EvF.buildArr (cs:=cQ4) rfl (ArgsP.cons rfl (ArgsP.cons rfl (ArgsP.cons rfl (ArgsP.cons rfl ArgsP.nil)))) (te rfl) (te rfl) Tryz.zeroValue123 rfl) rfl rfl ?_)|(refine Xg.st (StF.alloc rfl Tryz.zeroValue123 rfl) rfl rfl ?_;rintro _ _ ⟨bx,rfl,rfl⟩)|(refine Xg.st0 (StF.storeAll (i:=0) rfl rfl rfl (te rfl) rfl rfl rfl rfl) rfl ?_;rintro _ _ ⟨rfl,rfl⟩;dsimp only [List.set])))))|(refine uD rfl ?_;refine hK _ _ ?_;clear hK K) | refine uS rfl ?_ | refine uR rfl (fun K hK=>?_) | refine X.ret rfl ?_)
 exact ret_one (by simp) Tryz.results81 ⟨_,rfl,uW (te rfl) rfl (qH _) rfl⟩ (H' := H) (by (repeat (first | exact qR _ | apply qC));done) ⟨rfl,rfl⟩
/-- what a call is about: boxes and months -/
structure Bt where
 l : List Int
 a : Option Addr
 c : Nat
 t : List Int
 a' : Option Addr
 c' : Nat
def cBt (x : Bt) : List Value:=cAb x.a x.l.length x.c x.a' x.t.length x.c'
structure BtOk (H : List Row) (x : Bt) : Prop where
 l : SlE H x.a cI 1 x.l
 t : SlE H x.a' cI 1 x.t
 hl : x.l.length ≤ 1000
 ht : x.t.length ≤ 1000
theorem BtOk.sub {H H' : List Row} {x : Bt} (h : BtOk H x) (hs : ∀ r ∈ H,r ∈ H') : BtOk H' x:=⟨h.l.sub hs,h.t.sub hs,h.hl,h.ht⟩
theorem isValid_spec (R : Rm) (p : Pl) (x : Bt) (H : List Row) (hR : RmOk H R p) : Fc Tryz.prog 112 ([.agg (cRm R p).toArray,.agg (cBt x).toArray]++[]) H (fun v H' => v = .bool (decide (roomOk R))∧H' = H):=by
 show Fc Tryz.prog 112 [.agg (cRm R p).toArray,.agg (cBt x).toArray] H _
 obtain ⟨l,a,c,t,a',c'⟩:=x
 have hR2 : ∀ r1 r2,RmOk (r1::r2::H) R p:=fun r1 r2=>hR.sub (fun _ h=>qT _ (qT _ h))
 refine Fc.mk (callable Tryz.call112) Tryz.func112 rfl Tryz.ntmps112 rfl ?_;dsimp only [fr]
 repeat' (first | (refine uP rfl ?_;(first | ((first | refine uN rfl ?_);(first | (refine uC (uT rfl (Args.cons rfl Args.nil)) rfl rfl (check_spec R p _ (hR2 _ _)) ?_;rintro _ H9 ⟨⟨hr,rfl⟩ | ⟨hr,rfl⟩,hH9⟩ <;> subst H9)|(refine uE (uA rfl rfl) rfl rfl ?_)|(refine uE (uQ rfl rfl rfl rfl) rfl rfl ?_)|(refine uE (uL rfl rfl (uW (te rfl) rfl (qT _ (qH _)) rfl)) rfl rfl ?_)|(refine Xg.st (StF.boxAgg rfl rfl) rfl rfl ?_;rintro _ _ ⟨bx,rfl,rfl⟩)))))|(refine uD rfl ?_;refine hK _ _ ?_;clear hK K) | refine uS rfl ?_ | refine uR rfl (fun K hK=>?_) | refine X.ret rfl ?_)
 ·refine ret_one (by simp) Tryz.results112 rfl (H' := H) (by (repeat (first | exact qR _ | apply qC));done) ?_;simp only [and_true,true_and]
  rw [decide_eq_true hr];rfl
 ·refine ret_one (by simp) Tryz.results112 rfl (H' := H) (by (repeat (first | exact qR _ | apply qC));done) ?_;simp only [and_true,true_and]
  rw [decide_eq_false hr];rfl
theorem hasTruth_spec (R : Rm) (p : Pl) (x : Bt) (H : List Row) (hok : roomOk R) (hR : RmOk H R p) : Fc Tryz.prog 113 ([.agg (cRm R p).toArray,.agg (cBt x).toArray]++[]) H (fun v H' => v = .bool (decide (hasT R R.mats))∧H' = H):=by
 show Fc Tryz.prog 113 [.agg (cRm R p).toArray,.agg (cBt x).toArray] H _
 have hR2 : ∀ r1 r2,RmOk (r1::r2::H) R p:=fun r1 r2=>hR.sub (fun _ h=>qT _ (qT _ h))
 have hlen:=hok.ok.len
 have hm12:=hok.ok.m12
 have hm8:=hok.1.2.2.2.2.2.2
 obtain ⟨l,a,c,t,a',c'⟩:=x
 refine Fc.mk (callable Tryz.call113) Tryz.func113 rfl Tryz.ntmps113 rfl ?_;dsimp only [fr]
 repeat' (first | (refine uP rfl ?_;(first | ((first | refine uN rfl ?_);(first | (refine uC (uT rfl (by (repeat (first | exact Args.nil | refine Args.cons rfl ?_));done)) rfl rfl (draw_spec R p _ hok.ok (hR2 _ _)) ?_;rintro _ _ ⟨b,k,hbk,rfl,rfl⟩)|(refine uC (uT rfl (Args.cons rfl Args.nil)) rfl rfl (can_spec R p (some ⟨b,0,none⟩) k _ hok.ok hok.mats ⟨(hR2 _ _).sub (fun _ h=>qT _ h),SlE.ofRow (qH _) (fun _ _=>rfl)⟩ (by omega) (by omega) hbk) ?_;rintro _ H9 ⟨rfl,hH9⟩;subst H9)|(refine uE (uA rfl rfl) rfl rfl ?_)|(refine uE (uL rfl rfl (uW (te rfl) rfl (qT _ (qH _)) rfl)) rfl rfl ?_)|(refine Xg.st (StF.boxAgg rfl rfl) rfl rfl ?_;rintro _ _ ⟨bx,rfl,rfl⟩)))))|(refine uD rfl ?_;refine hK _ _ ?_;clear hK K) | refine uS rfl ?_ | refine uR rfl (fun K hK=>?_) | refine X.ret rfl ?_)
 refine ret_one (by simp) Tryz.results113 rfl (H' := H) (by (repeat (first | exact qR _ | apply qC));done) ?_;simp only [and_true,true_and]
set_option maxHeartbeats 4000000 in
theorem lasked_spec (R : Rm) (p : Pl) (x : Bt) (qs : List Qn) (a : Option Addr) (c : Nat) (ok : Nat → Bool) (H : List Row) (hq : SlE H a cQn 2 qs) (hb : qs.length ≤ 1000)
  (hf : ∀ k y,qs[k]? = some y → (∀ j,j < k → ok j = true) → ∀ Z : List Row,Fc Tryz.prog y.f ([.agg (cRm R p).toArray,.agg (cBt x).toArray]++[]) (Z++H) (fun v H' => v = .bool (ok k)∧H' = Z++H)) :
  Fc Tryz.prog 82 [.agg (cRm R p).toArray,.agg (cBt x).toArray,.slice a qs.length c] H (fun v H' => ((v = .int .i64 0 ∧ ∀ j,j < qs.length → ok j = true) ∨ ∃ k y,qs[k]? = some y∧ok k = false∧(∀ j,j < k → ok j = true)∧v = .int .i64 y.e)∧H' = H):=by
 refine Fc.mk (callable Tryz.call82) Tryz.func82 rfl Tryz.ntmps82 rfl ?_;dsimp only [fr]
 repeat' (first | (refine uP rfl ?_;(first | ((first | refine uN rfl ?_);(first | (refine uE (uM rfl rfl) rfl rfl ?_)|(refine uE (uA rfl rfl) rfl rfl ?_)|(refine uE (uQ rfl rfl rfl rfl) rfl rfl ?_)|(refine uE (EvF.lenSlice rfl rfl (te rfl)) rfl rfl ?_)|(refine Xg.st (StF.boxAgg rfl rfl) rfl rfl ?_;rintro _ _ ⟨bx,rfl,rfl⟩)))))|(refine uD rfl ?_;refine hK _ _ ?_;clear hK K) | refine uS rfl ?_ | refine uR rfl (fun K hK=>?_) | refine X.block rfl ?_ | (refine X.brk rfl ?_;repeat (first | refine blockX_hit rfl ?_ | refine blockX_miss (by decide) ?_)) | refine X.skip rfl ?_ | refine X.ret rfl ?_ | (refine X.ite rfl rfl (fun hc=>?_);(first | (with_reducible refine Xb.case hc (fun h=>?_) (fun h=>?_))) <;> clear hc))
 rename_i b1;rename Nat=>b2
 refine X.lp rfl (fun m F' H' => ∃ k : Nat,m = qs.length - k∧k ≤ qs.length∧(∀ j,j < k → ok j = true)∧⟨b2,0,cBt x,some 83,2⟩::⟨b1,0,cRm R p,some 32,5⟩::H = H' ∧
   F' = [(3,.pointer (some ⟨b1,0,none⟩)),(4,.pointer (some ⟨b2,0,none⟩)),(9,.slice a qs.length c),(10,.int .i64 qs.length),(11,.int .i64 k)])
  qs.length [(3,.pointer (some ⟨b1,0,none⟩)),(4,.pointer (some ⟨b2,0,none⟩)),(9,.slice a qs.length c),(10,.int .i64 qs.length),(11,.int .i64 (0 : Nat))] _ (by repeat (first | exact uU _ | refine uV rfl ?_)) (by repeat (first | exact qR _ | apply qK | apply qC)) ⟨0,by omega,by omega,(fun j hj=>absurd hj (by omega)),rfl,rfl⟩ ?_
 rintro _ _ H2 ⟨k,rfl,hk,hn,hH,rfl⟩
 subst hH
 repeat' (first | (refine uP rfl ?_;(first | ((first | refine uN rfl ?_);(first | (refine uE (uM rfl rfl) rfl rfl ?_)|(refine uE (uA rfl rfl) rfl rfl ?_)|(refine uE (uQ rfl rfl rfl rfl) rfl rfl ?_)|(refine uE (EvF.lenSlice rfl rfl (te rfl)) rfl rfl ?_)|(refine Xg.st (StF.boxAgg rfl rfl) rfl rfl ?_;rintro _ _ ⟨bx,rfl,rfl⟩)))))|(refine uD rfl ?_;refine hK _ _ ?_;clear hK K) | refine uS rfl ?_ | refine uR rfl (fun K hK=>?_) | refine X.block rfl ?_ | (refine X.brk rfl ?_;repeat (first | refine blockX_hit rfl ?_ | refine blockX_miss (by decide) ?_)) | refine X.skip rfl ?_ | refine X.ret rfl ?_ | (refine X.ite rfl rfl (fun hc=>?_);(first | (with_reducible refine Xb.case hc (fun h=>?_) (fun h=>?_))) <;> clear hc))
 ·obtain ⟨b,off,e,rfl,he⟩:=hq.elem (i:=k) (by omega)
  have hq2 : ∀ r1 r2,SlE (r1::r2::H) (some ⟨b,off,none⟩) cQn 2 qs:=fun r1 r2=>hq.sub (fun _ h=>qT _ (qT _ h))
  obtain ⟨f,er⟩:=e
  repeat' (first | (refine uP rfl ?_;(first | ((first | refine uN rfl ?_);(first | (refine uE (uL rfl rfl (LoadV.elA0 (hq2 _ _) he (te rfl) rfl (fun _ hm=>hm) rfl)) rfl rfl ?_)|(refine Xg.st (StF.alloc rfl Tryz.zeroValue122 rfl) rfl rfl ?_;rintro _ _ ⟨bx,rfl,rfl⟩)|(refine uC (EnF.dyn0 rfl rfl (by (repeat (first | exact Args.nil | refine Args.cons rfl ?_));done)) rfl rfl (hf k ⟨f,er⟩ he hn [_,_,_]) ?_;rintro _ H9 ⟨rfl,hH9⟩;subst H9)|(refine uE (uM rfl rfl) rfl rfl ?_)|(refine uE (uA rfl rfl) rfl rfl ?_)|(refine uE (EvF.add64 rfl rfl rfl (by omega) (by omega)) rfl rfl ?_)|(refine uE (EvF.not rfl rfl) rfl rfl ?_)|(refine uE (uF rfl rfl (te rfl) rfl (te rfl) (by decide)) rfl rfl ?_)|(refine uE (EvF.indexSlice rfl rfl rfl (te rfl) (te rfl) (by omega) (by omega)) rfl rfl ?_)|(refine uE (uL rfl rfl (uO (te rfl) rfl (qH _) rfl)) rfl rfl ?_)|(refine uE (uL rfl rfl (uW (te rfl) rfl (qT _ (qH _)) rfl)) rfl rfl ?_)|(refine uE (uL rfl rfl (uW (te rfl) rfl (qT _ (qT _ (qH _))) rfl)) rfl rfl ?_)|(refine Xg.st0 (StF.storeAll (i:=0) rfl rfl rfl (te rfl) rfl rfl rfl rfl) rfl ?_;rintro _ _ ⟨rfl,rfl⟩;dsimp only [List.set])))))|(refine uD rfl ?_;refine hK _ _ ?_;clear hK K) | refine uS rfl ?_ | refine uR rfl (fun K hK=>?_) | refine X.skip rfl ?_ | refine X.ret rfl ?_ | (refine X.ite rfl rfl (fun hc=>?_);(first | (with_reducible refine Xb.caseB hc (fun h=>?_) (fun h=>?_))) <;> clear hc))
  ·refine ret_one (by simp) Tryz.results82 rfl (H' := H) (by simp only [List.cons_append,List.nil_append];exact (by (repeat (first | exact qR _ | apply qC));done)) ⟨.inr ⟨k,_,he,?_,hn,rfl⟩,rfl⟩
   simpa using (by assumption : (!ok k)=true)
  ·refine ⟨_,_,_,(by repeat (first | exact uU _ | refine uV rfl ?_)),(by simp only [List.cons_append,List.nil_append];exact (by repeat (first | exact qR _ | apply qK | apply qC))),⟨k + 1,rfl,by omega,(fun j hj=>?_),rfl,rfl⟩,by omega⟩
   rcases Nat.lt_or_ge j k with h1 | h1
   ·exact hn j h1
   ·obtain rfl : j = k:=by omega
    simpa using (by assumption : (!ok j)=false)
 ·refine ret_one (by simp) Tryz.results82 rfl (H' := H) (by (repeat (first | exact qR _ | apply qC));done) ⟨.inl ⟨rfl,fun j hj=>hn j (by omega)⟩,rfl⟩
open Classical in
noncomputable def openE (R : Rm) (l t : List Int) : Int:=if roomOk R then (if allThere R l then (if inTime R l t then (if hasT R R.mats then 0 else 8) else 11) else 6) else 10
open Classical in
noncomputable def okQ (R : Rm) (l t : List Int) : Nat → Bool
 | 0=>decide (roomOk R)
 | 1=>decide (allThere R l)
 | 2=>decide (inTime R l t)
 | 3=>decide (hasT R R.mats)
 | _=>true
set_option maxHeartbeats 4000000 in
theorem asked4_spec (R : Rm) (p : Pl) (x : Bt) (b cap : Nat) (ow : Option Kd) (H : List Row) (hR : RmOk H R p) (hx : BtOk H x) (h2 : R.boxes.length ≤ 1000000) (hm : ⟨b,0,cQ4,ow,cap⟩ ∈ H) :
  Fc Tryz.prog 82 [.agg (cRm R p).toArray,.agg (cBt x).toArray,.slice (some ⟨b,0,none⟩) 4 4] H (fun v H' => v = .int .i64 (openE R x.l x.t)∧H' = H):=by
 have hll:=hx.hl
 have htl:=hx.ht
 refine (lasked_spec R p x qs4 (some ⟨b,0,none⟩) 4 (okQ R x.l x.t) H (SlE.ofRow (cap:=cap) (ow:=ow) hm (fun _ _=>rfl)) (by decide) ?_).mono ?_
 ·intro k y hy hok Z
  have hR' : RmOk (Z++H) R p:=hR.sub (fun _ h=>List.mem_append_right _ h)
  have hx' : BtOk (Z++H) x:=hx.sub (fun _ h=>List.mem_append_right _ h)
  rcases (show k = 0∨k = 1∨k = 2∨k = 3 by have:=(List.getElem?_eq_some_iff.1 hy).1;simp [qs4] at this;omega) with rfl | rfl | rfl | rfl
  all_goals (simp [qs4] at hy;subst hy)
  ·exact (isValid_spec R p x _ hR').mono (fun v H' h=>by (have e : okQ R x.l x.t 0 = decide (roomOk R):=decide_eq_decide.2 Iff.rfl);rw [e];exact h)
  ·exact (hasBoxes_spec R p x.l x.a x.c x.a' x.t.length x.c' _ hR' hx'.l (by omega) h2).mono (fun v H' h=>by (have e : okQ R x.l x.t 1 = decide (allThere R x.l):=decide_eq_decide.2 Iff.rfl);rw [e];exact h)
  ·have hok0 : roomOk R:=of_decide_eq_true (hok 0 (by decide))
   exact (areThere_spec R p x.l x.t x.a x.c x.a' x.c' _ hR' ⟨hok0.ok.m1,hok0.ok.m12⟩ hx'.l (by omega) hx'.t (by omega)).mono (fun v H' h=>by (have e : okQ R x.l x.t 2 = decide (inTime R x.l x.t):=decide_eq_decide.2 Iff.rfl);rw [e];exact h)
  ·have hok0 : roomOk R:=of_decide_eq_true (hok 0 (by decide))
   exact (hasTruth_spec R p x _ hok0 hR').mono (fun v H' h=>by (have e : okQ R x.l x.t 3 = decide (hasT R R.mats):=decide_eq_decide.2 Iff.rfl);rw [e];exact h)
 ·rintro v H' ⟨⟨rfl,hok⟩ | ⟨k,y,hy,hno,hok,rfl⟩,rfl⟩
  ·refine ⟨?_,rfl⟩
   have h0:=of_decide_eq_true (hok 0 (by decide));have h1:=of_decide_eq_true (hok 1 (by decide));have h2:=of_decide_eq_true (hok 2 (by decide));have h3:=of_decide_eq_true (hok 3 (by decide))
   unfold openE
   rw [if_pos h0,if_pos h1,if_pos h2,if_pos h3]
  ·refine ⟨?_,rfl⟩
   have hk : ∀ j,j < k → okQ R x.l x.t j = true:=hok
   rcases (show k = 0∨k = 1∨k = 2∨k = 3 by have:=(List.getElem?_eq_some_iff.1 hy).1;simp [qs4] at this;omega) with rfl | rfl | rfl | rfl
   all_goals (simp [qs4] at hy;subst hy;unfold openE)
   ·rw [if_neg (of_decide_eq_false hno)]
   ·rw [if_pos (of_decide_eq_true (hk 0 (by decide))),if_neg (of_decide_eq_false hno)]
   ·rw [if_pos (of_decide_eq_true (hk 0 (by decide))),if_pos (of_decide_eq_true (hk 1 (by decide))),if_neg (of_decide_eq_false hno)]
   ·rw [if_pos (of_decide_eq_true (hk 0 (by decide))),if_pos (of_decide_eq_true (hk 1 (by decide))),if_pos (of_decide_eq_true (hk 2 (by decide))),if_neg (of_decide_eq_false hno)]
end Go.Proofs.YtmfppdpkalelhaaGreat
end
section
set_option linter.unusedVariables false
set_option linter.unusedSimpArgs false
namespace Go.Proofs.YtmfppdpkalelhaaGreat
open Go Go.Fw
set_option maxRecDepth 10000
def tsOp : List TOp:=[⟨some 9,[],[],[]⟩,⟨some 10,[],[],[]⟩,⟨some 11,[],[],[]⟩,⟨some 12,[0,1,2],[0,1,2],[]⟩,⟨some 7,[0,1,2,3],[3],[]⟩]
def valOp (b2 b3 b4 b6 : Nat) (R : Rm) (p : Pl) (x : Bt) (e : Int) (k : Nat) (env : Env) : Value :=
 match k with
 | 0 => .agg (cRm R p).toArray
 | 1 => .agg (cBt x).toArray
 | 2 => .slice (some ⟨b6,0,none⟩) 4 4
 | 3 => .int .i64 e
 | 4 => .int .i64 e
 | _=>undef
def rowsOp (b2 b3 b4 b6 : Nat) (R : Rm) (p : Pl) (x : Bt) (e : Int) (k : Nat) (env : Env) : List Row :=
 match k with
 | _=>[]
theorem locOp (b2 b3 b4 b6 : Nat) (R : Rm) (p : Pl) (x : Bt) (e : Int) : ∀ k env i q9,i ≠ k → (tAt tsOp k).sup.contains i = false → valOp b2 b3 b4 b6 R p x e k (upd env i q9)=valOp b2 b3 b4 b6 R p x e k env∧rowsOp b2 b3 b4 b6 R p x e k (upd env i q9)=rowsOp b2 b3 b4 b6 R p x e k env:=by
 intro k env i q hk hs
 have hu : ∀ j,j ≠ i → upd env i q j = env j:=fun j hj=>by unfold upd;rw [if_neg hj]
 match k,hk,hs with
 | 0,_,_=>exact ⟨rfl,rfl⟩
 | 1,_,_=>exact ⟨rfl,rfl⟩
 | 2,_,_=>exact ⟨rfl,rfl⟩
 | 3,_,_=>exact ⟨rfl,rfl⟩
 | 4,_,_=>exact ⟨rfl,rfl⟩
 | _ + 5,_,_=>exact ⟨rfl,rfl⟩
def OpenR (R : Rm) (p : Pl) (x : Bt) (H : List Row) (v : Value) (H' : List Row) : Prop :=
 (openE R x.l x.t = 0 ∧ ∃ b k,(plcs R).length ≤ k∧v = .tuple #[.agg (cCt R p (some ⟨b,0,none⟩) k).toArray,.int .i64 0]∧H' = ⟨b,0,(plcs R).flatMap cPk,some 86,k * 2⟩::H) ∨
  (openE R x.l x.t ≠ 0∧v = .tuple #[.agg zCt.toArray,.int .i64 (openE R x.l x.t)]∧H' = H)
theorem openE_ok {R : Rm} {l t : List Int} (h : openE R l t = 0) : roomOk R∧allThere R l∧inTime R l t∧hasT R R.mats:=by
 unfold openE at h
 by_cases h1 : roomOk R
 ·by_cases h2 : allThere R l
  ·by_cases h3 : inTime R l t
   ·by_cases h4 : hasT R R.mats
    ·exact ⟨h1,h2,h3,h4⟩
    ·simp [h1,h2,h3,h4] at h
   ·simp [h1,h2,h3] at h
  ·simp [h1,h2] at h
 ·simp [h1] at h
set_option maxHeartbeats 8000000 in
theorem open_spec (R : Rm) (p : Pl) (x : Bt) (H : List Row) (hR : RmOk H R p) (hx : BtOk H x) (h2 : R.boxes.length ≤ 1000000) : Fc Tryz.prog 42 [.agg (cRm R p).toArray,.agg (cBt x).toArray] H (OpenR R p x H):=by
 obtain ⟨e,he⟩ : ∃ e,openE R x.l x.t = e:=⟨_,rfl⟩
 have hA : ∀ H' b cap ow,RmOk H' R p → BtOk H' x → ⟨b,0,cQ4,ow,cap⟩ ∈ H' → Fc Tryz.prog 82 [.agg (cRm R p).toArray,.agg (cBt x).toArray,.slice (some ⟨b,0,none⟩) 4 4] H' (fun v H'' => v = .int .i64 e∧H'' = H'):=fun H' b cap ow h1 h2' h3=>by
  have:=asked4_spec R p x b cap ow H' h1 h2' h2 h3
  rwa [he] at this
 have hok : e = 0 → roomOk R:=fun h0=>(openE_ok (he.trans h0)).1
 unfold OpenR
 rw [he]
 clear he
 refine Fc.mk (callable Tryz.call42) Tryz.func42 rfl Tryz.ntmps42 rfl ?_;dsimp only [fr]
 repeat' (first | (refine uP rfl ?_;(first | ((first | refine uN rfl ?_);(first | (refine uC (uT rfl (by (repeat (first | exact Args.nil | refine Args.cons rfl ?_));done)) rfl rfl (questions_spec _) ?_;rintro _ H9 ⟨rfl,hH9⟩;subst H9)|(refine Xg.st (StF.alloc rfl Tryz.zeroValue123 rfl) rfl rfl ?_;rintro _ _ ⟨bx,rfl,rfl⟩)|(refine Xg.st0 (StF.storeAll (i:=0) (vs:=cQ4) rfl rfl rfl (te rfl) rfl rfl rfl rfl) rfl ?_;rintro _ _ ⟨rfl,rfl⟩;dsimp only [List.set])|(refine uE (uA rfl rfl) rfl rfl ?_)|(refine Xg.st (StF.boxAgg rfl rfl) rfl rfl ?_;rintro _ _ ⟨bx,rfl,rfl⟩)|(refine Xg.st (StF.alloc rfl Tryz.zeroValue79 rfl) rfl rfl ?_;rintro _ _ ⟨bx,rfl,rfl⟩)))))|(refine uD rfl ?_;refine hK _ _ ?_;clear hK K) | refine uS rfl ?_ | refine uR rfl (fun K hK=>?_))
 rename_i b2 b3 b4
 generalize bx = b6
 refine X.weak (F' := [(2,.pointer (some ⟨b2,0,none⟩)),(3,.pointer (some ⟨b3,0,none⟩)),(4,.pointer (some ⟨b4,0,none⟩)),(6,.pointer (some ⟨b6,0,none⟩))]) (H' := ⟨b6,0,cQ4,some 123,8⟩::⟨b4,0,zCt,some 79,6⟩::⟨b3,0,cBt x,some 83,2⟩::⟨b2,0,cRm R p,some 32,5⟩::H) (by repeat (first | exact uU _ | refine uV rfl ?_)) (by repeat (first | exact qR _ | apply qK | apply qC)) ?_
 refine X.regionOb tsOp [2,3,4,6] [(2,.pointer (some ⟨b2,0,none⟩)),(3,.pointer (some ⟨b3,0,none⟩)),(4,.pointer (some ⟨b4,0,none⟩)),(6,.pointer (some ⟨b6,0,none⟩))] (valOp b2 b3 b4 b6 R p x e) (rowsOp b2 b3 b4 b6 R p x e) (fun _=>(0,0)) (⟨b6,0,cQ4,some 123,8⟩::⟨b4,0,zCt,some 79,6⟩::⟨b3,0,cBt x,some 83,2⟩::⟨b2,0,cRm R p,some 32,5⟩::H) rfl mixed (by repeat (first | exact uU _ | refine uV rfl ?_)) rfl (by kernel_rfl) (locOp b2 b3 b4 b6 R p x e) (qR _) ?_ ?_
 ·repeat' (first | exact AllF.done rfl | (refine AllF.step rfl ?_ ?_;·(first | fail | ((first | refine Ob.ng rfl ?_);(first | exact ObK.pure (fun env R hR=>by exact ⟨_,uA rfl rfl,rfl⟩) rfl (fun _=>rfl) | exact ObK.pure (fun env R hR=>by exact ⟨_,uL rfl rfl (uW (te rfl) rfl (hR _ (qT _ (qT _ (qH _)))) rfl),rfl⟩) rfl (fun _=>rfl) | exact ObK.pure (fun env R hR=>by exact ⟨_,uL rfl rfl (uW (te rfl) rfl (hR _ (qT _ (qT _ (qT _ (qH _))))) rfl),rfl⟩) rfl (fun _=>rfl)|(exact fun env S hS=>OpF.callV (Z:=[]) (uT rfl (Args.cons rfl (Args.cons rfl (Args.cons rfl Args.nil)))) (hA _ _ _ _ (hR.sub (fun _ h=>hS _ (List.mem_append_right [_,_,_,_] h))) (hx.sub (fun _ h=>hS _ (List.mem_append_right [_,_,_,_] h))) (hS _ (qH _))) rfl rfl)|((refine ObK.pure (fun env S hS=>⟨.slice (some ⟨b6,0,none⟩) 4 4,?_,rfl⟩) rfl (fun _=>rfl);exact EvF.sliceArrOf (b:=b6) (off:=0) (len:=4) rfl rfl (te rfl) (te rfl))))))))
 intro env t ha hv
 refine ⟨_,ha.cons (hv 4 7 (Nat.le_of_ble_eq_true rfl) rfl),?_⟩
 refine X.weak (F' := [(2,.pointer (some ⟨b2,0,none⟩)),(4,.pointer (some ⟨b4,0,none⟩)),(7,.int .i64 e)]) (H' := ⟨b4,0,zCt,some 79,6⟩::⟨b2,0,cRm R p,some 32,5⟩::H) (by repeat (first | exact uU _ | refine uV rfl ?_)) (by repeat (first | exact qR _ | apply qK | apply qC)) ?_
 by_cases h0 : e = 0
 ·have hbo:=hok h0
  repeat' (first | (refine uP rfl ?_;(first | ((first | refine uN rfl ?_);(first | (refine uE (uQ (b:=false) rfl rfl rfl (congrArg some (nd_f (by omega)))) rfl rfl ?_)|(refine uC (uT rfl (by (repeat (first | exact Args.nil | refine Args.cons rfl ?_));done)) rfl rfl (draw_spec R p _ hbo.ok (hR.sub (fun _ h=>by repeat (first | exact h | apply qT)))) ?_;rintro _ _ ⟨b,k,hbk,rfl,rfl⟩)|(refine Xg.st0 (StF.storeAll (i:=1) (vs:=cCt R p (some ⟨b,0,none⟩) k) rfl rfl rfl (te rfl) rfl rfl rfl rfl) rfl ?_;rintro _ _ ⟨rfl,rfl⟩;dsimp only [List.set])|(refine uE (uM rfl rfl) rfl rfl ?_)|(refine uE (uA rfl rfl) rfl rfl ?_)|(refine uE (uL rfl rfl (uW (te rfl) rfl (qT _ (qH _)) rfl)) rfl rfl ?_)))))|(refine uD rfl ?_;refine hK _ _ ?_;clear hK K) | refine uS rfl ?_ | refine uR rfl (fun K hK=>?_) | refine X.skip rfl ?_ | refine X.ret rfl ?_ | (refine X.ite rfl rfl (fun hc=>?_);(first | (with_reducible refine Xb.f hc ?_)) <;> clear hc))
  all_goals try (exfalso;contradiction)
  exact ret_two (by simp) Tryz.results42 ⟨_,rfl,uW (te rfl) rfl (qT _ (qH _)) rfl⟩ rfl (H' := ⟨b,0,(plcs R).flatMap cPk,some 86,k * 2⟩::H) (qK _ (qC _ (qC _ (qR _)))) (.inl ⟨h0,b,k,hbk,rfl,rfl⟩)
 ·repeat' (first | (refine uP rfl ?_;(first | ((first | refine uN rfl ?_);(first | (refine uE (uQ (b:=true) rfl rfl rfl (congrArg some (nd_t (by omega)))) rfl rfl ?_)|(refine uE (EvF.build (cs:=zCt) rfl ArgsP.nil (te rfl) (Places.cons (te rfl) (Places.cons (te rfl) Places.nil)) Tryz.zeroValue79 rfl) rfl rfl ?_)|(refine Xg.st0 (StF.storeAll (i:=0) (vs:=zCt) rfl rfl rfl (te rfl) rfl rfl rfl rfl) rfl ?_;rintro _ _ ⟨rfl,rfl⟩;dsimp only [List.set])|(refine uE (uM rfl rfl) rfl rfl ?_)|(refine uE (uA rfl rfl) rfl rfl ?_)))))|(refine uD rfl ?_;refine hK _ _ ?_;clear hK K) | refine uS rfl ?_ | refine uR rfl (fun K hK=>?_) | refine X.ret rfl ?_ | (refine X.ite rfl rfl (fun hc=>?_);(first | (with_reducible refine Xb.t hc ?_)) <;> clear hc))
  all_goals try (exfalso;contradiction)
  exact ret_two (by simp) Tryz.results42 ⟨_,rfl,uW (te rfl) rfl (qH _) rfl⟩ rfl (H' := H) (by (repeat (first | exact qR _ | apply qC));done) (.inr ⟨h0,rfl,rfl⟩)
open Classical in
noncomputable def canF (R : Rm) : Value:=if roomOk R then .tuple #[.bool (decide (hasT R R.mats)),.int .i64 0] else .tuple #[.bool false,.int .i64 10]
theorem kCan_spec (R : Rm) (p : Pl) (H : List Row) (hR : RmOk H R p) : Fc Tryz.prog 31 [.agg (cRm R p).toArray] H (fun v H' => v = canF R∧H' = H):=by
 have hR2 : ∀ r1,RmOk (r1::H) R p:=fun r1=>hR.sub (fun _ h=>qT _ h)
 unfold canF
 by_cases hok : roomOk R
 ·rw [if_pos hok]
  have hlen:=hok.ok.len
  have hm12:=hok.ok.m12
  have hm8:=hok.1.2.2.2.2.2.2
  have hck : ∀ H',RmOk H' R p → Fc Tryz.prog 27 [.agg (cRm R p).toArray] H' (fun v H'' => v = .int .i64 0∧H'' = H'):=fun H' h=>(check_spec R p H' h).mono fun v H'' ⟨q,e⟩=>⟨by rcases q with ⟨_,q⟩ | ⟨q,_⟩;exact q;exact absurd hok q,e⟩
  refine Fc.mk (callable Tryz.call31) Tryz.func31 rfl Tryz.ntmps31 rfl ?_;dsimp only [fr]
  repeat' (first | (refine uP rfl ?_;(first | ((first | refine uN rfl ?_);(first | (refine uC (uT rfl (Args.cons rfl Args.nil)) rfl rfl (hck _ (hR2 _)) ?_;rintro _ H9 ⟨rfl,hH9⟩;subst H9)|(refine uC (uT rfl (by (repeat (first | exact Args.nil | refine Args.cons rfl ?_));done)) rfl rfl (draw_spec R p _ hok.ok (hR2 _)) ?_;rintro _ _ ⟨b,k,hbk,rfl,rfl⟩)|(refine uC (uT rfl (Args.cons rfl Args.nil)) rfl rfl (can_spec R p (some ⟨b,0,none⟩) k _ hok.ok hok.mats ⟨(hR2 _).sub (fun _ h=>qT _ h),SlE.ofRow (qH _) (fun _ _=>rfl)⟩ (by omega) (by omega) hbk) ?_;rintro _ H9 ⟨rfl,hH9⟩;subst H9)|(refine uE (uM rfl rfl) rfl rfl ?_)|(refine uE (uA rfl rfl) rfl rfl ?_)|(refine uE (uQ rfl rfl rfl rfl) rfl rfl ?_)|(refine uE (uL rfl rfl (uW (te rfl) rfl (qH _) rfl)) rfl rfl ?_)|(refine Xg.st (StF.boxAgg rfl rfl) rfl rfl ?_;rintro _ _ ⟨bx,rfl,rfl⟩)))))|(refine uD rfl ?_;refine hK _ _ ?_;clear hK K) | refine uS rfl ?_ | refine uR rfl (fun K hK=>?_) | refine X.skip rfl ?_ | refine X.ret rfl ?_ | (refine X.ite rfl rfl (fun hc=>?_);(first | (with_reducible refine Xb.caseN hc (fun h=>?_) (fun h=>?_))) <;> clear hc))
  all_goals try (exfalso;omega)
  exact ret_two (by simp) Tryz.results31 rfl rfl (H' := H) (by (repeat (first | exact qR _ | apply qC));done) ⟨rfl,rfl⟩
 ·rw [if_neg hok]
  have hck : ∀ H',RmOk H' R p → Fc Tryz.prog 27 [.agg (cRm R p).toArray] H' (fun v H'' => v = .int .i64 10∧H'' = H'):=fun H' h=>(check_spec R p H' h).mono fun v H'' ⟨q,e⟩=>⟨by rcases q with ⟨q,_⟩ | ⟨_,q⟩;exact absurd q hok;exact q,e⟩
  refine Fc.mk (callable Tryz.call31) Tryz.func31 rfl Tryz.ntmps31 rfl ?_;dsimp only [fr]
  repeat' (first | (refine uP rfl ?_;(first | ((first | refine uN rfl ?_);(first | (refine uC (uT rfl (Args.cons rfl Args.nil)) rfl rfl (hck _ (hR2 _)) ?_;rintro _ H9 ⟨rfl,hH9⟩;subst H9)|(refine uE (uM rfl rfl) rfl rfl ?_)|(refine uE (uA rfl rfl) rfl rfl ?_)|(refine uE (uQ rfl rfl rfl rfl) rfl rfl ?_)|(refine uE (uL rfl rfl (uW (te rfl) rfl (qH _) rfl)) rfl rfl ?_)|(refine Xg.st (StF.boxAgg rfl rfl) rfl rfl ?_;rintro _ _ ⟨bx,rfl,rfl⟩)))))|(refine uD rfl ?_;refine hK _ _ ?_;clear hK K) | refine uS rfl ?_ | refine uR rfl (fun K hK=>?_) | refine X.skip rfl ?_ | refine X.ret rfl ?_ | (refine X.ite rfl rfl (fun hc=>?_);(first | (with_reducible refine Xb.caseN hc (fun h=>?_) (fun h=>?_))) <;> clear hc))
  all_goals try (exfalso;omega)
  exact ret_two (by simp) Tryz.results31 rfl rfl (H' := H) (by (repeat (first | exact qR _ | apply qC));done) ⟨rfl,rfl⟩
end Go.Proofs.YtmfppdpkalelhaaGreat
end
section
set_option linter.unusedVariables false
set_option linter.unusedSimpArgs false
namespace Go.Proofs.YtmfppdpkalelhaaGreat
open Go Go.Fw
set_option maxRecDepth 10000
theorem there_of {R : Rm} {l t : List Int} {a m : Int} (h : openE R l t = 0) (ha : a ∈ l) (hm : m ∈ t) : ∃ b,there R b m∧b.id = a:=by
 obtain ⟨_,h2,h3,_⟩:=openE_ok h
 obtain ⟨b,hb,e⟩:=h2 a ha
 obtain ⟨⟨h4,h5⟩,h6⟩:=h3 m hm
 refine ⟨b,⟨hb,?_,h5⟩,e⟩
 refine Classical.byContradiction fun q=>h6 ⟨b,hb,by omega,by rw [e];exact ha⟩
theorem plcs_of {R : Rm} {l t : List Int} {a m : Int} (h : openE R l t = 0) (ha : a ∈ l) (hm : m ∈ t) : (⟨a,m⟩ : Pk) ∈ plcs R:=by
 obtain ⟨b,hb,e⟩:=there_of h ha hm
 rw [← e];exact plcs_mem hb
theorem openY {R : Rm} {p : Pl} {x : Bt} {H : List Row} (hR : RmOk H R p) (hx : BtOk H x) (h2 : R.boxes.length ≤ 1000000) (h : openE R x.l x.t = 0) :
  Fc Tryz.prog 42 [.agg (cRm R p).toArray,.agg (cBt x).toArray] H (fun v H' => ∃ b k,(plcs R).length ≤ k∧v = .tuple #[.agg (cCt R p (some ⟨b,0,none⟩) k).toArray,.int .i64 0]∧H' = ⟨b,0,(plcs R).flatMap cPk,some 86,k * 2⟩::H):=by
 refine (open_spec R p x H hR hx h2).mono fun v H' q=>?_
 rcases q with ⟨_,q⟩ | ⟨q,_⟩
 ·exact q
 ·exact absurd h q
theorem openN {R : Rm} {p : Pl} {x : Bt} {H : List Row} {e : Int} (hR : RmOk H R p) (hx : BtOk H x) (h2 : R.boxes.length ≤ 1000000) (h : openE R x.l x.t = e) (h0 : e ≠ 0) :
  Fc Tryz.prog 42 [.agg (cRm R p).toArray,.agg (cBt x).toArray] H (fun v H' => v = .tuple #[.agg zCt.toArray,.int .i64 e]∧H' = H):=by
 refine (open_spec R p x H hR hx h2).mono fun v H' q=>?_
 rcases q with ⟨q,_⟩ | ⟨_,q⟩
 ·exact absurd (h.symm.trans q) h0
 ·rw [h] at q;exact q
structure okLen (R : Rm) : Prop where
 ages : R.ages.length ≤ 1000
 mats : R.mats.length ≤ 1000
theorem roomOk.lens {R : Rm} (h : roomOk R) : okLen R:=⟨by have:=h.ok.len;have:=h.ok.m12;omega,by have:=h.1.2.2.2.2.2.2;omega⟩
noncomputable def yelF (R : Rm) (a m : Int) : Sp × Int:=if openE R [a] [m] = 0 then (rng R R.mats ⟨a,m⟩ zp,0) else (⟨0,0⟩,openE R [a] [m])
set_option maxHeartbeats 4000000 in
theorem kYellow_spec (R : Rm) (p : Pl) (a m : Int) (H : List Row) (hR : RmOk H R p) (h2 : R.boxes.length ≤ 1000000) : Fc Tryz.prog 9 [.agg (cRm R p).toArray,.int .i64 a,.int .i64 m] H (fun v H' => v = .tuple #[.agg (cSp (yelF R a m).1).toArray,.int .i64 (yelF R a m).2]∧H' = H):=by
 obtain ⟨e,he⟩ : ∃ e,openE R [a] [m] = e:=⟨_,rfl⟩
 have hbt : ∀ (H' : List Row) (b1 b2 : Nat),⟨b1,0,[.int .i64 a],some 3,1 * 1⟩ ∈ H' → ⟨b2,0,[.int .i64 m],some 3,1 * 1⟩ ∈ H' → BtOk H' ⟨[a],some ⟨b1,0,none⟩,1,[m],some ⟨b2,0,none⟩,1⟩:=fun H' b1 b2 q1 q2=>⟨SlE.ofRow (l:=[a]) q1 (fun _ _=>rfl),SlE.ofRow (l:=[m]) q2 (fun _ _=>rfl),Nat.le_of_ble_eq_true rfl,Nat.le_of_ble_eq_true rfl⟩
 by_cases h0 : e = 0
 ·subst h0
  obtain ⟨hok,_,_,hT⟩:=openE_ok he
  have hp:=plcs_of he (List.mem_singleton.2 rfl) (List.mem_singleton.2 rfl)
  have hy : yelF R a m = (rng R R.mats ⟨a,m⟩ zp,0):=by unfold yelF;rw [if_pos he]
  rw [hy]
  obtain ⟨s,hs⟩ : ∃ s,s = rng R R.mats ⟨a,m⟩ zp:=⟨_,rfl⟩
  have hye:=fun H' b k hC hk=>yellow_spec R p (some ⟨b,0,none⟩) k ⟨a,m⟩ H' hok.ok hok.mats hC hok.lens.ages hok.lens.mats hk hp hT
  rw [← hs] at hye ⊢
  refine Fc.mk (callable Tryz.call9) Tryz.func9 rfl Tryz.ntmps9 rfl ?_;dsimp only [fr]
  repeat' (first | (refine uP rfl ?_;(first | ((first | refine uN rfl ?_);(first | (refine Xg.st (StF.buildOne (v0 := .int .i64 a) rfl el55 rfl rfl rfl (by decide) (by decide)) rfl rfl ?_;rintro _ _ ⟨b1,rfl,rfl⟩)|(refine Xg.st (StF.buildOne (v0 := .int .i64 m) rfl el55 rfl rfl rfl (by decide) (by decide)) rfl rfl ?_;rintro _ _ ⟨b2,rfl,rfl⟩)|(refine uE (EvF.build (cs:=cBt ⟨[a],some ⟨b1,0,none⟩,1,[m],some ⟨b2,0,none⟩,1⟩) rfl (ArgsP.cons rfl (ArgsP.cons rfl ArgsP.nil)) (te rfl) (Places.cons (te rfl) (Places.cons (te rfl) Places.nil)) Tryz.zeroValue83 rfl) rfl rfl ?_)|(refine uC (uT rfl (by (repeat (first | exact Args.nil | refine Args.cons rfl ?_));done)) rfl rfl (openY (hR.sub (fun _ h=>by repeat (first | exact h | apply qT))) (hbt _ b1 b2 (qT _ (qH _)) (qH _)) h2 he) ?_;rintro _ _ ⟨b,k,hbk,rfl,rfl⟩)|(refine Xg.st (StF.alloc rfl Tryz.zeroValue79 rfl) rfl rfl ?_;rintro _ _ ⟨b8,rfl,rfl⟩)|(refine Xg.st0 (StF.storeAll (i:=0) (vs:=cCt R p (some ⟨b,0,none⟩) k) rfl rfl rfl (te rfl) rfl rfl rfl rfl) rfl ?_;rintro _ _ ⟨rfl,rfl⟩;dsimp only [List.set])|(refine uE (uL rfl rfl (uW (T:=79) (cs:=cCt R p (some ⟨b,0,none⟩) k) (te rfl) rfl (qH _) rfl)) rfl rfl ?_)|(refine uE (EvF.build (cs:=cPk ⟨a,m⟩) rfl (ArgsP.cons rfl (ArgsP.cons rfl ArgsP.nil)) (te rfl) (Places.cons (te rfl) (Places.cons (te rfl) Places.nil)) Tryz.zeroValue86 rfl) rfl rfl ?_)|(refine uC (uT rfl (Args.cons rfl (Args.cons rfl Args.nil))) rfl rfl (hye _ b k ⟨hR.sub (fun _ h=>by repeat (first | exact h | apply qT)),SlE.ofRow (qT _ (qH _)) (fun _ _=>rfl)⟩ hbk) ?_;rintro _ H9 ⟨rfl,hH9⟩;subst H9)|(refine uE (uM rfl rfl) rfl rfl ?_)|(refine uE (uA rfl rfl) rfl rfl ?_)|(refine uE (uQ rfl rfl rfl rfl) rfl rfl ?_)|(refine uE (uL rfl rfl (uW (te rfl) rfl (qT _ (qH _)) rfl)) rfl rfl ?_)|(refine uE (uX rfl rfl rfl) rfl rfl ?_)|(refine Xg.st (StF.boxAgg rfl rfl) rfl rfl ?_;rintro _ _ ⟨bx,rfl,rfl⟩)|(refine Xg.st (StF.alloc rfl Tryz.zeroValue24 rfl) rfl rfl ?_;rintro _ _ ⟨bx,rfl,rfl⟩)|(refine Xg.st0 (StF.storeAll (i:=4) rfl rfl rfl (te rfl) rfl rfl rfl rfl) rfl ?_;rintro _ _ ⟨rfl,rfl⟩;dsimp only [List.set])))))|(refine uD rfl ?_;refine hK _ _ ?_;clear hK K) | refine uS rfl ?_ | refine uR rfl (fun K hK=>?_) | refine X.skip rfl ?_ | refine X.ret rfl ?_ | (refine X.ite rfl rfl (fun hc=>?_);(first | (with_reducible refine Xb.caseN hc (fun h=>?_) (fun h=>?_))) <;> clear hc))
  all_goals try (exfalso;omega)
  exact ret_two (v := .agg (cSp s).toArray) (by simp) Tryz.results9 ⟨_,rfl,uW (te rfl) rfl (by repeat (first | exact qH _ | apply qT)) rfl⟩ rfl (H' := H) (by (repeat (first | exact qR _ | apply qC));done) ⟨rfl,rfl⟩
 ·have hy : yelF R a m = (⟨0,0⟩,e):=by unfold yelF;rw [if_neg (by rw [he];exact h0),he]
  rw [hy]
  refine Fc.mk (callable Tryz.call9) Tryz.func9 rfl Tryz.ntmps9 rfl ?_;dsimp only [fr]
  repeat' (first | (refine uP rfl ?_;(first | ((first | refine uN rfl ?_);(first | (refine uE (uQ (b:=true) rfl rfl rfl (congrArg some (nd_t (by omega)))) rfl rfl ?_)|(refine Xg.st (StF.buildOne (v0 := .int .i64 a) rfl el55 rfl rfl rfl (by decide) (by decide)) rfl rfl ?_;rintro _ _ ⟨b1,rfl,rfl⟩)|(refine Xg.st (StF.buildOne (v0 := .int .i64 m) rfl el55 rfl rfl rfl (by decide) (by decide)) rfl rfl ?_;rintro _ _ ⟨b2,rfl,rfl⟩)|(refine uE (EvF.build (cs:=cBt ⟨[a],some ⟨b1,0,none⟩,1,[m],some ⟨b2,0,none⟩,1⟩) rfl (ArgsP.cons rfl (ArgsP.cons rfl ArgsP.nil)) (te rfl) (Places.cons (te rfl) (Places.cons (te rfl) Places.nil)) Tryz.zeroValue83 rfl) rfl rfl ?_)|(refine uC (uT rfl (Args.cons rfl (Args.cons rfl Args.nil))) rfl rfl (openN (hR.sub (fun _ h=>by repeat (first | exact h | apply qT))) (hbt _ b1 b2 (qT _ (qH _)) (qH _)) h2 he h0) ?_;rintro _ H9 ⟨rfl,hH9⟩;subst H9)|(refine Xg.st (StF.alloc rfl Tryz.zeroValue79 rfl) rfl rfl ?_;rintro _ _ ⟨b8,rfl,rfl⟩)|(refine Xg.st0 (StF.storeAll (i:=0) (vs:=zCt) rfl rfl rfl (te rfl) rfl rfl rfl rfl) rfl ?_;rintro _ _ ⟨rfl,rfl⟩;dsimp only [List.set])|(refine uE (EvF.build (cs:=cSp ⟨0,0⟩) rfl ArgsP.nil (te rfl) (Places.cons (te rfl) (Places.cons (te rfl) Places.nil)) Tryz.zeroValue24 rfl) rfl rfl ?_)|(refine uE (uM rfl rfl) rfl rfl ?_)|(refine uE (uA rfl rfl) rfl rfl ?_)|(refine uE (uL rfl rfl (uW (te rfl) rfl (qT _ (qH _)) rfl)) rfl rfl ?_)|(refine uE (uX rfl rfl rfl) rfl rfl ?_)|(refine Xg.st (StF.boxAgg rfl rfl) rfl rfl ?_;rintro _ _ ⟨bx,rfl,rfl⟩)|(refine Xg.st (StF.alloc rfl Tryz.zeroValue24 rfl) rfl rfl ?_;rintro _ _ ⟨bx,rfl,rfl⟩)|(refine Xg.st0 (StF.storeAll (i:=3) rfl rfl rfl (te rfl) rfl rfl rfl rfl) rfl ?_;rintro _ _ ⟨rfl,rfl⟩;dsimp only [List.set])))))|(refine uD rfl ?_;refine hK _ _ ?_;clear hK K) | refine uS rfl ?_ | refine uR rfl (fun K hK=>?_) | refine X.ret rfl ?_ | (refine X.ite rfl rfl (fun hc=>?_);(first | (with_reducible refine Xb.t hc ?_)) <;> clear hc))
  all_goals try (exfalso;omega)
  exact ret_two (v := .agg (cSp ⟨0,0⟩).toArray) (by simp) Tryz.results9 ⟨_,rfl,uW (te rfl) rfl (by repeat (first | exact qH _ | apply qT)) rfl⟩ rfl (H' := H) (by (repeat (first | exact qR _ | apply qC));done) ⟨rfl,rfl⟩
noncomputable def difF (R : Rm) (a b m : Int) : Sp × Int:=if openE R [a,b] [m] = 0 then (if a = b then (⟨0,0⟩,2) else (rng R R.mats ⟨a,m⟩ ⟨b,m⟩,0)) else (⟨0,0⟩,openE R [a,b] [m])
set_option maxHeartbeats 4000000 in
theorem kDiffer_spec (R : Rm) (p : Pl) (a b m : Int) (H : List Row) (hR : RmOk H R p) (h2 : R.boxes.length ≤ 1000000) : Fc Tryz.prog 11 [.agg (cRm R p).toArray,.int .i64 a,.int .i64 b,.int .i64 m] H (fun v H' => v = .tuple #[.agg (cSp (difF R a b m).1).toArray,.int .i64 (difF R a b m).2]∧H' = H):=by
 obtain ⟨e,he⟩ : ∃ e,openE R [a,b] [m] = e:=⟨_,rfl⟩
 have hbt : ∀ (H' : List Row) (b1 b2 : Nat),⟨b1,0,[.int .i64 a,.int .i64 b],some 3,2 * 1⟩ ∈ H' → ⟨b2,0,[.int .i64 m],some 3,1 * 1⟩ ∈ H' → BtOk H' ⟨[a,b],some ⟨b1,0,none⟩,2,[m],some ⟨b2,0,none⟩,1⟩:=fun H' b1 b2 q1 q2=>⟨SlE.ofRow (l:=[a,b]) q1 (fun _ _=>rfl),SlE.ofRow (l:=[m]) q2 (fun _ _=>rfl),Nat.le_of_ble_eq_true rfl,Nat.le_of_ble_eq_true rfl⟩
 by_cases h0 : e = 0
 ·subst h0
  obtain ⟨hok,_,_,hT⟩:=openE_ok he
  have hpa:=plcs_of he (show a ∈ [a,b] from List.mem_cons_self) (List.mem_singleton.2 rfl)
  have hpb:=plcs_of he (show b ∈ [a,b] from List.mem_cons_of_mem _ List.mem_cons_self) (List.mem_singleton.2 rfl)
  obtain ⟨r,hr⟩ : ∃ r,r = difF R a b m:=⟨_,rfl⟩
  rw [← hr]
  unfold difF at hr
  rw [if_pos he] at hr
  obtain ⟨s,hs⟩ : ∃ s,s = rng R R.mats ⟨a,m⟩ ⟨b,m⟩:=⟨_,rfl⟩
  have hye:=fun H' b' k hC hk=>differ_spec R p (some ⟨b',0,none⟩) k ⟨a,m⟩ ⟨b,m⟩ H' hok.ok hok.mats hC hok.lens.ages hok.lens.mats hk hpa hpb hT
  rw [← hs] at hye hr
  refine Fc.mk (callable Tryz.call11) Tryz.func11 rfl Tryz.ntmps11 rfl ?_;dsimp only [fr]
  repeat' (first | (refine uP rfl ?_;(first | ((first | refine uN rfl ?_);(first | (refine Xg.st (StF.buildTwo rfl el55 rfl rfl rfl rfl rfl rfl (by decide) (by decide)) rfl rfl ?_;rintro _ _ ⟨b1,rfl,rfl⟩)|(refine Xg.st (StF.buildOne (v0 := .int .i64 m) rfl el55 rfl rfl rfl (by decide) (by decide)) rfl rfl ?_;rintro _ _ ⟨b2,rfl,rfl⟩)|(refine uE (EvF.build (cs:=cBt ⟨[a,b],some ⟨b1,0,none⟩,2,[m],some ⟨b2,0,none⟩,1⟩) rfl (ArgsP.cons rfl (ArgsP.cons rfl ArgsP.nil)) (te rfl) (Places.cons (te rfl) (Places.cons (te rfl) Places.nil)) Tryz.zeroValue83 rfl) rfl rfl ?_)|(refine uC (uT rfl (by (repeat (first | exact Args.nil | refine Args.cons rfl ?_));done)) rfl rfl (openY (hR.sub (fun _ h=>by repeat (first | exact h | apply qT))) (hbt _ b1 b2 (qT _ (qH _)) (qH _)) h2 he) ?_;rintro _ _ ⟨b9,k,hbk,rfl,rfl⟩)|(refine Xg.st (StF.alloc rfl Tryz.zeroValue79 rfl) rfl rfl ?_;rintro _ _ ⟨b8,rfl,rfl⟩)|(refine Xg.st0 (StF.storeAll (i:=0) (vs:=cCt R p (some ⟨b9,0,none⟩) k) rfl rfl rfl (te rfl) rfl rfl rfl rfl) rfl ?_;rintro _ _ ⟨rfl,rfl⟩;dsimp only [List.set])|(refine uE (uL rfl rfl (uW (T:=79) (cs:=cCt R p (some ⟨b9,0,none⟩) k) (te rfl) rfl (qH _) rfl)) rfl rfl ?_)|(refine uE (EvF.build (cs:=cSp ⟨0,0⟩) rfl ArgsP.nil (te rfl) (Places.cons (te rfl) (Places.cons (te rfl) Places.nil)) Tryz.zeroValue24 rfl) rfl rfl ?_)|(refine uE (EvF.build (cs:=cPk ⟨a,m⟩) rfl (ArgsP.cons rfl (ArgsP.cons rfl ArgsP.nil)) (te rfl) (Places.cons (te rfl) (Places.cons (te rfl) Places.nil)) Tryz.zeroValue86 rfl) rfl rfl ?_)|(refine uE (EvF.build (cs:=cPk ⟨b,m⟩) rfl (ArgsP.cons rfl (ArgsP.cons rfl ArgsP.nil)) (te rfl) (Places.cons (te rfl) (Places.cons (te rfl) Places.nil)) Tryz.zeroValue86 rfl) rfl rfl ?_)|(refine uC (uT rfl (Args.cons rfl (Args.cons rfl (Args.cons rfl Args.nil)))) rfl rfl (hye _ b9 k ⟨hR.sub (fun _ h=>by repeat (first | exact h | apply qT)),SlE.ofRow (qT _ (qH _)) (fun _ _=>rfl)⟩ hbk) ?_;rintro _ H9 ⟨rfl,hH9⟩;subst H9)|(refine uE (uM rfl rfl) rfl rfl ?_)|(refine uE (uA rfl rfl) rfl rfl ?_)|(refine uE (uQ rfl rfl rfl rfl) rfl rfl ?_)|(refine uE (uL rfl rfl (uW (te rfl) rfl (qT _ (qH _)) rfl)) rfl rfl ?_)|(refine uE (uX rfl rfl rfl) rfl rfl ?_)|(refine Xg.st (StF.boxAgg rfl rfl) rfl rfl ?_;rintro _ _ ⟨bx,rfl,rfl⟩)|(refine Xg.st (StF.alloc rfl Tryz.zeroValue24 rfl) rfl rfl ?_;rintro _ _ ⟨bx,rfl,rfl⟩)|(refine Xg.st0 (StF.storeAll (i:=4) rfl rfl rfl (te rfl) rfl rfl rfl rfl) rfl ?_;rintro _ _ ⟨rfl,rfl⟩;dsimp only [List.set])))))|(refine uD rfl ?_;refine hK _ _ ?_;clear hK K) | refine uS rfl ?_ | refine uR rfl (fun K hK=>?_) | refine X.skip rfl ?_ | refine X.ret rfl ?_ | (refine X.ite rfl rfl (fun hc=>?_);(first | (with_reducible refine Xb.case hc (fun h=>?_) (fun h=>?_))|(with_reducible refine Xb.caseN hc (fun h=>?_) (fun h=>?_))) <;> clear hc))
  all_goals try (exfalso;omega)
  ·rw [if_pos (by assumption)] at hr
   subst hr
   exact ret_two (v := .agg (cSp ⟨0,0⟩).toArray) (by simp) Tryz.results11 ⟨_,rfl,uW (te rfl) rfl (by repeat (first | exact qH _ | apply qT)) rfl⟩ rfl (H' := H) (by (repeat (first | exact qR _ | apply qC));done) ⟨rfl,rfl⟩
  ·rw [if_neg (by assumption)] at hr
   subst hr
   exact ret_two (v := .agg (cSp s).toArray) (by simp) Tryz.results11 ⟨_,rfl,uW (te rfl) rfl (by repeat (first | exact qH _ | apply qT)) rfl⟩ rfl (H' := H) (by (repeat (first | exact qR _ | apply qC));done) ⟨rfl,rfl⟩
 ·have hy : difF R a b m = (⟨0,0⟩,e):=by unfold difF;rw [if_neg (by rw [he];exact h0),he]
  rw [hy]
  refine Fc.mk (callable Tryz.call11) Tryz.func11 rfl Tryz.ntmps11 rfl ?_;dsimp only [fr]
  repeat' (first | (refine uP rfl ?_;(first | ((first | refine uN rfl ?_);(first | (refine uE (uQ (b:=true) rfl rfl rfl (congrArg some (nd_t (by omega)))) rfl rfl ?_)|(refine Xg.st (StF.buildTwo rfl el55 rfl rfl rfl rfl rfl rfl (by decide) (by decide)) rfl rfl ?_;rintro _ _ ⟨b1,rfl,rfl⟩)|(refine Xg.st (StF.buildOne (v0 := .int .i64 m) rfl el55 rfl rfl rfl (by decide) (by decide)) rfl rfl ?_;rintro _ _ ⟨b2,rfl,rfl⟩)|(refine uE (EvF.build (cs:=cBt ⟨[a,b],some ⟨b1,0,none⟩,2,[m],some ⟨b2,0,none⟩,1⟩) rfl (ArgsP.cons rfl (ArgsP.cons rfl ArgsP.nil)) (te rfl) (Places.cons (te rfl) (Places.cons (te rfl) Places.nil)) Tryz.zeroValue83 rfl) rfl rfl ?_)|(refine uC (uT rfl (Args.cons rfl (Args.cons rfl Args.nil))) rfl rfl (openN (hR.sub (fun _ h=>by repeat (first | exact h | apply qT))) (hbt _ b1 b2 (qT _ (qH _)) (qH _)) h2 he h0) ?_;rintro _ H9 ⟨rfl,hH9⟩;subst H9)|(refine Xg.st (StF.alloc rfl Tryz.zeroValue79 rfl) rfl rfl ?_;rintro _ _ ⟨b8,rfl,rfl⟩)|(refine Xg.st0 (StF.storeAll (i:=0) (vs:=zCt) rfl rfl rfl (te rfl) rfl rfl rfl rfl) rfl ?_;rintro _ _ ⟨rfl,rfl⟩;dsimp only [List.set])|(refine uE (EvF.build (cs:=cSp ⟨0,0⟩) rfl ArgsP.nil (te rfl) (Places.cons (te rfl) (Places.cons (te rfl) Places.nil)) Tryz.zeroValue24 rfl) rfl rfl ?_)|(refine uE (uM rfl rfl) rfl rfl ?_)|(refine uE (uA rfl rfl) rfl rfl ?_)|(refine uE (uL rfl rfl (uW (te rfl) rfl (qT _ (qH _)) rfl)) rfl rfl ?_)|(refine uE (uX rfl rfl rfl) rfl rfl ?_)|(refine Xg.st (StF.boxAgg rfl rfl) rfl rfl ?_;rintro _ _ ⟨bx,rfl,rfl⟩)|(refine Xg.st (StF.alloc rfl Tryz.zeroValue24 rfl) rfl rfl ?_;rintro _ _ ⟨bx,rfl,rfl⟩)|(refine Xg.st0 (StF.storeAll (i:=3) rfl rfl rfl (te rfl) rfl rfl rfl rfl) rfl ?_;rintro _ _ ⟨rfl,rfl⟩;dsimp only [List.set])))))|(refine uD rfl ?_;refine hK _ _ ?_;clear hK K) | refine uS rfl ?_ | refine uR rfl (fun K hK=>?_) | refine X.ret rfl ?_ | (refine X.ite rfl rfl (fun hc=>?_);(first | (with_reducible refine Xb.t hc ?_)) <;> clear hc))
  all_goals try (exfalso;omega)
  exact ret_two (v := .agg (cSp ⟨0,0⟩).toArray) (by simp) Tryz.results11 ⟨_,rfl,uW (te rfl) rfl (by repeat (first | exact qH _ | apply qT)) rfl⟩ rfl (H' := H) (by (repeat (first | exact qR _ | apply qC));done) ⟨rfl,rfl⟩
end Go.Proofs.YtmfppdpkalelhaaGreat
end
section
set_option linter.unusedVariables false
set_option linter.unusedSimpArgs false
namespace Go.Proofs.YtmfppdpkalelhaaGreat
open Go Go.Fw
set_option maxRecDepth 10000
theorem inj2 : ∀ (a b m n : Nat),2 ^ a * (2 * m + 1)=2 ^ b * (2 * n + 1) → a = b∧m = n
 | 0,0,m,n,h=>by simp only [Nat.pow_zero,Nat.one_mul] at h;exact ⟨rfl,by omega⟩
 | 0,b + 1,m,n,h=>by
  rw [Nat.pow_succ,Nat.mul_comm (2 ^ b) 2,Nat.mul_assoc] at h
  simp only [Nat.pow_zero,Nat.one_mul] at h
  omega
 | a + 1,0,m,n,h=>by
  rw [Nat.pow_succ,Nat.mul_comm (2 ^ a) 2,Nat.mul_assoc] at h
  simp only [Nat.pow_zero,Nat.one_mul] at h
  omega
 | a + 1,b + 1,m,n,h=>by
  rw [Nat.pow_succ,Nat.mul_comm (2 ^ a) 2,Nat.mul_assoc,Nat.pow_succ,Nat.mul_comm (2 ^ b) 2,Nat.mul_assoc] at h
  obtain ⟨h1,h2⟩:=inj2 a b m n (by omega)
  exact ⟨by omega,h2⟩
def eI (i : Int) : Nat:=if 0 ≤ i then 2 * i.toNat else 2 * (-i).toNat + 1
theorem eI_inj {i j : Int} (h : eI i = eI j) : i = j:=by unfold eI at h;split at h <;> split at h <;> omega
def eSp (s : Sp) : Nat:=2 ^ eI s.lo * (2 * eI s.hi + 1)
theorem eSp_inj {s t : Sp} (h : eSp s = eSp t) : s = t:=by
 obtain ⟨h1,h2⟩:=inj2 _ _ _ _ h
 cases s;cases t
 have:=eI_inj h1
 have:=eI_inj h2
 simp_all
def eLs : List Sp → Nat
 | []=>0
 | s::l=>2 ^ eSp s * (2 * eLs l + 1)
theorem eLs_inj : ∀ (l r : List Sp),eLs l = eLs r → l = r
 | [],[],_=>rfl
 | [],s::r,h=>by
  have : 0 < 2 ^ eSp s:=Nat.pow_pos (by omega)
  have : 0 < 2 ^ eSp s * (2 * eLs r + 1):=Nat.mul_pos this (by omega)
  unfold eLs at h;omega
 | s::l,[],h=>by
  have : 0 < 2 ^ eSp s:=Nat.pow_pos (by omega)
  have : 0 < 2 ^ eSp s * (2 * eLs l + 1):=Nat.mul_pos this (by omega)
  unfold eLs at h;omega
 | s::l,t::r,h=>by
  obtain ⟨h1,h2⟩:=inj2 _ _ _ _ h
  rw [eSp_inj h1,eLs_inj l r h2]
theorem drawn {α : Type} (e : α → Nat) (inj : ∀ a b,e a = e b → a = b) (Φ : α → Prop) (h : ∃ a,Φ a) : ∃ d : Nat → α,(∀ n,Φ (d n)) ∧ ∀ a,Φ a → ∃ n,d n = a:=by
 classical
 obtain ⟨a0,h0⟩:=h
 refine ⟨fun n=>if q : ∃ a,Φ a∧e a = n then q.choose else a0,fun n=>?_,fun a ha=>⟨e a,?_⟩⟩
 ·dsimp only
  split
  ·rename_i q;exact q.choose_spec.1
  ·exact h0
 ·have q : ∃ b,Φ b∧e b = e a:=⟨a,ha,rfl⟩
  dsimp only
  rw [dif_pos q]
  exact inj _ _ q.choose_spec.2
open Classical in
noncomputable def chartOf (R : Rm) (f : Bx → Int → Sp) : List Sp:=(List.range 48).map (fun k=>if h : ∃ q : Bx × Int,there R q.1 q.2∧cel R ⟨q.1.id,q.2⟩ = k then f h.choose.1 h.choose.2 else ⟨0,0⟩)
theorem chartOf_len (R : Rm) (f : Bx → Int → Sp) : (chartOf R f).length = 48:=by unfold chartOf;simp
theorem chartOf_get {R : Rm} {f : Bx → Int → Sp} {k : Nat} (h : k < 48) : ∃ s,sat (chartOf R f) k = s∧((∃ b m,there R b m∧cel R ⟨b.id,m⟩ = k∧s = f b m)∨s = ⟨0,0⟩):=by
 refine ⟨_,rfl,?_⟩
 unfold sat chartOf
 rw [List.getD_eq_getElem?_getD,List.getElem?_map,List.getElem?_range h]
 simp only [Option.map_some,Option.getD_some]
 split
 ·rename_i q;exact .inl ⟨_,_,q.choose_spec.1,q.choose_spec.2,rfl⟩
 ·exact .inr rfl
theorem chartOf_at {R : Rm} (hr : okRm R) {f : Bx → Int → Sp} {b : Bx} {m : Int} (ht : there R b m) : sat (chartOf R f) (cel R ⟨b.id,m⟩) = f b m:=by
 unfold sat chartOf
 rw [List.getD_eq_getElem?_getD,List.getElem?_map,List.getElem?_range (cel_lt hr ht)]
 simp only [Option.map_some,Option.getD_some]
 have q : ∃ q : Bx × Int,there R q.1 q.2∧cel R ⟨q.1.id,q.2⟩ = cel R ⟨b.id,m⟩:=⟨(b,m),ht,rfl⟩
 rw [dif_pos q]
 obtain ⟨h1,h2⟩:=cel_inj hr q.choose_spec.1 ht q.choose_spec.2
 rw [h1,h2]
theorem chartOf_ok {R : Rm} {f : Bx → Int → Sp} (h : ∀ b m,there R b m → 0 ≤ (f b m).lo∧(f b m).lo ≤ (f b m).hi∧(f b m).hi ≤ 60) (k : Nat) : 0 ≤ (sat (chartOf R f) k).lo∧(sat (chartOf R f) k).lo ≤ (sat (chartOf R f) k).hi∧(sat (chartOf R f) k).hi ≤ 60:=by
 by_cases hk : k < 48
 ·obtain ⟨s,h1,h2⟩:=chartOf_get (R:=R) (f:=f) hk
  rw [h1]
  rcases h2 with ⟨b,m,ht,_,rfl⟩ | rfl
  ·exact h b m ht
  ·exact ⟨by decide,by decide,by decide⟩
 ·have : sat (chartOf R f) k = ⟨0,0⟩:=by
   unfold sat
   rw [List.getD_eq_getElem?_getD,List.getElem?_eq_none (by rw [chartOf_len];omega)]
   rfl
  rw [this]
  exact ⟨by decide,by decide,by decide⟩
theorem first_ex {R : Rm} (hr : okRm R) : ∃ l,FirstC R l:=⟨chartOf R (fun b m=>R.ages.getD (m - b.made).toNat ⟨0,0⟩),chartOf_len _ _,fun b m ht=>chartOf_at hr ht,chartOf_ok (fun b m ht=>hr.age ht)⟩
/-- what is known by all matches -/
structure Fd (R : Rm) (x : List Sp × Bool) : Prop where
 len : x.1.length = 48
 yes : x.2 = true → hasT R R.mats∧GoodC R R.mats x.1 ∧ ∀ b m,there R b m → ExR R R.mats ⟨b.id,m⟩ zp (sat x.1 (cel R ⟨b.id,m⟩))
 no : x.2 = false → ¬ hasT R R.mats
theorem ex_mem {R : Rm} (hr : okRm R) (hm : matsThere R R.mats) (hT : hasT R R.mats) {a b : Pk} (ha : a ∈ plcs R) (hb : b ∈ plcs R) : ExR R R.mats a b (rng R R.mats a b):=by
 obtain ⟨tx,htx⟩:=(hasT_iff hr hm (pidx_lt ha)).1 hT
 obtain ⟨ty,hty⟩:=(hasT_iff hr hm (pidx_lt hb)).1 hT
 exact (most_rng hr ha hb (most_some hr hm (pidx_lt hb) hty) (most_some hr hm (pidx_lt ha) htx)).rng
theorem fd_ex {R : Rm} (hr : okRm R) (hm : matsThere R R.mats) : ∃ x,Fd R x:=by
 by_cases hT : hasT R R.mats
 ·have hx : ∀ b m,there R b m → ExR R R.mats ⟨b.id,m⟩ zp (rng R R.mats ⟨b.id,m⟩ zp):=fun b m ht=>ex_mem hr hm hT (plcs_mem ht) (zp_mem R)
  have hx2 : ∀ b m,there R b m → (R.ages.getD (m - b.made).toNat ⟨0,0⟩).lo ≤ (rng R R.mats ⟨b.id,m⟩ zp).lo∧(rng R R.mats ⟨b.id,m⟩ zp).hi ≤ (R.ages.getD (m - b.made).toNat ⟨0,0⟩).hi∧(rng R R.mats ⟨b.id,m⟩ zp).lo ≤ (rng R R.mats ⟨b.id,m⟩ zp).hi:=fun b m ht=>by
   obtain ⟨z1,t1,e1⟩:=(hx b m ht).lo
   obtain ⟨z2,t2,e2⟩:=(hx b m ht).hi
   have a1:=t1.age b m ht
   have a2:=t2.age b m ht
   have a3:=(hx b m ht).all z2 t2
   rw [t1.zero] at e1
   rw [t2.zero] at e2 a3
   omega
  obtain ⟨l,hl,hat,hok⟩ : ∃ l : List Sp,l.length = 48∧(∀ b m,there R b m → sat l (cel R ⟨b.id,m⟩) = rng R R.mats ⟨b.id,m⟩ zp) ∧ ∀ k,0 ≤ (sat l k).lo∧(sat l k).lo ≤ (sat l k).hi∧(sat l k).hi ≤ 60 :=
   ⟨chartOf R (fun b m=>rng R R.mats ⟨b.id,m⟩ zp),chartOf_len _ _,fun b m ht=>chartOf_at hr ht,chartOf_ok (fun b m ht=>by
    have h1:=hx2 b m ht
    have h2:=hr.age ht
    omega)⟩
  refine ⟨(l,true),hl,fun _=>⟨hT,⟨hl,fun b m ht=>?_,fun z hz b m ht=>?_,hok⟩,fun b m ht=>?_⟩,fun h=>by cases h⟩
  ·show _ ≤ (sat l _).lo∧(sat l _).hi ≤ _∧(sat l _).lo ≤ (sat l _).hi
   rw [hat b m ht];exact hx2 b m ht
  ·show holds (sat l _) _
   rw [hat b m ht]
   have:=(hx b m ht).all z hz
   rw [hz.zero] at this
   unfold holds
   omega
  ·show ExR R R.mats _ zp (sat l _)
   rw [hat b m ht];exact hx b m ht
 ·exact ⟨(List.replicate 48 ⟨0,0⟩,false),by simp,(fun h=>by cases h),fun _=>hT⟩
theorem Fd.yes_of {R : Rm} {c l : List Sp} (hr : okRm R) (hm : matsThere R R.mats) (hf : FirstC R c) (h : ClosedT R R.mats c l) : Fd R (l,true) :=
 ⟨h.len,fun _=>⟨⟨_,h.fix.zlo hr hm (h.ages (hf.ages hr))⟩,h.good (hf.good hr),fun b m ht=>h.ex hr hm (hf.ages hr) hf.inn ht⟩,fun h=>by cases h⟩
theorem Fd.no_of {R : Rm} {c l : List Sp} (hf : FirstC R c) (hl : l.length = 48) (h : ∀ z,Tru R R.mats z → ¬ Inn R c z) : Fd R (l,false) :=
 ⟨hl,(fun h=>by cases h),fun _ ⟨z,hz⟩=>h z hz (hf.inn z hz)⟩
def eX (x : List Sp × Bool) : Nat:=2 * eLs x.1 + (if x.2 then 1 else 0)
theorem eX_inj (a b : List Sp × Bool) (h : eX a = eX b) : a = b:=by
 obtain ⟨a,p⟩:=a
 obtain ⟨b,q⟩:=b
 unfold eX at h
 dsimp only at h
 have h1 : p = q:=by cases p <;> cases q <;> simp_all <;> omega
 subst h1
 rw [eLs_inj a b (by omega)]
end Go.Proofs.YtmfppdpkalelhaaGreat
end
section
set_option linter.unusedVariables false
set_option linter.unusedSimpArgs false
namespace Go.Proofs.YtmfppdpkalelhaaGreat
open Go Go.Fw
set_option maxRecDepth 10000
theorem Fd.dec {R : Rm} {x : List Sp × Bool} (h : Fd R x) : x.2 = decide (hasT R R.mats):=by
 by_cases q : hasT R R.mats
 ·rw [decide_eq_true q]
  cases e : x.2
  ·exact absurd q (h.no e)
  ·rfl
 ·rw [decide_eq_false q]
  cases e : x.2
  ·rfl
  ·exact absurd (h.yes e).1 q
theorem Fd.len96 {R : Rm} {x : List Sp × Bool} (h : Fd R x) : (x.1.flatMap cSp).length = 96:=by rw [sp_len,h.len]
def tsFo : List TOp:=[⟨some 4,[],[],[]⟩,⟨some 5,[],[],[]⟩,⟨some 6,[1],[1],[]⟩,⟨some 7,[],[],[]⟩,⟨some 8,[3],[3],[]⟩,⟨some 9,[0,1,2,3,4],[0,2,4],[]⟩,⟨some 10,[0,1,2,3,4,5],[5],[]⟩,⟨some 11,[0,1,2,3,4,5],[5],[]⟩,⟨none,[0,1,2,3,4,5,6,7],[6],[10]⟩,⟨some 3,[0,1,2,3,4,5,6,7,8],[7],[]⟩,⟨none,[],[],[]⟩]
def valFo (b1 b2 : Nat) (R : Rm) (p : Pl) (dc : Nat → List Sp) (dx : Nat → List Sp × Bool) (k : Nat) (env : Env) : Value :=
 match k with
 | 0 => .agg (cRm R p).toArray
 | 1 => .pointer (some ⟨b1,4,none⟩)
 | 2 => .slice p.a3 R.mats.length p.c3
 | 3 => .agg (cRm R p).toArray
 | 4 => .agg ((dc (env 4).1).flatMap cSp).toArray
 | 5 => .tuple #[.agg ((dx (env 5).1).1.flatMap cSp).toArray,.bool (dx (env 5).1).2]
 | 6 => .agg ((dx (env 5).1).1.flatMap cSp).toArray
 | 7 => .bool ((dx (env 5).1).2)
 | 8=>undef
 | 9 => .bool ((dx (env 5).1).2)
 | _=>undef
def rowsFo (b1 b2 : Nat) (R : Rm) (p : Pl) (dc : Nat → List Sp) (dx : Nat → List Sp × Bool) (k : Nat) (env : Env) : List Row :=
 match k with
 | 8=>[⟨b2,0,(dx (env 5).1).1.flatMap cSp,some 149,96⟩]
 | 10=>[⟨b2,0,zRc.flatMap cSp,some 149,96⟩]
 | _=>[]
theorem locFo (b1 b2 : Nat) (R : Rm) (p : Pl) (dc : Nat → List Sp) (dx : Nat → List Sp × Bool) : ∀ k env i q9,i ≠ k → (tAt tsFo k).sup.contains i = false → valFo b1 b2 R p dc dx k (upd env i q9)=valFo b1 b2 R p dc dx k env∧rowsFo b1 b2 R p dc dx k (upd env i q9)=rowsFo b1 b2 R p dc dx k env:=by
 intro k env i q hk hs
 have hu : ∀ j,j ≠ i → upd env i q j = env j:=fun j hj=>by unfold upd;rw [if_neg hj]
 match k,hk,hs with
 | 0,_,_=>exact ⟨rfl,rfl⟩
 | 1,_,_=>exact ⟨rfl,rfl⟩
 | 2,_,_=>exact ⟨rfl,rfl⟩
 | 3,_,_=>exact ⟨rfl,rfl⟩
 | 4,hk,hs=>exact ⟨by simp only [valFo,hu 4 (fun e=>hk e.symm)],by simp only [rowsFo,hu 4 (fun e=>hk e.symm)]⟩
 | 5,hk,hs=>exact ⟨by simp only [valFo,hu 5 (fun e=>hk e.symm)],by simp only [rowsFo,hu 5 (fun e=>hk e.symm)]⟩
 | 6,hk,hs=>exact ⟨by simp only [valFo,hu 5 (by rintro rfl;cases hs)],by simp only [rowsFo,hu 5 (by rintro rfl;cases hs)]⟩
 | 7,hk,hs=>exact ⟨by simp only [valFo,hu 5 (by rintro rfl;cases hs)],by simp only [rowsFo,hu 5 (by rintro rfl;cases hs)]⟩
 | 8,hk,hs=>exact ⟨by simp only [valFo,hu 5 (by rintro rfl;cases hs)],by simp only [rowsFo,hu 5 (by rintro rfl;cases hs)]⟩
 | 9,hk,hs=>exact ⟨by simp only [valFo,hu 5 (by rintro rfl;cases hs)],by simp only [rowsFo,hu 5 (by rintro rfl;cases hs)]⟩
 | 10,_,_=>exact ⟨rfl,rfl⟩
 | _ + 11,_,_=>exact ⟨rfl,rfl⟩
set_option maxHeartbeats 4000000 in
theorem found_spec (R : Rm) (p : Pl) (H : List Row) (hr : okRm R) (hm : matsThere R R.mats) (hlm : R.mats.length ≤ 100) (hR : RmOk H R p) :
  Fc Tryz.prog 109 [.agg (cRm R p).toArray] H (fun v H' => ∃ x,Fd R x∧v = .tuple #[.agg (x.1.flatMap cSp).toArray,.bool x.2]∧H' = H):=by
 obtain ⟨dc,hdc1,hdc2⟩:=drawn eLs eLs_inj (FirstC R) (first_ex hr)
 obtain ⟨dx,hdx1,hdx2⟩:=drawn eX eX_inj (Fd R) (fd_ex hr hm)
 have hl96 : ∀ n,((dx n).1.flatMap cSp).length = 96:=fun n=>by rw [sp_len,(hdx1 n).len]
 have hfs : ∀ S,RmOk S R p → Fc Tryz.prog 125 [.agg (cRm R p).toArray] S (fun v H' => ∃ n,v = .agg ((dc n).flatMap cSp).toArray∧H' = S):=fun S hS=>(first_spec R p S hr hS).mono fun v H' ⟨l,hl,hv,hH⟩=>by
  obtain ⟨n,hn⟩:=hdc2 l hl
  exact ⟨n,by rw [hn];exact hv,hH⟩
 have hcs : ∀ n S,RmOk S R p → Fc Tryz.prog 124 [.agg (cRm R p).toArray,.slice p.a3 R.mats.length p.c3,.agg ((dc n).flatMap cSp).toArray] S (fun v H' => ∃ n,v = .tuple #[.agg ((dx n).1.flatMap cSp).toArray,.bool (dx n).2]∧H' = S):=fun n S hS=>(closed_spec R p R.mats p.a3 p.c3 (dc n) S hr hS hS.mats hlm hm (hdc1 _).len (hdc1 _).ok).mono fun v H' ⟨l,hH,h⟩=>by
  have hq : ∃ x,Fd R x∧v = .tuple #[.agg (x.1.flatMap cSp).toArray,.bool x.2]:=by
   rcases h with ⟨h1,hv⟩ | ⟨h1,h2,hv⟩
   ·exact ⟨(l,true),Fd.yes_of hr hm (hdc1 _) h1,hv⟩
   ·exact ⟨(l,false),Fd.no_of (hdc1 _) h1 h2,hv⟩
  obtain ⟨x,hx,hv⟩:=hq
  obtain ⟨n,hn⟩:=hdx2 x hx
  exact ⟨n,by rw [hn];exact hv,hH⟩
 refine Fc.mk (callable Tryz.call109) Tryz.func109 rfl Tryz.ntmps109 rfl ?_;dsimp only [fr]
 repeat' (first | (refine uP rfl ?_;(first | ((first | refine uN rfl ?_);(first | (refine uE (uA rfl rfl) rfl rfl ?_)|(refine Xg.st (StF.boxAgg rfl rfl) rfl rfl ?_;rintro _ _ ⟨bx,rfl,rfl⟩)|(refine Xg.st (StF.alloc rfl Tryz.zeroValue149 rfl) rfl rfl ?_;rintro _ _ ⟨bx,rfl,rfl⟩)))))|(refine uD rfl ?_;refine hK _ _ ?_;clear hK K) | refine uS rfl ?_ | refine uR rfl (fun K hK=>?_))
 rename_i b1
 generalize bx = b2
 have hRs : ∀ S : List Row,(∀ r ∈ ⟨b1,0,cRm R p,some 32,5⟩::H,r ∈ S) → RmOk S R p:=fun S hS=>hR.sub (fun r h=>hS r (List.mem_cons_of_mem _ h))
 refine X.regionOb tsFo [1,2] [(1,.pointer (some ⟨b1,0,none⟩)),(2,.pointer (some ⟨b2,0,none⟩))] (valFo b1 b2 R p dc dx) (rowsFo b1 b2 R p dc dx) (fun _=>(0,0)) (⟨b1,0,cRm R p,some 32,5⟩::H) rfl mixed (by repeat (first | exact uU _ | refine uV rfl ?_)) rfl (by kernel_rfl) (locFo b1 b2 R p dc dx) (qR _) ?_ ?_
 ·repeat' (first | exact AllF.done rfl | (refine AllF.step rfl ?_ ?_;·(first | fail | ((first | refine Ob.ng rfl ?_);(first | exact ObK.pure (fun env R hR=>by exact ⟨_,uA rfl rfl,rfl⟩) rfl (fun _=>rfl) | exact ObK.pure (fun env R hR=>by exact ⟨_,uF rfl rfl (te rfl) rfl (te rfl) (by decide),rfl⟩) rfl (fun _=>rfl) | exact ObK.pure (fun env R hR=>by exact ⟨_,uL rfl rfl (uO (te rfl) rfl (hR _ (qH _)) rfl),rfl⟩) rfl (fun _=>rfl) | exact ObK.pure (fun env R hR=>by exact ⟨_,uL rfl rfl (uW (te rfl) rfl (hR _ (qH _)) rfl),rfl⟩) rfl (fun _=>rfl)|(exact fun env S hS=>(OpF.call (uT rfl (Args.cons rfl Args.nil)) (hfs S (hRs S hS))).mono (fun v H' ⟨n,hv,hH⟩=>⟨(n,0),fun _=>hv,by rw [hH];exact List.Perm.refl _⟩))|(exact fun env S hS=>(OpF.call (uT rfl (Args.cons rfl (Args.cons rfl (Args.cons rfl Args.nil)))) (hcs (env 4).1 S (hRs S hS))).mono (fun v H' ⟨n,hv,hH⟩=>⟨(n,0),fun _=>hv,by rw [hH];exact List.Perm.refl _⟩))|(exact fun env S hS=>(StF.storeAll (i:=0) (vs:=(dx (env 5).1).1.flatMap cSp) (cs:=zRc.flatMap cSp) rfl rfl rfl (te rfl) rfl (hl96 _) (sp_one _) (by rw [hl96,sp_len];rfl)).op.mono (fun v H' ⟨hv,hH⟩=>⟨(0,0),fun h=>absurd rfl h,by rw [hH];exact List.Perm.refl _⟩))|(exact ObK.pure (fun env S hS=>⟨_,uX rfl rfl rfl,rfl⟩) rfl (fun _=>rfl)))))))
 intro env t ha2 hv;refine ⟨_,ha2.cons (hv 9 3 (Nat.le_of_ble_eq_true rfl) rfl),?_⟩;clear hv ha2
 show X _ _ _ [(3,.bool (dx (env 5).1).2),(1,.pointer (some ⟨b1,0,none⟩)),(2,.pointer (some ⟨b2,0,none⟩))] (⟨b2,0,(dx (env 5).1).1.flatMap cSp,some 149,96⟩::⟨b1,0,cRm R p,some 32,5⟩::H) _
 have hx:=hdx1 (env 5).1
 have hl:=hl96 (env 5).1
 generalize dx (env 5).1 = x at hx hl
 clear env
 repeat' (first | refine X.ret rfl ?_)
 exact ret_two (v := .agg (x.1.flatMap cSp).toArray) (by simp) Tryz.results109 ⟨_,rfl,uW (te rfl) rfl (qH _) hl⟩ rfl (H' := H) (by repeat (first | exact qR _ | apply qK | apply qC)) ⟨x,hx,rfl,rfl⟩
theorem true_spec (R : Rm) (p : Pl) (H : List Row) (hr : okRm R) (hm : matsThere R R.mats) (hlm : R.mats.length ≤ 100) (hR : RmOk H R p) :
  Fc Tryz.prog 71 [.agg (cRm R p).toArray] H (fun v H' => v = .bool (decide (hasT R R.mats))∧H' = H):=by
 refine Fc.mk (callable Tryz.call71) Tryz.func71 rfl Tryz.ntmps71 rfl ?_;dsimp only [fr]
 repeat' (first | (refine uP rfl ?_;(first | ((first | refine uN rfl ?_);(first | (refine uE (uL rfl rfl (uW (te rfl) rfl (qH _) rfl)) rfl rfl ?_)|(refine uC (uT rfl (by (repeat (first | exact Args.nil | refine Args.cons rfl ?_));done)) rfl rfl (found_spec R p _ hr hm hlm (hR.sub (fun _ h=>by repeat (first | exact h | apply qT)))) ?_;rintro _ _ ⟨x,hx,rfl,rfl⟩)|(refine uE (uX rfl rfl rfl) rfl rfl ?_)|(refine Xg.st0 (StF.storeAll (i:=0) (vs:=x.1.flatMap cSp) (cs:=zRc.flatMap cSp) rfl rfl rfl (te rfl) rfl hx.len96 (sp_one _) (by rw [hx.len96,sp_len];rfl)) rfl ?_;rintro _ _ ⟨rfl,rfl⟩;dsimp only [List.set])|(refine uE (uM rfl rfl) rfl rfl ?_)|(refine uE (uA rfl rfl) rfl rfl ?_)|(refine Xg.st (StF.boxAgg rfl rfl) rfl rfl ?_;rintro _ _ ⟨bx,rfl,rfl⟩)|(refine Xg.st (StF.alloc rfl Tryz.zeroValue149 rfl) rfl rfl ?_;rintro _ _ ⟨bx,rfl,rfl⟩)))))|(refine uD rfl ?_;refine hK _ _ ?_;clear hK K) | refine uS rfl ?_ | refine uR rfl (fun K hK=>?_) | refine X.ret rfl ?_)
 exact ret_one (v := .bool x.2) (by simp) Tryz.results71 rfl (H' := H) (by repeat (first | exact qR _ | apply qK | apply qC)) ⟨congrArg Value.bool hx.dec,rfl⟩
end Go.Proofs.YtmfppdpkalelhaaGreat
end
section
set_option linter.unusedVariables false
set_option linter.unusedSimpArgs false
namespace Go.Proofs.YtmfppdpkalelhaaGreat
open Go Go.Fw
set_option maxRecDepth 10000
def knb (so no : Bool) : Int:=if no then (if so then 1 else 0) else 2
theorem lKnown_spec (so no : Bool) (H : List Row) : Fc Tryz.prog 45 [.bool so,.bool no] H (fun v H' => v = .int .u8 (knb so no)∧H' = H):=by
 cases so <;> cases no
 all_goals (refine Fc.mk (callable Tryz.call45) Tryz.func45 rfl Tryz.ntmps45 rfl ?_;dsimp only [fr])
 all_goals (repeat' (first | (refine uP rfl ?_;(first | ((first | refine uN rfl ?_);(first | (refine uE (uM rfl rfl) rfl rfl ?_)|(refine uE (uA rfl rfl) rfl rfl ?_)|(refine uE (EvF.not rfl rfl) rfl rfl ?_)))))|(refine uD rfl ?_;refine hK _ _ ?_;clear hK K) | refine uS rfl ?_ | refine uR rfl (fun K hK=>?_) | refine X.block rfl ?_ | refine X.skip rfl ?_ | refine X.ret rfl ?_ | (refine X.ite rfl rfl (fun hc=>?_);(first | (with_reducible refine Xb.caseB hc (fun h=>?_) (fun h=>?_))) <;> clear hc)))
 all_goals try (exfalso;contradiction)
 all_goals (refine ret_one (by simp) Tryz.results45 rfl (H' := H) (by repeat (first | exact qR _ | apply qK | apply qC)) ⟨rfl,rfl⟩)
def toldF (s : Sp) (n : Int) : Int:=if n ≤ s.lo then 2 else if n ≤ s.hi then 1 else 0
theorem knb_told (s : Sp) (n : Int) : knb (decide (n ≤ s.hi)) (decide (s.lo < n)) = toldF s n:=by
 unfold knb toldF
 by_cases h : n ≤ s.lo
 ·rw [if_pos h,decide_eq_false (by omega)];rfl
 ·rw [if_neg h,decide_eq_true (show s.lo < n by omega)]
  simp
def knP (y : Sp × Int) (n : Int) : Int × Int:=if y.2 = 0 then (toldF y.1 n,0) else (0,y.2)
set_option maxHeartbeats 4000000 in
theorem kKnown_spec (R : Rm) (p : Pl) (a m n : Int) (H : List Row) (hR : RmOk H R p) (h2 : R.boxes.length ≤ 1000000) : Fc Tryz.prog 12 [.agg (cRm R p).toArray,.int .i64 a,.int .i64 m,.int .i64 n] H (fun v H' => v = .tuple #[.int .u8 (knP (yelF R a m) n).1,.int .i64 (knP (yelF R a m) n).2]∧H' = H):=by
 obtain ⟨⟨ys,ye⟩,hy⟩ : ∃ y,y = yelF R a m:=⟨_,rfl⟩
 have kyel:=fun p' H' (h : RmOk H' R p')=>kYellow_spec R p' a m H' h h2
 rw [← hy] at kyel ⊢
 clear hy
 refine Fc.mk (callable Tryz.call12) Tryz.func12 rfl Tryz.ntmps12 rfl ?_;dsimp only [fr]
 repeat' (first | (refine uP rfl ?_;(first | ((first | refine uN rfl ?_);(first | (refine uE (uL rfl rfl (uW (T:=32) (cs:=cRm R p) (te rfl) rfl (by repeat (first | exact qH _ | apply qT)) rfl)) rfl rfl ?_)|(refine uC (uT rfl (by (repeat (first | exact Args.nil | refine Args.cons rfl ?_));done)) rfl rfl (kyel _ _ (hR.sub (fun _ h=>by repeat (first | exact h | apply qT)))) ?_;rintro _ H9 ⟨rfl,hH9⟩;subst H9)|(refine uC (uT rfl (by (repeat (first | exact Args.nil | refine Args.cons rfl ?_));done)) rfl rfl (lKnown_spec _ _ _) ?_;rintro _ H9 ⟨rfl,hH9⟩;subst H9)|(refine uE (uX rfl rfl rfl) rfl rfl ?_)|(refine uE (uM rfl rfl) rfl rfl ?_)|(refine uE (uA rfl rfl) rfl rfl ?_)|(refine uE (uQ rfl rfl rfl rfl) rfl rfl ?_)|(refine uE (uF rfl rfl (te rfl) rfl (te rfl) (by decide)) rfl rfl ?_)|(refine uE (uL rfl rfl (uO (te rfl) rfl (qH _) rfl)) rfl rfl ?_)|(refine Xg.st (StF.boxAgg rfl rfl) rfl rfl ?_;rintro _ _ ⟨bx,rfl,rfl⟩)|(refine Xg.st (StF.alloc rfl Tryz.zeroValue24 rfl) rfl rfl ?_;rintro _ _ ⟨bx,rfl,rfl⟩)|(refine Xg.st0 (StF.storeAll (i:=0) rfl rfl rfl (te rfl) rfl rfl rfl rfl) rfl ?_;rintro _ _ ⟨rfl,rfl⟩;dsimp only [List.set])))))|(refine uD rfl ?_;refine hK _ _ ?_;clear hK K) | refine uS rfl ?_ | refine uR rfl (fun K hK=>?_) | refine X.skip rfl ?_ | refine X.ret rfl ?_ | (refine X.ite rfl rfl (fun hc=>?_);(first | (with_reducible refine Xb.caseN hc (fun h=>?_) (fun h=>?_))) <;> clear hc))
 ·refine ret_two (by simp) Tryz.results12 rfl rfl (H' := H) (by repeat (first | exact qR _ | apply qK | apply qC)) ⟨?_,rfl⟩
  unfold knP
  rw [if_neg (by assumption)]
 ·refine ret_two (by simp) Tryz.results12 rfl rfl (H' := H) (by repeat (first | exact qR _ | apply qK | apply qC)) ⟨?_,rfl⟩
  unfold knP
  rw [if_pos (by assumption), ← knb_told]
set_option maxHeartbeats 4000000 in
theorem kOrder_spec (R : Rm) (p : Pl) (a b m : Int) (H : List Row) (hR : RmOk H R p) (h2 : R.boxes.length ≤ 1000000) : Fc Tryz.prog 14 [.agg (cRm R p).toArray,.int .i64 a,.int .i64 b,.int .i64 m] H (fun v H' => v = .tuple #[.int .u8 (knP (difF R a b m) 0).1,.int .i64 (knP (difF R a b m) 0).2]∧H' = H):=by
 obtain ⟨⟨ys,ye⟩,hy⟩ : ∃ y,y = difF R a b m:=⟨_,rfl⟩
 have kyel:=fun p' H' (h : RmOk H' R p')=>kDiffer_spec R p' a b m H' h h2
 rw [← hy] at kyel ⊢
 clear hy
 refine Fc.mk (callable Tryz.call14) Tryz.func14 rfl Tryz.ntmps14 rfl ?_;dsimp only [fr]
 repeat' (first | (refine uP rfl ?_;(first | ((first | refine uN rfl ?_);(first | (refine uE (uL rfl rfl (uW (T:=32) (cs:=cRm R p) (te rfl) rfl (by repeat (first | exact qH _ | apply qT)) rfl)) rfl rfl ?_)|(refine uC (uT rfl (by (repeat (first | exact Args.nil | refine Args.cons rfl ?_));done)) rfl rfl (kyel _ _ (hR.sub (fun _ h=>by repeat (first | exact h | apply qT)))) ?_;rintro _ H9 ⟨rfl,hH9⟩;subst H9)|(refine uC (uT rfl (by (repeat (first | exact Args.nil | refine Args.cons rfl ?_));done)) rfl rfl (lKnown_spec _ _ _) ?_;rintro _ H9 ⟨rfl,hH9⟩;subst H9)|(refine uE (uX rfl rfl rfl) rfl rfl ?_)|(refine uE (uM rfl rfl) rfl rfl ?_)|(refine uE (uA rfl rfl) rfl rfl ?_)|(refine uE (uQ rfl rfl rfl rfl) rfl rfl ?_)|(refine uE (uF rfl rfl (te rfl) rfl (te rfl) (by decide)) rfl rfl ?_)|(refine uE (uL rfl rfl (uO (te rfl) rfl (qH _) rfl)) rfl rfl ?_)|(refine Xg.st (StF.boxAgg rfl rfl) rfl rfl ?_;rintro _ _ ⟨bx,rfl,rfl⟩)|(refine Xg.st (StF.alloc rfl Tryz.zeroValue24 rfl) rfl rfl ?_;rintro _ _ ⟨bx,rfl,rfl⟩)|(refine Xg.st0 (StF.storeAll (i:=0) rfl rfl rfl (te rfl) rfl rfl rfl rfl) rfl ?_;rintro _ _ ⟨rfl,rfl⟩;dsimp only [List.set])))))|(refine uD rfl ?_;refine hK _ _ ?_;clear hK K) | refine uS rfl ?_ | refine uR rfl (fun K hK=>?_) | refine X.skip rfl ?_ | refine X.ret rfl ?_ | (refine X.ite rfl rfl (fun hc=>?_);(first | (with_reducible refine Xb.caseN hc (fun h=>?_) (fun h=>?_))) <;> clear hc))
 ·refine ret_two (by simp) Tryz.results14 rfl rfl (H' := H) (by repeat (first | exact qR _ | apply qK | apply qC)) ⟨?_,rfl⟩
  unfold knP
  rw [if_neg (by assumption)]
 ·refine ret_two (by simp) Tryz.results14 rfl rfl (H' := H) (by repeat (first | exact qR _ | apply qK | apply qC)) ⟨?_,rfl⟩
  unfold knP
  rw [if_pos (by assumption), ← knb_told]
end Go.Proofs.YtmfppdpkalelhaaGreat
end
section
set_option linter.unusedVariables false
set_option linter.unusedSimpArgs false
namespace Go.Proofs.YtmfppdpkalelhaaGreat
open Go Go.Fw
set_option maxRecDepth 10000
def fstM (P : Nat → Bool) : Nat → Nat → Option Nat
 | _,0=>none
 | k,n + 1=>if P k then some k else fstM P (k + 1) n
theorem fstM_hit {P : Nat → Bool} {k n : Nat} (h : P k = true) (hn : 0 < n) : fstM P k n = some k:=by
 cases n with
 | zero=>omega
 | succ n=>unfold fstM;rw [h];rfl
theorem fstM_no {P : Nat → Bool} {k n : Nat} (h : P k = false) (hn : 0 < n) : fstM P k n = fstM P (k + 1) (n - 1):=by
 cases n with
 | zero=>omega
 | succ n =>
  conv=>lhs;unfold fstM
  rw [h];simp
open Classical in
noncomputable def sinP (R : Rm) (a : Int) (f : Sp → Bool) (k : Nat) : Bool:=decide (∃ b,there R b k∧b.id = a) && f (rng R R.mats ⟨a,k⟩ zp)
def sinO : Option Nat → Int × Int
 | some k=>(k,0)
 | none=>(0,6)
noncomputable def sinF (R : Rm) (a : Int) (f : Sp → Bool) : Int × Int:=if openE R [a] [] = 0 then sinO (fstM (sinP R a f) 0 R.months.toNat) else (0,openE R [a] [])
def sinS (sure : Bool) (n : Int) (s : Sp) : Bool:=decide (n ≤ if sure then s.lo else s.hi)
end Go.Proofs.YtmfppdpkalelhaaGreat
end
section
set_option linter.unusedVariables false
set_option linter.unusedSimpArgs false
namespace Go.Proofs.YtmfppdpkalelhaaGreat
open Go Go.Fw
set_option maxRecDepth 10000
theorem Tru.mono {R : Rm} {M M' : List Mt} {z : Pk → Int} (h : Tru R M z) (hs : ∀ x ∈ M',x ∈ M) : Tru R M' z:=⟨h.zero,h.age,h.step,fun x hx=>h.mat x (hs x hx)⟩
theorem hasT.mono {R : Rm} {M M' : List Mt} (h : hasT R M) (hs : ∀ x ∈ M',x ∈ M) : hasT R M' := ⟨_,h.choose_spec.mono hs⟩
def thI (R : Rm) (m : Int) : List Int:=(R.boxes.filter (fun b=>decide (b.made ≤ m))).map (·.id)
theorem mem_thI {R : Rm} {m i : Int} (h : m ≤ R.months - 1) : i ∈ thI R m ↔ ∃ b,there R b m∧b.id = i:=by
 unfold thI
 constructor
 ·intro q
  obtain ⟨b,hb,rfl⟩:=List.mem_map.1 q
  have:=List.mem_filter.1 hb
  exact ⟨b,⟨this.1,of_decide_eq_true this.2,h⟩,rfl⟩
 ·rintro ⟨b,hb,rfl⟩
  exact List.mem_map.2 ⟨b,List.mem_filter.2 ⟨hb.1,decide_eq_true hb.2.1⟩,rfl⟩
noncomputable def stale (R : Rm) (m a : Int) : Bool:=(thI R m).any (fun b=>decide (0 < (rng R R.mats ⟨a,m⟩ ⟨b,m⟩).lo))
noncomputable def freL (R : Rm) (m : Int) : List Int:=(thI R m).filter (fun a => !stale R m a)
noncomputable def freF (R : Rm) (m : Int) : List Int × Int:=if openE R [] [m] = 0 then (freL R m,0) else ([],openE R [] [m])
def askI (w : Int → Int → Int) (x : Int) : List Int → Int × Int × Int → Int × Int × Int
 | [],acc=>acc
 | y::t,acc=>askI w x t (if acc.2.2 < w x y then (x,y,w x y) else acc)
def askO (w : Int → Int → Int) : List Int → Int × Int × Int → Int × Int × Int
 | [],acc=>acc
 | x::t,acc=>askO w t (askI w x t acc)
noncomputable def wid2 (R : Rm) (m a b : Int) : Int:=(rng R R.mats ⟨a,m⟩ ⟨b,m⟩).hi - (rng R R.mats ⟨a,m⟩ ⟨b,m⟩).lo
noncomputable def askF (R : Rm) (m : Int) : (Int × Int × Int) × Int:=if openE R [] [m] = 0 then (if (thI R m).length < 2 then ((0,0,0),6) else (askO (wid2 R m) (thI R m) (0,0, -1),0)) else ((0,0,0),openE R [] [m])
def dueS (L : Nat → List Int) : Nat → Nat → Int × List Int × Int
 | _,0=>(0,[],6)
 | k,q + 1=>if (L k).length = 0 then dueS L (k + 1) q else (k,L k,0)
noncomputable def dueL (R : Rm) (n : Int) (k : Nat) : List Int:=(R.boxes.filter (fun b=>decide (b.made ≤ (k : Int)) && decide (n < (rng R R.mats ⟨b.id,k⟩ zp).hi))).map (·.id)
def dueP (n : Int) (s : Sp) : Bool:=decide (n < s.hi)
noncomputable def lateL (R : Rm) (n : Int) (l : List Bx) (k : Nat) : List Int:=(l.filter (fun b=>decide (fstM (sinP R b.id (dueP n)) 0 R.months.toNat = some k))).map (·.id)
noncomputable def dueF (R : Rm) (n : Int) : Int × List Int × Int:=if openE R [] [] = 0 then dueS (dueL R n) 0 R.months.toNat else (0,[],openE R [] [])
theorem fstM_iff (P : Nat → Bool) : ∀ (q k j : Nat),fstM P k q = some j ↔ (k ≤ j∧j < k + q∧P j = true ∧ ∀ i,k ≤ i → i < j → P i = false)
 | 0,k,j=>by unfold fstM;simp;omega
 | q + 1,k,j=>by
  unfold fstM
  by_cases h : P k = true
  ·rw [if_pos h]
   constructor
   ·intro e;cases e;exact ⟨Nat.le_refl _,by omega,h,fun i h1 h2=>by omega⟩
   ·rintro ⟨h1,h2,h3,h4⟩
    by_cases e : k = j
    ·rw [e]
    ·have:=h4 k (Nat.le_refl _) (by omega);rw [h] at this;cases this
  ·rw [if_neg h,fstM_iff P q (k + 1) j]
   have hf : P k = false:=Bool.eq_false_iff.2 h
   constructor
   ·rintro ⟨h1,h2,h3,h4⟩
    refine ⟨by omega,by omega,h3,fun i g1 g2=>?_⟩
    by_cases e : i = k
    ·rw [e];exact hf
    ·exact h4 i (by omega) g2
   ·rintro ⟨h1,h2,h3,h4⟩
    refine ⟨?_,by omega,h3,fun i g1 g2=>h4 i (by omega) g2⟩
    by_cases e : k = j
    ·subst e;rw [hf] at h3;cases h3
    ·omega
theorem sinP_box {R : Rm} {f : Sp → Bool} {b : Bx} (hr : okRm R) (hb : b ∈ R.boxes) {k : Nat} (hk : (k : Int)<R.months) : sinP R b.id f k = (decide (b.made ≤ (k : Int)) && f (rng R R.mats ⟨b.id,k⟩ zp)):=by
 classical
 unfold sinP
 by_cases h : b.made ≤ (k : Int)
 ·rw [decide_eq_true h,decide_eq_true ⟨b,⟨hb,h,by omega⟩,rfl⟩]
 ·rw [decide_eq_false h,decide_eq_false]
  rintro ⟨c,hc,e⟩
  have:=rises_inj_bx hr.bx c hc.1 b hb e
  subst this
  exact h hc.2.1
theorem late_due {R : Rm} (hr : okRm R) (n : Int) : ∀ (q k : Nat),k + q = R.months.toNat → (∀ i,i < k → dueL R n i = []) → dueS (lateL R n R.boxes) k q = dueS (dueL R n) k q
 | 0,_,_,_=>rfl
 | q + 1,k,hk,h=>by
  have hkk : lateL R n R.boxes k = dueL R n k:=by
   unfold lateL dueL
   congr 1
   refine List.filter_congr fun b hb=>?_
   have hs:=sinP_box (f:=dueP n) hr hb (k:=k) (by omega)
   by_cases e : sinP R b.id (dueP n) k = true
   ·rw [decide_eq_true ((fstM_iff _ _ _ _).2 ⟨Nat.zero_le _,by omega,e,fun i _ hi=>?_⟩)]
    ·rw [← e,hs];rfl
    ·have h1:=h i hi
     unfold dueL at h1
     have h2:=List.map_eq_nil_iff.1 h1
     have h3:=List.filter_eq_nil_iff.1 h2 b hb
     rw [sinP_box hr hb (by omega)]
     exact Bool.eq_false_iff.2 h3
   ·rw [decide_eq_false (fun q' => e ((fstM_iff _ _ _ _).1 q').2.2.1)]
    have e' := Bool.eq_false_iff.2 e
    rw [← e',hs];rfl
  unfold dueS
  rw [hkk]
  split
  ·rename_i h0
   refine late_due hr n q (k + 1) (by omega) (fun i hi=>?_)
   by_cases e : i = k
   ·rw [e];exact List.length_eq_zero_iff.1 h0
   ·exact h i (by omega)
  ·rfl
theorem agesOf_month {R : Rm} {b : Bx} (hr : okRm R) (hb : b ∈ R.boxes) {m : Int} (hm : m ≤ R.months - 1) : ((agesOf R b).filter (fun p=>decide (p.month = m))).map (·.box)=if b.made ≤ m then [b.id] else []:=by
 have hn : ∀ (n : Nat),(((List.range n).map (fun (a : Nat)=>(⟨b.id,b.made + a⟩ : Pk))).filter (fun p=>decide (p.month = m))).map (·.box)=if b.made ≤ m∧m < b.made + n then [b.id] else []:=by
  intro n
  induction n with
  | zero=>rw [if_neg (by omega)];rfl
  | succ n ih =>
   rw [List.range_succ,List.map_append,List.filter_append,List.map_append,ih]
   simp only [List.map_cons,List.map_nil]
   by_cases e : b.made + (n : Int)=m
   ·rw [if_neg (by omega),if_pos (by omega),List.filter_cons_of_pos (by simpa using e)]
    rfl
   ·rw [List.filter_cons_of_neg (by simpa using e)]
    by_cases g : b.made ≤ m∧m < b.made + n
    ·rw [if_pos g,if_pos (by omega)];rfl
    ·rw [if_neg g,if_neg (by omega)];rfl
 unfold agesOf
 rw [hn]
 have:=okBoxes_mem _ _ _ hr.bx b hb
 unfold nAge
 by_cases e : b.made ≤ m
 ·rw [if_pos (by omega),if_pos e]
 ·rw [if_neg (by omega),if_neg e]
/-- the places behind the first one that are of a month -/
theorem plcs_month {R : Rm} (hr : okRm R) {m : Int} (hm : m ≤ R.months - 1) : (((plcs R).drop 1).filter (fun p=>decide (p.month = m))).map (·.box)=thI R m:=by
 have hg : ∀ (l : List Bx),(∀ b ∈ l,b ∈ R.boxes) → ((l.flatMap (agesOf R)).filter (fun p=>decide (p.month = m))).map (·.box)=(l.filter (fun b=>decide (b.made ≤ m))).map (·.id):=by
  intro l
  induction l with
  | nil=>intro _;rfl
  | cons b l ih =>
   intro h
   rw [List.flatMap_cons,List.filter_append,List.map_append,ih (fun c hc=>h c (List.mem_cons_of_mem _ hc)),agesOf_month hr (h b List.mem_cons_self) hm]
   by_cases e : b.made ≤ m
   ·rw [if_pos e,List.filter_cons_of_pos (by simpa using e)];rfl
   ·rw [if_neg e,List.filter_cons_of_neg (by simpa using e)];rfl
 exact hg R.boxes (fun _ h=>h)
end Go.Proofs.YtmfppdpkalelhaaGreat
end
section
set_option linter.unusedVariables false
set_option linter.unusedSimpArgs false
namespace Go.Proofs.YtmfppdpkalelhaaGreat
open Go Go.Fw
set_option maxRecDepth 10000
def lonG {α : Type} (ok : List α → Bool) : List α → Nat → List α → Option (List α)
 | [],0,acc=>if ok acc = true then some acc else none
 | [],_ + 1,_=>none
 | _::_,0,acc=>if ok acc = true then some acc else none
 | x::t,m + 1,acc=>match lonG ok t m (acc++[x]) with
  | some r=>some r
  | none=>lonG ok t (m + 1) acc
theorem lonG_zero {α : Type} (ok : List α → Bool) (t acc : List α) : lonG ok t 0 acc = if ok acc = true then some acc else none:=by cases t <;> rfl
theorem lonG_short {α : Type} (ok : List α → Bool) : ∀ (t : List α) (m : Nat) (acc : List α),t.length < m → lonG ok t m acc = none
 | [],0,_,h=>by simp at h
 | [],_ + 1,_,_=>rfl
 | _::_,0,_,h=>by simp at h
 | x::t,m + 1,acc,h=>by
  simp only [List.length_cons] at h
  simp only [lonG]
  rw [lonG_short ok t m _ (by omega),lonG_short ok t (m + 1) _ (by omega)]
def fewG {α : Type} (ok : List α → Bool) (l : List α) : Nat → Nat → Option (List α)
 | 0,_=>none
 | k + 1,n=>match lonG ok l n [] with
  | some r=>some r
  | none=>fewG ok l k (n + 1)
theorem fewG_beyond {α : Type} (ok : List α → Bool) (l : List α) : ∀ k n,l.length < n → fewG ok l k n = none
 | 0,_,_=>rfl
 | k + 1,n,h=>by simp only [fewG];rw [lonG_short ok l n [] h,fewG_beyond ok l k (n + 1) (by omega)]
theorem fewG_more {α : Type} (ok : List α → Bool) (l : List α) : ∀ k k' n,k ≤ k' → l.length < n + k → fewG ok l k' n = fewG ok l k n
 | 0,k',n,_,h=>by rw [fewG_beyond ok l k' n (by omega)];rfl
 | k + 1,0,n,h1,_=>by omega
 | k + 1,k' + 1,n,h1,h=>by
  simp only [fewG]
  split
  ·rfl
  ·exact fewG_more ok l k k' (n + 1) (by omega) (by omega)
theorem fewG_min {α : Type} (ok : List α → Bool) (l : List α) (most : Nat) : fewG ok l (min most l.length + 1) 0 = fewG ok l (most + 1) 0:=by
 by_cases h : most ≤ l.length
 ·rw [Nat.min_eq_left h]
 ·exact (fewG_more ok l _ _ 0 (by omega) (by omega)).symm
theorem filter_sub {α : Type} (f : α → Int) : ∀ {l r : List α},r.Sublist l → (l.map f).Nodup → l.filter (fun x=>decide (f x ∈ r.map f)) = r:=by
 intro l r h
 induction h with
 | slnil=>intro _;rfl
 | @cons r l a h ih =>
  intro hn
  rw [List.map_cons,List.nodup_cons] at hn
  have : f a ∉ r.map f:=fun q=>hn.1 ((h.map f).subset q)
  rw [List.filter_cons_of_neg (by simpa using this)]
  exact ih hn.2
 | @cons_cons r l a h ih =>
  intro hn
  rw [List.map_cons,List.nodup_cons] at hn
  rw [List.filter_cons_of_pos (by simp)]
  congr 1
  refine (List.filter_congr fun x hx=>?_).trans (ih hn.2)
  refine decide_eq_decide.2 ⟨fun q=>?_,fun q=>by rw [List.map_cons];exact List.mem_cons_of_mem _ q⟩
  rw [List.map_cons] at q
  rcases List.mem_cons.1 q with q | q
  ·exact absurd (q ▸ List.mem_map.2 ⟨x,hx,rfl⟩) hn.1
  ·exact q
def inM (M : List Mt) (l : List Int) : List Mt:=M.filter (fun x=>decide (x.number ∈ l))
def outM (M : List Mt) (l : List Int) : List Mt:=M.filter (fun x => !decide (x.number ∈ l))
open Classical in
noncomputable def prvM (R : Rm) (q : Pk) (s : Sp) (M : List Mt) : Bool:=decide (rng R M q zp = s)
noncomputable def prvN (R : Rm) (q : Pk) (s : Sp) (l : List Int) : Bool:=prvM R q s (inM R.mats l)
noncomputable def okW (R : Rm) (l : List Int) : Bool:=decide (hasT R (outM R.mats l))
noncomputable def whyL (R : Rm) (q : Pk) : List Int:=(fewG (prvN R q (rng R R.mats q zp)) (R.mats.map (·.number)) (R.mats.length + 1) 0).getD []
noncomputable def whyF (R : Rm) (a m : Int) : List Int × Int:=if openE R [a] [m] = 0 then (whyL R ⟨a,m⟩,0) else ([],openE R [a] [m])
noncomputable def rstL (R : Rm) (q : Pk) (M : List Mt) : List Int:=(M.filter (fun x => !prvM R q (rng R R.mats q zp) (outM R.mats [x.number]))).map (·.number)
noncomputable def rstF (R : Rm) (a m : Int) : List Int × Int:=if openE R [a] [m] = 0 then (rstL R ⟨a,m⟩ R.mats,0) else ([],openE R [a] [m])
open Classical in
noncomputable def wrgF (R : Rm) : List Int × Int:=if roomOk R then (match fewG (okW R) (R.mats.map (·.number)) 4 0 with
 | some r=>(r,0)
 | none=>([],4)) else ([],10)
end Go.Proofs.YtmfppdpkalelhaaGreat
end
section
set_option linter.unusedVariables false
set_option linter.unusedSimpArgs false
namespace Go.Proofs.YtmfppdpkalelhaaGreat
open Go Go.Fw
set_option maxRecDepth 10000
def ts71 : List TOp:=[⟨some 24,[],[],[]⟩,⟨some 25,[],[],[]⟩,⟨some 26,[],[],[]⟩,⟨some 27,[1,2],[1,2],[]⟩,⟨some 28,[1,2,3],[3],[]⟩,⟨some 29,[1,2,3,4],[4],[]⟩,⟨some 30,[0,1,2,3,4,5],[0,5],[9]⟩,⟨none,[0,1,2,3,4,5,6],[6],[8]⟩,⟨none,[],[],[]⟩,⟨none,[],[],[]⟩]
def rd71 (k : Nat) : List Nat:=match k with
 | 0=>[8]
 | 6=>[5]
 | _=>[]
def TrvI (l : List Int) (out : Value) (Z : List Row) : Prop:=(l = []∧out = .slice none 0 0∧Z = []) ∨ ∃ b q,out = .slice (some ⟨b,0,none⟩) l.length q∧Z = [⟨b,0,l.flatMap cI,some 3,q * 1⟩]
theorem TrvI.sl {l : List Int} {out : Value} {Z H : List Row} (h : TrvI l out Z) : ∃ a c,out = .slice a l.length c∧SlE (Z++H) a cI 1 l:=by
 rcases h with ⟨rfl,rfl,rfl⟩ | ⟨b,q,rfl,rfl⟩
 ·exact ⟨none,0,rfl,sleNil⟩
 ·exact ⟨_,_,rfl,SlE.ofRow (qH _) (fun _ _=>rfl)⟩
def val71I (out : Value) (lb lo n c : Nat) (ll : Nat) (i : Nat) (e : Int) (k : Nat) (env : Env) : Value :=
 match k with
 | 0=>out
 | 1 => .slice (some ⟨lb,lo,none⟩) ll c
 | 2 => .int .i64 i
 | 3 => .pointer (some ⟨lb,lo + i * 1,none⟩)
 | 4 => .int .i64 e
 | 5 => .slice (some ⟨(env 5).1,0,none⟩) 1 1
 | 6 => .slice (some ⟨(env 6).1,0,none⟩) (n + 1) (env 6).2
 | _=>undef
def rows71I (bt : Nat) (out : Value) (Z : List Row) (acc : List Int) (e : Int) (k : Nat) (env : Env) : List Row :=
 match k with
 | 5=>[⟨(env 5).1,0,cI e,some 3,1 * 1⟩]
 | 6=>[⟨(env 6).1,0,acc.flatMap cI++cI e,some 3,(env 6).2 * 1⟩]
 | 7=>[⟨bt,0,[.slice (some ⟨(env 6).1,0,none⟩) (acc.length + 1) (env 6).2],some 38,1⟩]
 | 8=>[⟨bt,0,[out],some 38,1⟩]
 | 9=>Z
 | _=>[]
theorem loc71I (bt : Nat) (out : Value) (Z : List Row) (acc : List Int) (lb lo c ll j : Nat) (e : Int) : ∀ k env i q9,i ≠ k → (tAt ts71 k).sup.contains i = false → val71I out lb lo acc.length c ll j e k (upd env i q9)=val71I out lb lo acc.length c ll j e k env∧rows71I bt out Z acc e k (upd env i q9)=rows71I bt out Z acc e k env:=by
 intro k env i q hk hs
 have hu : ∀ j,j ≠ i → upd env i q j = env j:=fun j hj=>by unfold upd;rw [if_neg hj]
 match k,hk,hs with
 | 0,_,_=>exact ⟨rfl,rfl⟩
 | 1,_,_=>exact ⟨rfl,rfl⟩
 | 2,_,_=>exact ⟨rfl,rfl⟩
 | 3,_,_=>exact ⟨rfl,rfl⟩
 | 4,_,_=>exact ⟨rfl,rfl⟩
 | 5,hk,hs=>exact ⟨by simp only [val71I,hu 5 (fun e=>hk e.symm)],by simp only [rows71I,hu 5 (fun e=>hk e.symm)]⟩
 | 6,hk,hs=>exact ⟨by simp only [val71I,hu 6 (fun e=>hk e.symm)],by simp only [rows71I,hu 6 (fun e=>hk e.symm)]⟩
 | 7,hk,hs=>exact ⟨by simp only [val71I,hu 6 (by rintro rfl;cases hs)],by simp only [rows71I,hu 6 (by rintro rfl;cases hs)]⟩
 | 8,_,_=>exact ⟨rfl,rfl⟩
 | 9,_,_=>exact ⟨rfl,rfl⟩
 | _ + 10,_,_=>exact ⟨rfl,rfl⟩
set_option maxHeartbeats 8000000 in
theorem longer_specI (ok : List Int → Bool) (l : List Int) (a : Option Addr) (c g : Nat) (cap : List Value) (bt br bl bg : Nat) (w1 w2 w3 : Option Kd) (k1 k2 k3 : Nat) (H0 : List Row) (hl : SlE H0 a cI 1 l) (hb : l.length ≤ 1000000)
  (mr : ⟨br,0,[.func (.func g) #[] cap.toArray],w1,k1⟩ ∈ H0) (ml : ⟨bl,0,[.slice a l.length c],w2,k2⟩ ∈ H0) (mg : ⟨bg,0,[.func (.func 86) #[] #[.pointer (some ⟨br,0,none⟩),.pointer (some ⟨bt,0,none⟩),.pointer (some ⟨bl,0,none⟩),.pointer (some ⟨bg,0,none⟩)]],w3,k3⟩ ∈ H0)
  (hr : ∀ acc a' c' H',(∀ r ∈ H0,r ∈ H') → SlE H' a' cI 1 acc → acc.length ≤ 1000000 → Fc Tryz.prog g ([.slice a' acc.length c']++cap) H' (fun v H'' => v = .bool (ok acc)∧H'' = H')) :
  ∀ (m f0 : Nat) (mi fi : Int) (acc : List Int) (out : Value) (Z : List Row),mi = m → fi = f0 → f0 ≤ l.length → acc.length + m ≤ 1000000 → TrvI acc out Z →
  Fc Tryz.prog 86 ([.int .i64 fi,.int .i64 mi]++[.pointer (some ⟨br,0,none⟩),.pointer (some ⟨bt,0,none⟩),.pointer (some ⟨bl,0,none⟩),.pointer (some ⟨bg,0,none⟩)]) (⟨bt,0,[out],some 38,1⟩::(Z++H0))
   (fun v H' => ∃ out' Z',((∃ r,lonG ok (l.drop f0) m acc = some r∧v = .bool true∧TrvI r out' Z')∨(lonG ok (l.drop f0) m acc = none∧v = .bool false∧TrvI acc out' Z'))∧H' = ⟨bt,0,[out'],some 38,1⟩::(Z'++H0)):=by
 intro m
 induction m with
 | zero =>
  intro f0 mi fi acc out Z hmi hfi hfr hacc hT
  subst hmi
  obtain ⟨a',c',rfl,hs⟩:=hT.sl (H:=H0)
  show Fc Tryz.prog 86 [.int .i64 fi,.int .i64 ((0 : Nat) : Int),.pointer (some ⟨br,0,none⟩),.pointer (some ⟨bt,0,none⟩),.pointer (some ⟨bl,0,none⟩),.pointer (some ⟨bg,0,none⟩)] _ _
  refine Fc.mk (callable Tryz.call86) Tryz.func86 rfl Tryz.ntmps86 rfl ?_;dsimp only [fr]
  repeat' (first | (refine uP rfl ?_;(first | ((first | refine uN rfl ?_);(first | (refine uE (uL rfl rfl (uO (te rfl) rfl (qT _ (List.mem_append_right _ mr)) rfl)) rfl rfl ?_)|(refine uC (EnF.dyn0 rfl rfl (by (repeat (first | exact Args.nil | refine Args.cons rfl ?_));done)) rfl rfl (hr acc a' c' _ (fun _ h=>qT _ (List.mem_append_right _ h)) (hs.sub (fun _ h=>qT _ h)) (by omega)) ?_;rintro _ H9 ⟨rfl,hH9⟩;subst H9)|(refine uE (uM rfl rfl) rfl rfl ?_)|(refine uE (uA rfl rfl) rfl rfl ?_)|(refine uE (uQ rfl rfl rfl rfl) rfl rfl ?_)|(refine uE (uL rfl rfl (uO (te rfl) rfl (qH _) rfl)) rfl rfl ?_)))))|(refine uD rfl ?_;refine hK _ _ ?_;clear hK K) | refine uS rfl ?_ | refine uR rfl (fun K hK=>?_) | refine X.block rfl ?_ | refine X.skip rfl ?_ | refine X.ret rfl ?_ | (refine X.ite rfl rfl (fun hc=>?_);(first | (with_reducible refine Xb.case hc (fun h=>?_) (fun h=>?_))) <;> clear hc))
  ·refine ret_one (by simp) Tryz.results86 rfl (H' := _) (qR _) ⟨_,Z,?_,rfl⟩
   rw [lonG_zero]
   by_cases hk : ok acc = true
   ·exact .inl ⟨acc,by rw [if_pos hk],by rw [hk],hT⟩
   ·exact .inr ⟨by rw [if_neg hk],by rw [Bool.eq_false_iff.2 hk],hT⟩
  ·exfalso;omega
 | succ m ih =>
  intro f0 mi fi acc out Z hmi hfi hfr hacc hT
  subst hfi
  show Fc Tryz.prog 86 [.int .i64 (f0 : Int),.int .i64 mi,.pointer (some ⟨br,0,none⟩),.pointer (some ⟨bt,0,none⟩),.pointer (some ⟨bl,0,none⟩),.pointer (some ⟨bg,0,none⟩)] _ _
  refine Fc.mk (callable Tryz.call86) Tryz.func86 rfl Tryz.ntmps86 rfl ?_;dsimp only [fr]
  repeat' (first | (refine uP rfl ?_;(first | ((first | refine uN rfl ?_);(first | (refine uE (uM rfl rfl) rfl rfl ?_)|(refine uE (uA rfl rfl) rfl rfl ?_)|(refine uE (uQ rfl rfl rfl rfl) rfl rfl ?_)))))|(refine uD rfl ?_;refine hK _ _ ?_;clear hK K) | refine uS rfl ?_ | refine uR rfl (fun K hK=>?_) | refine X.block rfl ?_ | refine X.skip rfl ?_ | (refine X.ite rfl rfl (fun hc=>?_);(first | (with_reducible refine Xb.case hc (fun h=>?_) (fun h=>?_))) <;> clear hc))
  ·exfalso;omega
  refine X.lp rfl (fun q F' H' => ∃ (i : Nat) (out : Value) (Z : List Row),q = l.length + 1 - i∧i ≤ l.length∧TrvI acc out Z∧lonG ok (l.drop f0) (m + 1) acc = lonG ok (l.drop i) (m + 1) acc∧⟨bt,0,[out],some 38,1⟩::(Z++H0)=H' ∧
    F' = [(1,.int .i64 mi),(2,.pointer (some ⟨br,0,none⟩)),(3,.pointer (some ⟨bt,0,none⟩)),(4,.pointer (some ⟨bl,0,none⟩)),(5,.pointer (some ⟨bg,0,none⟩)),(9,.int .i64 i)])
   (l.length + 1 - f0) [(1,.int .i64 mi),(2,.pointer (some ⟨br,0,none⟩)),(3,.pointer (some ⟨bt,0,none⟩)),(4,.pointer (some ⟨bl,0,none⟩)),(5,.pointer (some ⟨bg,0,none⟩)),(9,.int .i64 f0)] _ (by repeat (first | exact uU _ | refine uV rfl ?_)) (qR _) ⟨f0,out,Z,rfl,hfr,hT,rfl,rfl,rfl⟩ ?_
  clear hT
  rintro _ _ H2 ⟨i,out,Z,rfl,hi,hT,hlon,hH,rfl⟩
  subst hH
  repeat' (first | (refine uP rfl ?_;(first | ((first | refine uN rfl ?_);(first | (refine uE (uL rfl rfl (uO (te rfl) rfl (qT _ (List.mem_append_right _ ml)) rfl)) rfl rfl ?_)|(refine uE (uM rfl rfl) rfl rfl ?_)|(refine uE (uA rfl rfl) rfl rfl ?_)|(refine uE (uQ rfl rfl rfl rfl) rfl rfl ?_)|(refine uE (EvF.add64 rfl rfl rfl (by omega) (by omega)) rfl rfl ?_)|(refine uE (EvF.lenSlice rfl rfl (te rfl)) rfl rfl ?_)))))|(refine uD rfl ?_;refine hK _ _ ?_;clear hK K) | refine uS rfl ?_ | refine uR rfl (fun K hK=>?_) | refine X.block rfl ?_ | (refine X.brk rfl ?_;repeat (first | refine blockX_hit rfl ?_ | refine blockX_miss (by decide) ?_)) | refine X.skip rfl ?_ | refine X.ret rfl ?_ | (refine X.ite rfl rfl (fun hc=>?_);(first | (with_reducible refine Xb.case hc (fun h=>?_) (fun h=>?_))) <;> clear hc))
  ·obtain ⟨lb,lo,e,rfl,he⟩:=hl.elem (i:=i) (by omega)
   have hil:=(List.getElem?_eq_some_iff.1 he).1
   have hle : (acc++[e]).length = acc.length + 1:=by rw [List.length_append];rfl
   have hfm : acc.flatMap cI++cI e = (acc++[e]).flatMap cI:=by rw [List.flatMap_append,List.flatMap_singleton]
   have hal : (acc.flatMap cI).length = acc.length * 1:=lenI acc
   refine X.regionRd ts71 rd71 [3,4,9,1,2,5] [(3,.pointer (some ⟨bt,0,none⟩)),(4,.pointer (some ⟨bl,0,none⟩)),(9,.int .i64 i),(1,.int .i64 mi),(2,.pointer (some ⟨br,0,none⟩)),(5,.pointer (some ⟨bg,0,none⟩))]
    (val71I out lb lo acc.length c l.length i e) (rows71I bt out Z acc e) (fun _=>(0,0)) H0 rfl mixed (by repeat (first | exact uU _ | refine uV rfl ?_)) rfl (by kernel_rfl) (by kernel_rfl) (loc71I bt out Z acc lb lo c l.length i e) (by show List.Sublist ((⟨bt,0,[out],some 38,1⟩::(Z++[]))++H0) _;rw [List.append_nil];exact qR _) ?_ ?_
   ·repeat' (first | exact AllF.done rfl | (refine AllF.step rfl ?_ ?_;·(first | exact (Ob.ng rfl (ObK.pure (fun env R hR=>by exact ⟨_,uM rfl rfl,rfl⟩) rfl (fun _=>rfl))).toR | (refine ObR.ng rfl ?_;(first | (exact fun env S hS hrd=>(StF.ofEv (uL rfl rfl (uO (te rfl) rfl (hrd 8 (qH _) _ (qH _)) rfl))).op.mono (fun v H' ⟨hv,hH⟩=>⟨(0,0),fun _=>hv,by rw [hH];exact List.Perm.refl _⟩))|(exact fun env S hS hrd=>(StF.ofEv (uL rfl rfl (uO (te rfl) rfl (hS _ ml) rfl))).op.mono (fun v H' ⟨hv,hH⟩=>⟨(0,0),fun _=>hv,by rw [hH];exact List.Perm.refl _⟩))|((refine fun env S hS hrd=>(StF.ofEv (v := .pointer (some ⟨lb,lo + i * 1,none⟩)) ?_).op.mono (fun v H' ⟨hv,hH⟩=>⟨(0,0),fun _=>hv,by rw [hH];exact List.Perm.refl _⟩);refine EvF.indexSlice (T:=38) (e:=3) (i:=(i : Int)) (off:=lo) (b:=lb) (len:=l.length) (ti:=⟨.int .i64,1,8⟩) rfl rfl rfl (te rfl) (te rfl) ?_ ?_ <;> omega))|(exact fun env S hS hrd=>(StF.ofEv (v := .int .i64 e) (uL rfl rfl (LoadV.el0 (n:=i) hl he (te rfl) rfl (fun _ h=>hS _ h) rfl))).op.mono (fun v H' ⟨hv,hH⟩=>⟨(0,0),fun _=>hv,by rw [hH];exact List.Perm.refl _⟩))|(exact fun env S hS hrd=>(StF.buildOne (v0 := .int .i64 e) rfl el55 rfl rfl rfl (by decide) (by decide)).op.mono (fun v H' ⟨b,hv,hH⟩=>⟨(b,0),fun _=>hv,by rw [hH];exact List.Perm.refl _⟩))|(exact fun env S hS hrd=>(StF.storeOne (i:=0) rfl rfl rfl rfl (te rfl) rfl rfl (Nat.le_of_ble_eq_true rfl)).op.mono (fun v H' ⟨hv,hH⟩=>⟨(0,0),fun h=>absurd rfl h,by rw [hH];exact List.Perm.refl _⟩))|((rcases hT with ⟨rfl,rfl,rfl⟩ | ⟨b,q,rfl,rfl⟩ <;> first | exact fun env S hS hrd=>(StF.appendNew rfl el55 rfl rfl (by decide) rfl (Rd.own (hrd 5 (qH _) _ (qH _))) (by decide)).op.mono (fun v H' ⟨b,c,hv,hH⟩=>⟨(b,c),fun _=>hv,by rw [hH];exact List.Perm.refl _⟩) | exact fun env S hS hrd=>(StF.appendOwn (i:=0) rfl el55 rfl rfl rfl hal rfl (Rd.own (qT _ (hrd 5 (qH _) _ (qH _)))) rfl (by omega)).op.mono (fun v H' ⟨b,c,hv,hH⟩=>⟨(b,c),fun _=>hv,by rw [hH];exact List.Perm.refl _⟩))))))))
   ·intro env t ha hv
    refine ⟨_,ha,?_⟩
    show X _ _ _ _ (⟨(env 5).1,0,cI e,some 3,1 * 1⟩::⟨(env 6).1,0,acc.flatMap cI++cI e,some 3,(env 6).2 * 1⟩::⟨bt,0,[.slice (some ⟨(env 6).1,0,none⟩) (acc.length + 1) (env 6).2],some 38,1⟩::H0) _
    rw [hfm]
    refine X.weakR (List.sublist_cons_self _ _) ?_
    refine X.permH (H' := ⟨bt,0,[.slice (some ⟨(env 6).1,0,none⟩) (acc.length + 1) (env 6).2],some 38,1⟩::⟨(env 6).1,0,(acc++[e]).flatMap cI,some 3,(env 6).2 * 1⟩::H0) (List.Perm.swap _ _ _) ?_
    clear hT
    repeat' (first | (refine uP rfl ?_;(first | ((first | refine uN rfl ?_);(first | (refine uE (uL rfl rfl (uO (te rfl) rfl (qT _ (qT _ mg)) rfl)) rfl rfl ?_)|(refine uC (EnF.dyn0 rfl rfl (by (repeat (first | exact Args.nil | refine Args.cons rfl ?_));done)) rfl rfl (ih (i + 1) _ _ (acc++[e]) _ [⟨(env 6).1,0,(acc++[e]).flatMap cI,some 3,(env 6).2 * 1⟩] (by omega) (by omega) (by omega) (by omega) (.inr ⟨_,_,by rw [hle],rfl⟩)) ?_;rintro _ _ ⟨out',Z',(⟨r,hlr,rfl,hT'⟩ | ⟨hln,rfl,⟨h0,_,_⟩ | ⟨b',q',rfl,rfl⟩⟩),rfl⟩;rotate_left;·exact absurd h0 (by simp))|(refine uE (uM rfl rfl) rfl rfl ?_)|(refine uE (uA rfl rfl) rfl rfl ?_)|(refine uE (EvF.add64 rfl rfl rfl (by omega) (by omega)) rfl rfl ?_)|(refine uE (EvF.sub64 rfl rfl rfl (by omega) (by omega)) rfl rfl ?_)|(refine uE (EvF.lenSlice rfl rfl (te rfl)) rfl rfl ?_)|(refine uE (uL rfl rfl (uO (te rfl) rfl (qH _) rfl)) rfl rfl ?_)))))|(refine uD rfl ?_;refine hK _ _ ?_;clear hK K) | refine uS rfl ?_ | refine uR rfl (fun K hK=>?_) | refine X.skip rfl ?_ | refine X.ret rfl ?_ | (refine X.ite rfl rfl (fun hc=>?_);(first | (with_reducible refine Xb.t hc ?_)|(with_reducible refine Xb.f hc ?_)) <;> clear hc))
    ·refine XO.reveal (q:=1) rfl (fun rest hrest=>?_)
     have hcap : (acc++[e]).length ≤ q' := by
      rw [List.length_append,lenI] at hrest
      omega
     refine XO.forget (q:=1) (cs:=acc.flatMap cI) (cs' := cI e++rest) (by show some (⟨b',0,(acc++[e]).flatMap cI++rest,some 3,q' * 1⟩ : Row)=_;rw [← hfm,List.append_assoc];rfl) ?_
     dsimp only [List.set,List.cons_append,List.nil_append]
     repeat' (first | (refine uP rfl ?_;(first | ((first | refine uN rfl ?_);(first | (refine uE (EvF.sliceTo (hh:=acc.length) rfl rfl (te rfl) (te rfl) (congrArg (fun z=>some (Value.int .i64 z)) (by omega : (((acc++[e]).length : Nat) : Int) - 1 = (acc.length : Int))) (by omega)) rfl rfl ?_)|(refine uE (uM rfl rfl) rfl rfl ?_)|(refine uE (uA rfl rfl) rfl rfl ?_)|(refine uE (EvF.add64 rfl rfl rfl (by omega) (by omega)) rfl rfl ?_)|(refine Xg.st0 (StF.storeOne (i:=0) rfl rfl rfl rfl (te rfl) rfl rfl (Nat.le_of_ble_eq_true rfl)) rfl ?_;rintro _ _ ⟨rfl,rfl⟩;dsimp only [List.set])))))|(refine uD rfl ?_;refine hK _ _ ?_;clear hK K) | refine uR rfl (fun K hK=>?_))
     refine ⟨_,_,_,(by repeat (first | exact uU _ | refine uV rfl ?_)),qR _,⟨i + 1,_,[⟨b',0,acc.flatMap cI,some 3,q' * 1⟩],rfl,by omega,.inr ⟨b',q',rfl,rfl⟩,?_,rfl,rfl⟩,by omega⟩
     rw [hlon,drop_cons he]
     simp only [lonG,hln]
    ·refine ret_one (by simp) Tryz.results86 rfl (H' := _) (qR _) ⟨out',Z',.inl ⟨r,?_,rfl,hT'⟩,rfl⟩
     rw [hlon,drop_cons he]
     simp only [lonG,hlr]
  ·refine ret_one (by simp) Tryz.results86 rfl (H' := _) (qR _) ⟨out,Z,.inr ⟨?_,rfl,hT⟩,rfl⟩
   rw [hlon]
   exact lonG_short ok _ _ _ (by rw [List.length_drop];omega)
set_option maxHeartbeats 8000000 in
theorem fewest_specI (ok : List Int → Bool) (l : List Int) (a : Option Addr) (c most g : Nat) (cap : List Value) (H : List Row) (hl : SlE H a cI 1 l) (hb : l.length ≤ 1000000) (hm : most ≤ 1000)
  (hr : ∀ acc a' c' H',(∀ r ∈ H,r ∈ H') → SlE H' a' cI 1 acc → acc.length ≤ 1000000 → Fc Tryz.prog g ([.slice a' acc.length c']++cap) H' (fun v H'' => v = .bool (ok acc)∧H'' = H')) :
  Fc Tryz.prog 53 [.slice a l.length c,.int .i64 (most : Nat),.func (.func g) #[] cap.toArray] H
   (fun v H' => ∃ out Z,TrvI ((fewG ok l (min most l.length + 1) 0).getD []) out Z∧v = .tuple #[out,.bool (fewG ok l (min most l.length + 1) 0).isSome]∧H' = Z++H):=by
 refine Fc.mk (callable Tryz.call53) Tryz.func53 rfl Tryz.ntmps53 rfl ?_;dsimp only [fr]
 repeat' (first | (refine uP rfl ?_;(first | ((first | refine uN rfl ?_);(first | (refine uE (EvF.makeFunc (fl:=[]) rfl Args.nil (Args.cons rfl (Args.cons rfl (Args.cons rfl (Args.cons rfl Args.nil))))) rfl rfl ?_)|(refine uE (uM rfl rfl) rfl rfl ?_)|(refine uE (uA rfl rfl) rfl rfl ?_)|(refine uE (EvF.add64 rfl rfl rfl (by omega) (by omega)) rfl rfl ?_)|(refine uE (EvF.lenSlice rfl rfl (te rfl)) rfl rfl ?_)|(refine uE (uL rfl rfl (uO (te rfl) rfl (qT _ (qT _ (qT _ (qH _)))) rfl)) rfl rfl ?_)|(refine uE (EvF.min64 rfl rfl rfl) rfl rfl ?_)|(refine Xg.st (StF.boxOne rfl rfl rfl) rfl rfl ?_;rintro _ _ ⟨bx,rfl,rfl⟩)|(refine Xg.st (StF.alloc rfl Tryz.zeroValue38 rfl) rfl rfl ?_;rintro _ _ ⟨bx,rfl,rfl⟩)|(refine Xg.st (StF.alloc rfl Tryz.zeroValue130 rfl) rfl rfl ?_;rintro _ _ ⟨bx,rfl,rfl⟩)|(refine Xg.st0 (StF.storeOne (i:=0) rfl rfl rfl rfl (te rfl) rfl rfl (Nat.le_of_ble_eq_true rfl)) rfl ?_;rintro _ _ ⟨rfl,rfl⟩;dsimp only [List.set])))))|(refine uD rfl ?_;refine hK _ _ ?_;clear hK K) | refine uS rfl ?_ | refine uR rfl (fun K hK=>?_) | refine X.block rfl ?_)
 rename_i bl br bt;rename Nat=>bg
 refine X.permH (List.Perm.swap _ _ _) ?_
 have hlg:=longer_specI ok l a c g cap bt br bl bg (some 102) (some 38) (some 130) 1 1 1 (⟨bg,0,[.func (.func 86) #[] #[.pointer (some ⟨br,0,none⟩),.pointer (some ⟨bt,0,none⟩),.pointer (some ⟨bl,0,none⟩),.pointer (some ⟨bg,0,none⟩)]],some 130,1⟩::⟨br,0,[.func (.func g) #[] cap.toArray],some 102,1⟩::⟨bl,0,[.slice a l.length c],some 38,1⟩::H)
  (hl.sub (fun _ h=>qT _ (qT _ (qT _ h)))) hb (qT _ (qH _)) (qT _ (qT _ (qH _))) (qH _) (fun acc a' c' H' hs=>hr acc a' c' H' (fun r h=>hs r (qT _ (qT _ (qT _ h)))))
 refine X.lp rfl (fun q F' H' => ∃ (k : Nat) (out : Value) (Z : List Row),q = min most l.length + 1 - k∧k ≤ min most l.length + 1∧TrvI [] out Z∧fewG ok l (min most l.length + 1) 0 = fewG ok l (min most l.length + 1 - k) k ∧
   ⟨bt,0,[out],some 38,1⟩::(Z++(⟨bg,0,[.func (.func 86) #[] #[.pointer (some ⟨br,0,none⟩),.pointer (some ⟨bt,0,none⟩),.pointer (some ⟨bl,0,none⟩),.pointer (some ⟨bg,0,none⟩)]],some 130,1⟩::⟨br,0,[.func (.func g) #[] cap.toArray],some 102,1⟩::⟨bl,0,[.slice a l.length c],some 38,1⟩::H)) = H' ∧
   F' = [(8,.pointer (some ⟨bt,0,none⟩)),(9,.pointer (some ⟨bg,0,none⟩)),(16,.int .i64 (min (most : Int) (l.length : Int) + 1)),(17,.int .i64 k)])
  (min most l.length + 1) [(8,.pointer (some ⟨bt,0,none⟩)),(9,.pointer (some ⟨bg,0,none⟩)),(16,.int .i64 (min (most : Int) (l.length : Int) + 1)),(17,.int .i64 (0 : Nat))] _ (by repeat (first | exact uU _ | refine uV rfl ?_)) (qR _) ⟨0,_,[],rfl,by omega,.inl ⟨rfl,rfl,rfl⟩,rfl,rfl,rfl⟩ ?_
 rintro _ _ H2 ⟨k,out,Z,rfl,hk,hT,hf,hH,rfl⟩
 subst hH
 repeat' (first | (refine uP rfl ?_;(first | ((first | refine uN rfl ?_);(first | (refine uE (uL rfl rfl (uO (te rfl) rfl (qT _ (List.mem_append_right _ (qH _))) rfl)) rfl rfl ?_)|(refine uC (EnF.dyn0 rfl rfl (by (repeat (first | exact Args.nil | refine Args.cons rfl ?_));done)) rfl rfl (hlg k 0 _ _ [] out Z rfl rfl (by omega) (by simp only [List.length_nil];omega) hT) ?_;rintro _ _ ⟨out',Z',(⟨r,hlr,rfl,hT'⟩ | ⟨hln,rfl,hT'⟩),rfl⟩)|(refine uE (uM rfl rfl) rfl rfl ?_)|(refine uE (uA rfl rfl) rfl rfl ?_)|(refine uE (uQ rfl rfl rfl rfl) rfl rfl ?_)|(refine uE (EvF.add64 rfl rfl rfl (by omega) (by omega)) rfl rfl ?_)|(refine uE (uL rfl rfl (uO (te rfl) rfl (qH _) rfl)) rfl rfl ?_)))))|(refine uD rfl ?_;refine hK _ _ ?_;clear hK K) | refine uS rfl ?_ | refine uR rfl (fun K hK=>?_) | refine X.block rfl ?_ | (refine X.brk rfl ?_;repeat (first | refine blockX_hit rfl ?_ | refine blockX_miss (by decide) ?_)) | refine X.skip rfl ?_ | refine X.ret rfl ?_ | (refine X.ite rfl rfl (fun hc=>?_);(first | (with_reducible refine Xb.t hc ?_)|(with_reducible refine Xb.f hc ?_)|(with_reducible refine Xb.case hc (fun h=>?_) (fun h=>?_))) <;> clear hc))
 ·obtain ⟨j,hj⟩ : ∃ j,min most l.length + 1 - k = j + 1:=⟨min most l.length - k,by omega⟩
  rw [List.drop_zero] at hlr
  have hfr : fewG ok l (min most l.length + 1) 0 = some r:=by rw [hf,hj];simp only [fewG,hlr]
  rw [hfr]
  exact ret_two (by simp) Tryz.results53 rfl rfl (H' := Z'++H) (qC _ (List.Sublist.append (qR _) (qC _ (qC _ (List.sublist_cons_self _ _))))) ⟨out',Z',hT',rfl,rfl⟩
 ·obtain ⟨j,hj⟩ : ∃ j,min most l.length + 1 - k = j + 1:=⟨min most l.length - k,by omega⟩
  rw [List.drop_zero] at hln
  refine ⟨_,_,_,(by repeat (first | exact uU _ | refine uV rfl ?_)),qR _,⟨k + 1,out',Z',rfl,by omega,hT',?_,rfl,rfl⟩,by omega⟩
  rw [hf,hj,show min most l.length + 1 - (k + 1)=j by omega]
  simp only [fewG,hln]
 ·have hk' : min most l.length + 1 - k = 0:=by omega
  have hfn : fewG ok l (min most l.length + 1) 0 = none:=by rw [hf,hk'];rfl
  rw [hfn]
  exact ret_two (by simp) Tryz.results53 rfl rfl (H' := H) (qC _ ((qC _ (qC _ (List.sublist_cons_self _ _))).trans (List.sublist_append_right _ _))) ⟨_,[],.inl ⟨rfl,rfl,rfl⟩,rfl,rfl⟩
end Go.Proofs.YtmfppdpkalelhaaGreat
end
