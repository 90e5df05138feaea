/- Own work: contracts of functions, from rows of what is known of the memory; contracts of functions, from rows of what is known of the memory; contracts of functions, from rows of what is known of the memory; contracts of functions, from rows of what is known of the memory; contracts of functions, from rows of what is known of the memory; contracts of functions, from rows of what is known of the memory; contracts of functions, from rows of what is known of the memory; contracts of functions, from rows of what is known of the memory; contracts of functions, from rows of what is known of the memory; contracts of functions, from rows of what is known of the memory; contracts of functions, from rows of what is known of the memory; contracts of functions, from rows of what is known of the memory; contract -/
import Derived.Test.YtmfppdpkalelhaaGreatW07
import Derived.OpenShut
import Derived.ProofKit
import Derived.Test.YtmfppdpkalelhaaGreatRows
import Derived.WalkKit
import Derived.ChangeOld
import Derived.ShutString
section
set_option linter.unusedVariables false
set_option linter.unusedSimpArgs false
namespace Go.Proofs.YtmfppdpkalelhaaGreat
open Go Go.Fw
set_option maxRecDepth 10000
theorem eqE (e : Sp) (w : World) : (Op.equalIn 10000 24 (.agg (cSp e).toArray) (.agg (cSp e).toArray)).run Tryz.prog w = .ok true w:=by
 rw [eqSp 9998,decide_eq_true rfl]
theorem aYel (po : Pl) (S : List Row) (h : RmOk S RE po) : Fc Tryz.prog 9 [.agg (cRm RE po).toArray,.int .i64 1,.int .i64 3] S (fun v H' => v = .tuple #[.agg (cSp ⟨4,12⟩).toArray,.int .i64 0]∧H' = S):=by
 have:=kYellow_spec RE po 1 3 S h (Nat.le_of_ble_eq_true rfl)
 rw [vYel] at this
 exact this
theorem aDif (po : Pl) (S : List Row) (h : RmOk S RE po) : Fc Tryz.prog 11 [.agg (cRm RE po).toArray,.int .i64 1,.int .i64 2,.int .i64 3] S (fun v H' => v = .tuple #[.agg (cSp ⟨-2,10⟩).toArray,.int .i64 0]∧H' = S):=by
 have:=kDiffer_spec RE po 1 2 3 S h (Nat.le_of_ble_eq_true rfl)
 rw [vDif] at this
 exact this
theorem aKno (po : Pl) (S : List Row) (h : RmOk S RE po) : Fc Tryz.prog 12 [.agg (cRm RE po).toArray,.int .i64 1,.int .i64 3,.int .i64 12] S (fun v H' => v = .tuple #[.int .u8 1,.int .i64 0]∧H' = S):=by
 have:=kKnown_spec RE po 1 3 12 S h (Nat.le_of_ble_eq_true rfl)
 rw [vKno] at this
 exact this
theorem aOrd (po : Pl) (S : List Row) (h : RmOk S RE po) : Fc Tryz.prog 14 [.agg (cRm RE po).toArray,.int .i64 2,.int .i64 1,.int .i64 2] S (fun v H' => v = .tuple #[.int .u8 0,.int .i64 0]∧H' = S):=by
 have:=kOrder_spec RE po 2 1 2 S h (Nat.le_of_ble_eq_true rfl)
 rw [vOrd] at this
 exact this
theorem aPer (po : Pl) (S : List Row) (h : RmOk S RE po) : Fc Tryz.prog 20 [.agg (cRm RE po).toArray,.int .i64 1,.int .i64 8] S (fun v H' => v = .tuple #[.int .i64 2,.int .i64 0]∧H' = S):=by
 have:=kPerhaps_spec RE po 1 8 S h (Nat.le_of_ble_eq_true rfl)
 rw [vPer] at this
 exact this
theorem aSur (po : Pl) (S : List Row) (h : RmOk S RE po) : Fc Tryz.prog 21 [.agg (cRm RE po).toArray,.int .i64 1,.int .i64 4] S (fun v H' => v = .tuple #[.int .i64 2,.int .i64 0]∧H' = S):=by
 have:=kSurely_spec RE po 1 4 S h (Nat.le_of_ble_eq_true rfl)
 rw [vSur] at this
 exact this
theorem aDue (po : Pl) (S : List Row) (h : RmOk S RE po) : Fc Tryz.prog 22 [.agg (cRm RE po).toArray,.int .i64 7] S (fun v H' => ∃ a c Z,v = .tuple #[.int .i64 2,.slice a 1 c,.int .i64 0]∧SlE (Z++S) a cI 1 [1]∧H' = Z++S):=by
 have:=kDue_spec RE po 7 S h (Nat.le_of_ble_eq_true rfl)
 rw [vDue] at this
 exact this
theorem aFre (po : Pl) (S : List Row) (h : RmOk S RE po) : Fc Tryz.prog 15 [.agg (cRm RE po).toArray,.int .i64 2] S (fun v H' => ∃ a c Z,v = .tuple #[.slice a 1 c,.int .i64 0]∧SlE (Z++S) a cI 1 [2]∧H' = Z++S):=by
 have:=kFresh_spec RE po 2 S h (Nat.le_of_ble_eq_true rfl)
 rw [vFre] at this
 exact this
theorem aAsk (po : Pl) (S : List Row) (h : RmOk S RE po) : Fc Tryz.prog 23 [.agg (cRm RE po).toArray,.int .i64 3] S (fun v H' => v = .tuple #[.int .i64 1,.int .i64 2,.int .i64 12,.int .i64 0]∧H' = S):=by
 have:=kAsk_spec RE po 3 S h (Nat.le_of_ble_eq_true rfl)
 rw [vAsk] at this
 exact this
theorem aWhy (po : Pl) (S : List Row) (h : RmOk S RE po) : Fc Tryz.prog 16 [.agg (cRm RE po).toArray,.int .i64 1,.int .i64 2] S (fun v H' => ∃ a c Z,v = .tuple #[.slice a 1 c,.int .i64 0]∧SlE (Z++S) a cI 1 [1]∧H' = Z++S):=by
 have:=kWhy_spec RE po 1 2 S h (Nat.le_of_ble_eq_true rfl)
 rw [vWhy] at this
 exact this
theorem aRst (po : Pl) (S : List Row) (h : RmOk S RE po) : Fc Tryz.prog 35 [.agg (cRm RE po).toArray,.int .i64 1,.int .i64 2] S (fun v H' => ∃ a c Z,v = .tuple #[.slice a 1 c,.int .i64 0]∧SlE (Z++S) a cI 1 [1]∧H' = Z++S):=by
 have:=kRests_spec RE po 1 2 S h (Nat.le_of_ble_eq_true rfl)
 rw [vRst] at this
 exact this
theorem aCan (po : Pl) (S : List Row) (h : RmOk S RO po) : Fc Tryz.prog 31 [.agg (cRm RO po).toArray] S (fun v H' => v = .tuple #[.bool false,.int .i64 0]∧H' = S):=by
 have:=kCan_spec RO po S h
 rw [vCan] at this
 exact this
theorem aWrg (po : Pl) (S : List Row) (h : RmOk S RO po) : Fc Tryz.prog 41 [.agg (cRm RO po).toArray] S (fun v H' => ∃ a c Z,v = .tuple #[.slice a 1 c,.int .i64 0]∧SlE (Z++S) a cI 1 [1]∧H' = Z++S):=by
 have:=kWrong_spec RO po S h (Nat.le_of_ble_eq_true rfl)
 rw [vWrg] at this
 exact this
def tsKal : List TOp:=[⟨some 54,[],[],[]⟩,⟨some 55,[0],[0],[]⟩,⟨some 56,[0,1],[1],[]⟩,⟨some 57,[0,1,2],[],[]⟩,⟨some 58,[0,1,2],[],[]⟩,⟨some 59,[0,1,2,3,4],[3,4],[]⟩,⟨some 60,[0,1,2,3,4,5],[2,5],[]⟩,⟨some 61,[0,1,2,3,4,5,6],[6],[]⟩,⟨some 62,[0,1,2,3,4,5,6,7],[],[]⟩,⟨some 63,[0,1,2,3,4,5,6,7,8],[8],[]⟩,⟨some 64,[0,1,2,3,4,5,6,7,8,9],[7,9],[]⟩,⟨some 65,[0,1,2,3,4,5,6,7,8,9,10],[10],[]⟩,⟨some 66,[0,1,2,3,4,5,6,7,8,9,10,11],[],[]⟩,⟨some 67,[0,1,2,3,4,5,6,7,8,9,10,11],[],[]⟩,⟨some 68,[0,1,2,3,4,5,6,7,8,9,10,11,12,13],[12,13],[]⟩,⟨some 69,[0,1,2,3,4,5,6,7,8,9,10,11,12,13,14],[11,14],[]⟩,⟨some 70,[0,1,2,3,4,5,6,7,8,9,10,11,12,13,14,15],[15],[]⟩,⟨some 71,[0,1,2,3,4,5,6,7,8,9,10,11,12,13,14,15,16],[],[]⟩,⟨some 72,[0,1,2,3,4,5,6,7,8,9,10,11,12,13,14,15,16,17],[17],[]⟩,⟨some 73,[0,1,2,3,4,5,6,7,8,9,10,11,12,13,14,15,16,17,18],[16,18],[]⟩,⟨some 74,[0,1,2,3,4,5,6,7,8,9,10,11,12,13,14,15,16,17,18,19],[19],[]⟩,⟨some 75,[0,1,2,3,4,5,6,7,8,9,10,11,12,13,14,15,16,17,18,19,20],[],[]⟩,⟨some 76,[0,1,2,3,4,5,6,7,8,9,10,11,12,13,14,15,16,17,18,19,20,21],[21],[]⟩,⟨some 77,[0,1,2,3,4,5,6,7,8,9,10,11,12,13,14,15,16,17,18,19,20,21,22],[20,22],[]⟩,⟨some 78,[0,1,2,3,4,5,6,7,8,9,10,11,12,13,14,15,16,17,18,19,20,21,22,23],[23],[]⟩,⟨some 79,[0,1,2,3,4,5,6,7,8,9,10,11,12,13,14,15,16,17,18,19,20,21,22,23,24],[],[]⟩,⟨some 80,[0,1,2,3,4,5,6,7,8,9,10,11,12,13,14,15,16,17,18,19,20,21,22,23,24,25],[25],[]⟩,⟨some 81,[0,1,2,3,4,5,6,7,8,9,10,11,12,13,14,15,16,17,18,19,20,21,22,23,24,25,26],[24,26],[]⟩,⟨some 82,[0,1,2,3,4,5,6,7,8,9,10,11,12,13,14,15,16,17,18,19,20,21,22,23,24,25,26,27],[27],[]⟩,⟨some 83,[0,1,2,3,4,5,6,7,8,9,10,11,12,13,14,15,16,17,18,19,20,21,22,23,24,25,26,27,28],[],[]⟩,⟨some 84,[0,1,2,3,4,5,6,7,8,9,10,11,12,13,14,15,16,17,18,19,20,21,22,23,24,25,26,27,28,29],[29],[]⟩,⟨some 85,[0,1,2,3,4,5,6,7,8,9,10,11,12,13,14,15,16,17,18,19,20,21,22,23,24,25,26,27,28,29,30],[28,30],[]⟩,⟨some 86,[0,1,2,3,4,5,6,7,8,9,10,11,12,13,14,15,16,17,18,19,20,21,22,23,24,25,26,27,28,29,30,31],[31],[]⟩,⟨some 87,[0,1,2,3,4,5,6,7,8,9,10,11,12,13,14,15,16,17,18,19,20,21,22,23,24,25,26,27,28,29,30,31,32],[],[]⟩,⟨some 88,[0,1,2,3,4,5,6,7,8,9,10,11,12,13,14,15,16,17,18,19,20,21,22,23,24,25,26,27,28,29,30,31,32,33],[33],[]⟩,⟨some 89,[0,1,2,3,4,5,6,7,8,9,10,11,12,13,14,15,16,17,18,19,20,21,22,23,24,25,26,27,28,29,30,31,32,33,34],[32,34],[]⟩,⟨some 90,[0,1,2,3,4,5,6,7,8,9,10,11,12,13,14,15,16,17,18,19,20,21,22,23,24,25,26,27,28,29,30,31,32,33,34,35],[35],[]⟩,⟨some 91,[0,1,2,3,4,5,6,7,8,9,10,11,12,13,14,15,16,17,18,19,20,21,22,23,24,25,26,27,28,29,30,31,32,33,34,35,36],[],[]⟩,⟨some 92,[0,1,2,3,4,5,6,7,8,9,10,11,12,13,14,15,16,17,18,19,20,21,22,23,24,25,26,27,28,29,30,31,32,33,34,35,36,37],[37],[]⟩,⟨some 93,[0,1,2,3,4,5,6,7,8,9,10,11,12,13,14,15,16,17,18,19,20,21,22,23,24,25,26,27,28,29,30,31,32,33,34,35,36,37,38],[36,38],[]⟩,⟨some 94,[0,1,2,3,4,5,6,7,8,9,10,11,12,13,14,15,16,17,18,19,20,21,22,23,24,25,26,27,28,29,30,31,32,33,34,35,36,37,38,39],[39],[]⟩,⟨some 95,[0,1,2,3,4,5,6,7,8,9,10,11,12,13,14,15,16,17,18,19,20,21,22,23,24,25,26,27,28,29,30,31,32,33,34,35,36,37,38,39,40],[],[]⟩,⟨some 96,[0,1,2,3,4,5,6,7,8,9,10,11,12,13,14,15,16,17,18,19,20,21,22,23,24,25,26,27,28,29,30,31,32,33,34,35,36,37,38,39,40,41],[41],[]⟩,⟨some 97,[0,1,2,3,4,5,6,7,8,9,10,11,12,13,14,15,16,17,18,19,20,21,22,23,24,25,26,27,28,29,30,31,32,33,34,35,36,37,38,39,40,41,42],[40,42],[]⟩,⟨some 98,[0,1,2,3,4,5,6,7,8,9,10,11,12,13,14,15,16,17,18,19,20,21,22,23,24,25,26,27,28,29,30,31,32,33,34,35,36,37,38,39,40,41,42,43],[43],[]⟩,⟨some 99,[0,1,2,3,4,5,6,7,8,9,10,11,12,13,14,15,16,17,18,19,20,21,22,23,24,25,26,27,28,29,30,31,32,33,34,35,36,37,38,39,40,41,42,43,44],[],[]⟩,⟨some 100,[0,1,2,3,4,5,6,7,8,9,10,11,12,13,14,15,16,17,18,19,20,21,22,23,24,25,26,27,28,29,30,31,32,33,34,35,36,37,38,39,40,41,42,43,44,45],[45],[]⟩,⟨some 101,[0,1,2,3,4,5,6,7,8,9,10,11,12,13,14,15,16,17,18,19,20,21,22,23,24,25,26,27,28,29,30,31,32,33,34,35,36,37,38,39,40,41,42,43,44,45,46],[44,46],[]⟩]
def valKal (b1 b3 : Nat) (k : Nat) (env : Env) : Value :=
 match k with
 | 0 => .int .i64 0
 | 1 => .bool false
 | 2 => .bool false
 | 3=>gt (false) (.agg (cSp ⟨4,12⟩).toArray)
 | 4=>gt (false) (.agg (cSp ⟨4,12⟩).toArray)
 | 5=>gt (false) (.bool false)
 | 6 => .bool false
 | 7 => .bool false
 | 8=>gt (false) (.int .i64 0)
 | 9=>gt (false) (.bool false)
 | 10 => .bool false
 | 11 => .bool false
 | 12=>gt (false) (.agg (cSp ⟨-2,10⟩).toArray)
 | 13=>gt (false) (.agg (cSp ⟨-2,10⟩).toArray)
 | 14=>gt (false) (.bool false)
 | 15 => .bool false
 | 16 => .bool false
 | 17=>gt (false) (.int .i64 0)
 | 18=>gt (false) (.bool false)
 | 19 => .bool false
 | 20 => .bool false
 | 21=>gt (false) (.int .u8 1)
 | 22=>gt (false) (.bool false)
 | 23 => .bool false
 | 24 => .bool false
 | 25=>gt (false) (.int .i64 0)
 | 26=>gt (false) (.bool false)
 | 27 => .bool false
 | 28 => .bool false
 | 29=>gt (false) (.int .u8 0)
 | 30=>gt (false) (.bool false)
 | 31 => .bool false
 | 32 => .bool false
 | 33=>gt (false) (.int .i64 0)
 | 34=>gt (false) (.bool false)
 | 35 => .bool false
 | 36 => .bool false
 | 37=>gt (false) (.int .i64 2)
 | 38=>gt (false) (.bool false)
 | 39 => .bool false
 | 40 => .bool false
 | 41=>gt (false) (.int .i64 0)
 | 42=>gt (false) (.bool false)
 | 43 => .bool false
 | 44 => .bool false
 | 45=>gt (false) (.int .i64 2)
 | 46=>gt (false) (.bool false)
 | 47 => .bool false
 | _=>undef
def rowsKal (b1 b3 : Nat) (k : Nat) (env : Env) : List Row :=
 match k with
 | _=>[]
theorem locKal (b1 b3 : Nat) : ∀ k env i q9,i ≠ k → (tAt tsKal k).sup.contains i = false → valKal b1 b3 k (upd env i q9)=valKal b1 b3 k env∧rowsKal b1 b3 k (upd env i q9)=rowsKal b1 b3 k env:=by
 intro k env i q hk hs
 have hu : ∀ j,j ≠ i → upd env i q j = env j:=fun j hj=>by unfold upd;rw [if_neg hj]
 match k,hk,hs with
 | 0,_,_=>exact ⟨rfl,rfl⟩
 | 1,_,_=>exact ⟨rfl,rfl⟩
 | 2,_,_=>exact ⟨rfl,rfl⟩
 | 3,_,_=>exact ⟨rfl,rfl⟩
 | 4,_,_=>exact ⟨rfl,rfl⟩
 | 5,_,_=>exact ⟨rfl,rfl⟩
 | 6,_,_=>exact ⟨rfl,rfl⟩
 | 7,_,_=>exact ⟨rfl,rfl⟩
 | 8,_,_=>exact ⟨rfl,rfl⟩
 | 9,_,_=>exact ⟨rfl,rfl⟩
 | 10,_,_=>exact ⟨rfl,rfl⟩
 | 11,_,_=>exact ⟨rfl,rfl⟩
 | 12,_,_=>exact ⟨rfl,rfl⟩
 | 13,_,_=>exact ⟨rfl,rfl⟩
 | 14,_,_=>exact ⟨rfl,rfl⟩
 | 15,_,_=>exact ⟨rfl,rfl⟩
 | 16,_,_=>exact ⟨rfl,rfl⟩
 | 17,_,_=>exact ⟨rfl,rfl⟩
 | 18,_,_=>exact ⟨rfl,rfl⟩
 | 19,_,_=>exact ⟨rfl,rfl⟩
 | 20,_,_=>exact ⟨rfl,rfl⟩
 | 21,_,_=>exact ⟨rfl,rfl⟩
 | 22,_,_=>exact ⟨rfl,rfl⟩
 | 23,_,_=>exact ⟨rfl,rfl⟩
 | 24,_,_=>exact ⟨rfl,rfl⟩
 | 25,_,_=>exact ⟨rfl,rfl⟩
 | 26,_,_=>exact ⟨rfl,rfl⟩
 | 27,_,_=>exact ⟨rfl,rfl⟩
 | 28,_,_=>exact ⟨rfl,rfl⟩
 | 29,_,_=>exact ⟨rfl,rfl⟩
 | 30,_,_=>exact ⟨rfl,rfl⟩
 | 31,_,_=>exact ⟨rfl,rfl⟩
 | 32,_,_=>exact ⟨rfl,rfl⟩
 | 33,_,_=>exact ⟨rfl,rfl⟩
 | 34,_,_=>exact ⟨rfl,rfl⟩
 | 35,_,_=>exact ⟨rfl,rfl⟩
 | 36,_,_=>exact ⟨rfl,rfl⟩
 | 37,_,_=>exact ⟨rfl,rfl⟩
 | 38,_,_=>exact ⟨rfl,rfl⟩
 | 39,_,_=>exact ⟨rfl,rfl⟩
 | 40,_,_=>exact ⟨rfl,rfl⟩
 | 41,_,_=>exact ⟨rfl,rfl⟩
 | 42,_,_=>exact ⟨rfl,rfl⟩
 | 43,_,_=>exact ⟨rfl,rfl⟩
 | 44,_,_=>exact ⟨rfl,rfl⟩
 | 45,_,_=>exact ⟨rfl,rfl⟩
 | 46,_,_=>exact ⟨rfl,rfl⟩
 | 47,_,_=>exact ⟨rfl,rfl⟩
 | _ + 48,_,_=>exact ⟨rfl,rfl⟩
set_option maxHeartbeats 8000000 in
theorem alive_spec (H : List Row) : Fc Tryz.prog 8 [] H (fun v H' => v = .bool true∧H' = H):=by
 refine Fc.mk (callable Tryz.call8) Tryz.func8 rfl Tryz.ntmps8 rfl ?_;dsimp only [fr]
 repeat' (first | (refine uP rfl ?_;(first | ((first | refine uN rfl ?_);(first | (refine uC (uT rfl (by (repeat (first | exact Args.nil | refine Args.cons rfl ?_));done)) rfl rfl (roomRE _) ?_;rintro _ _ ⟨po,Z,rfl,hpo,rfl⟩)|(refine uE (uX rfl rfl rfl) rfl rfl ?_)|(refine uC (uT rfl (Args.cons rfl (Args.cons rfl (Args.cons rfl Args.nil)))) rfl rfl (aYel po _ (hpo _)) ?_;rintro _ H9 ⟨rfl,hH9⟩;subst H9)|(refine uC (uT rfl (by (repeat (first | exact Args.nil | refine Args.cons rfl ?_));done)) rfl rfl (aDif po _ (hpo _)) ?_;rintro _ H9 ⟨rfl,hH9⟩;subst H9)|(refine uC (uT rfl (by (repeat (first | exact Args.nil | refine Args.cons rfl ?_));done)) rfl rfl (aKno po _ (hpo _)) ?_;rintro _ H9 ⟨rfl,hH9⟩;subst H9)|(refine uC (uT rfl (by (repeat (first | exact Args.nil | refine Args.cons rfl ?_));done)) rfl rfl (aOrd po _ (hpo _)) ?_;rintro _ H9 ⟨rfl,hH9⟩;subst H9)|(refine uC (uT rfl (Args.cons rfl (Args.cons rfl (Args.cons rfl Args.nil)))) rfl rfl (aPer po _ (hpo _)) ?_;rintro _ H9 ⟨rfl,hH9⟩;subst H9)|(refine uC (uT rfl (Args.cons rfl (Args.cons rfl (Args.cons rfl Args.nil)))) rfl rfl (aSur po _ (hpo _)) ?_;rintro _ H9 ⟨rfl,hH9⟩;subst H9)|(refine Xg.st (StF.alloc rfl Tryz.zeroValue24 rfl) rfl rfl ?_;rintro _ _ ⟨bx,rfl,rfl⟩)|(refine Xg.st0 (StF.storeAll (i:=0) (vs:=cSp ⟨4,12⟩) rfl rfl rfl (te rfl) rfl rfl rfl rfl) rfl ?_;rintro _ _ ⟨rfl,rfl⟩;dsimp only [List.set])|(refine Xg.st0 (StF.storeAll (i:=0) (vs:=cSp ⟨-2,10⟩) rfl rfl rfl (te rfl) rfl rfl rfl rfl) rfl ?_;rintro _ _ ⟨rfl,rfl⟩;dsimp only [List.set])|(refine uE (uM rfl rfl) rfl rfl ?_)|(refine uE (uA rfl rfl) rfl rfl ?_)))))|(refine uD rfl ?_;refine hK _ _ ?_;clear hK K) | refine uS rfl ?_ | refine uR rfl (fun K hK=>?_))
 generalize bx = b3
 rename_i b1 p1 Z1 h1 p2 Z2 h2 p3 Z3 h3 p4 Z4 h4
 refine X.weak (F' := [(1,.pointer (some ⟨b1,0,none⟩)),(2,.int .i64 0),(3,.pointer (some ⟨b3,0,none⟩)),(4,.int .i64 0),(5,.int .u8 1),(6,.int .i64 0),(7,.int .u8 0),(8,.int .i64 0),(9,.int .i64 2),(10,.int .i64 0),(11,.int .i64 2),(12,.int .i64 0)]) (H' := ⟨b3,0,cSp ⟨-2,10⟩,some 24,2⟩::⟨b1,0,cSp ⟨4,12⟩,some 24,2⟩::H) (by repeat (first | exact uU _ | refine uV rfl ?_)) (by repeat (first | exact qR _ | apply qK | apply qC | refine List.Sublist.trans ?_ (List.sublist_append_right _ _))) ?_
 clear hpo h1 h2 h3 h4
 refine X.regionOb tsKal [1,2,3,4,5,6,7,8,9,10,11,12] [(1,.pointer (some ⟨b1,0,none⟩)),(2,.int .i64 0),(3,.pointer (some ⟨b3,0,none⟩)),(4,.int .i64 0),(5,.int .u8 1),(6,.int .i64 0),(7,.int .u8 0),(8,.int .i64 0),(9,.int .i64 2),(10,.int .i64 0),(11,.int .i64 2),(12,.int .i64 0)] (valKal b1 b3) (rowsKal b1 b3) (fun _=>(0,0)) (⟨b3,0,cSp ⟨-2,10⟩,some 24,2⟩::⟨b1,0,cSp ⟨4,12⟩,some 24,2⟩::H) rfl mixed (by repeat (first | exact uU _ | refine uV rfl ?_)) rfl (by kernel_rfl) (locKal b1 b3) (qR _) ?_ ?_
 ·repeat' (first | exact AllF.done rfl | (refine AllF.step rfl ?_ ?_;·(first | fail | ((first | refine Ob.ng rfl ?_ | refine Ob.g rfl rfl (fun _=>rfl) ?_);(first | exact ObK.pure (fun env R hR=>by exact ⟨_,uM rfl rfl,rfl⟩) rfl (fun _=>rfl) | exact ObK.pure (fun env R hR=>by exact ⟨_,EvF.pickF rfl rfl rfl,rfl⟩) rfl (fun _=>rfl) | exact ObK.pure (fun env R hR=>by exact ⟨_,uQ rfl rfl rfl rfl,rfl⟩) rfl (fun _=>rfl) | exact ObK.pure (fun env R hR=>by exact ⟨_,uL rfl rfl (uW (te rfl) rfl (hR _ (qH _)) rfl),rfl⟩) rfl (fun _=>rfl) | exact ObK.pure (fun env R hR=>by exact ⟨_,uL rfl rfl (uW (te rfl) rfl (hR _ (qT _ (qH _))) rfl),rfl⟩) rfl (fun _=>rfl)|(exact fun env S hS=>OpF.callV (Z:=[]) (uT rfl (Args.cons rfl (Args.cons rfl Args.nil))) (lawSpan 4 12 S) rfl rfl)|(exact fun env S hS=>OpF.callV (Z:=[]) (uT rfl (Args.cons rfl (Args.cons rfl Args.nil))) (lawSpan (-2) 10 S) rfl rfl)|(exact ObK.pure (fun env S hS=>⟨.bool false,EvF.eqSt (r:=true) rfl rfl rfl (by kernel_rfl) (fun w=>eqE ⟨4,12⟩ w) rfl,rfl⟩) rfl (fun _=>rfl))|(exact ObK.pure (fun env S hS=>⟨.bool false,EvF.eqSt (r:=true) rfl rfl rfl (by kernel_rfl) (fun w=>eqE ⟨-2,10⟩ w) rfl,rfl⟩) rfl (fun _=>rfl)))))))
 intro env t ha2 hv;refine ⟨_,ha2.cons (hv 47 101 (Nat.le_of_ble_eq_true rfl) rfl),?_⟩;clear hv ha2
 refine X.weak (F' := [(101,.bool false)]) (H' := H) (by repeat (first | exact uU _ | refine uV rfl ?_)) (by repeat (first | exact qR _ | apply qK | apply qC | refine List.Sublist.trans ?_ (List.sublist_append_right _ _))) ?_
 clear env
 clear b1 b3 p1 p2 p3 p4 Z1 Z2 Z3 Z4
 repeat' (first | (refine uP rfl ?_;(first | ((first | refine uN rfl ?_ | (refine Xo.g rfl rfl ?_;with_reducible refine Xw.tt ?_));(first | (refine uE (uQ (b:=true) rfl rfl rfl (congrArg some (decide_eq_true (by omega)))) rfl rfl ?_)|(refine uC (uT rfl Args.nil) rfl rfl (oddRO _) ?_;rintro _ _ ⟨po,Z,rfl,hpo,rfl⟩)|(refine uC (uT rfl (by (repeat (first | exact Args.nil | refine Args.cons rfl ?_));done)) rfl rfl (roomRE _) ?_;rintro _ _ ⟨po,Z,rfl,hpo,rfl⟩)|(refine uE (uX rfl rfl rfl) rfl rfl ?_)|(refine uC (uT rfl (by (repeat (first | exact Args.nil | refine Args.cons rfl ?_));done)) rfl rfl (aDue po _ (hpo _)) ?_;rintro _ _ ⟨a1,c1,Z1,rfl,s1,rfl⟩)|(refine uC (uT rfl (by (repeat (first | exact Args.nil | refine Args.cons rfl ?_));done)) rfl rfl (aFre po _ (hpo _)) ?_;rintro _ _ ⟨a2,c2,Z2,rfl,s2,rfl⟩)|(refine uC (uT rfl (by (repeat (first | exact Args.nil | refine Args.cons rfl ?_));done)) rfl rfl (aAsk po _ (hpo _)) ?_;rintro _ H9 ⟨rfl,hH9⟩;subst H9)|(refine uC (uT rfl (by (repeat (first | exact Args.nil | refine Args.cons rfl ?_));done)) rfl rfl (aWhy po _ (hpo _)) ?_;rintro _ _ ⟨a3,c3,Z3,rfl,s3,rfl⟩)|(refine uC (uT rfl (by (repeat (first | exact Args.nil | refine Args.cons rfl ?_));done)) rfl rfl (aRst po _ (hpo _)) ?_;rintro _ _ ⟨a4,c4,Z4,rfl,s4,rfl⟩)|(refine uC (uT rfl (by (repeat (first | exact Args.nil | refine Args.cons rfl ?_));done)) rfl rfl (aCan po _ (hpo _)) ?_;rintro _ H9 ⟨rfl,hH9⟩;subst H9)|(refine uC (uT rfl (by (repeat (first | exact Args.nil | refine Args.cons rfl ?_));done)) rfl rfl (aWrg po _ (hpo _)) ?_;rintro _ _ ⟨a5,c5,Z5,rfl,s5,rfl⟩)|(refine Xg.st (StF.buildOne (cs:=[.int .i64 1]) rfl el55 rfl rfl rfl (by decide) (by decide)) rfl rfl ?_;rintro _ _ ⟨bq,rfl,rfl⟩)|(refine Xg.st (StF.buildOne (cs:=[.int .i64 2]) rfl el55 rfl rfl rfl (by decide) (by decide)) rfl rfl ?_;rintro _ _ ⟨bq,rfl,rfl⟩)|(refine uC (uT rfl (Args.cons rfl (Args.cons rfl (Args.cons rfl Args.nil)))) rfl rfl (ints_spec [1] a1 c1 bq [1] _ (s1.sub (fun _ h=>by repeat (first | exact h | apply List.mem_append_right | apply qT))) (SlE.ofRow (l:=[1]) (qH _) (fun _ _=>rfl)) rfl (by decide)) ?_;rintro _ H9 ⟨rfl,hH9⟩;subst H9)|(refine uC (uT rfl (Args.cons rfl (Args.cons rfl (Args.cons rfl Args.nil)))) rfl rfl (ints_spec [2] a2 c2 bq [2] _ (s2.sub (fun _ h=>by repeat (first | exact h | apply List.mem_append_right | apply qT))) (SlE.ofRow (l:=[2]) (qH _) (fun _ _=>rfl)) rfl (by decide)) ?_;rintro _ H9 ⟨rfl,hH9⟩;subst H9)|(refine uC (uT rfl (Args.cons rfl (Args.cons rfl (Args.cons rfl Args.nil)))) rfl rfl (ints_spec [1] a3 c3 bq [1] _ (s3.sub (fun _ h=>by repeat (first | exact h | apply List.mem_append_right | apply qT))) (SlE.ofRow (l:=[1]) (qH _) (fun _ _=>rfl)) rfl (by decide)) ?_;rintro _ H9 ⟨rfl,hH9⟩;subst H9)|(refine uC (uT rfl (Args.cons rfl (Args.cons rfl (Args.cons rfl Args.nil)))) rfl rfl (ints_spec [1] a4 c4 bq [1] _ (s4.sub (fun _ h=>by repeat (first | exact h | apply List.mem_append_right | apply qT))) (SlE.ofRow (l:=[1]) (qH _) (fun _ _=>rfl)) rfl (by decide)) ?_;rintro _ H9 ⟨rfl,hH9⟩;subst H9)|(refine uC (uT rfl (Args.cons rfl (Args.cons rfl (Args.cons rfl Args.nil)))) rfl rfl (ints_spec [1] a5 c5 bq [1] _ (s5.sub (fun _ h=>by repeat (first | exact h | apply List.mem_append_right | apply qT))) (SlE.ofRow (l:=[1]) (qH _) (fun _ _=>rfl)) rfl (by decide)) ?_;rintro _ H9 ⟨rfl,hH9⟩;subst H9)|(refine uE (uM rfl rfl) rfl rfl ?_)|(refine uE (uA rfl rfl) rfl rfl ?_)|(refine uE (EvF.pickT rfl rfl rfl) rfl rfl ?_)|(refine uE (EvF.pickF rfl rfl rfl) rfl rfl ?_)|(refine uE (EvF.not rfl rfl) rfl rfl ?_)))|(refine Xo.g rfl rfl ?_;(first | (with_reducible refine Xw.ft rfl rfl ?_)|(with_reducible refine Xw.caseB (fun h=>?_) (fun h=>?_) <;> simp only [h,decide_true,decide_false,Bool.not_true,Bool.not_false,and_self,and_true,true_and,and_false,false_and])))))|(refine uD rfl ?_;refine hK _ _ ?_;clear hK K) | refine uS rfl ?_ | refine uR rfl (fun K hK=>?_) | refine X.skip rfl ?_ | refine X.ret rfl ?_ | (refine X.ite rfl rfl (fun hc=>?_);(first | (with_reducible refine Xb.f hc ?_)) <;> clear hc))
 all_goals try (exfalso;contradiction)
 exact ret_one (by simp) Tryz.results8 rfl (H' := H) (by repeat (first | exact qR _ | apply qK | apply qC | refine List.Sublist.trans ?_ (List.sublist_append_right _ _))) ⟨rfl,rfl⟩
end Go.Proofs.YtmfppdpkalelhaaGreat
end
section
set_option linter.unusedVariables false
set_option linter.unusedSimpArgs false
namespace Go.Proofs.YtmfppdpkalelhaaGreat
open Go Go.Fw
set_option maxRecDepth 10000
structure Rdy (R : Rm) : Prop where
 g : ¬ great R
 ok : roomOk R
 t : hasT R R.mats
set_option maxHeartbeats 4000000 in
theorem ready_yes (R : Rm) (p : Pl) (H : List Row) (hR : RmOk H R p) (h : Rdy R) : Fc Tryz.prog 28 [.agg (cRm R p).toArray] H (fun v H' => v = .bool true∧H' = H):=by
 have hml : R.mats.length ≤ 8:=h.ok.1.2.2.2.2.2.2
 have hg:=fun S=>great_spec R p S
 have hr:=fun S hS=>room_spec R p S hS
 have ht:=fun S hS=>true_spec R p S h.ok.ok h.ok.mats (by omega) hS
 simp only [decide_eq_false h.g] at hg
 simp only [decide_eq_true h.ok] at hr
 simp only [decide_eq_true h.t] at ht
 refine Fc.mk (callable Tryz.call28) Tryz.func28 rfl Tryz.ntmps28 rfl ?_;dsimp only [fr]
 repeat' (first | (refine uP rfl ?_;(first | ((first | refine uN rfl ?_ | (refine Xo.g rfl rfl ?_;with_reducible refine Xw.tt ?_));(first | (refine uE (uL rfl rfl (uW (T:=32) (cs:=cRm R p) (te rfl) rfl (by repeat (first | exact qH _ | apply qT)) rfl)) rfl rfl ?_)|(refine uC (uT rfl (Args.cons rfl Args.nil)) rfl rfl (hg _) ?_;rintro _ H9 ⟨rfl,hH9⟩;subst H9)|(refine uC (uT rfl (Args.cons rfl Args.nil)) rfl rfl (hr _ (hR.sub (fun _ h=>by repeat (first | exact h | apply qT)))) ?_;rintro _ H9 ⟨rfl,hH9⟩;subst H9)|(refine uC (uT rfl (Args.cons rfl Args.nil)) rfl rfl (ht _ (hR.sub (fun _ h=>by repeat (first | exact h | apply qT)))) ?_;rintro _ H9 ⟨rfl,hH9⟩;subst H9)|(refine uE (uM rfl rfl) rfl rfl ?_)|(refine uE (uA rfl rfl) rfl rfl ?_)|(refine uE (EvF.pickT rfl rfl rfl) rfl rfl ?_)|(refine uE (EvF.pickF rfl rfl rfl) rfl rfl ?_)|(refine uE (EvF.not rfl rfl) rfl rfl ?_)|(refine Xg.st (StF.boxAgg rfl rfl) rfl rfl ?_;rintro _ _ ⟨bx,rfl,rfl⟩)))|(refine Xo.g rfl rfl ?_;(first | (with_reducible refine Xw.ft rfl rfl ?_)|(with_reducible refine Xw.caseB (fun h=>?_) (fun h=>?_) <;> simp only [h,decide_true,decide_false,Bool.not_true,Bool.not_false,and_self,and_true,true_and,and_false,false_and])))))|(refine uD rfl ?_;refine hK _ _ ?_;clear hK K) | refine uS rfl ?_ | refine uR rfl (fun K hK=>?_) | refine X.ret rfl ?_)
 all_goals try (exfalso;contradiction)
 exact ret_one (by simp) Tryz.results28 rfl (H' := H) (by repeat (first | exact qR _ | apply qK | apply qC)) ⟨rfl,rfl⟩
set_option maxHeartbeats 4000000 in
theorem ready_no (R : Rm) (p : Pl) (H : List Row) (hR : RmOk H R p) (h : ¬ Rdy R) : Fc Tryz.prog 28 [.agg (cRm R p).toArray] H (fun v H' => v = .bool false∧H' = H):=by
 have hg:=fun S=>great_spec R p S
 have hr:=fun S hS=>room_spec R p S hS
 by_cases h1 : great R
 ·simp only [decide_eq_true h1] at hg
  refine Fc.mk (callable Tryz.call28) Tryz.func28 rfl Tryz.ntmps28 rfl ?_;dsimp only [fr]
  repeat' (first | (refine uP rfl ?_;(first | ((first | refine uN rfl ?_ | (refine Xo.g rfl rfl ?_;with_reducible refine Xw.tt ?_));(first | (refine uE (uL rfl rfl (uW (T:=32) (cs:=cRm R p) (te rfl) rfl (by repeat (first | exact qH _ | apply qT)) rfl)) rfl rfl ?_)|(refine uC (uT rfl (Args.cons rfl Args.nil)) rfl rfl (hg _) ?_;rintro _ H9 ⟨rfl,hH9⟩;subst H9)|(refine uE (uM rfl rfl) rfl rfl ?_)|(refine uE (uA rfl rfl) rfl rfl ?_)|(refine uE (EvF.pickF rfl rfl rfl) rfl rfl ?_)|(refine uE (EvF.not rfl rfl) rfl rfl ?_)|(refine Xg.st (StF.boxAgg rfl rfl) rfl rfl ?_;rintro _ _ ⟨bx,rfl,rfl⟩)))|(refine Xo.g rfl rfl ?_;(first | (with_reducible refine Xw.ft rfl rfl ?_)|(with_reducible refine Xw.caseB (fun h=>?_) (fun h=>?_) <;> simp only [h,decide_true,decide_false,Bool.not_true,Bool.not_false,and_self,and_true,true_and,and_false,false_and])))))|(refine uD rfl ?_;refine hK _ _ ?_;clear hK K) | refine uS rfl ?_ | refine uR rfl (fun K hK=>?_) | refine X.ret rfl ?_)
  all_goals try (exfalso;contradiction)
  exact ret_one (by simp) Tryz.results28 rfl (H' := H) (by repeat (first | exact qR _ | apply qK | apply qC)) ⟨rfl,rfl⟩
 ·simp only [decide_eq_false h1] at hg
  by_cases h2 : roomOk R
  ·have hml : R.mats.length ≤ 8:=h2.1.2.2.2.2.2.2
   have ht:=fun S hS=>true_spec R p S h2.ok h2.mats (by omega) hS
   have h3 : ¬ hasT R R.mats:=fun q=>h ⟨h1,h2,q⟩
   simp only [decide_eq_true h2] at hr
   simp only [decide_eq_false h3] at ht
   refine Fc.mk (callable Tryz.call28) Tryz.func28 rfl Tryz.ntmps28 rfl ?_;dsimp only [fr]
   repeat' (first | (refine uP rfl ?_;(first | ((first | refine uN rfl ?_ | (refine Xo.g rfl rfl ?_;with_reducible refine Xw.tt ?_));(first | (refine uE (uL rfl rfl (uW (T:=32) (cs:=cRm R p) (te rfl) rfl (by repeat (first | exact qH _ | apply qT)) rfl)) rfl rfl ?_)|(refine uC (uT rfl (Args.cons rfl Args.nil)) rfl rfl (hg _) ?_;rintro _ H9 ⟨rfl,hH9⟩;subst H9)|(refine uC (uT rfl (Args.cons rfl Args.nil)) rfl rfl (hr _ (hR.sub (fun _ h=>by repeat (first | exact h | apply qT)))) ?_;rintro _ H9 ⟨rfl,hH9⟩;subst H9)|(refine uC (uT rfl (Args.cons rfl Args.nil)) rfl rfl (ht _ (hR.sub (fun _ h=>by repeat (first | exact h | apply qT)))) ?_;rintro _ H9 ⟨rfl,hH9⟩;subst H9)|(refine uE (uM rfl rfl) rfl rfl ?_)|(refine uE (uA rfl rfl) rfl rfl ?_)|(refine uE (EvF.pickT rfl rfl rfl) rfl rfl ?_)|(refine uE (EvF.pickF rfl rfl rfl) rfl rfl ?_)|(refine uE (EvF.not rfl rfl) rfl rfl ?_)|(refine Xg.st (StF.boxAgg rfl rfl) rfl rfl ?_;rintro _ _ ⟨bx,rfl,rfl⟩)))|(refine Xo.g rfl rfl ?_;(first | (with_reducible refine Xw.ft rfl rfl ?_)|(with_reducible refine Xw.caseB (fun h=>?_) (fun h=>?_) <;> simp only [h,decide_true,decide_false,Bool.not_true,Bool.not_false,and_self,and_true,true_and,and_false,false_and])))))|(refine uD rfl ?_;refine hK _ _ ?_;clear hK K) | refine uS rfl ?_ | refine uR rfl (fun K hK=>?_) | refine X.ret rfl ?_)
   all_goals try (exfalso;contradiction)
   exact ret_one (by simp) Tryz.results28 rfl (H' := H) (by repeat (first | exact qR _ | apply qK | apply qC)) ⟨rfl,rfl⟩
  ·simp only [decide_eq_false h2] at hr
   refine Fc.mk (callable Tryz.call28) Tryz.func28 rfl Tryz.ntmps28 rfl ?_;dsimp only [fr]
   repeat' (first | (refine uP rfl ?_;(first | ((first | refine uN rfl ?_ | (refine Xo.g rfl rfl ?_;with_reducible refine Xw.tt ?_));(first | (refine uE (uL rfl rfl (uW (T:=32) (cs:=cRm R p) (te rfl) rfl (by repeat (first | exact qH _ | apply qT)) rfl)) rfl rfl ?_)|(refine uC (uT rfl (Args.cons rfl Args.nil)) rfl rfl (hg _) ?_;rintro _ H9 ⟨rfl,hH9⟩;subst H9)|(refine uC (uT rfl (Args.cons rfl Args.nil)) rfl rfl (hr _ (hR.sub (fun _ h=>by repeat (first | exact h | apply qT)))) ?_;rintro _ H9 ⟨rfl,hH9⟩;subst H9)|(refine uE (uM rfl rfl) rfl rfl ?_)|(refine uE (uA rfl rfl) rfl rfl ?_)|(refine uE (EvF.pickT rfl rfl rfl) rfl rfl ?_)|(refine uE (EvF.pickF rfl rfl rfl) rfl rfl ?_)|(refine uE (EvF.not rfl rfl) rfl rfl ?_)|(refine Xg.st (StF.boxAgg rfl rfl) rfl rfl ?_;rintro _ _ ⟨bx,rfl,rfl⟩)))|(refine Xo.g rfl rfl ?_;(first | (with_reducible refine Xw.ft rfl rfl ?_)|(with_reducible refine Xw.caseB (fun h=>?_) (fun h=>?_) <;> simp only [h,decide_true,decide_false,Bool.not_true,Bool.not_false,and_self,and_true,true_and,and_false,false_and])))))|(refine uD rfl ?_;refine hK _ _ ?_;clear hK K) | refine uS rfl ?_ | refine uR rfl (fun K hK=>?_) | refine X.ret rfl ?_)
   all_goals try (exfalso;contradiction)
   exact ret_one (by simp) Tryz.results28 rfl (H' := H) (by repeat (first | exact qR _ | apply qK | apply qC)) ⟨rfl,rfl⟩
set_option maxHeartbeats 4000000 in
theorem lawHas (l : List Int) (a : Option Addr) (c : Nat) (n : Int) (H : List Row) (hl : SlE H a cI 1 l) (hb : l.length ≤ 1000000) : Fc Tryz.prog 34 [.slice a l.length c,.int .i64 n] H (fun v H' => v = .bool (decide (n ∈ l))∧H' = H):=by
 obtain ⟨w,hw⟩ : ∃ w,w = decide (n ∈ l):=⟨_,rfl⟩
 rw [← hw]
 refine Fc.mk (callable Tryz.call34) Tryz.func34 rfl Tryz.ntmps34 rfl ?_;dsimp only [fr]
 repeat' (first | (refine uP rfl ?_;(first | ((first | refine uN rfl ?_);(first | (refine uE (uM rfl rfl) rfl rfl ?_)|(refine uE (uA rfl rfl) rfl rfl ?_)|(refine uE (EvF.lenSlice rfl rfl (te rfl)) rfl rfl ?_)))))|(refine uD rfl ?_;refine hK _ _ ?_;clear hK K) | refine uS rfl ?_ | refine uR rfl (fun K hK=>?_) | refine X.block rfl ?_)
 refine X.lp rfl (fun q F' H' => ∃ k : Nat,q = l.length - k∧k ≤ l.length∧w = decide (n ∈ l.drop k)∧H = H'∧F' = [(1,.int .i64 n),(7,.slice a l.length c),(8,.int .i64 l.length),(9,.int .i64 k)])
  l.length [(1,.int .i64 n),(7,.slice a l.length c),(8,.int .i64 l.length),(9,.int .i64 (0 : Nat))] _ (by repeat (first | exact uU _ | refine uV rfl ?_)) (qR _) ⟨0,rfl,Nat.zero_le _,hw,rfl,rfl⟩ ?_
 clear hw
 rintro _ _ _ ⟨k,rfl,hk,hw,rfl,rfl⟩
 by_cases hlt : k < l.length
 ·obtain ⟨b,off,e,rfl,he⟩:=hl.elem (i:=k) hlt
  rw [drop_cons he] at hw
  by_cases heq : e = n
  ·rw [heq,decide_eq_true List.mem_cons_self] at hw
   subst hw
   repeat' (first | (refine uP rfl ?_;(first | ((first | refine uN rfl ?_);(first | (refine uE (uQ (b:=true) rfl rfl rfl (congrArg some (decide_eq_true (by omega)))) rfl rfl ?_)|(refine uE (uL rfl rfl (LoadV.el0 hl he (te rfl) rfl (fun _ hm=>hm) rfl)) rfl rfl ?_)|(refine uE (uM rfl rfl) rfl rfl ?_)|(refine uE (uA rfl rfl) rfl rfl ?_)|(refine uE (EvF.indexSlice rfl rfl rfl (te rfl) (te rfl) (by omega) (by omega)) rfl rfl ?_)))))|(refine uD rfl ?_;refine hK _ _ ?_;clear hK K) | refine uS rfl ?_ | refine uR rfl (fun K hK=>?_) | refine X.block rfl ?_ | refine X.skip rfl ?_ | refine X.ret rfl ?_ | (refine X.ite rfl rfl (fun hc=>?_);(first | (with_reducible refine Xb.t hc ?_)) <;> clear hc))
   all_goals try (exfalso;contradiction)
   exact ret_one (by simp) Tryz.results34 rfl (H' := H) (by repeat (first | exact qR _ | apply qK | apply qC)) ⟨rfl,rfl⟩
  ·repeat' (first | (refine uP rfl ?_;(first | ((first | refine uN rfl ?_);(first | (refine uE (uQ (b:=true) rfl rfl rfl (congrArg some (decide_eq_true (by omega)))) rfl rfl ?_)|(refine uE (uQ (b:=false) rfl rfl rfl (congrArg some (decide_eq_false (by omega)))) rfl rfl ?_)|(refine uE (uL rfl rfl (LoadV.el0 hl he (te rfl) rfl (fun _ hm=>hm) rfl)) rfl rfl ?_)|(refine uE (uM rfl rfl) rfl rfl ?_)|(refine uE (uA rfl rfl) rfl rfl ?_)|(refine uE (EvF.add64 rfl rfl rfl (by omega) (by omega)) rfl rfl ?_)|(refine uE (EvF.indexSlice rfl rfl rfl (te rfl) (te rfl) (by omega) (by omega)) rfl rfl ?_)))))|(refine uD rfl ?_;refine hK _ _ ?_;clear hK K) | refine uS rfl ?_ | refine uR rfl (fun K hK=>?_) | refine X.block rfl ?_ | refine X.skip rfl ?_ | (refine X.ite rfl rfl (fun hc=>?_);(first | (with_reducible refine Xb.t hc ?_)|(with_reducible refine Xb.f hc ?_)) <;> clear hc))
   all_goals try (exfalso;contradiction)
   refine ⟨_,_,H,(by repeat (first | exact uU _ | refine uV rfl ?_)),(by repeat (first | exact qR _ | apply qK | apply qC)),⟨k + 1,rfl,by omega,?_,rfl,rfl⟩,by omega⟩
   rw [hw]
   refine decide_eq_decide.2 ⟨fun h=>?_,fun h=>List.mem_cons_of_mem _ h⟩
   rcases List.mem_cons.1 h with h | h
   ·exact absurd h.symm heq
   ·exact h
 ·obtain rfl : k = l.length:=by omega
  rw [List.drop_length] at hw
  have hw : w = false:=hw
  subst hw
  repeat' (first | (refine uP rfl ?_;(first | ((first | refine uN rfl ?_);(first | (refine uE (uQ (b:=false) rfl rfl rfl (congrArg some (decide_eq_false (by omega)))) rfl rfl ?_)|(refine uE (uA rfl rfl) rfl rfl ?_)))))|(refine uD rfl ?_;refine hK _ _ ?_;clear hK K) | refine uS rfl ?_ | refine uR rfl (fun K hK=>?_)|(refine X.brk rfl ?_;repeat (first | refine blockX_hit rfl ?_ | refine blockX_miss (by decide) ?_)) | refine X.ret rfl ?_ | (refine X.ite rfl rfl (fun hc=>?_);(first | (with_reducible refine Xb.f hc ?_)) <;> clear hc))
  all_goals try (exfalso;contradiction)
  exact ret_one (by simp) Tryz.results34 rfl (H' := H) (by repeat (first | exact qR _ | apply qK | apply qC)) ⟨rfl,rfl⟩
end Go.Proofs.YtmfppdpkalelhaaGreat
end
section
set_option linter.unusedVariables false
set_option linter.unusedSimpArgs false
namespace Go.Proofs.YtmfppdpkalelhaaGreat
open Go Go.Fw
set_option maxRecDepth 10000
theorem byte_und : (Tryz.prog.underlying 5).isSome = true:=by kernel_rfl
theorem int_undI : Tryz.prog.underlying 3 = some (.int .i64):=by kernel_rfl
theorem thL_snoc {m : Int} {l : List Bx} {k : Nat} {e : Bx} (he : l[k]? = some e) : thL m (l.take (k + 1)) = thL m (l.take k)++(if e.made ≤ m then [e.id] else []):=by
 unfold thL
 rw [take_snoc he,List.filter_append,List.map_append]
 by_cases h : e.made ≤ m
 ·rw [if_pos h];simp [List.filter,h]
 ·rw [if_neg h];simp [List.filter,h]
theorem thL_len (m : Int) (l : List Bx) : (thL m l).length ≤ l.length:=by
 unfold thL;rw [List.length_map];exact List.length_filter_le _ _
theorem rem_split {n i j : Nat} (hi : i < n) (hj : j + 1 < n) : ∃ k : Nat,k < n∧k ≠ i∧((i : Int) + 1 + (j : Int)) % (n : Int)=(k : Int):=by
 by_cases h : i + 1 + j < n
 ·exact ⟨i + 1 + j,h,by omega,by rw [Int.emod_eq_of_lt (by omega) (by omega)];omega⟩
 ·refine ⟨i + 1 + j - n,by omega,by omega,?_⟩
  rw [show ((i : Int) + 1 + (j : Int)) = ((i : Int) + 1 + (j : Int) - n) + n by omega,Int.add_emod_right,Int.emod_eq_of_lt (by omega) (by omega)]
  omega
theorem rem_nat {a : Int} {n : Nat} (ha : 0 ≤ a) (hn : 0 < n) : ∃ i : Nat,i < n∧a % (n : Int)=(i : Int):=by
 have h1:=Int.emod_nonneg a (b:=(n : Int)) (by omega)
 have h2:=Int.emod_lt_of_pos a (b:=(n : Int)) (by omega)
 exact ⟨(a % (n : Int)).toNat,by omega,by omega⟩
theorem thI_nodup {R : Rm} (hok : roomOk R) (m : Int) : (thI R m).Nodup:=by
 have h:=okBoxes_pw R.months R.boxes 0 hok.2.2.1
 unfold thI
 exact List.pairwise_map.2 ((h.filter _).imp (fun q e=>by
  have e : _ = _:=e
  omega))
/-- two boxes of a month, or that there are not two -/
def TwoR (R : Rm) (m : Int) (H : List Row) (v : Value) (H' : List Row) : Prop :=
 H' = H∧(((thI R m).length < 2∧v = .tuple #[.int .i64 0,.int .i64 0,.int .i64 m,.bool false]) ∨ ∃ a b,a ∈ thI R m∧b ∈ thI R m∧a ≠ b∧2 ≤ (thI R m).length∧v = .tuple #[.int .i64 a,.int .i64 b,.int .i64 m,.bool true])
def tsKtw : List TOp:=[⟨some 61,[],[],[]⟩,⟨some 62,[],[],[]⟩,⟨some 63,[0,1],[0,1],[]⟩,⟨some 64,[0,1,2],[2],[]⟩,⟨some 65,[],[],[]⟩,⟨some 66,[],[],[]⟩,⟨some 67,[4,5],[4,5],[]⟩,⟨some 68,[4,5,6],[6],[]⟩,⟨some 69,[],[],[]⟩,⟨some 8,[0,1,2,3],[3],[]⟩,⟨some 9,[0,1,2,3,4,5,6,7,9],[7],[]⟩,⟨some 10,[0,1,2,3,4,5,6,7,8,9,10],[8],[]⟩,⟨some 11,[0,1,2,3,4,5,6,7,8,9,10,11],[],[]⟩]
def valKtw (bl nn cc ii kk : Nat) (m x y : Int) (k : Nat) (env : Env) : Value :=
 match k with
 | 0 => .slice (some ⟨bl,0,none⟩) nn cc
 | 1 => .int .i64 (ii : Nat)
 | 2 => .pointer (some ⟨bl,0 + ii * 1,none⟩)
 | 3 => .int .i64 x
 | 4 => .slice (some ⟨bl,0,none⟩) nn cc
 | 5 => .int .i64 (kk : Nat)
 | 6 => .pointer (some ⟨bl,0 + kk * 1,none⟩)
 | 7 => .int .i64 y
 | 8 => .int .i64 m
 | 9 => .int .i64 x
 | 10 => .int .i64 y
 | 11 => .int .i64 m
 | 12 => .bool true
 | _=>undef
def rowsKtw (bl nn cc ii kk : Nat) (m x y : Int) (k : Nat) (env : Env) : List Row :=
 match k with
 | _=>[]
theorem locKtw (bl nn cc ii kk : Nat) (m x y : Int) : ∀ k env i q9,i ≠ k → (tAt tsKtw k).sup.contains i = false → valKtw bl nn cc ii kk m x y k (upd env i q9)=valKtw bl nn cc ii kk m x y k env∧rowsKtw bl nn cc ii kk m x y k (upd env i q9)=rowsKtw bl nn cc ii kk m x y k env:=by
 intro k env i q hk hs
 have hu : ∀ j,j ≠ i → upd env i q j = env j:=fun j hj=>by unfold upd;rw [if_neg hj]
 match k,hk,hs with
 | 0,_,_=>exact ⟨rfl,rfl⟩
 | 1,_,_=>exact ⟨rfl,rfl⟩
 | 2,_,_=>exact ⟨rfl,rfl⟩
 | 3,_,_=>exact ⟨rfl,rfl⟩
 | 4,_,_=>exact ⟨rfl,rfl⟩
 | 5,_,_=>exact ⟨rfl,rfl⟩
 | 6,_,_=>exact ⟨rfl,rfl⟩
 | 7,_,_=>exact ⟨rfl,rfl⟩
 | 8,_,_=>exact ⟨rfl,rfl⟩
 | 9,_,_=>exact ⟨rfl,rfl⟩
 | 10,_,_=>exact ⟨rfl,rfl⟩
 | 11,_,_=>exact ⟨rfl,rfl⟩
 | 12,_,_=>exact ⟨rfl,rfl⟩
 | _ + 13,_,_=>exact ⟨rfl,rfl⟩
set_option maxHeartbeats 8000000 in
theorem two_spec (R : Rm) (p : Pl) (mo i j : Int) (H : List Row) (hR : RmOk H R p) (hok : roomOk R) (h1 : 0 ≤ mo∧mo ≤ 255) (h2 : 0 ≤ i∧i ≤ 255) (h3 : 0 ≤ j∧j ≤ 255) :
  Fc Tryz.prog 29 [.agg (cRm R p).toArray,.int .u8 mo,.int .u8 i,.int .u8 j] H (TwoR R (mo % R.months) H):=by
 have hmm : 1 ≤ R.months∧R.months ≤ 12:=⟨hok.ok.m1,hok.ok.m12⟩
 have hlb:=hok.ok.b4
 have hnd:=thI_nodup hok (mo % R.months)
 have hthI : thI R (mo % R.months)=thL (mo % R.months) R.boxes:=rfl
 refine Fc.mk (callable Tryz.call29) Tryz.func29 rfl Tryz.ntmps29 rfl ?_;dsimp only [fr]
 repeat' (first | (refine uP rfl ?_;(first | ((first | refine uN rfl ?_);(first | (refine uE (EvF.conv rfl rfl byte_und int_undI (by omega) (by omega)) rfl rfl ?_)|(refine uE (EvF.rem64 rfl rfl rfl (by omega) (by omega)) rfl rfl ?_)|(refine uE (uM rfl rfl) rfl rfl ?_)|(refine uE (uA rfl rfl) rfl rfl ?_)|(refine uE (uF rfl rfl (te rfl) rfl (te rfl) (by decide)) rfl rfl ?_)|(refine uE (EvF.lenSlice rfl rfl (te rfl)) rfl rfl ?_)|(refine uE (uL rfl rfl (uO (te rfl) rfl (qH _) rfl)) rfl rfl ?_)|(refine Xg.st (StF.boxAgg rfl rfl) rfl rfl ?_;rintro _ _ ⟨bx,rfl,rfl⟩)))))|(refine uD rfl ?_;refine hK _ _ ?_;clear hK K) | refine uS rfl ?_ | refine uR rfl (fun K hK=>?_) | refine X.block rfl ?_)
 obtain ⟨m,hm⟩ : ∃ m,m = mo % R.months:=⟨_,rfl⟩
 rw [← hm] at hnd hthI ⊢
 generalize bx = b4
 refine X.lp rfl (fun q F' H' => ∃ (k : Nat) (out : Value) (Z : List Row),q = R.boxes.length - k∧k ≤ R.boxes.length∧((thL m (R.boxes.take k) = []∧out = .slice none 0 0∧Z = []) ∨ ∃ bn kn,out = .slice (some ⟨bn,0,none⟩) (thL m (R.boxes.take k)).length kn∧Z = [⟨bn,0,(thL m (R.boxes.take k)).flatMap cI,some 3,kn * 1⟩])∧Z++⟨b4,0,cRm R p,some 32,5⟩::H = H'∧F' = [(2,.int .u8 i),(3,.int .u8 j),(4,.pointer (some ⟨b4,0,none⟩)),(12,.int .i64 m),(13,out),(24,.slice p.a2 R.boxes.length p.c2),(25,.int .i64 R.boxes.length),(26,.int .i64 (k : Nat))])
  R.boxes.length [(2,.int .u8 i),(3,.int .u8 j),(4,.pointer (some ⟨b4,0,none⟩)),(12,.int .i64 m),(13,.slice none 0 0),(24,.slice p.a2 R.boxes.length p.c2),(25,.int .i64 R.boxes.length),(26,.int .i64 (0 : Nat))] (⟨b4,0,cRm R p,some 32,5⟩::H) (by repeat (first | exact uU _ | refine uV rfl ?_)) (by repeat (first | exact qR _ | apply qK | apply qC)) ⟨0,_,[],rfl,by omega,.inl ⟨rfl,rfl,rfl⟩,rfl,rfl⟩ ?_
 clear hm
 rintro _ _ _ ⟨k,out,Z,rfl,hk,hTz,rfl,rfl⟩
 have hzl:=thL_len m (R.boxes.take k)
 have hlT:=List.length_take (i:=k) (l:=R.boxes)
 by_cases hlt : k < R.boxes.length
 ·obtain ⟨G,hG⟩ : ∃ G : List Row,Z++⟨b4,0,cRm R p,some 32,5⟩::H = G:=⟨_,rfl⟩
  have hGR : RmOk G R p:=hR.sub (fun r h=>by rw [← hG];exact List.mem_append_right _ (qT _ h))
  obtain ⟨bb,off,e,hq3,hek⟩:=hR.boxes.elem (i:=k) hlt
  have hsn:=thL_snoc (m:=m) hek
  rw [hG]
  have hGb:=hGR.boxes
  rw [hq3] at hGb
  rw [hq3]
  by_cases hmd : e.made ≤ m
  ·rw [if_pos hmd] at hsn
   rcases hTz with ⟨h9,rfl,rfl⟩ | ⟨bo,ko,rfl,rfl⟩
   ·rw [h9,List.nil_append] at hsn
    rw [List.nil_append] at hG
    subst hG
    repeat' (first | (refine uP rfl ?_;(first | ((first | refine uN rfl ?_);(first | (refine uE (uQ (b:=true) rfl rfl rfl (congrArg some (decide_eq_true (by omega)))) rfl rfl ?_)|(refine uE (uL rfl rfl (LoadV.elA0 (hGb) hek (te rfl) rfl (fun _ hm=>hm) rfl)) rfl rfl ?_)|(refine uE (EvF.add64 (p:=(k : Int)) (q:=1) rfl rfl rfl (by omega) (by omega)) rfl rfl ?_)|(refine Xg.st (StF.alloc rfl Tryz.zeroValue47 rfl) rfl rfl ?_;rintro _ _ ⟨b15,rfl,rfl⟩)|(refine Xg.st0 (StF.storeAll (i:=0) (vs:=cBx e) rfl rfl rfl (te rfl) rfl rfl rfl rfl) rfl ?_;rintro _ _ ⟨rfl,rfl⟩;dsimp only [List.set])|(refine Xg.st (StF.buildOne rfl el55 rfl rfl rfl (by decide) (by decide)) rfl rfl ?_;rintro _ _ ⟨bs,rfl,rfl⟩)|(refine Xg.st (StF.appendNew rfl el55 rfl rfl (by decide) rfl (Rd.own (qH _)) (by decide)) rfl rfl ?_;rintro _ _ ⟨bn,kn,rfl,rfl⟩)|(refine uE (uM rfl rfl) rfl rfl ?_)|(refine uE (uA rfl rfl) rfl rfl ?_)|(refine uE (uF rfl rfl (te rfl) rfl (te rfl) (by decide)) rfl rfl ?_)|(refine uE (EvF.indexSlice rfl rfl rfl (te rfl) (te rfl) (by omega) (by omega)) rfl rfl ?_)|(refine uE (uL rfl rfl (uO (te rfl) rfl (qH _) rfl)) rfl rfl ?_)))))|(refine uD rfl ?_;refine hK _ _ ?_;clear hK K) | refine uS rfl ?_ | refine uR rfl (fun K hK=>?_) | refine X.block rfl ?_ | refine X.skip rfl ?_ | (refine X.ite rfl rfl (fun hc=>?_);(first | (with_reducible refine Xb.t hc ?_)) <;> clear hc))
    all_goals try (exfalso;contradiction)
    refine ⟨_,[(2,.int .u8 i),(3,.int .u8 j),(4,.pointer (some ⟨b4,0,none⟩)),(12,.int .i64 m),(13,.slice (some ⟨bn,0,none⟩) 1 kn),(24,.slice (some ⟨bb,off,none⟩) R.boxes.length p.c2),(25,.int .i64 R.boxes.length),(26,.int .i64 (k + 1 : Nat))],⟨bn,0,(thL m (R.boxes.take (k + 1))).flatMap cI,some 3,kn * 1⟩::⟨b4,0,cRm R p,some 32,5⟩::H,(by repeat (first | exact uU _ | refine uV rfl ?_)),?_,⟨k + 1,_,[_],rfl,by omega,.inr ⟨bn,kn,by rw [hsn];rfl,rfl⟩,rfl,rfl⟩,by omega⟩
    rw [hsn]
    exact (by repeat (first | exact qR _ | apply qK | apply qC))
   ·simp only [List.cons_append,List.nil_append] at hG
    subst hG
    have hlen9 : ((thL m (R.boxes.take k)).flatMap cI).length = (thL m (R.boxes.take k)).length * 1:=lenI _
    repeat' (first | (refine uP rfl ?_;(first | ((first | refine uN rfl ?_);(first | (refine uE (uQ (b:=true) rfl rfl rfl (congrArg some (decide_eq_true (by omega)))) rfl rfl ?_)|(refine uE (uL rfl rfl (LoadV.elA0 (hGb) hek (te rfl) rfl (fun _ hm=>hm) rfl)) rfl rfl ?_)|(refine uE (EvF.add64 (p:=(k : Int)) (q:=1) rfl rfl rfl (by omega) (by omega)) rfl rfl ?_)|(refine Xg.st (StF.alloc rfl Tryz.zeroValue47 rfl) rfl rfl ?_;rintro _ _ ⟨b15,rfl,rfl⟩)|(refine Xg.st0 (StF.storeAll (i:=0) (vs:=cBx e) rfl rfl rfl (te rfl) rfl rfl rfl rfl) rfl ?_;rintro _ _ ⟨rfl,rfl⟩;dsimp only [List.set])|(refine Xg.st (StF.buildOne rfl el55 rfl rfl rfl (by decide) (by decide)) rfl rfl ?_;rintro _ _ ⟨bs,rfl,rfl⟩)|(refine Xg.st (StF.appendOwn (i:=2) rfl el55 rfl rfl rfl hlen9 rfl (Rd.own (qH _)) rfl (by omega)) rfl rfl ?_;rintro _ _ ⟨bn,kn,rfl,rfl⟩;dsimp only [List.eraseIdx])|(refine uE (uM rfl rfl) rfl rfl ?_)|(refine uE (uA rfl rfl) rfl rfl ?_)|(refine uE (uF rfl rfl (te rfl) rfl (te rfl) (by decide)) rfl rfl ?_)|(refine uE (EvF.indexSlice rfl rfl rfl (te rfl) (te rfl) (by omega) (by omega)) rfl rfl ?_)|(refine uE (uL rfl rfl (uO (te rfl) rfl (qH _) rfl)) rfl rfl ?_)))))|(refine uD rfl ?_;refine hK _ _ ?_;clear hK K) | refine uS rfl ?_ | refine uR rfl (fun K hK=>?_) | refine X.block rfl ?_ | refine X.skip rfl ?_ | (refine X.ite rfl rfl (fun hc=>?_);(first | (with_reducible refine Xb.t hc ?_)) <;> clear hc))
    all_goals try (exfalso;contradiction)
    refine ⟨_,[(2,.int .u8 i),(3,.int .u8 j),(4,.pointer (some ⟨b4,0,none⟩)),(12,.int .i64 m),(13,.slice (some ⟨bn,0,none⟩) ((thL m (R.boxes.take k)).length + 1) kn),(24,.slice (some ⟨bb,off,none⟩) R.boxes.length p.c2),(25,.int .i64 R.boxes.length),(26,.int .i64 (k + 1 : Nat))],⟨bn,0,(thL m (R.boxes.take (k + 1))).flatMap cI,some 3,kn * 1⟩::⟨b4,0,cRm R p,some 32,5⟩::H,(by repeat (first | exact uU _ | refine uV rfl ?_)),?_,⟨k + 1,_,[_],rfl,by omega,.inr ⟨bn,kn,by rw [hsn,List.length_append];rfl,rfl⟩,rfl,rfl⟩,by omega⟩
    rw [hsn,List.flatMap_append]
    exact (by repeat (first | exact qR _ | apply qK | apply qC))
  ·rw [if_neg hmd,List.append_nil] at hsn
   repeat' (first | (refine uP rfl ?_;(first | ((first | refine uN rfl ?_);(first | (refine uE (uQ (b:=true) rfl rfl rfl (congrArg some (decide_eq_true (by omega)))) rfl rfl ?_)|(refine uE (uQ (b:=false) rfl rfl rfl (congrArg some (decide_eq_false (by omega)))) rfl rfl ?_)|(refine uE (uL rfl rfl (LoadV.elA0 (hGb) hek (te rfl) rfl (fun _ hm=>hm) rfl)) rfl rfl ?_)|(refine uE (EvF.add64 (p:=(k : Int)) (q:=1) rfl rfl rfl (by omega) (by omega)) rfl rfl ?_)|(refine Xg.st (StF.alloc rfl Tryz.zeroValue47 rfl) rfl rfl ?_;rintro _ _ ⟨b15,rfl,rfl⟩)|(refine Xg.st0 (StF.storeAll (i:=0) (vs:=cBx e) rfl rfl rfl (te rfl) rfl rfl rfl rfl) rfl ?_;rintro _ _ ⟨rfl,rfl⟩;dsimp only [List.set])|(refine uE (uM rfl rfl) rfl rfl ?_)|(refine uE (uF rfl rfl (te rfl) rfl (te rfl) (by decide)) rfl rfl ?_)|(refine uE (EvF.indexSlice rfl rfl rfl (te rfl) (te rfl) (by omega) (by omega)) rfl rfl ?_)|(refine uE (uL rfl rfl (uO (te rfl) rfl (qH _) rfl)) rfl rfl ?_)))))|(refine uD rfl ?_;refine hK _ _ ?_;clear hK K) | refine uS rfl ?_ | refine uR rfl (fun K hK=>?_) | refine X.block rfl ?_ | refine X.skip rfl ?_ | (refine X.ite rfl rfl (fun hc=>?_);(first | (with_reducible refine Xb.t hc ?_)|(with_reducible refine Xb.f hc ?_)) <;> clear hc))
   all_goals try (exfalso;contradiction)
   exact ⟨_,[(2,.int .u8 i),(3,.int .u8 j),(4,.pointer (some ⟨b4,0,none⟩)),(12,.int .i64 m),(13,out),(24,.slice (some ⟨bb,off,none⟩) R.boxes.length p.c2),(25,.int .i64 R.boxes.length),(26,.int .i64 (k + 1 : Nat))],G,(by repeat (first | exact uU _ | refine uV rfl ?_)),(by repeat (first | exact qR _ | apply qK | apply qC)),⟨k + 1,out,Z,rfl,by omega,by rw [hsn];exact hTz,hG,rfl⟩,by omega⟩
 ·obtain rfl : k = R.boxes.length:=by omega
  rw [List.take_length, ← hthI] at hTz
  obtain ⟨L,hL⟩ : ∃ L,L = thI R m:=⟨_,rfl⟩
  have hLl : L.length ≤ 4:=by rw [hL,hthI];exact Nat.le_trans (thL_len m R.boxes) hlb
  unfold TwoR
  rw [← hL] at hTz hnd ⊢
  by_cases hn2 : L.length < 2
  ·rcases hTz with ⟨h9,rfl,rfl⟩ | ⟨bo,ko,rfl,rfl⟩
   ·have hn0 : L.length = 0:=by rw [h9];rfl
    repeat' (first | (refine uP rfl ?_;(first | ((first | refine uN rfl ?_);(first | (refine uE (uQ (b:=true) rfl rfl rfl (congrArg some (decide_eq_true (by omega)))) rfl rfl ?_)|(refine uE (uQ (b:=false) rfl rfl rfl (congrArg some (decide_eq_false (by omega)))) rfl rfl ?_)|(refine uE (uM rfl rfl) rfl rfl ?_)|(refine uE (uA rfl rfl) rfl rfl ?_)|(refine uE (EvF.lenSlice rfl rfl (te rfl)) rfl rfl ?_)))))|(refine uD rfl ?_;refine hK _ _ ?_;clear hK K) | refine uS rfl ?_ | refine uR rfl (fun K hK=>?_)|(refine X.brk rfl ?_;repeat (first | refine blockX_hit rfl ?_ | refine blockX_miss (by decide) ?_)) | refine X.ret rfl ?_ | (refine X.ite rfl rfl (fun hc=>?_);(first | (with_reducible refine Xb.t hc ?_)|(with_reducible refine Xb.f hc ?_)) <;> clear hc))
    all_goals try (exfalso;contradiction)
    exact ret_four (by simp) Tryz.results29 rfl rfl rfl rfl (H' := H) (by (repeat (first | exact qR _ | apply qC));done) ⟨rfl,.inl ⟨hn2,rfl⟩⟩
   ·repeat' (first | (refine uP rfl ?_;(first | ((first | refine uN rfl ?_);(first | (refine uE (uQ (b:=true) rfl rfl rfl (congrArg some (decide_eq_true (by omega)))) rfl rfl ?_)|(refine uE (uQ (b:=false) rfl rfl rfl (congrArg some (decide_eq_false (by omega)))) rfl rfl ?_)|(refine uE (uM rfl rfl) rfl rfl ?_)|(refine uE (uA rfl rfl) rfl rfl ?_)|(refine uE (EvF.lenSlice rfl rfl (te rfl)) rfl rfl ?_)))))|(refine uD rfl ?_;refine hK _ _ ?_;clear hK K) | refine uS rfl ?_ | refine uR rfl (fun K hK=>?_)|(refine X.brk rfl ?_;repeat (first | refine blockX_hit rfl ?_ | refine blockX_miss (by decide) ?_)) | refine X.ret rfl ?_ | (refine X.ite rfl rfl (fun hc=>?_);(first | (with_reducible refine Xb.t hc ?_)|(with_reducible refine Xb.f hc ?_)) <;> clear hc))
    all_goals try (exfalso;contradiction)
    exact ret_four (by simp) Tryz.results29 rfl rfl rfl rfl (H' := H) (by (repeat (first | exact qR _ | apply qC));done) ⟨rfl,.inl ⟨hn2,rfl⟩⟩
  ·rcases hTz with ⟨h9,rfl,rfl⟩ | ⟨bo,ko,rfl,rfl⟩
   ·exact absurd (by rw [h9];decide) hn2
   ·obtain ⟨ii,hi1,hi2⟩:=rem_nat h2.1 (n:=L.length) (by omega)
    obtain ⟨jj,hj1,hj2⟩:=rem_nat h3.1 (n:=L.length - 1) (by omega)
    obtain ⟨kk,hk1,hk2,hk3⟩:=rem_split hi1 (j:=jj) (by omega)
    have hj2' : j % ((L.length : Int) - 1)=(jj : Int):=by rw [← hj2];congr 1;omega
    repeat' (first | (refine uP rfl ?_;(first | ((first | refine uN rfl ?_);(first | (refine uE (uQ (b:=false) rfl rfl rfl (congrArg some (decide_eq_false (by omega)))) rfl rfl ?_)|(refine uE (EvF.conv rfl rfl byte_und int_undI (by omega) (by omega)) rfl rfl ?_)|(refine uE (EvF.rem64 (p:=i) rfl rfl rfl (by omega) (by omega)) rfl rfl ?_)|(refine uE (EvF.sub64 (p:=(L.length : Int)) (q:=1) rfl rfl rfl (by omega) (by omega)) rfl rfl ?_)|(refine uE (EvF.rem64 (p:=j) rfl rfl rfl (by omega) (by omega)) rfl rfl ?_)|(refine uE (EvF.add64 (p:=i % (L.length : Int)) (q:=1) rfl rfl rfl (by omega) (by omega)) rfl rfl ?_)|(refine uE (EvF.add64 (p:=i % (L.length : Int) + 1) (q:=j % ((L.length : Int) - 1)) rfl rfl rfl (by omega) (by omega)) rfl rfl ?_)|(refine uE (EvF.rem64 (p:=i % (L.length : Int) + 1 + j % ((L.length : Int) - 1)) rfl rfl rfl (by omega) (by omega)) rfl rfl ?_)|(refine uE (uM rfl rfl) rfl rfl ?_)|(refine uE (uA rfl rfl) rfl rfl ?_)|(refine uE (EvF.lenSlice rfl rfl (te rfl)) rfl rfl ?_)))))|(refine uD rfl ?_;refine hK _ _ ?_;clear hK K) | refine uS rfl ?_ | refine uR rfl (fun K hK=>?_)|(refine X.brk rfl ?_;repeat (first | refine blockX_hit rfl ?_ | refine blockX_miss (by decide) ?_)) | refine X.skip rfl ?_ | (refine X.ite rfl rfl (fun hc=>?_);(first | (with_reducible refine Xb.f hc ?_)) <;> clear hc))
    all_goals try (exfalso;contradiction)
    rw [hi2,hj2',hk3]
    obtain ⟨x,hx⟩ : ∃ x,L[ii]? = some x:=⟨_,List.getElem?_eq_getElem hi1⟩
    obtain ⟨y,hy⟩ : ∃ y,L[kk]? = some y:=⟨_,List.getElem?_eq_getElem hk1⟩
    have hxy : x ≠ y:=fun q=>by
     obtain ⟨g1,g2⟩:=List.getElem?_eq_some_iff.1 hx
     obtain ⟨g3,g4⟩:=List.getElem?_eq_some_iff.1 hy
     have hpw:=List.pairwise_iff_getElem.1 hnd
     rcases Nat.lt_or_gt_of_ne hk2 with h | h
     ·exact hpw kk ii g3 g1 h (by rw [g2,g4,q])
     ·exact hpw ii kk g1 g3 h (by rw [g2,g4,q])
    have hsl : ∀ S : List Row,(∀ r ∈ (⟨bo,0,L.flatMap cI,some 3,ko * 1⟩ : Row)::⟨b4,0,cRm R p,some 32,5⟩::H,r ∈ S) → SlE S (some ⟨bo,0,none⟩) cI 1 L:=fun S hS=>SlE.ofRow (hS _ (qH _)) (fun _ _=>rfl)
    refine X.weak (F' := [(12,.int .i64 m),(13,.slice (some ⟨bo,0,none⟩) L.length ko),(16,.int .i64 (ii : Nat)),(17,.int .i64 (kk : Nat))]) (H' := ⟨bo,0,L.flatMap cI,some 3,ko * 1⟩::⟨b4,0,cRm R p,some 32,5⟩::H) (by repeat (first | exact uU _ | refine uV rfl ?_)) (by repeat (first | exact qR _ | apply qK | apply qC)) ?_
    refine X.regionOb tsKtw [12,13,16,17] [(12,.int .i64 m),(13,.slice (some ⟨bo,0,none⟩) L.length ko),(16,.int .i64 (ii : Nat)),(17,.int .i64 (kk : Nat))] (valKtw bo L.length ko ii kk m x y) (rowsKtw bo L.length ko ii kk m x y) (fun _=>(0,0)) (⟨bo,0,L.flatMap cI,some 3,ko * 1⟩::⟨b4,0,cRm R p,some 32,5⟩::H) rfl mixed (by repeat (first | exact uU _ | refine uV rfl ?_)) rfl (by kernel_rfl) (locKtw bo L.length ko ii kk m x y) (qR _) ?_ ?_
    ·repeat' (first | exact AllF.done rfl | (refine AllF.step rfl ?_ ?_;·(first | fail | ((first | refine Ob.ng rfl ?_);(first | exact ObK.pure (fun env R hR=>by exact ⟨_,uM rfl rfl,rfl⟩) rfl (fun _=>rfl) | exact ObK.pure (fun env R hR=>by exact ⟨_,uA rfl rfl,rfl⟩) rfl (fun _=>rfl)|((refine ObK.pure (fun env S hS=>⟨.pointer (some ⟨bo,0 + ii * 1,none⟩),?_,rfl⟩) rfl (fun _=>rfl);exact EvF.indexSlice (i:=(ii : Int)) (off:=0) (b:=bo) (T:=38) (e:=3) (len:=L.length) (ti:=⟨.int .i64,1,8⟩) rfl rfl rfl (te rfl) (te rfl) (by omega) (by omega)))|((refine ObK.pure (fun env S hS=>⟨.pointer (some ⟨bo,0 + kk * 1,none⟩),?_,rfl⟩) rfl (fun _=>rfl);exact EvF.indexSlice (i:=(kk : Int)) (off:=0) (b:=bo) (T:=38) (e:=3) (len:=L.length) (ti:=⟨.int .i64,1,8⟩) rfl rfl rfl (te rfl) (te rfl) (by omega) (by omega)))|(exact ObK.pure (fun env S hS=>⟨.int .i64 x,uL rfl rfl (LoadV.el1 (n:=ii) (j:=0) (hsl S hS) hx (te rfl) rfl (fun _ h=>h) rfl),rfl⟩) rfl (fun _=>rfl))|(exact ObK.pure (fun env S hS=>⟨.int .i64 y,uL rfl rfl (LoadV.el1 (n:=kk) (j:=0) (hsl S hS) hy (te rfl) rfl (fun _ h=>h) rfl),rfl⟩) rfl (fun _=>rfl)))))))
    ·intro env t ha2 hv;refine ⟨_,(((ha2.cons (hv 9 8 (Nat.le_of_ble_eq_true rfl) rfl)).cons (hv 10 9 (Nat.le_of_ble_eq_true rfl) rfl)).cons (hv 11 10 (Nat.le_of_ble_eq_true rfl) rfl)).cons (hv 12 11 (Nat.le_of_ble_eq_true rfl) rfl),?_⟩;clear hv ha2
     repeat' (first | refine X.ret rfl ?_)
     exact ret_four (by simp) Tryz.results29 rfl rfl rfl rfl (H' := H) (by (repeat (first | exact qR _ | apply qC));done) ⟨rfl,.inr ⟨x,y,List.mem_of_getElem? hx,List.mem_of_getElem? hy,hxy,by omega,rfl⟩⟩
end Go.Proofs.YtmfppdpkalelhaaGreat
end
section
set_option linter.unusedVariables false
set_option linter.unusedSimpArgs false
namespace Go.Proofs.YtmfppdpkalelhaaGreat
open Go Go.Fw
set_option maxRecDepth 10000
theorem bx_one {R : Rm} (hok : roomOk R) {b c : Bx} (hb : b ∈ R.boxes) (hc : c ∈ R.boxes) (h : b.id = c.id) : b = c:=by
 have hpw:=List.pairwise_iff_getElem.1 (okBoxes_pw R.months R.boxes 0 hok.2.2.1)
 obtain ⟨i,hi,rfl⟩:=List.mem_iff_getElem.1 hb
 obtain ⟨j,hj,rfl⟩:=List.mem_iff_getElem.1 hc
 rcases Nat.lt_trichotomy i j with q | q | q
 ·have:=hpw i j hi hj q;omega
 ·subst q;rfl
 ·have:=hpw j i hj hi q;omega
theorem rdy_there {R : Rm} {m a : Int} (hm : 0 ≤ m∧m ≤ R.months - 1) (ha : a ∈ thI R m) : ∃ b,there R b m∧b.id = a:=(mem_thI hm.2).1 ha
theorem rdy_pl {R : Rm} {m a : Int} (hm : 0 ≤ m∧m ≤ R.months - 1) (ha : a ∈ thI R m) : (⟨a,m⟩ : Pk) ∈ plcs R:=by
 obtain ⟨b,hb,rfl⟩:=rdy_there hm ha
 exact plcs_mem hb
theorem rdy_open {R : Rm} (h : Rdy R) {l : List Int} {m : Int} (hm : 0 ≤ m∧m ≤ R.months - 1) (hl : ∀ a ∈ l,a ∈ thI R m) : openE R l [m] = 0:=by
 unfold openE
 have h2 : allThere R l:=fun a ha=>by
  obtain ⟨b,hb,hba⟩:=rdy_there hm (hl a ha)
  exact ⟨b,hb.1,hba⟩
 have h3 : inTime R l [m]:=fun q hq=>by
  rw [List.mem_singleton.1 hq]
  refine ⟨hm,?_⟩
  rintro ⟨b,hb,hb1,hb2⟩
  obtain ⟨c,hc,hcb⟩:=rdy_there hm (hl _ hb2)
  have:=bx_one h.ok hc.1 hb hcb
  subst this
  have:=hc.2.1
  omega
 rw [if_pos h.ok,if_pos h2,if_pos h3,if_pos h.t]
theorem rdy_ex {R : Rm} (h : Rdy R) {m a b : Int} (hm : 0 ≤ m∧m ≤ R.months - 1) (ha : a ∈ thI R m) (hb : b ∈ thI R m) : ExR R R.mats ⟨a,m⟩ ⟨b,m⟩ (rng R R.mats ⟨a,m⟩ ⟨b,m⟩):=ex_mem h.ok.ok h.ok.mats h.t (rdy_pl hm ha) (rdy_pl hm hb)
theorem rdy_exz {R : Rm} (h : Rdy R) {m a : Int} (hm : 0 ≤ m∧m ≤ R.months - 1) (ha : a ∈ thI R m) : ExR R R.mats ⟨a,m⟩ zp (rng R R.mats ⟨a,m⟩ zp):=ex_mem h.ok.ok h.ok.mats h.t (rdy_pl hm ha) (zp_mem R)
theorem rdy_bd {R : Rm} (h : Rdy R) {m a b : Int} (hm : 0 ≤ m∧m ≤ R.months - 1) (ha : a ∈ thI R m) (hb : b ∈ thI R m) : -60 ≤ (rng R R.mats ⟨a,m⟩ ⟨b,m⟩).lo∧(rng R R.mats ⟨a,m⟩ ⟨b,m⟩).lo ≤ (rng R R.mats ⟨a,m⟩ ⟨b,m⟩).hi∧(rng R R.mats ⟨a,m⟩ ⟨b,m⟩).hi ≤ 60:=rng_bd h.ok.ok h.ok.mats h.t (rdy_pl hm ha) (rdy_pl hm hb)
theorem rdy_dif {R : Rm} (h : Rdy R) {m a b : Int} (hm : 0 ≤ m∧m ≤ R.months - 1) (ha : a ∈ thI R m) (hb : b ∈ thI R m) (hn : a ≠ b) : difF R a b m = (rng R R.mats ⟨a,m⟩ ⟨b,m⟩,0):=by
 unfold difF
 rw [if_pos (rdy_open h hm (fun x hx=>by
  rcases List.mem_cons.1 hx with rfl | hx
  ·exact ha
  ·rw [List.mem_singleton.1 hx];exact hb)),if_neg hn]
theorem rdy_yel {R : Rm} (h : Rdy R) {m a : Int} (hm : 0 ≤ m∧m ≤ R.months - 1) (ha : a ∈ thI R m) : yelF R a m = (rng R R.mats ⟨a,m⟩ zp,0):=by
 unfold yelF
 rw [if_pos (rdy_open h hm (fun x hx=>by rw [List.mem_singleton.1 hx];exact ha))]
theorem thI_of {R : Rm} {m : Int} {b : Bx} (hb : b ∈ R.boxes) (hm : b.made ≤ m) : b.id ∈ thI R m:=by
 unfold thI
 exact List.mem_map.2 ⟨b,List.mem_filter.2 ⟨hb,decide_eq_true hm⟩,rfl⟩
theorem mod_bd {R : Rm} (hok : roomOk R) {mo : Int} (h : 0 ≤ mo) : 0 ≤ mo % R.months∧mo % R.months ≤ R.months - 1:=by
 have:=hok.ok.m1
 have h1:=Int.emod_nonneg mo (b:=R.months) (by omega)
 have h2:=Int.emod_lt_of_pos mo (b:=R.months) (by omega)
 omega
end Go.Proofs.YtmfppdpkalelhaaGreat
end
section
set_option linter.unusedVariables false
set_option linter.unusedSimpArgs false
namespace Go.Proofs.YtmfppdpkalelhaaGreat
open Go Go.Fw
set_option maxRecDepth 10000
theorem rdy_open0 {R : Rm} (h : Rdy R) {m : Int} (hm : 0 ≤ m∧m ≤ R.months - 1) : openE R [] [m] = 0:=rdy_open h hm (fun a ha=>absurd ha List.not_mem_nil)
end Go.Proofs.YtmfppdpkalelhaaGreat
end
section
set_option linter.unusedVariables false
set_option linter.unusedSimpArgs false
namespace Go.Proofs.YtmfppdpkalelhaaGreat
open Go Go.Fw
set_option maxRecDepth 10000
def Hold (p : Prop) : Prop:=p
theorem Hold.out {p : Prop} (h : Hold p) : p:=h
theorem dueS_or (L : Nat → List Int) : ∀ (q k : Nat),(dueS L k q = (0,[],6) ∧ ∀ i,k ≤ i → i < k + q → L i = []) ∨ ∃ d : Nat,k ≤ d∧d < k + q∧dueS L k q = ((d : Int),L d,0)∧L d ≠ [] ∧ ∀ i,k ≤ i → i < d → L i = []
 | 0,k => .inl ⟨rfl,fun i h1 h2=>by omega⟩
 | q + 1,k=>by
  have e : dueS L k (q + 1)=if (L k).length = 0 then dueS L (k + 1) q else (k,L k,0):=rfl
  rw [e]
  by_cases h : (L k).length = 0
  ·rw [if_pos h]
   have h0:=List.length_eq_zero_iff.1 h
   rcases dueS_or L q (k + 1) with ⟨h1,h2⟩ | ⟨d,h1,h2,h3,h4,h5⟩
   ·refine .inl ⟨h1,fun i g1 g2=>?_⟩
    by_cases c : i = k
    ·rw [c];exact h0
    ·exact h2 i (by omega) (by omega)
   ·refine .inr ⟨d,by omega,by omega,h3,h4,fun i g1 g2=>?_⟩
    by_cases c : i = k
    ·rw [c];exact h0
    ·exact h5 i (by omega) g2
  ·rw [if_neg h]
   exact .inr ⟨k,Nat.le_refl _,by omega,rfl,fun q=>h (by rw [q];rfl),fun i g1 g2=>by omega⟩
theorem mem_dueL {R : Rm} {n : Int} {k : Nat} {a : Int} (hk : (k : Int)≤R.months - 1) : a ∈ dueL R n k ↔ ∃ b,there R b k∧b.id = a∧n < (rng R R.mats ⟨b.id,k⟩ zp).hi:=by
 unfold dueL
 constructor
 ·intro h
  obtain ⟨b,hb,rfl⟩:=List.mem_map.1 h
  have h1:=List.mem_filter.1 hb
  have h2:=Bool.and_eq_true_iff.1 h1.2
  exact ⟨b,⟨h1.1,of_decide_eq_true h2.1,hk⟩,rfl,of_decide_eq_true h2.2⟩
 ·rintro ⟨b,hb,rfl,h2⟩
  exact List.mem_map.2 ⟨b,List.mem_filter.2 ⟨hb.1,Bool.and_eq_true_iff.2 ⟨decide_eq_true hb.2.1,decide_eq_true h2⟩⟩,rfl⟩
theorem rdy_open00 {R : Rm} (h : Rdy R) : openE R [] [] = 0:=by
 unfold openE
 rw [if_pos h.ok,if_pos (show allThere R [] from fun a ha=>absurd ha List.not_mem_nil),if_pos (show inTime R [] [] from fun a ha=>absurd ha List.not_mem_nil),if_pos h.t]
/-- what is due, of a box that is there -/
def dueB (R : Rm) (n : Int) (m : Int) (a : Int) : Prop:=n < (rng R R.mats ⟨a,m⟩ zp).hi
theorem due_facts {R : Rm} (h : Rdy R) (n : Int) : (dueF R n = (0,[],6) ∧ ∀ b m,there R b m → 0 ≤ m → ¬ dueB R n m b.id) ∨ ∃ d : Nat,(d : Int)<R.months∧dueF R n = ((d : Int),dueL R n d,0)∧dueL R n d ≠ []∧(∀ b m,there R b m → 0 ≤ m → m < d → ¬ dueB R n m b.id)∧(∀ b,there R b d → (b.id ∈ dueL R n d ↔ dueB R n d b.id)):=by
 have hm1:=h.ok.ok.m1
 unfold dueF
 rw [if_pos (rdy_open00 h)]
 have key : ∀ b (m : Int),there R b m → 0 ≤ m → dueL R n m.toNat = [] → ¬ dueB R n m b.id:=fun b m hb h0 he hd=>by
  have : b.id ∈ dueL R n m.toNat:=(mem_dueL (by have:=hb.2.2;omega)).2 ⟨b,⟨hb.1,by have:=hb.2.1;omega,by have:=hb.2.2;omega⟩,rfl,by rw [Int.toNat_of_nonneg h0];exact hd⟩
  rw [he] at this
  exact absurd this List.not_mem_nil
 rcases dueS_or (dueL R n) R.months.toNat 0 with ⟨h1,h2⟩ | ⟨d,h1,h2,h3,h4,h5⟩
 ·exact .inl ⟨h1,fun b m hb h0=>key b m hb h0 (h2 m.toNat (Nat.zero_le _) (by have:=hb.2.2;omega))⟩
 ·refine .inr ⟨d,by omega,h3,h4,fun b m hb h0 hmd=>key b m hb h0 (h5 m.toNat (Nat.zero_le _) (by omega)),fun b hb=>?_⟩
  constructor
  ·intro q
   obtain ⟨c,hc,hcb,hd⟩:=(mem_dueL (by omega)).1 q
   rw [← hcb];exact hd
  ·intro q
   exact (mem_dueL (by omega)).2 ⟨b,hb,rfl,q⟩
theorem rdy_bx {R : Rm} (h : Rdy R) {b : Bx} (hb : b ∈ R.boxes) {m : Int} (h1 : b.made ≤ m) (h2 : m ≤ R.months - 1) : there R b m∧(0 ≤ m∧m ≤ R.months - 1)∧b.id ∈ thI R m:=by
 have:=okBoxes_mem _ _ _ h.ok.2.2.1 b hb
 exact ⟨⟨hb,h1,h2⟩,⟨by omega,h2⟩,thI_of hb h1⟩
theorem fre_eq {R : Rm} (h : Rdy R) {m : Int} (hm : 0 ≤ m∧m ≤ R.months - 1) : freF R m = (freL R m,0):=by
 unfold freF
 rw [if_pos (rdy_open0 h hm)]
theorem mem_fre {R : Rm} {m a : Int} : a ∈ freL R m ↔ a ∈ thI R m ∧ ∀ b ∈ thI R m,(rng R R.mats ⟨a,m⟩ ⟨b,m⟩).lo ≤ 0:=by
 unfold freL stale
 rw [List.mem_filter]
 simp only [Bool.not_eq_true',List.any_eq_false,decide_eq_true_eq]
 exact ⟨fun q=>⟨q.1,fun b hb=>by have:=q.2 b hb;omega⟩,fun q=>⟨q.1,fun b hb=>by have:=q.2 b hb;omega⟩⟩
theorem fre_sub (R : Rm) (m : Int) : (freL R m).Sublist (thI R m):=List.filter_sublist
end Go.Proofs.YtmfppdpkalelhaaGreat
end
section
set_option linter.unusedVariables false
set_option linter.unusedSimpArgs false
namespace Go.Proofs.YtmfppdpkalelhaaGreat
open Go Go.Fw
set_option maxRecDepth 10000
def lexB : List Int → List Int → Bool
 | x::s,y::t=>if x = y then lexB s t else decide (x < y)
 | _,_=>false
theorem okMats_num (R : Rm) : ∀ (l : List Mt) (p : Int),okMats R p l → (∀ x ∈ l,p < x.number)∧(l.map (·.number)).Pairwise (·< ·)
 | [],_,_=>⟨fun x h=>absurd h List.not_mem_nil,List.Pairwise.nil⟩
 | x::l,p,h=>by
  obtain ⟨h1,h2⟩:=okMats_num R l x.number h.2.2.2
  have h0:=h.1
  refine ⟨fun y hy=>?_,?_⟩
  ·rcases List.mem_cons.1 hy with rfl | hy
   ·omega
   ·have:=h1 y hy;omega
  ·rw [List.map_cons]
   exact List.Pairwise.cons (fun b hb=>by obtain ⟨y,hy,rfl⟩:=List.mem_map.1 hb;exact h1 y hy) h2
end Go.Proofs.YtmfppdpkalelhaaGreat
end
section
set_option linter.unusedVariables false
namespace Go.Fw
open Go Go.RowKit
section
variable {P : Program} {H : List Row} {F : FS} {n : Nat} {o : Oper}
end
end Go.Fw
end
section
set_option linter.unusedVariables false
set_option linter.unusedSimpArgs false
namespace Go.Proofs.YtmfppdpkalelhaaGreat
open Go Go.Fw
set_option maxRecDepth 10000
theorem okMats_sub {R R' : Rm} (hm : ∀ x,matchOk R x → matchOk R' x) {l l' : List Mt} (h : l'.Sublist l) : ∀ {p p' : Int},p' ≤ p → okMats R p l → okMats R' p' l' := by
 induction h with
 | slnil=>intro _ _ _ _;trivial
 | @cons r l a h ih =>
  intro p p' hp hk
  exact ih (by have:=hk.1;omega) hk.2.2.2
 | @cons_cons r l a h ih =>
  intro p p' hp hk
  exact ⟨by have:=hk.1;omega,hk.2.1,hm _ hk.2.2.1,ih (Int.le_refl _) hk.2.2.2⟩
end Go.Proofs.YtmfppdpkalelhaaGreat
end
section
set_option linter.unusedVariables false
set_option linter.unusedSimpArgs false
namespace Go.Proofs.YtmfppdpkalelhaaGreat
open Go Go.Fw
set_option maxRecDepth 10000
theorem min_two (a b : Int) : (min a b = a∧a ≤ b)∨(min a b = b∧b ≤ a):=by
 rcases Int.le_total a b with h | h
 ·exact .inl ⟨Int.min_eq_left h,h⟩
 ·exact .inr ⟨Int.min_eq_right h,h⟩
theorem mix_bd {x1 x2 y1 y2 k lo hi : Int} (h1 : lo ≤ x1 - y1∧x1 - y1 ≤ hi) (h2 : lo ≤ x2 - y2∧x2 - y2 ≤ hi) : lo ≤ min x2 (x1 + k) - min y2 (y1 + k)∧min x2 (x1 + k) - min y2 (y1 + k)≤hi:=by
 rcases min_two x2 (x1 + k) with ⟨e,_⟩ | ⟨e,_⟩ <;> rcases min_two y2 (y1 + k) with ⟨f,_⟩ | ⟨f,_⟩ <;> rw [e,f] <;> omega
theorem tru_mix {R : Rm} {M : List Mt} {z1 z2 : Pk → Int} (h1 : Tru R M z1) (h2 : Tru R M z2) (k : Int) : Tru R M (fun p=>min (z2 p) (z1 p + k) - min (z2 zp) (z1 zp + k)):=by
 refine ⟨by omega,fun b m hb=>?_,fun b m hb hb2=>?_,fun x hx=>?_⟩
 ·have a1:=h1.age b m hb
  have a2:=h2.age b m hb
  have e1:=h1.zero
  have e2:=h2.zero
  exact mix_bd (x1:=z1 ⟨b.id,m⟩) (y1:=z1 zp) (x2:=z2 ⟨b.id,m⟩) (y2:=z2 zp) (by omega) (by omega)
 ·have a:=mix_bd (k:=k) (h1.step b m hb hb2) (h2.step b m hb hb2)
  omega
 ·have a:=mix_bd (k:=k) (h1.mat x hx) (h2.mat x hx)
  omega
/-- what changes by at most one at a time takes each value between -/
theorem ivt (g : Nat → Int) (hg : ∀ i,g (i + 1) - g i ≤ 1) : ∀ (N : Nat) (n : Int),g 0 ≤ n → n ≤ g N → ∃ i,g i = n
 | 0,n,h0,h1=>⟨0,by omega⟩
 | N + 1,n,h0,h1=>by
  by_cases h : n ≤ g N
  ·exact ivt g hg N n h0 h
  ·have:=hg N
   exact ⟨N + 1,by omega⟩
theorem tru_mid {R : Rm} {M : List Mt} {a b : Pk} {s : Sp} (h : ExR R M a b s) {n : Int} (h1 : s.lo ≤ n) (h2 : n ≤ s.hi) : ∃ z,Tru R M z∧z a - z b = n:=by
 obtain ⟨z1,q1,e1⟩:=h.lo
 obtain ⟨z2,q2,e2⟩:=h.hi
 obtain ⟨B,hB⟩ : ∃ B : Nat,z2 a - z1 a ≤ B∧z1 a - z2 a ≤ B∧z2 b - z1 b ≤ B∧z1 b - z2 b ≤ B:=by
  refine ⟨(z2 a - z1 a).natAbs + (z2 b - z1 b).natAbs,?_⟩
  omega
 have hv:=ivt (fun i=>min (z2 a) (z1 a + (-(B : Int) + i)) - min (z2 b) (z1 b + (-(B : Int) + i))) (fun i=>by
  rcases min_two (z2 a) (z1 a + (-(B : Int) + ((i + 1 : Nat) : Int))) with ⟨a1,_⟩ | ⟨a1,_⟩ <;> rcases min_two (z2 b) (z1 b + (-(B : Int) + ((i + 1 : Nat) : Int))) with ⟨a2,_⟩ | ⟨a2,_⟩ <;> rcases min_two (z2 a) (z1 a + (-(B : Int) + (i : Int))) with ⟨a3,_⟩ | ⟨a3,_⟩ <;> rcases min_two (z2 b) (z1 b + (-(B : Int) + (i : Int))) with ⟨a4,_⟩ | ⟨a4,_⟩ <;> rw [a1,a2,a3,a4] <;> omega) (2 * B) n (by
  rcases min_two (z2 a) (z1 a + (-(B : Int) + ((0 : Nat) : Int))) with ⟨a1,_⟩ | ⟨a1,_⟩ <;> rcases min_two (z2 b) (z1 b + (-(B : Int) + ((0 : Nat) : Int))) with ⟨a2,_⟩ | ⟨a2,_⟩ <;> rw [a1,a2] <;> omega) (by
  rcases min_two (z2 a) (z1 a + (-(B : Int) + ((2 * B : Nat) : Int))) with ⟨a1,_⟩ | ⟨a1,_⟩ <;> rcases min_two (z2 b) (z1 b + (-(B : Int) + ((2 * B : Nat) : Int))) with ⟨a2,_⟩ | ⟨a2,_⟩ <;> rw [a1,a2] <;> omega)
 obtain ⟨i,hi⟩:=hv
 exact ⟨_,tru_mix q1 q2 (-(B : Int) + i),by omega⟩
end Go.Proofs.YtmfppdpkalelhaaGreat
end
section
set_option linter.unusedVariables false
set_option linter.unusedSimpArgs false
namespace Go.Proofs.YtmfppdpkalelhaaGreat
open Go Go.Fw
set_option maxRecDepth 10000
theorem mem_ins (x : Mt) : ∀ (l : List Mt) (y : Mt),y ∈ insMt x l ↔ y = x∨y ∈ l
 | [],y=>by simp [insMt]
 | m::t,y=>by
  unfold insMt
  by_cases h : m.number < x.number
  ·rw [if_pos h,List.mem_cons,mem_ins x t y,List.mem_cons]
   constructor
   ·rintro (q | q | q)
    ·exact .inr (.inl q)
    ·exact .inl q
    ·exact .inr (.inr q)
   ·rintro (q | q | q)
    ·exact .inr (.inl q)
    ·exact .inl q
    ·exact .inr (.inr q)
  ·rw [if_neg h,List.mem_cons,List.mem_cons]
theorem okMats_ins {R R' : Rm} (hm : ∀ x,matchOk R x → matchOk R' x) {x : Mt} (hx : matchOk R' x) (h9 : x.number ≤ 9999) : ∀ (l : List Mt) (p : Int),okMats R p l → p < x.number → (∀ y ∈ l,y.number ≠ x.number) → okMats R' p (insMt x l)
 | [],p,_,hp,_=>⟨by omega,h9,hx,trivial⟩
 | m::t,p,h,hp,hn=>by
  unfold insMt
  by_cases c : m.number < x.number
  ·rw [if_pos c]
   exact ⟨h.1,h.2.1,hm _ h.2.2.1,okMats_ins hm hx h9 t m.number h.2.2.2 c (fun y hy=>hn y (List.mem_cons_of_mem _ hy))⟩
  ·rw [if_neg c]
   have:=hn m List.mem_cons_self
   exact ⟨by omega,h9,hx,by omega,h.2.1,hm _ h.2.2.1,okMats_sub hm (qR _) (Int.le_refl _) h.2.2.2⟩
theorem tru_put {R : Rm} {x : Mt} {z : Pk → Int} : Tru (putRm R x) (putRm R x).mats z ↔ Tru R R.mats z∧x.lo ≤ z ⟨x.a,x.month⟩ - z ⟨x.b,x.month⟩∧z ⟨x.a,x.month⟩ - z ⟨x.b,x.month⟩ ≤ x.hi:=by
 constructor
 ·intro h
  exact ⟨⟨h.zero,h.age,h.step,fun y hy=>h.mat y ((mem_ins x R.mats y).2 (.inr hy))⟩,h.mat x ((mem_ins x R.mats x).2 (.inl rfl))⟩
 ·rintro ⟨h,hx⟩
  refine ⟨h.zero,h.age,h.step,fun y hy=>?_⟩
  rcases (mem_ins x R.mats y).1 hy with rfl | hy
  ·exact hx
  ·exact h.mat y hy
theorem put_has {R : Rm} {q m a b n : Int} {s : Sp} (h : ExR R R.mats ⟨a,m⟩ ⟨b,m⟩ s) : hasT (putRm R ⟨q,m,a,b,n,n⟩) (putRm R ⟨q,m,a,b,n,n⟩).mats ↔ (s.lo ≤ n∧n ≤ s.hi):=by
 constructor
 ·rintro ⟨z,hz⟩
  obtain ⟨h1,h2⟩:=tru_put.1 hz
  have:=h.all z h1
  dsimp only at h2
  omega
 ·rintro ⟨h1,h2⟩
  obtain ⟨z,hz,e⟩:=tru_mid h h1 h2
  exact ⟨z,tru_put.2 ⟨hz,by dsimp only;omega⟩⟩
theorem mat_ok {R : Rm} (hok : roomOk R) {q m a b lo hi : Int} (hm : 0 ≤ m∧m ≤ R.months - 1) (ha : a ∈ thI R m) (hb : b ∈ thI R m) (hab : a ≠ b) (h1 : -60 ≤ lo) (h2 : lo ≤ hi) (h3 : hi ≤ 60) : matchOk R ⟨q,m,a,b,lo,hi⟩:=by
 obtain ⟨x,hx,rfl⟩:=rdy_there hm ha
 obtain ⟨y,hy,rfl⟩:=rdy_there hm hb
 have ix : 0 ≤ index R.boxes x.id:=(index_ge _ _).2 ⟨x,hx.1,rfl⟩
 have iy : 0 ≤ index R.boxes y.id:=(index_ge _ _).2 ⟨y,hy.1,rfl⟩
 have ex : bxAt R.boxes x.id = x:=bx_one hok (bxAt_mem ix) hx.1 (bxAt_id _ _ ix)
 have ey : bxAt R.boxes y.id = y:=bx_one hok (bxAt_mem iy) hy.1 (bxAt_id _ _ iy)
 refine ⟨ix,iy,fun e=>?_,hm.1,hm.2,?_,?_,h1,h2,h3⟩
 ·have e1:=index_get ix
  have e2:=index_get iy
  dsimp only at e
  rw [e,e2] at e1
  have : bxAt R.boxes y.id = bxAt R.boxes x.id:=Option.some.inj e1
  rw [ex,ey] at this
  exact hab (by rw [this])
 ·show (bxAt R.boxes x.id).made ≤ m;rw [ex];exact hx.2.1
 ·show (bxAt R.boxes y.id).made ≤ m;rw [ey];exact hy.2.1
theorem put_ok {R : Rm} (hok : roomOk R) (hl : R.mats.length < 8) {x : Mt} (hx : matchOk R x) (h1 : 1 ≤ x.number) (h9 : x.number ≤ 9999) (hn : ∀ y ∈ R.mats,y.number ≠ x.number) : roomOk (putRm R x)∧putF R x = (putRm R x,0):=by
 have h : roomOk (putRm R x):=by
  obtain ⟨⟨a1,a2,a3,a4,a5,a6,a7⟩,g2,g3,g4⟩:=hok
  exact ⟨⟨a1,a2,a3,a4,a5,a6,by show (insMt x R.mats).length ≤ 8;rw [insMt_len];omega⟩,g2,g3,okMats_ins (R:=R) (R' := putRm R x) (fun y h=>h) hx h9 R.mats 0 g4 (by omega) hn⟩
 refine ⟨h,?_⟩
 unfold putF
 rw [if_pos hok,if_neg (by omega),if_pos h]
end Go.Proofs.YtmfppdpkalelhaaGreat
end
section
set_option linter.unusedVariables false
set_option linter.unusedSimpArgs false
namespace Go.Proofs.YtmfppdpkalelhaaGreat
open Go Go.Fw
set_option maxRecDepth 10000
def pr2 (p : Nat × Nat) : Nat:=(p.1 + p.2) * (p.1 + p.2) + p.1
theorem sq_lt {s s' a c : Nat} (ha : a ≤ s) (h : s * s + a = s' * s' + c) : ¬ s < s' := fun hs=>by
 have h1:=Nat.mul_le_mul (Nat.succ_le_of_lt hs) (Nat.succ_le_of_lt hs)
 have h2 : (s + 1) * (s + 1)=s * s + s + s + 1:=by rw [Nat.add_mul,Nat.mul_add];omega
 have h3 : s.succ * s.succ = (s + 1) * (s + 1):=rfl
 omega
theorem pr2_inj : ∀ {p q : Nat × Nat},pr2 p = pr2 q → p = q:=by
 rintro ⟨a,b⟩ ⟨c,d⟩ h
 unfold pr2 at h
 dsimp only at h
 have h1:=sq_lt (by omega) h
 have h2:=sq_lt (by omega) h.symm
 have h3 : a + b = c + d:=by omega
 rw [h3] at h
 have h4 : a = c:=by omega
 have h5 : b = d:=by omega
 rw [h4,h5]
open Classical in
noncomputable def un2 (n : Nat) : Nat × Nat:=if h : ∃ p,pr2 p = n then h.choose else (0,0)
theorem un2_pr2 (p : Nat × Nat) : un2 (pr2 p)=p:=by
 have h : ∃ q,pr2 q = pr2 p:=⟨p,rfl⟩
 unfold un2
 rw [dif_pos h]
 exact pr2_inj h.choose_spec
def enc6 (t1 k1 t2 k2 t3 k3 : Nat) : Nat × Nat:=(pr2 (t1,k1),pr2 (pr2 (t2,k2),pr2 (t3,k3)))
noncomputable def plQ (q : Nat × Nat) : Pl:=⟨some ⟨(un2 q.1).1,0,none⟩,(un2 q.1).2,some ⟨(un2 (un2 q.2).1).1,0,none⟩,(un2 (un2 q.2).1).2,some ⟨(un2 (un2 q.2).2).1,0,none⟩,(un2 (un2 q.2).2).2⟩
noncomputable def rowsQ (R : Rm) (q : Nat × Nat) : List Row:=[rAges R (un2 q.1).1 (un2 q.1).2,rBoxes R (un2 (un2 q.2).1).1 (un2 (un2 q.2).1).2,rMats R (un2 (un2 q.2).2).1 (un2 (un2 q.2).2).2]
theorem plQ_enc (t1 k1 t2 k2 t3 k3 : Nat) : plQ (enc6 t1 k1 t2 k2 t3 k3) = ⟨some ⟨t1,0,none⟩,k1,some ⟨t2,0,none⟩,k2,some ⟨t3,0,none⟩,k3⟩:=by
 unfold plQ enc6;simp only [un2_pr2]
theorem rowsQ_enc (R : Rm) (t1 k1 t2 k2 t3 k3 : Nat) : rowsQ R (enc6 t1 k1 t2 k2 t3 k3) = [rAges R t1 k1,rBoxes R t2 k2,rMats R t3 k3]:=by
 unfold rowsQ enc6;simp only [un2_pr2]
theorem rmQ (R : Rm) (q : Nat × Nat) (S : List Row) (hs : ∀ r ∈ rowsQ R q,r ∈ S) (h1 : R.ages.length ≤ 1000000) (h2 : R.boxes.length ≤ 1000000) (h3 : R.mats.length ≤ 1000000) : RmOk S R (plQ q) :=
 ⟨SlE.ofRow (l:=R.ages) (hs _ (qH _)) (fun _ _=>rfl),SlE.ofRow (l:=R.boxes) (hs _ (qT _ (qH _))) (fun _ _=>rfl),SlE.ofRow (l:=R.mats) (hs _ (qT _ (qT _ (qH _)))) (fun _ _=>rfl),Nat.le_trans h1 (by omega),Nat.le_trans h2 (by omega),Nat.le_trans h3 (by omega)⟩
set_option maxHeartbeats 4000000 in
theorem insert_nil (x : Mt) (bl : Nat) (H : List Row) : Fc Tryz.prog 95 [.slice none 0 0,.int .i64 0,.slice (some ⟨bl,0,none⟩) 1 1] (⟨bl,0,cMt x,some 44,1 * 6⟩::H) (fun v H' => ∃ b k,v = .slice (some ⟨b,0,none⟩) 1 k∧H' = ⟨b,0,cMt x,some 44,k * 6⟩::H):=by
 refine Fc.mk (callable Tryz.call95) Tryz.func95 rfl Tryz.ntmps95 rfl ?_;dsimp only [fr]
 repeat' (first | (refine uP rfl ?_;(first | ((first | refine uN rfl ?_);(first | (refine uE (EvF.sliceFrom (lo:=0) rfl rfl (te rfl) (te rfl) rfl (Nat.le_refl _) (Nat.le_refl _)) rfl rfl ?_)|(refine uE (EvF.lenSlice rfl rfl (te rfl)) rfl rfl ?_)|(refine uE (uQ (b:=false) rfl rfl rfl (congrArg some (decide_eq_false (show ¬ ((1 : Nat) : Int)=0 by decide)))) rfl rfl ?_)|(refine uE (uQ (b:=true) rfl rfl rfl (congrArg some (decide_eq_true (Eq.refl (0 : Int))))) rfl rfl ?_)|(refine Xg.st (StF.appendNew rfl el24 rfl rfl (by decide) rfl (Rd.own (qH _)) (by decide)) rfl rfl ?_;rintro _ _ ⟨bn,kn,rfl,rfl⟩)|(refine uE (uM rfl rfl) rfl rfl ?_)|(refine uE (uA rfl rfl) rfl rfl ?_)))))|(refine uD rfl ?_;refine hK _ _ ?_;clear hK K) | refine uS rfl ?_ | refine uR rfl (fun K hK=>?_) | refine X.skip rfl ?_ | refine X.ret rfl ?_ | (refine X.ite rfl rfl (fun hc=>?_);(first | (with_reducible refine Xb.t hc ?_)|(with_reducible refine Xb.f hc ?_)) <;> clear hc))
 all_goals try (exfalso;contradiction)
 exact ret_one (by simp) Tryz.results95 rfl (H' := ⟨bn,0,cMt x,some 44,kn * 6⟩::H) (by repeat (first | exact qR _ | apply qK | apply qC)) ⟨_,_,rfl,rfl⟩
def tsKpn : List TOp:=[⟨some 15,[],[],[]⟩,⟨some 16,[0],[0],[]⟩,⟨some 17,[],[],[]⟩,⟨some 18,[],[],[]⟩,⟨some 19,[3],[3],[]⟩,⟨some 20,[0,1,2,3,4],[1,2,4],[4]⟩,⟨some 6,[0,1,2,3,4,5],[5],[]⟩]
def valKpn (b4 c : Nat) (x : Mt) (k : Nat) (env : Env) : Value :=
 match k with
 | 0 => .slice none 0 c
 | 1 => .slice none 0 0
 | 2 => .int .i64 0
 | 3 => .agg (cMt x).toArray
 | 4 => .slice (some ⟨(env 4).1,0,none⟩) 1 1
 | 5 => .slice (some ⟨(env 5).1,0,none⟩) 1 (env 5).2
 | 6 => .slice (some ⟨(env 5).1,0,none⟩) 1 (env 5).2
 | _=>undef
def rowsKpn (b4 c : Nat) (x : Mt) (k : Nat) (env : Env) : List Row :=
 match k with
 | 4=>[⟨(env 4).1,0,cMt x,some 44,1 * 6⟩]
 | 5=>[⟨(env 5).1,0,cMt x,some 44,(env 5).2 * 6⟩]
 | _=>[]
theorem locKpn (b4 c : Nat) (x : Mt) : ∀ k env i q9,i ≠ k → (tAt tsKpn k).sup.contains i = false → valKpn b4 c x k (upd env i q9)=valKpn b4 c x k env∧rowsKpn b4 c x k (upd env i q9)=rowsKpn b4 c x k env:=by
 intro k env i q hk hs
 have hu : ∀ j,j ≠ i → upd env i q j = env j:=fun j hj=>by unfold upd;rw [if_neg hj]
 match k,hk,hs with
 | 0,_,_=>exact ⟨rfl,rfl⟩
 | 1,_,_=>exact ⟨rfl,rfl⟩
 | 2,_,_=>exact ⟨rfl,rfl⟩
 | 3,_,_=>exact ⟨rfl,rfl⟩
 | 4,hk,hs=>exact ⟨by simp only [valKpn,hu 4 (fun e=>hk e.symm)],by simp only [rowsKpn,hu 4 (fun e=>hk e.symm)]⟩
 | 5,hk,hs=>exact ⟨by simp only [valKpn,hu 5 (fun e=>hk e.symm)],by simp only [rowsKpn,hu 5 (fun e=>hk e.symm)]⟩
 | 6,hk,hs=>exact ⟨by simp only [valKpn,hu 5 (by rintro rfl;cases hs)],by simp only [rowsKpn,hu 5 (by rintro rfl;cases hs)]⟩
 | _ + 7,_,_=>exact ⟨rfl,rfl⟩
set_option maxHeartbeats 4000000 in
theorem put_nil (x : Mt) (c : Nat) (H : List Row) : Fc Tryz.prog 64 [.slice none 0 c,.agg (cMt x).toArray,.func (.func 55) #[] #[]] H (fun v H' => ∃ b k,v = .slice (some ⟨b,0,none⟩) 1 k∧H' = ⟨b,0,cMt x,some 44,k * 6⟩::H):=by
 have hi:=fun (cap : List Value) S=>indexFunc_specMt [] none c 94 (fun _=>false) cap S sleNil (Nat.zero_le _) (fun e he=>absurd he List.not_mem_nil)
 have hi' : ∀ (cap : List Value) S,Fc Tryz.prog 93 [.slice none 0 c,.func (.func 94) #[] cap.toArray] S (fun v H' => v = .int .i64 (-1)∧H' = S):=fun cap S=>(hi cap S).mono fun v H' ⟨⟨z,hv,hz⟩,hH⟩=>⟨by
  rcases hz with ⟨rfl,_⟩ | ⟨k,e,_,he,_⟩
  ·exact hv
  ·simp at he,hH⟩
 refine Fc.mk (callable Tryz.call64) Tryz.func64 rfl Tryz.ntmps64 rfl ?_;dsimp only [fr]
 repeat' (first | (refine uP rfl ?_;(first | ((first | refine uN rfl ?_);(first | (refine uE (EvF.makeFunc (fl:=[]) rfl Args.nil (Args.cons rfl (Args.cons rfl Args.nil))) rfl rfl ?_)|(refine uC (uT rfl (Args.cons rfl (Args.cons rfl Args.nil))) rfl rfl (hi' [_,_] _) ?_;rintro _ _ ⟨rfl,rfl⟩)|(refine uE (uQ (b:=true) rfl rfl rfl (congrArg some (decide_eq_true (show (-1 : Int)<0 by decide)))) rfl rfl ?_)|(refine uE (EvF.lenSlice rfl rfl (te rfl)) rfl rfl ?_)|(refine uE (uM rfl rfl) rfl rfl ?_)|(refine uE (uA rfl rfl) rfl rfl ?_)|(refine Xg.st (StF.boxAgg rfl rfl) rfl rfl ?_;rintro _ _ ⟨bx,rfl,rfl⟩)|(refine Xg.st (StF.boxOne rfl rfl rfl) rfl rfl ?_;rintro _ _ ⟨bx,rfl,rfl⟩)))))|(refine uD rfl ?_;refine hK _ _ ?_;clear hK K) | refine uS rfl ?_ | refine uR rfl (fun K hK=>?_)|(refine X.ite rfl rfl (fun hc=>?_);(first | (with_reducible refine Xb.t hc ?_)) <;> clear hc))
 all_goals try (exfalso;contradiction)
 rename_i b4
 refine X.weak (F' := [(0,.slice none 0 c),(7,.int .i64 0),(4,.pointer (some ⟨b4,0,none⟩))]) (H' := ⟨b4,0,cMt x,some 44,6⟩::H) (by repeat (first | exact uU _ | refine uV rfl ?_)) (by repeat (first | exact qR _ | apply qK | apply qC)) ?_
 refine X.regionOb tsKpn [0,4,7] [(0,.slice none 0 c),(4,.pointer (some ⟨b4,0,none⟩)),(7,.int .i64 0)] (valKpn b4 c x) (rowsKpn b4 c x) (fun _=>(0,0)) (⟨b4,0,cMt x,some 44,6⟩::H) rfl mixed (by repeat (first | exact uU _ | refine uV rfl ?_)) rfl (by kernel_rfl) (locKpn b4 c x) (qR _) ?_ ?_
 ·repeat' (first | exact AllF.done rfl | (refine AllF.step rfl ?_ ?_;·(first | fail | ((first | refine Ob.ng rfl ?_);(first | exact ObK.pure (fun env R hR=>by exact ⟨_,uM rfl rfl,rfl⟩) rfl (fun _=>rfl) | exact ObK.pure (fun env R hR=>by exact ⟨_,uA rfl rfl,rfl⟩) rfl (fun _=>rfl) | exact ObK.pure (fun env R hR=>by exact ⟨_,uL rfl rfl (uW (te rfl) rfl (hR _ (qH _)) rfl),rfl⟩) rfl (fun _=>rfl)|(exact fun env S hS=>(OpF.call (uT rfl (Args.cons rfl Args.nil)) (cloneNilMt c _)).mono (fun v H' ⟨hv,hH⟩=>⟨(0,0),fun _=>hv,by rw [hH];exact List.Perm.refl _⟩))|(exact fun env S hS=>(StF.buildOne (cs:=cMt x) rfl el24 rfl rfl rfl (by decide) (by decide)).op.mono (fun v H' ⟨b,hv,hH⟩=>⟨(b,0),fun _=>hv,by rw [hH];exact List.Perm.refl _⟩))|(exact fun env S hS=>(OpF.call (uT rfl (Args.cons rfl (Args.cons rfl (Args.cons rfl Args.nil)))) (insert_nil x _ _)).mono (fun v H' ⟨b,k,hv,hH⟩=>⟨(b,k),fun _=>hv,by rw [hH];exact List.Perm.refl _⟩)))))))
 ·intro env t ha2 hv;refine ⟨_,ha2.cons (hv 6 6 (Nat.le_of_ble_eq_true rfl) rfl),?_⟩;clear hv ha2
  show X _ _ _ [(6,.slice (some ⟨(env 5).1,0,none⟩) 1 (env 5).2),(0,.slice none 0 c),(4,.pointer (some ⟨b4,0,none⟩)),(7,.int .i64 0)] (⟨(env 5).1,0,cMt x,some 44,(env 5).2 * 6⟩::⟨b4,0,cMt x,some 44,6⟩::H) _
  repeat' (first | refine X.ret rfl ?_)
  exact ret_one (by simp) Tryz.results64 rfl (H' := ⟨(env 5).1,0,cMt x,some 44,(env 5).2 * 6⟩::H) (by repeat (first | exact qR _ | apply qK | apply qC)) ⟨_,_,rfl,rfl⟩
theorem put_nilG (ms : List Mt) (h0 : ms = []) (x : Mt) (c : Nat) (H : List Row) : Fc Tryz.prog 64 [.slice none ms.length c,.agg (cMt x).toArray,.func (.func 55) #[] #[]] H (fun v H' => ∃ b k,v = .slice (some ⟨b,0,none⟩) 1 k∧H' = ⟨b,0,cMt x,some 44,k * 6⟩::H):=by
 subst h0
 exact put_nil x c H
end Go.Proofs.YtmfppdpkalelhaaGreat
end
section
set_option linter.unusedVariables false
set_option linter.unusedSimpArgs false
namespace Go.Proofs.YtmfppdpkalelhaaGreat
open Go Go.Fw
set_option maxRecDepth 10000
set_option maxHeartbeats 4000000 in
theorem putn_spec (R : Rm) (x : Mt) (d1 : Addr) (c1 : Nat) (d2 : Addr) (c2 : Nat) (c3 : Nat) (H : List Row) (hR : RmOk H R ⟨some d1,c1,some d2,c2,none,c3⟩) (hm0 : R.mats = []) (h1 : R.ages.length ≤ 1000000) (h2 : R.boxes.length ≤ 1000000) (h3 : R.mats.length ≤ 1000000) (hr : roomOk R) (hr2 : roomOk (putRm R x)) :
  Fc Tryz.prog 24 [.agg (cRm R ⟨some d1,c1,some d2,c2,none,c3⟩).toArray,.agg (cMt x).toArray] H (fun v H' => ∃ q : Nat × Nat,v = .tuple #[.agg (cRm (putRm R x) (plQ q)).toArray,.int .i64 0]∧H'.Perm (rowsQ (putRm R x) q++H)):=by
 have hm1 : R.mats.length = 0:=by rw [hm0];rfl
 have hml : ¬ ((R.mats.length : Nat) : Int) ≥ 8:=by omega
 have hi : insMt x R.mats = [x]:=by rw [hm0];rfl
 have hpm : (putRm R x).mats = [x]:=hi
 have kck:=fun S hS=>(check_spec R ⟨some d1,c1,some d2,c2,none,c3⟩ S hS).mono (R' := fun v H' => v = .int .i64 0∧H' = S) (fun v H' ⟨h,e⟩=>⟨h.elim (fun q=>q.2) (fun q=>absurd hr q.1),e⟩)
 have kck2:=fun p S hS=>(check_spec (putRm R x) p S hS).mono (R' := fun v H' => v = .int .i64 0∧H' = S) (fun v H' ⟨h,e⟩=>⟨h.elim (fun q=>q.2) (fun q=>absurd hr2 q.1),e⟩)
 have hrow : ∀ (t1 k1 t2 k2 bi ki : Nat) (S : List Row),rAges R t1 k1 ∈ S → rBoxes R t2 k2 ∈ S → ⟨bi,0,cMt x,some 44,ki * 6⟩ ∈ S → RmOk S (putRm R x) ⟨some ⟨t1,0,none⟩,k1,some ⟨t2,0,none⟩,k2,some ⟨bi,0,none⟩,ki⟩:=fun t1 k1 t2 k2 bi ki S a1 a2 a3 =>
  ⟨SlE.ofRow (l:=R.ages) a1 (fun _ _=>rfl),SlE.ofRow (l:=R.boxes) a2 (fun _ _=>rfl),by show SlE S _ cMt 6 (putRm R x).mats;rw [hpm];exact SlE.ofRow (l:=[x]) a3 (fun _ _=>rfl),Nat.le_trans h1 (by omega),Nat.le_trans h2 (by omega),by rw [hpm];exact Nat.le_of_ble_eq_true rfl⟩
 have hcel : ∀ (t1 k1 t2 k2 bi ki : Nat),cRm (putRm R x) ⟨some ⟨t1,0,none⟩,k1,some ⟨t2,0,none⟩,k2,some ⟨bi,0,none⟩,ki⟩ = [.int .i64 R.months,.int .i64 R.step,.slice (some ⟨t1,0,none⟩) R.ages.length k1,.slice (some ⟨t2,0,none⟩) R.boxes.length k2,.slice (some ⟨bi,0,none⟩) 1 ki]:=fun t1 k1 t2 k2 bi ki=>by
  unfold cRm
  rw [hpm]
  rfl
 have kck3:=fun (t1 k1 t2 k2 bi ki : Nat) (S : List Row) (a1 : rAges R t1 k1 ∈ S) (a2 : rBoxes R t2 k2 ∈ S) (a3 : (⟨bi,0,cMt x,some 44,ki * 6⟩ : Row) ∈ S)=>kck2 _ S (hrow t1 k1 t2 k2 bi ki S a1 a2 a3)
 simp only [hcel] at kck3
 refine Fc.mk (callable Tryz.call24) Tryz.func24 rfl Tryz.ntmps24 rfl ?_;dsimp only [fr]
 repeat' (first | (refine uP rfl ?_;(first | ((first | refine uN rfl ?_);(first | (refine uE (uQ (b:=false) rfl rfl rfl (congrArg some (nd_f (Eq.refl (0 : Int))))) rfl rfl ?_)|(refine uE (uQ (b:=false) rfl rfl rfl (congrArg some (decide_eq_false hml))) rfl rfl ?_)|(refine uE (EvF.lenSlice rfl rfl (te rfl)) rfl rfl ?_)|(refine uC (uT rfl (Args.cons rfl Args.nil)) rfl rfl (kck _ (hR.sub (fun _ h=>by repeat (first | exact h | apply qT)))) ?_;rintro _ _ ⟨rfl,rfl⟩)|(refine uC (uT rfl (by (repeat (first | exact Args.nil | refine Args.cons rfl ?_));done)) rfl rfl (copiedsn R d1 c1 d2 c2 c3 _ (hR.sub (fun _ h=>by repeat (first | exact h | apply qT))) hm0 h1 h2 h3) ?_;rintro _ _ ⟨t1,k1,t2,k2,rfl,rfl⟩)|(refine uC (uT rfl (Args.cons rfl (Args.cons rfl (Args.cons rfl Args.nil)))) rfl rfl (put_nilG R.mats hm0 x c3 _) ?_;rintro _ _ ⟨bi,ki,rfl,rfl⟩)|(refine uC (uT rfl (Args.cons rfl Args.nil)) rfl rfl (kck3 t1 k1 t2 k2 bi ki _ (by repeat (first | exact qH _ | apply qT)) (by repeat (first | exact qH _ | apply qT)) (by repeat (first | exact qH _ | apply qT))) ?_;rintro _ _ ⟨rfl,rfl⟩)|(refine uE (uM rfl rfl) rfl rfl ?_)|(refine uE (uA rfl rfl) rfl rfl ?_)|(refine uE (uF rfl rfl (te rfl) rfl (te rfl) (by decide)) rfl rfl ?_)|(refine uE (uL rfl rfl (uO (te rfl) rfl (qT _ (qT _ (qH _))) rfl)) rfl rfl ?_)|(refine uE (uL rfl rfl (uO (te rfl) rfl (qT _ (qT _ (qT _ (qT _ (qT _ (qH _)))))) rfl)) rfl rfl ?_)|(refine uE (uL rfl rfl (uW (te rfl) rfl (qT _ (qH _)) rfl)) rfl rfl ?_)|(refine uE (uL rfl rfl (uW (te rfl) rfl (qT _ (qT _ (qH _))) rfl)) rfl rfl ?_)|(refine uE (uL rfl rfl (uW (te rfl) rfl (qT _ (qT _ (qT _ (qT _ (qH _))))) rfl)) rfl rfl ?_)|(refine Xg.st (StF.boxAgg rfl rfl) rfl rfl ?_;rintro _ _ ⟨bx,rfl,rfl⟩)|(refine Xg.st (StF.alloc rfl Tryz.zeroValue32 rfl) rfl rfl ?_;rintro _ _ ⟨bx,rfl,rfl⟩)|(refine Xg.st0 (StF.storeAll (i:=0) rfl rfl rfl (te rfl) rfl rfl rfl rfl) rfl ?_;rintro _ _ ⟨rfl,rfl⟩;dsimp only [List.set])|(refine Xg.st0 (StF.storeOne (i:=1) rfl rfl rfl rfl (te rfl) rfl rfl (Nat.le_of_ble_eq_true rfl)) rfl ?_;rintro _ _ ⟨rfl,rfl⟩;dsimp only [List.set])|(refine Xg.st0 (StF.storeAll (i:=4) rfl rfl rfl (te rfl) rfl rfl rfl rfl) rfl ?_;rintro _ _ ⟨rfl,rfl⟩;dsimp only [List.set])))))|(refine uD rfl ?_;refine hK _ _ ?_;clear hK K) | refine uS rfl ?_ | refine uR rfl (fun K hK=>?_) | refine X.skip rfl ?_ | refine X.ret rfl ?_ | (refine X.ite rfl rfl (fun hc=>?_);(first | (with_reducible refine Xb.f hc ?_)) <;> clear hc))
 all_goals try (exfalso;contradiction)
 refine ret_two (by simp) Tryz.results24 ⟨_,rfl,uW (te rfl) rfl (qT _ (qT _ (qT _ (qT _ (qH _))))) rfl⟩ rfl (H' := [⟨bi,0,cMt x,some 44,ki * 6⟩,rAges R t1 k1,rBoxes R t2 k2]++H) (by repeat (first | exact qR _ | apply qK | apply qC)) ⟨enc6 t1 k1 t2 k2 bi ki,?_,?_⟩
 ·rw [plQ_enc,hcel];rfl
 ·rw [rowsQ_enc]
  have e : rMats (putRm R x) bi ki = ⟨bi,0,cMt x,some 44,ki * 6⟩:=by unfold rMats;rw [hpm];rfl
  rw [e]
  exact List.Perm.append_right _ (List.perm_append_comm (l₁:=[_]) (l₂:=[_,_]))
theorem putG_spec (R : Rm) (p : Pl) (x : Mt) (H : List Row) (hR : RmOk H R p) (hr : roomOk R) (hb : 0 < R.boxes.length) (hl : R.mats.length < 8) (hp : putF R x = (putRm R x,0)) (hr2 : roomOk (putRm R x)) :
  Fc Tryz.prog 24 [.agg (cRm R p).toArray,.agg (cMt x).toArray] H (fun v H' => ∃ q : Nat × Nat,v = .tuple #[.agg (cRm (putRm R x) (plQ q)).toArray,.int .i64 0]∧H'.Perm (rowsQ (putRm R x) q++H)):=by
 have hb4:=hr.ok.b4
 have ha12 : (R.ages.length : Int)=R.months:=hr.1.2.2.2.2.1
 have hm1:=hr.ok.m1
 have hm12:=hr.ok.m12
 obtain ⟨a1,c1,a2,c2,a3,c3⟩:=p
 obtain ⟨ba,oa,_,rfl,_⟩:=hR.ages.elem (i:=0) (by omega)
 obtain ⟨bb,ob,_,rfl,_⟩:=hR.boxes.elem (i:=0) hb
 cases a3 with
 | none=>exact putn_spec R x _ c1 _ c2 c3 H hR (sleNone hR.mats) (by omega) (by omega) (by omega) hr hr2
 | some d3 =>
  refine (putB_spec R x _ c1 _ c2 d3 c3 H hR (by omega) (by omega) (by omega)).mono (fun v H' h=>?_)
  unfold ProgR at h
  rw [hp] at h
  obtain ⟨p,Z,h1,h2,h3⟩:=h
  rcases h3 with ⟨h3,_,_⟩ | ⟨t1,k1,t2,k2,t3,k3,rfl,hpm⟩
  ·have : R.months = 0:=congrArg Rm.months h3
   omega
  ·exact ⟨enc6 t1 k1 t2 k2 t3 k3,by rw [plQ_enc];exact h1,by rw [rowsQ_enc,h2];exact hpm.append_right _⟩
end Go.Proofs.YtmfppdpkalelhaaGreat
end
section
set_option linter.unusedVariables false
set_option linter.unusedSimpArgs false
namespace Go.Proofs.YtmfppdpkalelhaaGreat
open Go Go.Fw
set_option maxRecDepth 10000
theorem EvF.remQ {P : Program} {H : List Row} {F : FS} {nn : Nat} {o : Oper} {T T' : TypeId} {x y : Operand} {k : IntKind} {p q : Int} (h : o.op = .binOp .rem T x y T') (hx : evF F x = some (.int k p)) (hy : evF F y = some (.int k q)) (h0 : 0 ≤ p) (hq : 0 < q) : EvF P nn H F o (.int k (p % q)):=by
 unfold EvF EvOp
 intro t ha B w0 w hS
 have e : p.tmod q = p % q:=Int.tmod_eq_emod_of_nonneg h0
 have hz : ¬ q = 0:=by omega
 simp [execOp,h,ha.ev hx,ha.ev hy,eqGuard,binOp,Op.intDiv,hz,e]
def numF : List Mt → Int → Int
 | [],q=>q
 | x::t,q=>numF t (if x.number = q then q + 1 else q)
theorem numF_gt : ∀ (l : List Mt) (q : Int),(∀ x ∈ l,q < x.number) → numF l q = q
 | [],_,_=>rfl
 | x::t,q,h=>by
  have h1:=h x List.mem_cons_self
  show numF t (if x.number = q then q + 1 else q)=q
  rw [if_neg (by omega)]
  exact numF_gt t q (fun y hy=>h y (List.mem_cons_of_mem _ hy))
theorem numF_ok : ∀ (l : List Mt) (q : Int),(l.map (·.number)).Pairwise (·< ·) → q ≤ numF l q∧numF l q ≤ q + l.length ∧ ∀ x ∈ l,x.number ≠ numF l q
 | [],q,_=>⟨Int.le_refl _,by show q ≤ q + ((0 : Nat) : Int);omega,fun x h=>absurd h List.not_mem_nil⟩
 | x::t,q,h=>by
  rw [List.map_cons] at h
  have hp:=List.pairwise_cons.1 h
  have e : numF (x::t) q = numF t (if x.number = q then q + 1 else q):=rfl
  rw [e]
  by_cases c : x.number = q
  ·rw [if_pos c]
   have i:=numF_ok t (q + 1) hp.2
   refine ⟨by omega,by rw [List.length_cons];omega,fun y hy=>?_⟩
   rcases List.mem_cons.1 hy with rfl | hy
   ·omega
   ·exact i.2.2 y hy
  ·rw [if_neg c]
   have i:=numF_ok t q hp.2
   refine ⟨i.1,by rw [List.length_cons];omega,fun y hy=>?_⟩
   rcases List.mem_cons.1 hy with rfl | hy
   ·rcases Int.lt_or_le y.number q with d | d
    ·omega
    ·rw [numF_gt t q (fun z hz=>by have:=hp.1 z.number (List.mem_map.2 ⟨z,hz,rfl⟩);omega)]
     exact c
   ·exact i.2.2 y hy
set_option maxHeartbeats 8000000 in
theorem lawNumber (R : Rm) (p : Pl) (H : List Row) (hR : RmOk H R p) (hok : roomOk R) : Fc Tryz.prog 30 [.agg (cRm R p).toArray] H (fun v H' => v = .int .i64 (numF R.mats 1)∧H' = H):=by
 have hlm : R.mats.length ≤ 8:=hok.1.2.2.2.2.2.2
 obtain ⟨w,hw⟩ : ∃ w,w = numF R.mats 1:=⟨_,rfl⟩
 rw [← hw]
 refine Fc.mk (callable Tryz.call30) Tryz.func30 rfl Tryz.ntmps30 rfl ?_;dsimp only [fr]
 repeat' (first | (refine uP rfl ?_;(first | ((first | refine uN rfl ?_);(first | (refine uE (EvF.lenSlice rfl rfl (te rfl)) rfl rfl ?_)|(refine uE (uM rfl rfl) rfl rfl ?_)|(refine uE (uA rfl rfl) rfl rfl ?_)|(refine uE (uF rfl rfl (te rfl) rfl (te rfl) (by decide)) rfl rfl ?_)|(refine uE (uL rfl rfl (uO (te rfl) rfl (qH _) rfl)) rfl rfl ?_)|(refine Xg.st (StF.boxAgg rfl rfl) rfl rfl ?_;rintro _ _ ⟨bx,rfl,rfl⟩)))))|(refine uD rfl ?_;refine hK _ _ ?_;clear hK K) | refine uS rfl ?_ | refine uR rfl (fun K hK=>?_) | refine X.block rfl ?_)
 generalize bx = b1
 refine X.lp rfl (fun u F' H' => ∃ (k : Nat) (q : Int),u = R.mats.length - k∧k ≤ R.mats.length∧1 ≤ q∧q ≤ k + 1∧w = numF (R.mats.drop k) q∧⟨b1,0,cRm R p,some 32,5⟩::H = H'∧F' = [(1,.pointer (some ⟨b1,0,none⟩)),(3,.int .i64 q),(7,.slice p.a3 R.mats.length p.c3),(8,.int .i64 R.mats.length),(9,.int .i64 (k : Nat))])
  R.mats.length [(1,.pointer (some ⟨b1,0,none⟩)),(3,.int .i64 1),(7,.slice p.a3 R.mats.length p.c3),(8,.int .i64 R.mats.length),(9,.int .i64 (0 : Nat))] (⟨b1,0,cRm R p,some 32,5⟩::H) (by repeat (first | exact uU _ | refine uV rfl ?_)) (by repeat (first | exact qR _ | apply qK | apply qC)) ⟨0,1,rfl,by omega,by omega,by omega,hw,rfl,rfl⟩ ?_
 clear hw
 rintro _ _ _ ⟨k,q,rfl,hk,hq1,hq2,hw,rfl,rfl⟩
 by_cases hlt : k < R.mats.length
 ·have hlt' : (k : Int)<(R.mats.length : Int):=by omega
  obtain ⟨bb,off,e,hq3,he⟩:=hR.mats.elem (i:=k) hlt
  have hGb : SlE (⟨b1,0,cRm R p,some 32,5⟩::H) p.a3 cMt 6 R.mats:=hR.mats.sub (fun r h=>qT _ h)
  rw [hq3] at hGb
  rw [hq3]
  rw [drop_cons he] at hw
  have hw2 : w = numF (R.mats.drop (k + 1)) (if e.number = q then q + 1 else q):=hw
  by_cases heq : e.number = q
  ·rw [if_pos heq] at hw2
   repeat' (first | (refine uP rfl ?_;(first | ((first | refine uN rfl ?_);(first | (refine uE (uQ (b:=true) rfl rfl rfl (congrArg some (decide_eq_true hlt'))) rfl rfl ?_)|(refine uE (uL rfl rfl (LoadV.elA0 (hGb) he (te rfl) rfl (fun _ hm=>hm) rfl)) rfl rfl ?_)|(refine Xg.st (StF.alloc rfl Tryz.zeroValue44 rfl) rfl rfl ?_;rintro _ _ ⟨b7,rfl,rfl⟩)|(refine Xg.st0 (StF.storeAll (i:=0) (vs:=cMt e) rfl rfl rfl (te rfl) rfl rfl rfl rfl) rfl ?_;rintro _ _ ⟨rfl,rfl⟩;dsimp only [List.set])|(refine uE (uL rfl rfl (uO (te rfl) rfl (qH _) rfl)) rfl rfl ?_)|(refine uE (uQ (b:=true) rfl rfl rfl (congrArg some (decide_eq_true heq))) rfl rfl ?_)|(refine uE (EvF.add64 (p:=q) (q:=1) rfl rfl rfl (by omega) (by omega)) rfl rfl ?_)|(refine uE (EvF.add64 (p:=(k : Int)) (q:=1) rfl rfl rfl (by omega) (by omega)) rfl rfl ?_)|(refine uE (uM rfl rfl) rfl rfl ?_)|(refine uE (uA rfl rfl) rfl rfl ?_)|(refine uE (uF rfl rfl (te rfl) rfl (te rfl) (by decide)) rfl rfl ?_)|(refine uE (EvF.indexSlice rfl rfl rfl (te rfl) (te rfl) (by omega) (by omega)) rfl rfl ?_)))))|(refine uD rfl ?_;refine hK _ _ ?_;clear hK K) | refine uS rfl ?_ | refine uR rfl (fun K hK=>?_) | refine X.block rfl ?_ | refine X.skip rfl ?_ | (refine X.ite rfl rfl (fun hc=>?_);(first | (with_reducible refine Xb.t hc ?_)) <;> clear hc))
   all_goals try (exfalso;contradiction)
   exact ⟨_,_,⟨b1,0,cRm R p,some 32,5⟩::H,(by repeat (first | exact uU _ | refine uV rfl ?_)),(by repeat (first | exact qR _ | apply qK | apply qC)),⟨k + 1,q + 1,rfl,by omega,by omega,by omega,hw2,rfl,rfl⟩,by omega⟩
  ·rw [if_neg heq] at hw2
   repeat' (first | (refine uP rfl ?_;(first | ((first | refine uN rfl ?_);(first | (refine uE (uQ (b:=true) rfl rfl rfl (congrArg some (decide_eq_true hlt'))) rfl rfl ?_)|(refine uE (uL rfl rfl (LoadV.elA0 (hGb) he (te rfl) rfl (fun _ hm=>hm) rfl)) rfl rfl ?_)|(refine Xg.st (StF.alloc rfl Tryz.zeroValue44 rfl) rfl rfl ?_;rintro _ _ ⟨b7,rfl,rfl⟩)|(refine Xg.st0 (StF.storeAll (i:=0) (vs:=cMt e) rfl rfl rfl (te rfl) rfl rfl rfl rfl) rfl ?_;rintro _ _ ⟨rfl,rfl⟩;dsimp only [List.set])|(refine uE (uL rfl rfl (uO (te rfl) rfl (qH _) rfl)) rfl rfl ?_)|(refine uE (uQ (b:=false) rfl rfl rfl (congrArg some (decide_eq_false heq))) rfl rfl ?_)|(refine uE (EvF.add64 (p:=(k : Int)) (q:=1) rfl rfl rfl (by omega) (by omega)) rfl rfl ?_)|(refine uE (uM rfl rfl) rfl rfl ?_)|(refine uE (uF rfl rfl (te rfl) rfl (te rfl) (by decide)) rfl rfl ?_)|(refine uE (EvF.indexSlice rfl rfl rfl (te rfl) (te rfl) (by omega) (by omega)) rfl rfl ?_)))))|(refine uD rfl ?_;refine hK _ _ ?_;clear hK K) | refine uS rfl ?_ | refine uR rfl (fun K hK=>?_) | refine X.block rfl ?_ | refine X.skip rfl ?_ | (refine X.ite rfl rfl (fun hc=>?_);(first | (with_reducible refine Xb.t hc ?_)|(with_reducible refine Xb.f hc ?_)) <;> clear hc))
   all_goals try (exfalso;contradiction)
   exact ⟨_,_,⟨b1,0,cRm R p,some 32,5⟩::H,(by repeat (first | exact uU _ | refine uV rfl ?_)),(by repeat (first | exact qR _ | apply qK | apply qC)),⟨k + 1,q,rfl,by omega,by omega,by omega,hw2,rfl,rfl⟩,by omega⟩
 ·obtain rfl : k = R.mats.length:=by omega
  have hlt' : ¬ (R.mats.length : Int)<(R.mats.length : Int):=by omega
  rw [List.drop_length] at hw
  repeat' (first | (refine uP rfl ?_;(first | ((first | refine uN rfl ?_);(first | (refine uE (uQ (b:=false) rfl rfl rfl (congrArg some (decide_eq_false hlt'))) rfl rfl ?_)|(refine uE (uM rfl rfl) rfl rfl ?_)|(refine uE (uA rfl rfl) rfl rfl ?_)))))|(refine uD rfl ?_;refine hK _ _ ?_;clear hK K) | refine uS rfl ?_ | refine uR rfl (fun K hK=>?_)|(refine X.brk rfl ?_;repeat (first | refine blockX_hit rfl ?_ | refine blockX_miss (by decide) ?_)) | refine X.ret rfl ?_ | (refine X.ite rfl rfl (fun hc=>?_);(first | (with_reducible refine Xb.f hc ?_)) <;> clear hc))
  all_goals try (exfalso;contradiction)
  exact ret_one (by simp) Tryz.results30 rfl (H' := H) (by repeat (first | exact qR _ | apply qK | apply qC)) ⟨by rw [hw];rfl,rfl⟩
theorem lawIn (n : Int) (s : Sp) (H : List Row) : Fc Tryz.prog 32 [.int .i64 n,.agg (cSp s).toArray] H (fun v H' => v = .bool (decide (s.lo ≤ n∧n ≤ s.hi))∧H' = H):=by
 by_cases h1 : s.lo ≤ n
 ·have h1' : n ≥ s.lo:=h1
  by_cases h2 : n ≤ s.hi
  ·rw [decide_eq_true ⟨h1,h2⟩]
   refine Fc.mk (callable Tryz.call32) Tryz.func32 rfl Tryz.ntmps32 rfl ?_;dsimp only [fr]
   repeat' (first | (refine uP rfl ?_;(first | ((first | refine uN rfl ?_ | (refine Xo.g rfl rfl ?_;with_reducible refine Xw.tt ?_));(first | (refine uE (uQ (b:=true) rfl rfl rfl (congrArg some (decide_eq_true h1'))) rfl rfl ?_)|(refine uE (uQ (b:=true) rfl rfl rfl (congrArg some (decide_eq_true h2))) rfl rfl ?_)|(refine uE (uM rfl rfl) rfl rfl ?_)|(refine uE (uA rfl rfl) rfl rfl ?_)|(refine uE (EvF.pickT rfl rfl rfl) rfl rfl ?_)|(refine uE (uF rfl rfl (te rfl) rfl (te rfl) (by decide)) rfl rfl ?_)|(refine uE (uL rfl rfl (uO (te rfl) rfl (qH _) rfl)) rfl rfl ?_)|(refine Xg.st (StF.boxAgg rfl rfl) rfl rfl ?_;rintro _ _ ⟨bx,rfl,rfl⟩)))))|(refine uD rfl ?_;refine hK _ _ ?_;clear hK K) | refine uS rfl ?_ | refine uR rfl (fun K hK=>?_) | refine X.ret rfl ?_)
   exact ret_one (by simp) Tryz.results32 rfl (H' := H) (by repeat (first | exact qR _ | apply qK | apply qC)) ⟨rfl,rfl⟩
  ·rw [decide_eq_false (fun h=>h2 h.2)]
   refine Fc.mk (callable Tryz.call32) Tryz.func32 rfl Tryz.ntmps32 rfl ?_;dsimp only [fr]
   repeat' (first | (refine uP rfl ?_;(first | ((first | refine uN rfl ?_ | (refine Xo.g rfl rfl ?_;with_reducible refine Xw.tt ?_));(first | (refine uE (uQ (b:=true) rfl rfl rfl (congrArg some (decide_eq_true h1'))) rfl rfl ?_)|(refine uE (uQ (b:=false) rfl rfl rfl (congrArg some (decide_eq_false h2))) rfl rfl ?_)|(refine uE (uM rfl rfl) rfl rfl ?_)|(refine uE (uA rfl rfl) rfl rfl ?_)|(refine uE (EvF.pickT rfl rfl rfl) rfl rfl ?_)|(refine uE (uF rfl rfl (te rfl) rfl (te rfl) (by decide)) rfl rfl ?_)|(refine uE (uL rfl rfl (uO (te rfl) rfl (qH _) rfl)) rfl rfl ?_)|(refine Xg.st (StF.boxAgg rfl rfl) rfl rfl ?_;rintro _ _ ⟨bx,rfl,rfl⟩)))))|(refine uD rfl ?_;refine hK _ _ ?_;clear hK K) | refine uS rfl ?_ | refine uR rfl (fun K hK=>?_) | refine X.ret rfl ?_)
   exact ret_one (by simp) Tryz.results32 rfl (H' := H) (by repeat (first | exact qR _ | apply qK | apply qC)) ⟨rfl,rfl⟩
 ·have h1' : ¬ n ≥ s.lo:=h1
  rw [decide_eq_false (fun h=>h1 h.1)]
  refine Fc.mk (callable Tryz.call32) Tryz.func32 rfl Tryz.ntmps32 rfl ?_;dsimp only [fr]
  repeat' (first | (refine uP rfl ?_;(first | ((first | refine uN rfl ?_);(first | (refine uE (uQ (b:=false) rfl rfl rfl (congrArg some (decide_eq_false h1'))) rfl rfl ?_)|(refine uE (uM rfl rfl) rfl rfl ?_)|(refine uE (uA rfl rfl) rfl rfl ?_)|(refine uE (EvF.pickF rfl rfl rfl) rfl rfl ?_)|(refine uE (uF rfl rfl (te rfl) rfl (te rfl) (by decide)) rfl rfl ?_)|(refine uE (uL rfl rfl (uO (te rfl) rfl (qH _) rfl)) rfl rfl ?_)|(refine Xg.st (StF.boxAgg rfl rfl) rfl rfl ?_;rintro _ _ ⟨bx,rfl,rfl⟩)))|(refine Xo.g rfl rfl ?_;(first | (with_reducible refine Xw.ft rfl rfl ?_)))))|(refine uD rfl ?_;refine hK _ _ ?_;clear hK K) | refine uS rfl ?_ | refine uR rfl (fun K hK=>?_) | refine X.ret rfl ?_)
  exact ret_one (by simp) Tryz.results32 rfl (H' := H) (by repeat (first | exact qR _ | apply qK | apply qC)) ⟨rfl,rfl⟩
def tsKex : List TOp:=[⟨some 104,[],[],[]⟩,⟨some 105,[],[],[]⟩,⟨some 106,[1],[1],[]⟩,⟨some 107,[],[],[]⟩,⟨some 108,[],[],[]⟩,⟨some 109,[],[],[]⟩,⟨some 110,[],[],[]⟩,⟨some 111,[],[],[]⟩,⟨some 112,[1,2,3,4,5,6,7],[2,3,4,5,6,7],[]⟩,⟨some 113,[0,1,2,3,4,5,6,7,8],[0,8],[]⟩,⟨some 103,[0,1,2,3,4,5,6,7,8,9],[9],[]⟩,⟨some 114,[0,1,2,3,4,5,6,7,8,9,10],[10],[]⟩,⟨some 115,[0,1,2,3,4,5,6,7,8,9,10],[10],[]⟩,⟨some 19,[],[],[]⟩,⟨none,[0,1,2,3,4,5,6,7,8,9,10,11,13],[13,11],[13]⟩,⟨some 20,[0,1,2,3,4,5,6,7,8,9,10,11,12,13,14],[12],[]⟩]
noncomputable def valKex (b5 b16 : Nat) (R : Rm) (p : Pl) (a b m n q : Int) (k : Nat) (env : Env) : Value :=
 match k with
 | 0 => .agg (cRm R p).toArray
 | 1 => .agg (cRm R p).toArray
 | 2 => .int .i64 q
 | 3 => .int .i64 m
 | 4 => .int .i64 a
 | 5 => .int .i64 b
 | 6 => .int .i64 n
 | 7 => .int .i64 n
 | 8 => .agg (cMt ⟨q,m,a,b,n,n⟩).toArray
 | 9 => .tuple #[.agg (cRm (putRm R ⟨q,m,a,b,n,n⟩) (plQ (env 9))).toArray,.int .i64 0]
 | 10 => .tuple #[.agg (cRm (putRm R ⟨q,m,a,b,n,n⟩) (plQ (env 9))).toArray,.int .i64 0]
 | 11 => .agg (cRm (putRm R ⟨q,m,a,b,n,n⟩) (plQ (env 9))).toArray
 | 12 => .int .i64 0
 | 13 => .pointer (some ⟨(env 13).1,0,none⟩)
 | 14=>undef
 | 15 => .int .i64 0
 | _=>undef
noncomputable def rowsKex (b5 b16 : Nat) (R : Rm) (p : Pl) (a b m n q : Int) (k : Nat) (env : Env) : List Row :=
 match k with
 | 9=>rowsQ (putRm R ⟨q,m,a,b,n,n⟩) (env 9)
 | 13=>[⟨(env 13).1,0,cRm Rz pz,some 32,5⟩]
 | 14=>[⟨(env 13).1,0,cRm (putRm R ⟨q,m,a,b,n,n⟩) (plQ (env 9)),some 32,5⟩]
 | _=>[]
theorem locKex (b5 b16 : Nat) (R : Rm) (p : Pl) (a b m n q : Int) : ∀ k env i q9,i ≠ k → (tAt tsKex k).sup.contains i = false → valKex b5 b16 R p a b m n q k (upd env i q9)=valKex b5 b16 R p a b m n q k env∧rowsKex b5 b16 R p a b m n q k (upd env i q9)=rowsKex b5 b16 R p a b m n q k env:=by
 intro k env i q hk hs
 have hu : ∀ j,j ≠ i → upd env i q j = env j:=fun j hj=>by unfold upd;rw [if_neg hj]
 match k,hk,hs with
 | 0,_,_=>exact ⟨rfl,rfl⟩
 | 1,_,_=>exact ⟨rfl,rfl⟩
 | 2,_,_=>exact ⟨rfl,rfl⟩
 | 3,_,_=>exact ⟨rfl,rfl⟩
 | 4,_,_=>exact ⟨rfl,rfl⟩
 | 5,_,_=>exact ⟨rfl,rfl⟩
 | 6,_,_=>exact ⟨rfl,rfl⟩
 | 7,_,_=>exact ⟨rfl,rfl⟩
 | 8,_,_=>exact ⟨rfl,rfl⟩
 | 9,hk,hs=>exact ⟨by simp only [valKex,hu 9 (fun e=>hk e.symm)],by simp only [rowsKex,hu 9 (fun e=>hk e.symm)]⟩
 | 10,hk,hs=>exact ⟨by simp only [valKex,hu 9 (by rintro rfl;cases hs)],by simp only [rowsKex,hu 9 (by rintro rfl;cases hs)]⟩
 | 11,hk,hs=>exact ⟨by simp only [valKex,hu 9 (by rintro rfl;cases hs)],by simp only [rowsKex,hu 9 (by rintro rfl;cases hs)]⟩
 | 12,_,_=>exact ⟨rfl,rfl⟩
 | 13,hk,hs=>exact ⟨by simp only [valKex,hu 13 (fun e=>hk e.symm)],by simp only [rowsKex,hu 13 (fun e=>hk e.symm)]⟩
 | 14,hk,hs=>exact ⟨by simp only [valKex,hu 9 (by rintro rfl;cases hs),hu 13 (by rintro rfl;cases hs)],by simp only [rowsKex,hu 9 (by rintro rfl;cases hs),hu 13 (by rintro rfl;cases hs)]⟩
 | 15,_,_=>exact ⟨rfl,rfl⟩
 | _ + 16,_,_=>exact ⟨rfl,rfl⟩
open Classical in
theorem canF_put {R : Rm} {x : Mt} (hok : roomOk (putRm R x)) {w : Bool} (hw : w = true ↔ hasT (putRm R x) (putRm R x).mats) : canF (putRm R x) = .tuple #[.bool w,.int .i64 0]:=by
 unfold canF
 rw [if_pos hok]
 have e : decide (hasT (putRm R x) (putRm R x).mats)=w:=by
  cases w with
  | true=>exact decide_eq_true (hw.1 rfl)
  | false=>exact decide_eq_false (fun h=>by have:=hw.2 h;cases this)
 exact congrArg (fun q=>Value.tuple #[.bool q,.int .i64 0]) e
set_option maxHeartbeats 8000000 in
theorem exact_rest (R : Rm) (p : Pl) (a b m n : Int) (s : Sp) (b5 b16 : Nat) (H : List Row) (hR : RmOk H R p) (hrd : Rdy R) (hl8 : R.mats.length < 8) (hm : 0 ≤ m∧m ≤ R.months - 1) (ha : a ∈ thI R m) (hb : b ∈ thI R m) (hab : a ≠ b) (hs : ExR R R.mats ⟨a,m⟩ ⟨b,m⟩ s) (h1 : -60 ≤ n) (h2 : n ≤ 60) (F : FS) (G : List Row)
  (hF : Sub [(5,.pointer (some ⟨b5,0,none⟩)),(11,.bool true),(12,.int .i64 a),(13,.int .i64 b),(14,.int .i64 m),(16,.pointer (some ⟨b16,0,none⟩)),(17,.int .i64 0),(18,.int .i64 n)] F) (hG : (⟨b16,0,cSp s,some 24,2⟩::⟨b5,0,cRm R p,some 32,5⟩::H).Sublist G) :
  X Tryz.prog 141 (csnd (csnd (csnd (csnd (csnd (csnd (csnd (csnd (cof Tryz.f4))))))))) F G (retX Tryz.prog Tryz.f4 (fun v _=>v = .bool true)):=by
 have hn1 : ¬ n < -60:=by omega
 have hn2 : ¬ n > 60:=by omega
 have hlb4:=hrd.ok.ok.b4
 have hnum:=numF_ok R.mats 1 (okMats_num R R.mats 0 hrd.ok.2.2.2).2
 obtain ⟨q,hq⟩ : ∃ q,q = numF R.mats 1:=⟨_,rfl⟩
 rw [← hq] at hnum
 have hx:=mat_ok hrd.ok (q:=q) hm ha hb hab h1 (Int.le_refl n) h2
 obtain ⟨hp1,hp2⟩:=put_ok hrd.ok hl8 hx hnum.1 (by show q ≤ 9999;omega) hnum.2.2
 have kn:=fun S hS=>lawNumber R p S hS hrd.ok
 rw [← hq] at kn
 clear hq
 have hbx : 0 < R.boxes.length:=by
  obtain ⟨c,hc,_⟩:=rdy_there hm ha
  exact List.length_pos_of_mem hc.1
 have kp:=fun S hS=>putG_spec R p ⟨q,m,a,b,n,n⟩ S hS hrd.ok hbx hl8 hp2 hp1
 obtain ⟨w,hw⟩ : ∃ w : Bool,w = decide (s.lo ≤ n∧n ≤ s.hi):=⟨_,rfl⟩
 have hw2 : w = true ↔ hasT (putRm R ⟨q,m,a,b,n,n⟩) (putRm R ⟨q,m,a,b,n,n⟩).mats:=by
  rw [put_has hs,hw,decide_eq_true_eq]
 have kin:=fun S=>lawIn n s S
 rw [← hw] at kin
 have kcan:=fun qq S hS=>kCan_spec (putRm R ⟨q,m,a,b,n,n⟩) (plQ qq) S hS
 rw [canF_put hp1 hw2] at kcan
 have hmr : ∀ (qq : Nat × Nat) S,(∀ r ∈ rowsQ (putRm R ⟨q,m,a,b,n,n⟩) qq,r ∈ S) → RmOk S (putRm R ⟨q,m,a,b,n,n⟩) (plQ qq):=fun qq S hS=>rmQ _ qq S hS (by have:=hrd.ok.1.2.2.2.2.1;have:=hrd.ok.ok.m12;show R.ages.length ≤ _;omega) (by show R.boxes.length ≤ _;omega) (by show (insMt ⟨q,m,a,b,n,n⟩ R.mats).length ≤ _;rw [insMt_len];omega)
 clear hw hw2
 refine X.weak hF hG ?_
 repeat' (first | (refine uP rfl ?_;(first | ((first | refine uN rfl ?_ | (refine Xo.g rfl rfl ?_;with_reducible refine Xw.ff ?_));(first | (refine uE (uQ (b:=false) rfl rfl rfl (congrArg some (decide_eq_false hn1))) rfl rfl ?_)|(refine uE (uQ (b:=false) rfl rfl rfl (congrArg some (decide_eq_false hn2))) rfl rfl ?_)|(refine uE (uM rfl rfl) rfl rfl ?_)|(refine uE (EvF.pickF rfl rfl rfl) rfl rfl ?_)))))|(refine uD rfl ?_;refine hK _ _ ?_;clear hK K) | refine uS rfl ?_ | refine uR rfl (fun K hK=>?_) | refine X.skip rfl ?_ | (refine X.ite rfl rfl (fun hc=>?_);(first | (with_reducible refine Xb.f hc ?_)) <;> clear hc))
 all_goals try (exfalso;contradiction)
 refine X.weak (F' := [(5,.pointer (some ⟨b5,0,none⟩)),(11,.bool true),(12,.int .i64 a),(13,.int .i64 b),(14,.int .i64 m),(16,.pointer (some ⟨b16,0,none⟩)),(17,.int .i64 0),(18,.int .i64 n)]) (H' := ⟨b16,0,cSp s,some 24,2⟩::⟨b5,0,cRm R p,some 32,5⟩::H) (by repeat (first | exact uU _ | refine uV rfl ?_)) (qR _) ?_
 refine X.regionOb tsKex [5,11,12,13,14,16,17,18] [(5,.pointer (some ⟨b5,0,none⟩)),(11,.bool true),(12,.int .i64 a),(13,.int .i64 b),(14,.int .i64 m),(16,.pointer (some ⟨b16,0,none⟩)),(17,.int .i64 0),(18,.int .i64 n)] (valKex b5 b16 R p a b m n q) (rowsKex b5 b16 R p a b m n q) (fun _=>(0,0)) (⟨b16,0,cSp s,some 24,2⟩::⟨b5,0,cRm R p,some 32,5⟩::H) rfl mixed (by repeat (first | exact uU _ | refine uV rfl ?_)) rfl (by kernel_rfl) (locKex b5 b16 R p a b m n q) (qR _) ?_ ?_
 ·repeat' (first | exact AllF.done rfl | (refine AllF.step rfl ?_ ?_;·(first | fail | ((first | refine Ob.ng rfl ?_);(first | exact ObK.pure (fun env R hR=>by exact ⟨_,uM rfl rfl,rfl⟩) rfl (fun _=>rfl) | exact ObK.pure (fun env R hR=>by exact ⟨_,uA rfl rfl,rfl⟩) rfl (fun _=>rfl) | exact ObK.pure (fun env R hR=>by exact ⟨_,uL rfl rfl (uW (te rfl) rfl (hR _ (qT _ (qH _))) rfl),rfl⟩) rfl (fun _=>rfl)|(exact fun env S hS=>(OpF.call (uT rfl (Args.cons rfl Args.nil)) (kn _ (hR.sub (fun r h=>hS r (qT _ (qT _ h)))))).mono (fun v H' ⟨hv,hH⟩=>⟨(0,0),fun _=>hv,by rw [hH];exact List.Perm.refl _⟩))|(exact fun env S hS=>(OpF.call (uT rfl (Args.cons rfl (Args.cons rfl (Args.cons rfl (Args.cons rfl (Args.cons rfl (Args.cons rfl Args.nil))))))) (lawMatch q m a b n n _)).mono (fun v H' ⟨hv,hH⟩=>⟨(0,0),fun _=>hv,by rw [hH];exact List.Perm.refl _⟩))|(exact fun env S hS=>(OpF.call (uT rfl (Args.cons rfl (Args.cons rfl Args.nil))) (kp _ (hR.sub (fun r h=>hS r (qT _ (qT _ h)))))).mono (fun v H' ⟨qq,hv,hH⟩=>⟨qq,fun _=>hv,hH⟩))|(exact fun env S hS=>(StF.alloc rfl Tryz.zeroValue32 rfl).op.mono (fun v H' ⟨b,hv,hH⟩=>⟨(b,0),fun _=>hv,by rw [hH];exact List.Perm.refl _⟩))|(exact fun env S hS=>(StF.storeAll (i:=0) (vs:=cRm (putRm R ⟨q,m,a,b,n,n⟩) (plQ (env 9))) (cs:=cRm Rz pz) rfl rfl rfl (te rfl) rfl rfl rfl rfl).op.mono (fun v H' ⟨hv,hH⟩=>⟨(0,0),fun h=>absurd rfl h,by rw [hH];exact List.Perm.refl _⟩))|(exact ObK.pure (fun env S hS=>⟨_,uX rfl rfl rfl,rfl⟩) rfl (fun _=>rfl)))))))
 ·intro env t ha2 hv;refine ⟨_,(ha2.cons (hv 13 19 (Nat.le_of_ble_eq_true rfl) rfl)).cons (hv 15 20 (Nat.le_of_ble_eq_true rfl) rfl),?_⟩;clear hv ha2
  show X _ _ _ [(20,.int .i64 0),(19,.pointer (some ⟨(env 13).1,0,none⟩)),(5,.pointer (some ⟨b5,0,none⟩)),(11,.bool true),(12,.int .i64 a),(13,.int .i64 b),(14,.int .i64 m),(16,.pointer (some ⟨b16,0,none⟩)),(17,.int .i64 0),(18,.int .i64 n)] (rowsQ (putRm R ⟨q,m,a,b,n,n⟩) (env 9)++⟨(env 13).1,0,cRm (putRm R ⟨q,m,a,b,n,n⟩) (plQ (env 9)),some 32,5⟩::⟨b16,0,cSp s,some 24,2⟩::⟨b5,0,cRm R p,some 32,5⟩::H) _
  generalize env 9 = qq
  generalize (env 13).1 = b19
  clear env
  cases w with
  | true =>
   repeat' (first | (refine uP rfl ?_;(first | ((first | refine uN rfl ?_ | (refine Xo.g rfl rfl ?_;with_reducible refine Xw.tt ?_));(first | (refine uE (uX rfl rfl rfl) rfl rfl ?_)|(refine uE (uL rfl rfl (uW (te rfl) rfl (List.mem_append_right _ (qH _)) rfl)) rfl rfl ?_)|(refine uE (uL rfl rfl (uW (te rfl) rfl (List.mem_append_right _ (qT _ (qH _))) rfl)) rfl rfl ?_)|(refine uC (uT rfl (Args.cons rfl Args.nil)) rfl rfl (kcan qq _ (hmr qq _ (fun r h=>List.mem_append_left _ h))) ?_;rintro _ _ ⟨rfl,rfl⟩)|(refine uC (uT rfl (Args.cons rfl (Args.cons rfl Args.nil))) rfl rfl (kin _) ?_;rintro _ _ ⟨rfl,rfl⟩)|(refine uE (uQ (b:=true) rfl rfl rfl (congrArg some (decide_eq_true (Eq.refl (0 : Int))))) rfl rfl ?_)|(refine uE (EvF.cmpB (b:=true) rfl rfl rfl Tryz.underlying4 rfl) rfl rfl ?_)|(refine uE (uM rfl rfl) rfl rfl ?_)|(refine uE (uA rfl rfl) rfl rfl ?_)|(refine uE (EvF.pickT rfl rfl rfl) rfl rfl ?_)))))|(refine uD rfl ?_;refine hK _ _ ?_;clear hK K) | refine uS rfl ?_ | refine uR rfl (fun K hK=>?_) | refine X.ret rfl ?_)
   all_goals try (exfalso;contradiction)
   exact ret_one (by simp) Tryz.results4 rfl (H' := _) (qR _) rfl
  | false =>
   repeat' (first | (refine uP rfl ?_;(first | ((first | refine uN rfl ?_ | (refine Xo.g rfl rfl ?_;with_reducible refine Xw.tt ?_));(first | (refine uE (uX rfl rfl rfl) rfl rfl ?_)|(refine uE (uL rfl rfl (uW (te rfl) rfl (List.mem_append_right _ (qH _)) rfl)) rfl rfl ?_)|(refine uE (uL rfl rfl (uW (te rfl) rfl (List.mem_append_right _ (qT _ (qH _))) rfl)) rfl rfl ?_)|(refine uC (uT rfl (Args.cons rfl Args.nil)) rfl rfl (kcan qq _ (hmr qq _ (fun r h=>List.mem_append_left _ h))) ?_;rintro _ _ ⟨rfl,rfl⟩)|(refine uC (uT rfl (Args.cons rfl (Args.cons rfl Args.nil))) rfl rfl (kin _) ?_;rintro _ _ ⟨rfl,rfl⟩)|(refine uE (uQ (b:=true) rfl rfl rfl (congrArg some (decide_eq_true (Eq.refl (0 : Int))))) rfl rfl ?_)|(refine uE (EvF.cmpB (b:=true) rfl rfl rfl Tryz.underlying4 rfl) rfl rfl ?_)|(refine uE (uM rfl rfl) rfl rfl ?_)|(refine uE (uA rfl rfl) rfl rfl ?_)|(refine uE (EvF.pickT rfl rfl rfl) rfl rfl ?_)))))|(refine uD rfl ?_;refine hK _ _ ?_;clear hK K) | refine uS rfl ?_ | refine uR rfl (fun K hK=>?_) | refine X.ret rfl ?_)
   all_goals try (exfalso;contradiction)
   exact ret_one (by simp) Tryz.results4 rfl (H' := _) (qR _) rfl
end Go.Proofs.YtmfppdpkalelhaaGreat
end
section
set_option linter.unusedVariables false
namespace Go.Proofs.YtmfppdpkalelhaaGreat
open Go Go.Fw Go.ChangeShapes Go.WideShapes
set_option maxRecDepth 10000
instance : Inhabited Sp:=⟨⟨0,0⟩⟩
instance : Inhabited Bx:=⟨⟨0,0⟩⟩
instance : Inhabited Mt:=⟨⟨0,0,0,0,0,0⟩⟩
def w64 (n : Int) : Prop:=(Lit.int .i64 n).wf = true
section
variable {H : Type} {enc : TypeId × Value → H} {w : World} {base : Nat} {spare : Nat → Bool} {held : Bool} {fuel : Nat} {cs : List Value} {x : DataW H × List MemPlace}
theorem open_i (h : DataW.trod enc Tryz.prog w base spare held fuel 3 cs = some x) : ∃ q : Int,cs = cI q∧w64 q:=trod_i (te rfl) h
theorem open_sp (h : DataW.trod enc Tryz.prog w base spare held fuel 24 cs = some x) : ∃ q : Sp,cs = cSp q∧(w64 q.lo∧w64 q.hi):=by
 obtain ⟨hl,hf⟩:=trod_st (te rfl) h
 obtain ⟨n0,y0,h0⟩:=hf 0 0 3 _ rfl (te rfl)
 obtain ⟨n1,y1,h1⟩:=hf 1 1 3 _ rfl (te rfl)
 match cs,hl with
 | [a,b],_ =>
  obtain ⟨lo,e0,w0⟩:=open_i h0
  obtain ⟨hi,e1,w1⟩:=open_i h1
  simp [cI] at e0 e1
  subst e0 e1
  exact ⟨⟨lo,hi⟩,rfl,w0,w1⟩
theorem open_bx (h : DataW.trod enc Tryz.prog w base spare held fuel 47 cs = some x) : ∃ q : Bx,cs = cBx q∧(w64 q.id∧w64 q.made):=by
 obtain ⟨hl,hf⟩:=trod_st (te rfl) h
 obtain ⟨n0,y0,h0⟩:=hf 0 0 3 _ rfl (te rfl)
 obtain ⟨n1,y1,h1⟩:=hf 1 1 3 _ rfl (te rfl)
 match cs,hl with
 | [a,b],_ =>
  obtain ⟨lo,e0,w0⟩:=open_i h0
  obtain ⟨hi,e1,w1⟩:=open_i h1
  simp [cI] at e0 e1
  subst e0 e1
  exact ⟨⟨lo,hi⟩,rfl,w0,w1⟩
theorem open_mt (h : DataW.trod enc Tryz.prog w base spare held fuel 44 cs = some x) : ∃ q : Mt,cs = cMt q∧(w64 q.number∧w64 q.month∧w64 q.a∧w64 q.b∧w64 q.lo∧w64 q.hi):=by
 obtain ⟨hl,hf⟩:=trod_st (te rfl) h
 obtain ⟨n0,y0,h0⟩:=hf 0 0 3 _ rfl (te rfl)
 obtain ⟨n1,y1,h1⟩:=hf 1 1 3 _ rfl (te rfl)
 obtain ⟨n2,y2,h2⟩:=hf 2 2 3 _ rfl (te rfl)
 obtain ⟨n3,y3,h3⟩:=hf 3 3 3 _ rfl (te rfl)
 obtain ⟨n4,y4,h4⟩:=hf 4 4 24 _ rfl (te rfl)
 match cs,hl with
 | [a,b,c,d,e,f],_ =>
  obtain ⟨q0,e0,w0⟩:=open_i h0
  obtain ⟨q1,e1,w1⟩:=open_i h1
  obtain ⟨q2,e2,w2⟩:=open_i h2
  obtain ⟨q3,e3,w3⟩:=open_i h3
  obtain ⟨q4,e4,w4⟩:=open_sp h4
  simp [cI,cSp] at e0 e1 e2 e3 e4
  obtain ⟨e4,e5⟩:=e4
  subst e0 e1 e2 e3 e4 e5
  exact ⟨⟨q0,q1,q2,q3,q4.lo,q4.hi⟩,rfl,w0,w1,w2,w3,w4.1,w4.2⟩
end
structure InRm (w : World) (R : Rm) (p : Pl) : Prop where
 ages : InSl w p.a1 cSp 2 R.ages
 boxes : InSl w p.a2 cBx 2 R.boxes
 mats : InSl w p.a3 cMt 6 R.mats
 mo : w64 R.months
 st : w64 R.step
 k1 : R.ages.length ≤ p.c1
 k2 : R.boxes.length ≤ p.c2
 k3 : R.mats.length ≤ p.c3
def rowsRm (R : Rm) (p : Pl) : List Row:=rowsOf p.a1 cSp R.ages++(rowsOf p.a2 cBx R.boxes++rowsOf p.a3 cMt R.mats)
theorem InRm.rm {w : World} {R : Rm} {p : Pl} {H : List Row} (h : InRm w R p) (hs : ∀ r ∈ rowsRm R p,r ∈ H) : RmOk H R p where
 ages:=h.ages.sl fun r hr=>hs r (List.mem_append_left _ hr)
 boxes:=h.boxes.sl fun r hr=>hs r (List.mem_append_right _ (List.mem_append_left _ hr))
 mats:=h.mats.sl fun r hr=>hs r (List.mem_append_right _ (List.mem_append_right _ hr))
 l1:=by have:=h.ages.2.1;unfold maxLen at this;omega
 l2:=by have:=h.boxes.2.1;unfold maxLen at this;omega
 l3:=by have:=h.mats.2.1;unfold maxLen at this;omega
theorem InRm.ok {w : World} {R : Rm} {p : Pl} {B : Nat} (h : InRm w R p) : ∀ r ∈ rowsRm R p,r.own = none∧r.ok B w:=by
 intro r hr
 rcases List.mem_append.1 hr with hr | hr
 ·exact h.ages.ok r hr
 ·rcases List.mem_append.1 hr with hr | hr
  ·exact h.boxes.ok r hr
  ·exact h.mats.ok r hr
section
variable {H : Type} {enc : TypeId × Value → H} {w : World} {base : Nat} {spare : Nat → Bool} {held : Bool} {v : Value} {d : DataW H} {p : List MemPlace} {r : Reach} {b0 : Nat}
theorem open_room (hv : Value.okWide Tryz.prog w r b0 32 v) (h : DataW.Trod enc Tryz.prog w base spare held 32 v d p) : ∃ R pl,v = .agg (cRm R pl).toArray∧InRm w R pl:=by
 obtain ⟨fa,hu,_⟩:=ti_struct (te (T:=32) rfl)
 obtain ⟨⟨cs⟩,rfl,_⟩:=okWide_struct hu hv
 obtain ⟨fuel,hf⟩:=h
 obtain ⟨hl,hf⟩:=trod_st (te rfl) hf
 obtain ⟨n0,y0,h0⟩:=hf 0 0 3 _ rfl (te rfl)
 obtain ⟨n1,y1,h1⟩:=hf 1 1 3 _ rfl (te rfl)
 obtain ⟨n2,y2,h2⟩:=hf 2 2 28 _ rfl (te rfl)
 obtain ⟨n3,y3,h3⟩:=hf 3 3 29 _ rfl (te rfl)
 obtain ⟨n4,y4,h4⟩:=hf 4 4 30 _ rfl (te rfl)
 match cs,hl with
 | [a,b,c,d,e],_ =>
  obtain ⟨q0,e0,w0⟩:=open_i h0
  obtain ⟨q1,e1,w1⟩:=open_i h1
  simp [cI,Value.cells] at e0 e1
  obtain ⟨l2,a2,c2,e2,i2,_,k2⟩:=open_sl (te rfl) (te rfl) rfl (by decide) (fun _ _ _=>open_sp) (fun _=>rfl) h2
  obtain ⟨l3,a3,c3,e3,i3,_,k3⟩:=open_sl (te rfl) (te rfl) rfl (by decide) (fun _ _ _=>open_bx) (fun _=>rfl) h3
  obtain ⟨l4,a4,c4,e4,i4,_,k4⟩:=open_sl (te rfl) (te rfl) rfl (by decide) (fun _ _ _=>open_mt) (fun _=>rfl) h4
  subst e0 e1 e2 e3 e4
  exact ⟨⟨q0,q1,l2,l3,l4⟩,⟨a2,c2,a3,c3,a4,c4⟩,rfl,i2,i3,i4,w0,w1,k2,k3,k4⟩
end
end Go.Proofs.YtmfppdpkalelhaaGreat
end
section
set_option linter.unusedVariables false
namespace Go.Proofs.YtmfppdpkalelhaaGreat
open Go Go.Fw Go.ChangeShapes Go.WideShapes Go.ChangeAt Go.RowKit
set_option linter.unusedVariables false
set_option maxRecDepth 100000
theorem ownK : ownKnob Tryz.prog.godebug = none:=by kernel_rfl
theorem laidO : laidOutB Tryz.prog = true:=by kernel_rfl
def u8 (n : Int) : Prop:=0 ≤ n∧n ≤ 255
section
variable {H : Type} {enc : TypeId × Value → H} {w : World} {base : Nat} {spare : Nat → Bool} {held : Bool} {v : Value} {d : DataW H} {p : List MemPlace} {r : Reach} {b0 : Nat}
theorem u8_wf {n : Int} (h : (Lit.int .u8 n).wf = true) : u8 n:=by
 simp [Lit.wf,IntKind.min,IntKind.max,IntKind.signed,IntKind.bits] at h
 exact ⟨by omega,by omega⟩
theorem open_u8 (hv : Value.okWide Tryz.prog w r b0 5 v) (h : DataW.Trod enc Tryz.prog w base spare held 5 v d p) : ∃ n,v = .int .u8 n∧u8 n:=by
 obtain ⟨n,h1,_,_,h2⟩:=Go.ChangeShapes.open_int Tryz.underlying5 hv h
 exact ⟨n,h1,u8_wf h2⟩
end
end Go.Proofs.YtmfppdpkalelhaaGreat
end
