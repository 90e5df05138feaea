/- Own work: contracts of functions, from rows of what is known of the memory; contracts of functions, from rows of what is known of the memory; contracts of functions, from rows of what is known of the memory; contracts of functions, from rows of what is known of the memory; contracts of functions, from rows of what is known of the memory; contracts of functions, from rows of what is known of the memory; contracts of functions, from rows of what is known of the memory; contracts of functions, from rows of what is known of the memory; contracts of functions, from rows of what is known of the memory; contracts of functions, from rows of what is known of the memory; contracts of functions, from rows of what is known of the memory; contracts of functions, from rows of what is known of the memory -/
import Derived.Test.YtmfppdpkalelhaaW07
set_option linter.unusedVariables false
set_option linter.unusedSimpArgs false
namespace Go.Proofs.Ytmfppdpkalelhaa
open Go Go.Fw
set_option maxRecDepth 10000
/-- onto a part of a row of one's own, where there is room: what stood behind is written over -/
theorem appendRoom {P : Program} {n : Nat} {H : List Row} {F : FS} {o : Oper} {α : Type} {enc : α → List Value} {l : List α} {a : Option Addr} {T e : TypeId} {x y : Operand} {sz by' q b k cap c : Nat} {xs old : List Value} (h : isAppend o x y T) (hT : ElT P T e sz by') (hx : evF F x = some (.slice (some ⟨b,0,none⟩) k cap)) (hy : evF F y = some (.slice a l.length c))
  (hi : H[q]? = some ⟨b,0,xs++old,some e,cap * sz⟩) (hs : SlE H a enc sz l) (h1 : ∀ e ∈ l,(enc e).all (·.oneCell') = true) (hxs : xs.length = k * sz) (hz : 0 < sz) (ho : l.length * sz ≤ old.length) :
  StF P n H F o (fun v H' => v = .slice (some ⟨b,0,none⟩) (k + l.length) cap∧H' = ⟨b,0,xs++l.flatMap enc++old.drop (l.length * sz),some e,cap * sz⟩::H.eraseIdx q):=by
 unfold StF StepOp
 intro t ha B w0 w hS
 have hr:=hS.ok _ (List.mem_of_getElem? hi)
 obtain ⟨hB,_,rest,hg,hlen⟩:=hr
 dsimp only at hg hlen hB
 have hroom : k + l.length ≤ cap:=by
  simp only [List.length_append,hxs] at hlen
  refine Nat.le_of_mul_le_mul_right (?_ : (k + l.length) * sz ≤ cap * sz) hz
  rw [Nat.add_mul];omega
 cases hl0 : l with
 | nil =>
  subst hl0
  refine ⟨.slice (some ⟨b,0,none⟩) k cap,w,_,.inl ?_,hS.turn (cs' := xs++old) (rest:=rest) hi ⟨rfl,rfl,rfl,Nat.le_refl _,fun _ _=>rfl⟩ (Nat.le_refl _) (fun _ _ _=>rfl) hg hlen,rfl,?_⟩
  ·exact run_append_op h (by rw [ha.ev hx,ha.ev hy];exact Fw.appendNone hT (by omega))
  ·simp
 | cons q0 l0 =>
  rw [← hl0]
  obtain ⟨b1,o1,rfl,_⟩:=hs.2 (by rw [hl0];simp)
  obtain ⟨ht,inf,z,hinf,hz',rfl,rfl,hzs⟩:=hT
  have hl : (l.flatMap enc).length = l.length * inf.size:=flat_len hs.1
  have hnews:=hs.rd.cell hS
  have h1' : ∀ u ∈ l.flatMap enc,u.oneCell' = true:=fun u hu=>by
   obtain ⟨e',he,hv⟩:=List.mem_flatMap.1 hu
   exact List.all_eq_true.1 (h1 e' he) u hv
  have hfit : k * inf.size + (l.flatMap enc).length ≤ (xs++old++rest).toArray.size:=by
   rw [List.size_toArray,hlen,hl, ← Nat.add_mul];exact Nat.mul_le_mul_right _ hroom
  have hrun:=run_append_room (P:=P) w T o.type e inf ht hinf b k cap _ hg ⟨b1,o1,none⟩ l.length c (l.flatMap enc) hl hnews h1' hroom hfit
  refine ⟨.slice (some ⟨b,0,none⟩) (k + l.length) cap,_,_,.inl (run_append_op h (by rw [ha.ev hx,ha.ev hy];exact hrun)),?_,rfl,rfl⟩
  refine hS.turn (rest:=rest) hi ⟨rfl,rfl,rfl,by simp,fun q hq=>setRow_other w b q _ (by omega)⟩ (by simp) (fun q _ hq=>setRow_other w b q _ hq) ?_ ?_
  ·rw [setRow_heap w b _ _ e _ hg]
   congr 3
   have e1 : (xs++old++rest).take (k * inf.size)=xs:=by rw [← hxs,List.append_assoc];exact List.take_left
   have e2 : (xs++old++rest).drop (k * inf.size + (l.flatMap enc).length)=old.drop (l.length * inf.size)++rest:=by
    rw [← hxs, ← List.drop_drop,List.append_assoc,List.drop_left,hl,List.drop_append_of_le_length ho]
   simp only [e1,e2]
   simp
  ·simp only [List.length_append,List.length_drop] at hlen ⊢
   rw [hl]
   omega
theorem sliceLoHi {P : Program} {n : Nat} {H : List Row} {F : FS} {o : Oper} {T e : TypeId} {x q r : Operand} {b off len cap lo hh s y : Nat} {kk kk' : IntKind} {ti : TI} (h : o.op = .slice T x (some q) (some r) none) (hx : evF F x = some (.slice (some ⟨b,off,none⟩) len cap)) (hT : tiOf P T = some ⟨.sl e,s,y⟩) (he : tiOf P e = some ti) (hq : evF F q = some (.int kk (lo : Int))) (hr : evF F r = some (.int kk' (hh : Int))) (h1 : lo ≤ hh) (h2 : hh ≤ cap) (h3 : lo < cap) :
  EvF P n H F o (.slice (some ⟨b,off + lo * ti.size,none⟩) (hh - lo) (cap - lo)):=by
 have:=EvF.slice (P:=P) (n:=n) (H:=H) h hx hT he (m:=cap) rfl (hh:=hh) ⟨kk',hr⟩ (l:=lo) ⟨kk,hq⟩ h1 h2 (Nat.le_refl _)
 rwa [if_neg (by omega)] at this
def tsKdl : List TOp:=[⟨some 20,[],[],[]⟩,⟨some 21,[],[],[]⟩,⟨some 22,[0,1],[0,1],[]⟩,⟨some 23,[],[],[]⟩,⟨some 24,[],[],[]⟩,⟨some 25,[3,4],[3,4],[]⟩,⟨some 26,[0,1,2,3,4,5],[2,5],[8]⟩,⟨some 0,[0,1,2,3,4,5,6],[6],[]⟩,⟨none,[],[],[]⟩]
def valKdl (b ii nn cc : Nat) (P0 P1 : List Value) (k : Nat) (env : Env) : Value :=
 match k with
 | 0 => .slice (some ⟨b,0,none⟩) nn cc
 | 1 => .int .i64 (ii : Nat)
 | 2 => .slice (some ⟨b,0,none⟩) ii cc
 | 3 => .slice (some ⟨b,0,none⟩) nn cc
 | 4 => .int .i64 (ii + 1 : Nat)
 | 5 => .slice (sfrom (some ⟨b,0,none⟩) cc (ii + 1) 1) (nn - (ii + 1)) (cc - (ii + 1))
 | 6 => .slice (some ⟨b,0,none⟩) (ii + (nn - (ii + 1))) cc
 | 7 => .slice (some ⟨b,0,none⟩) (ii + (nn - (ii + 1))) cc
 | _=>undef
def rowsKdl (b ii nn cc : Nat) (P0 P1 : List Value) (k : Nat) (env : Env) : List Row :=
 match k with
 | 6=>[⟨b,0,P1,some 3,cc * 1⟩]
 | 8=>[⟨b,0,P0,some 3,cc * 1⟩]
 | _=>[]
theorem locKdl (b ii nn cc : Nat) (P0 P1 : List Value) : ∀ k env i q9,i ≠ k → (tAt tsKdl k).sup.contains i = false → valKdl b ii nn cc P0 P1 k (upd env i q9)=valKdl b ii nn cc P0 P1 k env∧rowsKdl b ii nn cc P0 P1 k (upd env i q9)=rowsKdl b ii nn cc P0 P1 k env:=by
 intro k env i q hk hs
 have hu : ∀ j,j ≠ i → upd env i q j = env j:=fun j hj=>by unfold upd;rw [if_neg hj]
 match k,hk,hs with
 | 0,_,_=>exact ⟨rfl,rfl⟩
 | 1,_,_=>exact ⟨rfl,rfl⟩
 | 2,_,_=>exact ⟨rfl,rfl⟩
 | 3,_,_=>exact ⟨rfl,rfl⟩
 | 4,_,_=>exact ⟨rfl,rfl⟩
 | 5,_,_=>exact ⟨rfl,rfl⟩
 | 6,_,_=>exact ⟨rfl,rfl⟩
 | 7,_,_=>exact ⟨rfl,rfl⟩
 | 8,_,_=>exact ⟨rfl,rfl⟩
 | _ + 9,_,_=>exact ⟨rfl,rfl⟩
def rdKdl (_ : Nat) : List Nat:=[]
set_option maxHeartbeats 4000000 in
theorem delete_spec (L : List Int) (b c i : Nat) (H : List Row) (hi : i < L.length) (hb : L.length ≤ 1000000) :
  Fc Try.prog 88 [.slice (some ⟨b,0,none⟩) L.length c,.int .i64 (i : Nat),.int .i64 (i + 1 : Nat)] (⟨b,0,L.flatMap cI,some 3,c * 1⟩::H)
   (fun v H' => v = .slice (some ⟨b,0,none⟩) (L.take i++L.drop (i + 1)).length c∧H' = ⟨b,0,(L.take i++L.drop (i + 1)).flatMap cI,some 3,c * 1⟩::H):=by
 have hlA : (L.take i).length = i:=by rw [List.length_take];omega
 have hlB : (L.drop (i + 1)).length = L.length - (i + 1):=List.length_drop
 have hfA : ((L.take i).flatMap cI).length = i * 1:=by rw [lenI,hlA]
 have hfB : ((L.drop (i + 1)).flatMap cI).length = (L.length - (i + 1)) * 1:=by rw [lenI,hlB]
 have hfD : ((L.drop i).flatMap cI).length = (L.length - i) * 1:=by rw [lenI,List.length_drop]
 have hsp : L.flatMap cI = (L.take i).flatMap cI++(L.drop i).flatMap cI:=by rw [← List.flatMap_append,List.take_append_drop]
 obtain ⟨E,hE⟩ : ∃ E,E = ((L.drop i).flatMap cI).drop ((L.drop (i + 1)).length * 1):=⟨_,rfl⟩
 have hEl : E.length = 1:=by rw [hE,List.length_drop,hfD,hlB];omega
 refine Fc.mk (callable Try.call88) Try.func88 rfl Try.ntmps88 rfl ?_;dsimp only [fr]
 refine X.reveal (q:=0) rfl (fun rest hrest=>?_)
 refine X.forget (q:=0) (cs:=L.flatMap cI) (cs' := rest) rfl ?_
 have hc : L.length ≤ c:=by rw [List.length_append,lenI] at hrest;omega
 clear hrest
 dsimp only [List.set]
 repeat' (first | (refine uP rfl ?_;(first | ((first | refine uN rfl ?_);(first | (refine uE (uQ (b:=false) rfl rfl rfl (congrArg some (decide_eq_false (by omega)))) rfl rfl ?_)|(refine uE (EvF.slice (l:=i) (hh:=i + 1) (m:=L.length) rfl rfl (te rfl) (te rfl) ⟨_,rfl⟩ ⟨_,rfl⟩ ⟨_,rfl⟩ (by omega) (by omega) (by omega)) rfl rfl ?_)|(refine uE (uM rfl rfl) rfl rfl ?_)|(refine uE (uA rfl rfl) rfl rfl ?_)|(refine uE (uY rfl rfl (te rfl)) rfl rfl ?_)))))|(refine uD rfl ?_;refine hK _ _ ?_;clear hK K) | refine uS rfl ?_ | refine uR rfl (fun K hK=>?_) | refine X.skip rfl ?_ | (refine X.ite rfl rfl (fun hc=>?_);(first | (with_reducible refine Xb.f hc ?_)) <;> clear hc))
 all_goals try (exfalso;contradiction)
 all_goals try (exfalso;omega)
 have hsl : ∀ S,SlE (⟨b,0,L.flatMap cI,some 3,c * 1⟩::S) (sfrom (some ⟨b,0,none⟩) c (i + 1) 1) cI 1 (L.drop (i + 1)):=fun S=>by
  have h0 : SlE (⟨b,0,L.flatMap cI,some 3,c * 1⟩::S) (some ⟨b,0,none⟩) cI 1 L:=SlE.ofRow (qH _) (fun _ _=>rfl)
  exact sleFrom h0 hc (i + 1)
 refine X.regionRs [] tsKdl rdKdl [1,2,7] [(1,.int .i64 (i : Nat)),(2,.int .i64 (i + 1 : Nat)),(7,.int .i64 (L.length : Nat))] (valKdl b i L.length c (L.flatMap cI) ((L.take i).flatMap cI++(L.drop (i + 1)).flatMap cI++E)) (rowsKdl b i L.length c (L.flatMap cI) ((L.take i).flatMap cI++(L.drop (i + 1)).flatMap cI++E)) (fun _=>(0,0)) (H) rfl mixed (by repeat (first | exact uU _ | refine uV rfl ?_)) rfl (by kernel_rfl) (by kernel_rfl) (locKdl b i L.length c (L.flatMap cI) ((L.take i).flatMap cI++(L.drop (i + 1)).flatMap cI++E)) (fun i d hi=>by cases hi) (qR _) [(7,0,.slice (some ⟨b,0,none⟩) L.length c)] (by intro e he;simp only [List.mem_cons,List.not_mem_nil,or_false] at he;rcases he with rfl <;> exact ⟨rfl,Nat.le_of_ble_eq_true rfl⟩) (by intro e he;simp only [List.mem_cons,List.not_mem_nil,or_false] at he;rcases he with rfl <;> exact rfl) ?_ ?_
 ·repeat' (first | exact AllF.done rfl | (refine AllF.step rfl ?_ ?_;·(first | fail | (refine Ob.toR ?_;((first | refine Ob.ng rfl ?_);(first | exact uK (fun env R hR=>by exact ⟨_,uM rfl rfl,rfl⟩) rfl (fun _=>rfl) | exact uK (fun env R hR=>by exact ⟨_,uA rfl rfl,rfl⟩) rfl (fun _=>rfl)|(exact uK (fun env S hS=>⟨_,EvF.sliceTo (hh:=i) rfl rfl (te rfl) (te rfl) rfl (by omega),rfl⟩) rfl (fun _=>rfl))|(exact uK (fun env S hS=>⟨_,EvF.sliceFrom (lo:=i + 1) rfl rfl (te rfl) (te rfl) rfl (by omega) (by omega),rfl⟩) rfl (fun _=>rfl))|(exact fun env S hS=>(appendRoom (enc:=cI) (q:=0) (l:=L.drop (i + 1)) (xs:=(L.take i).flatMap cI) (old:=(L.drop i).flatMap cI) rfl el55 rfl (by rw [hlB];rfl) (by rw [← hsp];rfl) (hsl S) (fun _ _=>rfl) hfA (by decide) (by rw [hlB,hfD];omega)).op.mono (fun v H' ⟨hv,hH⟩=>⟨(0,0),fun _=>by rw [hv,hlB];rfl,by rw [hH, ← hE];exact List.Perm.refl _⟩))))))))
 ·intro env t ha2 hv;refine ⟨_,ha2.cons (hv 7 0 (Nat.le_of_ble_eq_true rfl) rfl),?_⟩;clear hv ha2
  show X _ _ _ [(0,.slice (some ⟨b,0,none⟩) (i + (L.length - (i + 1))) c),(1,.int .i64 (i : Nat)),(2,.int .i64 (i + 1 : Nat)),(7,.int .i64 L.length)] (⟨b,0,(L.take i).flatMap cI++(L.drop (i + 1)).flatMap cI++E,some 3,c * 1⟩::H) _
  clear env
  rw [← List.flatMap_append,show i + (L.length - (i + 1)) = L.length - 1 by omega]
  have hPl : ((L.take i++L.drop (i + 1)).flatMap cI).length = (L.length - 1) * 1:=by rw [lenI,List.length_append,hlA,hlB];omega
  have hPn : (L.take i++L.drop (i + 1)).length = L.length - 1:=by rw [List.length_append,hlA,hlB];omega
  rw [hPn]
  have e2 : ∀ zs : List Value,zs.length = (L.length - (L.length - 1)) * 1 → splice ((L.take i++L.drop (i + 1)).flatMap cI++E) (0 + (L.length - 1) * 1) zs = (L.take i++L.drop (i + 1)).flatMap cI++zs:=fun zs hzs=>by
   have:=splice_at (xs:=(L.take i++L.drop (i + 1)).flatMap cI) (ys:=E) (zs:=[]) (vs:=zs) (j:=0 + (L.length - 1) * 1) (by rw [hPl];omega) (by rw [hzs,hEl];omega)
   rwa [List.append_nil,List.append_nil] at this
  repeat' (first | (refine uP rfl ?_;(first | ((first | refine uN rfl ?_);(first | (refine uE (sliceLoHi (lo:=L.length - 1) (hh:=L.length) rfl rfl (te rfl) (te rfl) rfl rfl (by omega) (by omega) (by omega)) rfl rfl ?_)|(refine Xg.st0 (StF.clear (q:=0) rfl el55 rfl rfl (by rw [List.length_append,hPl,hEl];show 0 + (L.length - 1) * 1 + (L.length - (L.length - 1)) * 1 ≤ _;omega) honeInt) rfl ?_;rintro _ _ ⟨zs,hzs,rfl⟩;dsimp only [List.set];rw [e2 zs hzs];refine XO.forget (q:=0) rfl ?_;dsimp only [List.set])|(refine uE (uM rfl rfl) rfl rfl ?_)|(refine uE (uA rfl rfl) rfl rfl ?_)|(refine uE (uY rfl rfl (te rfl)) rfl rfl ?_)))))|(refine uD rfl ?_;refine hK _ _ ?_;clear hK K) | refine uS rfl ?_ | refine uR rfl (fun K hK=>?_) | refine X.ret rfl ?_)
  exact ret_one (by simp) Try.results88 rfl (H' := ⟨b,0,(L.take i++L.drop (i + 1)).flatMap cI,some 3,c * 1⟩::H) (qR _) ⟨rfl,rfl⟩
theorem numsSl (R : Rm) (p : Pl) (H : List Row) (hM : SlE H p.a3 cMt 6 R.mats) (hl : R.mats.length ≤ 1000000) : Fc Try.prog 83 [.slice p.a3 R.mats.length p.c3,.func (.func 84) #[] #[]] H (fun v H' => ∃ a c Z,v = .slice a (R.mats.map (·.number)).length c∧(∀ S,SlE (Z++S) a cI 1 (R.mats.map (·.number)))∧H' = Z++H) :=
 (numsMt R p H hM hl).mono fun v H' h=>by
  rcases h with ⟨h0,hv,hH⟩ | ⟨b,q,_,hv,hH⟩
  ·exact ⟨none,0,[],by rw [hv,h0];rfl,fun _=>by rw [h0];exact sleNil,hH⟩
  ·exact ⟨some ⟨b,0,none⟩,q,[_],hv,fun _=>SlE.ofRow (qH _) (fun _ _=>rfl),hH⟩
theorem numsRow (R : Rm) (p : Pl) (H : List Row) (hM : SlE H p.a3 cMt 6 R.mats) (hl : R.mats.length ≤ 1000000) (h0 : R.mats ≠ []) : Fc Try.prog 83 [.slice p.a3 R.mats.length p.c3,.func (.func 84) #[] #[]] H (fun v H' => ∃ b q,v = .slice (some ⟨b,0,none⟩) (R.mats.map (·.number)).length q∧H' = ⟨b,0,(R.mats.map (·.number)).flatMap cI,some 3,q * 1⟩::H) :=
 (numsMt R p H hM hl).mono fun v H' h=>by
  rcases h with ⟨h1,_,_⟩ | ⟨b,q,_,hv,hH⟩
  ·exact absurd h1 h0
  ·exact ⟨b,q,hv,hH⟩
theorem in_out {R : Rm} (hn : (R.mats.map (·.number)).Nodup) {k : Nat} {x : Mt} (hx : R.mats[k]? = some x) : inM R.mats ((R.mats.map (·.number)).take k++(R.mats.map (·.number)).drop (k + 1)) = outM R.mats [x.number]:=by
 obtain ⟨L,hL⟩ : ∃ L,L = R.mats.map (·.number):=⟨_,rfl⟩
 have hxL : L[k]? = some x.number:=by rw [hL,List.getElem?_map,hx];rfl
 have hmem : ∀ y ∈ R.mats,y.number ∈ L:=fun y hy=>by rw [hL];exact List.mem_map.2 ⟨y,hy,rfl⟩
 rw [← hL] at hn ⊢
 have hsp : L.take k++x.number::L.drop (k + 1)=L:=by rw [← drop_cons hxL];exact List.take_append_drop _ _
 obtain ⟨A,hA⟩ : ∃ A,A = L.take k:=⟨_,rfl⟩
 obtain ⟨B,hB⟩ : ∃ B,B = L.drop (k + 1):=⟨_,rfl⟩
 rw [← hA, ← hB] at hsp ⊢
 rw [← hsp] at hn hmem
 have hne : x.number ∉ A++B:=((List.perm_middle.nodup_iff).1 hn |> List.nodup_cons.1).1
 unfold inM outM
 refine List.filter_congr fun y hy=>?_
 have hy' := hmem y hy
 by_cases h : y.number = x.number
 ·rw [h,decide_eq_false hne]
  simp
 ·rw [decide_eq_true (p:=y.number ∈ A++B) ?_]
  ·simp [h]
  ·rcases List.mem_append.1 hy' with q | q
   ·exact List.mem_append_left _ q
   ·rcases List.mem_cons.1 q with q | q
    ·exact absurd q h
    ·exact List.mem_append_right _ q
set_option maxHeartbeats 8000000 in
theorem kRests_spec (R : Rm) (p : Pl) (x m : Int) (H : List Row) (hR : RmOk H R p) (h2 : R.boxes.length ≤ 1000000) : Fc Try.prog 41 [.agg (cRm R p).toArray,.int .i64 x,.int .i64 m] H (LstR (rstF R x m).1 (rstF R x m).2 H):=by
 obtain ⟨e,he⟩ : ∃ e,openE R [x] [m] = e:=⟨_,rfl⟩
 by_cases h0 : e = 0
 ·subst h0
  obtain ⟨hok,_,_,hT⟩:=openE_ok he
  have hml : R.mats.length ≤ 8:=hok.1.2.2.2.2.2.2
  have hnd:=hok.nums
  have hpq:=plcs_of he (List.mem_singleton.2 rfl) (List.mem_singleton.2 rfl)
  have hcm:=fun S hS=>claimedY R p x m S hS h2 he
  have hy : rstF R x m = (rsG (prvM R ⟨x,m⟩ (rng R R.mats ⟨x,m⟩ zp)) R R.mats,0):=by
   unfold rstF
   rw [if_pos he]
   rfl
  rw [hy]
  clear hy
  obtain ⟨s,hs⟩ : ∃ s,s = rng R R.mats ⟨x,m⟩ zp:=⟨_,rfl⟩
  rw [← hs] at hcm ⊢
  clear hs
  have hio : ∀ (k : Nat) (y : Mt),R.mats[k]? = some y → prvN R ⟨x,m⟩ s ((R.mats.map (·.number)).take k++(R.mats.map (·.number)).drop (k + 1)) = prvM R ⟨x,m⟩ s (outM R.mats [y.number]):=fun k y hy=>by
   unfold prvN
   rw [in_out hnd hy]
  have hns:=fun S hS=>numsSl R p S hS (by omega)
  have hnr:=fun S hS=>numsRow R p S hS (by omega)
  obtain ⟨L,hL⟩ : ∃ L,L = R.mats.map (·.number):=⟨_,rfl⟩
  have hLl : L.length = R.mats.length:=by rw [hL,List.length_map]
  have hLg : ∀ (k : Nat) (y : Mt),R.mats[k]? = some y → L[k]? = some y.number:=fun k y hy=>by rw [hL,List.getElem?_map,hy];rfl
  rw [← hL] at hns hnr
  simp only [← hL] at hio
  obtain ⟨ok,hok'⟩ : ∃ ok,ok = prvM R ⟨x,m⟩ s:=⟨_,rfl⟩
  rw [← hok']
  simp only [← hok'] at hio
  refine Fc.mk (callable Try.call41) Try.func41 rfl Try.ntmps41 rfl ?_;dsimp only [fr]
  repeat' (first | (refine uP rfl ?_;(first | ((first | refine uN rfl ?_);(first | (refine uE (uQ (b:=false) rfl rfl rfl (congrArg some (nd_f (by omega)))) rfl rfl ?_)|(refine uE (uL rfl rfl (uW (T:=26) (cs:=cRm R p) (te rfl) rfl (by repeat (first | exact qH _ | apply qT)) rfl)) rfl rfl ?_)|(refine uC (uT rfl (by (repeat (first | exact Args.nil | refine Args.cons rfl ?_));done)) rfl rfl (hcm _ (hR.sub (fun _ h=>by repeat (first | exact h | apply qT)))) ?_;rintro _ _ ⟨b,k,hbk,rfl,rfl⟩)|(refine uE (uX rfl rfl rfl) rfl rfl ?_)|(refine Xg.st (StF.alloc rfl Try.zeroValue129 rfl) rfl rfl ?_;rintro _ _ ⟨b8,rfl,rfl⟩)|(refine Xg.st0 (uZ (i:=0) (vs:=cCm R p (some ⟨b,0,none⟩) k ⟨x,m⟩ s) rfl rfl rfl (te rfl) rfl rfl rfl rfl) rfl ?_;rintro _ _ ⟨rfl,rfl⟩;dsimp only [List.set])|(refine uE (uL rfl rfl (uO (cs:=cRm R p) (te rfl) rfl (by repeat (first | exact qH _ | apply qT)) rfl)) rfl rfl ?_)|(refine uC (uT rfl (by (repeat (first | exact Args.nil | refine Args.cons rfl ?_));done)) rfl rfl (hns _ (hR.mats.sub (fun _ h=>by repeat (first | exact h | apply qT)))) ?_;rintro _ _ ⟨an,cn,Z0,rfl,hZ0,rfl⟩)|(refine uE (uM rfl rfl) rfl rfl ?_)|(refine uE (uA rfl rfl) rfl rfl ?_)|(refine uE (uF rfl rfl (te rfl) rfl (te rfl) (by decide)) rfl rfl ?_)|(refine uE (uY rfl rfl (te rfl)) rfl rfl ?_)|(refine Xg.st (StF.boxAgg rfl rfl) rfl rfl ?_;rintro _ _ ⟨bx,rfl,rfl⟩)))))|(refine uD rfl ?_;refine hK _ _ ?_;clear hK K) | refine uS rfl ?_ | refine uR rfl (fun K hK=>?_) | refine X.block rfl ?_ | refine X.skip rfl ?_ | (refine X.ite rfl rfl (fun hc=>?_);(first | (with_reducible refine Xb.f hc ?_)) <;> clear hc))
  all_goals try (exfalso;contradiction)
  generalize bx = b3
  obtain ⟨G,hG⟩ : ∃ G : List Row,G = Z0++⟨b8,0,cCm R p (some ⟨b,0,none⟩) k ⟨x,m⟩ s,some 129,10⟩::⟨b,0,(plcs R).flatMap cPk,some 101,k * 2⟩::⟨b3,0,cRm R p,some 26,5⟩::H:=⟨_,rfl⟩
  have hg8 : (⟨b8,0,cCm R p (some ⟨b,0,none⟩) k ⟨x,m⟩ s,some 129,10⟩ : Row) ∈ G:=by rw [hG];exact List.mem_append_right _ (qH _)
  have hgb : (⟨b,0,(plcs R).flatMap cPk,some 101,k * 2⟩ : Row) ∈ G:=by rw [hG];exact List.mem_append_right _ (qT _ (qH _))
  have hg3 : (⟨b3,0,cRm R p,some 26,5⟩ : Row) ∈ G:=by rw [hG];exact List.mem_append_right _ (qT _ (qT _ (qH _)))
  have hHG : H.Sublist G:=by rw [hG];exact (qC _ (qC _ (qC _ (qR _)))).trans (List.sublist_append_right _ _)
  have hGl : SlE G an cI 1 L:=by rw [hG];exact hZ0 _
  have hGR : RmOk G R p:=hR.sub (fun r h=>hHG.subset h)
  have hCt : CtOk G R p (some ⟨b,0,none⟩):=⟨hGR,SlE.ofRow hgb (fun _ _=>rfl)⟩
  have hpr : ∀ (l : List Int) (al : Option Addr) (cl : Nat) (S : List Row),(∀ r ∈ G,r ∈ S) → SlE S al cI 1 l → l.length ≤ 1000000 → Fc Try.prog 85 [.agg (cCm R p (some ⟨b,0,none⟩) k ⟨x,m⟩ s).toArray,.slice al l.length cl] S (fun v H' => v = .bool (prvN R ⟨x,m⟩ s l)∧H' = S):=fun l al cl S hS hsl hl =>
   kproves_spec R p (some ⟨b,0,none⟩) k ⟨x,m⟩ s l al cl S hok.ok hok.mats (CtOk.sub hCt hS) hok.lens.ages hok.lens.mats hbk hT hpq hsl hl
  refine X.lp rfl (fun q F' H' => ∃ (i : Nat) (out : Value) (Z : List Row),q = R.mats.length - i∧i ≤ R.mats.length∧((rsG ok R (R.mats.take i) = []∧out = .slice none 0 0∧Z = []) ∨ ∃ bn kn,out = .slice (some ⟨bn,0,none⟩) (rsG ok R (R.mats.take i)).length kn∧Z = [⟨bn,0,(rsG ok R (R.mats.take i)).flatMap cI,some 3,kn * 1⟩])∧Z++G = H'∧F' = [(3,.pointer (some ⟨b3,0,none⟩)),(8,.pointer (some ⟨b8,0,none⟩)),(10,out),(26,.slice an L.length cn),(27,.int .i64 L.length),(28,.int .i64 (i : Nat))])
   R.mats.length [(3,.pointer (some ⟨b3,0,none⟩)),(8,.pointer (some ⟨b8,0,none⟩)),(10,.slice none 0 0),(26,.slice an L.length cn),(27,.int .i64 L.length),(28,.int .i64 (0 : Nat))] G (by repeat (first | exact uU _ | refine uV rfl ?_)) (by rw [hG];exact qR _) ⟨0,_,[],rfl,by omega,.inl ⟨rfl,rfl,rfl⟩,rfl,rfl⟩ ?_
  clear hG hZ0 hR hns
  rintro _ _ _ ⟨i,out,Z,rfl,hi,hTz,rfl,rfl⟩
  have hzl:=rsG_len ok R (R.mats.take i)
  have hlT:=List.length_take (i:=i) (l:=R.mats)
  by_cases hlt : i < R.mats.length
  ·obtain ⟨y,hyi⟩ : ∃ y,R.mats[i]? = some y:=⟨_,List.getElem?_eq_getElem hlt⟩
   have hyL:=hLg i y hyi
   obtain ⟨bl,off,_,hqa,_⟩:=hGl.elem (i:=i) (by omega)
   subst hqa
   have hsn:=rsG_snoc ok R hyi
   obtain ⟨G2,hG2⟩ : ∃ G2 : List Row,Z++G = G2:=⟨_,rfl⟩
   have hGS : ∀ r ∈ G,r ∈ G2:=fun r h=>by rw [← hG2];exact List.mem_append_right _ h
   have hg8' := hGS _ hg8
   have hg3' := hGS _ hg3
   have hGm' := hGR.mats.sub hGS
   have hGl' := hGl.sub hGS
   obtain ⟨Q,hQ⟩ : ∃ Q,Q = L.take i++L.drop (i + 1):=⟨_,rfl⟩
   have hQl : Q.length ≤ 1000000:=by rw [hQ,List.length_append,List.length_take,List.length_drop];omega
   have hprQ:=fun al cl S hS hsl=>hpr Q al cl S hS hsl hQl
   rw [show prvN R ⟨x,m⟩ s Q = ok (outM R.mats [y.number]) by rw [hQ];exact hio i y hyi] at hprQ
   have hdl:=fun b9 c9 S=>delete_spec L b9 c9 i S (by omega) (by omega)
   rw [← hQ] at hdl
   have hne : R.mats ≠ []:=fun h=>by rw [h] at hlt;simp at hlt
   obtain ⟨w,hw⟩ : ∃ w,w = ok (outM R.mats [y.number]):=⟨_,rfl⟩
   rw [← hw] at hprQ hsn
   rw [hG2]
   cases w with
   | true =>
    rw [if_pos rfl,List.append_nil] at hsn
    repeat' (first | (refine uP rfl ?_;(first | ((first | refine uN rfl ?_);(first | (refine uE (uQ (b:=true) rfl rfl rfl (congrArg some (decide_eq_true (by omega)))) rfl rfl ?_)|(refine uE (uL rfl rfl (LoadV.el0 (hGl') hyL (te rfl) rfl (fun _ hm=>hm) rfl)) rfl rfl ?_)|(refine uE (uL rfl rfl (uO (cs:=cRm R p) (te rfl) rfl hg3' rfl)) rfl rfl ?_)|(refine uC (uT rfl (by (repeat (first | exact Args.nil | refine Args.cons rfl ?_));done)) rfl rfl (hnr _ (hGm'.sub (fun _ h=>by repeat (first | exact h | apply qT))) hne) ?_;rintro _ _ ⟨b9,c9,rfl,rfl⟩)|(refine uC (uT rfl (Args.cons rfl (Args.cons rfl (Args.cons rfl Args.nil)))) rfl rfl (hdl b9 c9 _) ?_;rintro _ H9 ⟨rfl,hH9⟩;subst H9)|(refine uE (EvF.add64 (p:=(i : Int)) (q:=1) rfl rfl rfl (by omega) (by omega)) rfl rfl ?_)|(refine uE (uL rfl rfl (uW (T:=129) (cs:=cCm R p (some ⟨b,0,none⟩) k ⟨x,m⟩ s) (te rfl) rfl (qT _ hg8') rfl)) rfl rfl ?_)|(refine uC (uT rfl (Args.cons rfl (Args.cons rfl Args.nil))) rfl rfl (hprQ (some ⟨b9,0,none⟩) c9 _ (fun r h=>qT _ (hGS r h)) (SlE.ofRow (qH _) (fun _ _=>rfl))) ?_;rintro _ H9 ⟨rfl,hH9⟩;subst H9)|(refine uE (uM rfl rfl) rfl rfl ?_)|(refine uE (uA rfl rfl) rfl rfl ?_)|(refine uE (EvF.not rfl rfl) rfl rfl ?_)|(refine uE (uF rfl rfl (te rfl) rfl (te rfl) (by decide)) rfl rfl ?_)|(refine uE (uJ rfl rfl rfl (te rfl) (te rfl) (by omega) (by omega)) rfl rfl ?_)))))|(refine uD rfl ?_;refine hK _ _ ?_;clear hK K) | refine uS rfl ?_ | refine uR rfl (fun K hK=>?_) | refine X.block rfl ?_ | refine X.skip rfl ?_ | (refine X.ite rfl rfl (fun hc=>?_);(first | (with_reducible refine Xb.t hc ?_)|(with_reducible refine Xb.caseB hc (fun h=>?_) (fun h=>?_))) <;> clear hc))
    all_goals try (exfalso;contradiction)
    exact ⟨_,[(3,.pointer (some ⟨b3,0,none⟩)),(8,.pointer (some ⟨b8,0,none⟩)),(10,out),(26,.slice (some ⟨bl,off,none⟩) L.length cn),(27,.int .i64 L.length),(28,.int .i64 (i + 1 : Nat))],G2,(by repeat (first | exact uU _ | refine uV rfl ?_)),(by repeat (first | exact qR _ | apply qK | apply qC)),⟨i + 1,out,Z,rfl,by omega,by rw [hsn];exact hTz,hG2,rfl⟩,by omega⟩
   | false =>
    rw [if_neg (fun q=>by cases q)] at hsn
    rcases hTz with ⟨h9,rfl,rfl⟩ | ⟨bo,ko,rfl,rfl⟩
    ·rw [h9,List.nil_append] at hsn
     rw [List.nil_append] at hG2
     subst hG2
     repeat' (first | (refine uP rfl ?_;(first | ((first | refine uN rfl ?_);(first | (refine uE (uQ (b:=true) rfl rfl rfl (congrArg some (decide_eq_true (by omega)))) rfl rfl ?_)|(refine uE (uL rfl rfl (LoadV.el0 (hGl') hyL (te rfl) rfl (fun _ hm=>hm) rfl)) rfl rfl ?_)|(refine uE (uL rfl rfl (uO (cs:=cRm R p) (te rfl) rfl hg3' rfl)) rfl rfl ?_)|(refine uC (uT rfl (by (repeat (first | exact Args.nil | refine Args.cons rfl ?_));done)) rfl rfl (hnr _ (hGm'.sub (fun _ h=>by repeat (first | exact h | apply qT))) hne) ?_;rintro _ _ ⟨b9,c9,rfl,rfl⟩)|(refine uC (uT rfl (Args.cons rfl (Args.cons rfl (Args.cons rfl Args.nil)))) rfl rfl (hdl b9 c9 _) ?_;rintro _ H9 ⟨rfl,hH9⟩;subst H9)|(refine uE (EvF.add64 (p:=(i : Int)) (q:=1) rfl rfl rfl (by omega) (by omega)) rfl rfl ?_)|(refine uE (uL rfl rfl (uW (T:=129) (cs:=cCm R p (some ⟨b,0,none⟩) k ⟨x,m⟩ s) (te rfl) rfl (qT _ hg8') rfl)) rfl rfl ?_)|(refine uC (uT rfl (Args.cons rfl (Args.cons rfl Args.nil))) rfl rfl (hprQ (some ⟨b9,0,none⟩) c9 _ (fun r h=>qT _ (hGS r h)) (SlE.ofRow (qH _) (fun _ _=>rfl))) ?_;rintro _ H9 ⟨rfl,hH9⟩;subst H9)|(refine Xg.st (StF.buildOne rfl el55 rfl rfl rfl (by decide) (by decide)) rfl rfl ?_;rintro _ _ ⟨bs,rfl,rfl⟩)|(refine Xg.st (StF.appendNew rfl el55 rfl rfl (by decide) rfl (Rd.own (qH _)) (by decide)) rfl rfl ?_;rintro _ _ ⟨bn,kn,rfl,rfl⟩)|(refine uE (uM rfl rfl) rfl rfl ?_)|(refine uE (uA rfl rfl) rfl rfl ?_)|(refine uE (EvF.not rfl rfl) rfl rfl ?_)|(refine uE (uF rfl rfl (te rfl) rfl (te rfl) (by decide)) rfl rfl ?_)|(refine uE (uJ rfl rfl rfl (te rfl) (te rfl) (by omega) (by omega)) rfl rfl ?_)))))|(refine uD rfl ?_;refine hK _ _ ?_;clear hK K) | refine uS rfl ?_ | refine uR rfl (fun K hK=>?_) | refine X.block rfl ?_ | refine X.skip rfl ?_ | (refine X.ite rfl rfl (fun hc=>?_);(first | (with_reducible refine Xb.t hc ?_)|(with_reducible refine Xb.caseB hc (fun h=>?_) (fun h=>?_))) <;> clear hc))
     all_goals try (exfalso;contradiction)
     refine ⟨_,[(3,.pointer (some ⟨b3,0,none⟩)),(8,.pointer (some ⟨b8,0,none⟩)),(10,.slice (some ⟨bn,0,none⟩) 1 kn),(26,.slice (some ⟨bl,off,none⟩) L.length cn),(27,.int .i64 L.length),(28,.int .i64 (i + 1 : Nat))],⟨bn,0,(rsG ok R (R.mats.take (i + 1))).flatMap cI,some 3,kn * 1⟩::G,(by repeat (first | exact uU _ | refine uV rfl ?_)),?_,⟨i + 1,_,[_],rfl,by omega,.inr ⟨bn,kn,by rw [hsn];rfl,rfl⟩,rfl,rfl⟩,by omega⟩
     rw [hsn]
     exact (by repeat (first | exact qR _ | apply qK | apply qC))
    ·simp only [List.cons_append,List.nil_append] at hG2
     subst hG2
     have hlen9 : ((rsG ok R (R.mats.take i)).flatMap cI).length = (rsG ok R (R.mats.take i)).length * 1:=lenI _
     repeat' (first | (refine uP rfl ?_;(first | ((first | refine uN rfl ?_);(first | (refine uE (uQ (b:=true) rfl rfl rfl (congrArg some (decide_eq_true (by omega)))) rfl rfl ?_)|(refine uE (uL rfl rfl (LoadV.el0 (hGl') hyL (te rfl) rfl (fun _ hm=>hm) rfl)) rfl rfl ?_)|(refine uE (uL rfl rfl (uO (cs:=cRm R p) (te rfl) rfl hg3' rfl)) rfl rfl ?_)|(refine uC (uT rfl (by (repeat (first | exact Args.nil | refine Args.cons rfl ?_));done)) rfl rfl (hnr _ (hGm'.sub (fun _ h=>by repeat (first | exact h | apply qT))) hne) ?_;rintro _ _ ⟨b9,c9,rfl,rfl⟩)|(refine uC (uT rfl (Args.cons rfl (Args.cons rfl (Args.cons rfl Args.nil)))) rfl rfl (hdl b9 c9 _) ?_;rintro _ H9 ⟨rfl,hH9⟩;subst H9)|(refine uE (EvF.add64 (p:=(i : Int)) (q:=1) rfl rfl rfl (by omega) (by omega)) rfl rfl ?_)|(refine uE (uL rfl rfl (uW (T:=129) (cs:=cCm R p (some ⟨b,0,none⟩) k ⟨x,m⟩ s) (te rfl) rfl (qT _ hg8') rfl)) rfl rfl ?_)|(refine uC (uT rfl (Args.cons rfl (Args.cons rfl Args.nil))) rfl rfl (hprQ (some ⟨b9,0,none⟩) c9 _ (fun r h=>qT _ (hGS r h)) (SlE.ofRow (qH _) (fun _ _=>rfl))) ?_;rintro _ H9 ⟨rfl,hH9⟩;subst H9)|(refine Xg.st (StF.buildOne rfl el55 rfl rfl rfl (by decide) (by decide)) rfl rfl ?_;rintro _ _ ⟨bs,rfl,rfl⟩)|(refine Xg.st (StF.appendOwn (i:=2) rfl el55 rfl rfl rfl hlen9 rfl (Rd.own (qH _)) rfl (by omega)) rfl rfl ?_;rintro _ _ ⟨bn,kn,rfl,rfl⟩;dsimp only [List.eraseIdx])|(refine uE (uM rfl rfl) rfl rfl ?_)|(refine uE (uA rfl rfl) rfl rfl ?_)|(refine uE (EvF.not rfl rfl) rfl rfl ?_)|(refine uE (uF rfl rfl (te rfl) rfl (te rfl) (by decide)) rfl rfl ?_)|(refine uE (uJ rfl rfl rfl (te rfl) (te rfl) (by omega) (by omega)) rfl rfl ?_)))))|(refine uD rfl ?_;refine hK _ _ ?_;clear hK K) | refine uS rfl ?_ | refine uR rfl (fun K hK=>?_) | refine X.block rfl ?_ | refine X.skip rfl ?_ | (refine X.ite rfl rfl (fun hc=>?_);(first | (with_reducible refine Xb.t hc ?_)|(with_reducible refine Xb.caseB hc (fun h=>?_) (fun h=>?_))) <;> clear hc))
     all_goals try (exfalso;contradiction)
     refine ⟨_,[(3,.pointer (some ⟨b3,0,none⟩)),(8,.pointer (some ⟨b8,0,none⟩)),(10,.slice (some ⟨bn,0,none⟩) ((rsG ok R (R.mats.take i)).length + 1) kn),(26,.slice (some ⟨bl,off,none⟩) L.length cn),(27,.int .i64 L.length),(28,.int .i64 (i + 1 : Nat))],⟨bn,0,(rsG ok R (R.mats.take (i + 1))).flatMap cI,some 3,kn * 1⟩::G,(by repeat (first | exact uU _ | refine uV rfl ?_)),?_,⟨i + 1,_,[_],rfl,by omega,.inr ⟨bn,kn,by rw [hsn,List.length_append];rfl,rfl⟩,rfl,rfl⟩,by omega⟩
     rw [hsn,List.flatMap_append]
     exact (by repeat (first | exact qR _ | apply qK | apply qC))
  ·obtain rfl : i = R.mats.length:=by omega
   rw [List.take_length] at hTz
   repeat' (first | (refine uP rfl ?_;(first | ((first | refine uN rfl ?_);(first | (refine uE (uQ (b:=false) rfl rfl rfl (congrArg some (decide_eq_false (by omega)))) rfl rfl ?_)|(refine uE (uM rfl rfl) rfl rfl ?_)|(refine uE (uA rfl rfl) rfl rfl ?_)))))|(refine uD rfl ?_;refine hK _ _ ?_;clear hK K) | refine uS rfl ?_ | refine uR rfl (fun K hK=>?_)|(refine X.brk rfl ?_;repeat (first | refine blockX_hit rfl ?_ | refine blockX_miss (by decide) ?_)) | refine X.ret rfl ?_ | (refine X.ite rfl rfl (fun hc=>?_);(first | (with_reducible refine Xb.f hc ?_)) <;> clear hc))
   all_goals try (exfalso;contradiction)
   rcases hTz with ⟨h9,rfl,rfl⟩ | ⟨bo,ko,rfl,rfl⟩
   ·rw [h9]
    exact ret_two (by simp) Try.results41 rfl rfl (H' := H) hHG ⟨none,0,[],rfl,sleNil,rfl⟩
   ·exact ret_two (by simp) Try.results41 rfl rfl (H' := ⟨bo,0,(rsG ok R R.mats).flatMap cI,some 3,ko * 1⟩::H) (qK _ hHG) ⟨some ⟨bo,0,none⟩,ko,[⟨bo,0,(rsG ok R R.mats).flatMap cI,some 3,ko * 1⟩],rfl,SlE.ofRow (qH _) (fun _ _=>rfl),rfl⟩
 ·have hy : rstF R x m = ([],e):=by unfold rstF;rw [if_neg (by rw [he];exact h0),he]
  rw [hy]
  refine Fc.mk (callable Try.call41) Try.func41 rfl Try.ntmps41 rfl ?_;dsimp only [fr]
  repeat' (first | (refine uP rfl ?_;(first | ((first | refine uN rfl ?_);(first | (refine uE (uL rfl rfl (uW (T:=26) (cs:=cRm R p) (te rfl) rfl (by repeat (first | exact qH _ | apply qT)) rfl)) rfl rfl ?_)|(refine uC (uT rfl (Args.cons rfl (Args.cons rfl (Args.cons rfl Args.nil)))) rfl rfl (claimedN R p x m e _ (hR.sub (fun _ h=>by repeat (first | exact h | apply qT))) h2 he h0) ?_;rintro _ H9 ⟨rfl,hH9⟩;subst H9)|(refine uE (uX rfl rfl rfl) rfl rfl ?_)|(refine Xg.st (StF.alloc rfl Try.zeroValue129 rfl) rfl rfl ?_;rintro _ _ ⟨b8,rfl,rfl⟩)|(refine Xg.st0 (uZ (i:=0) (vs:=zCm) rfl rfl rfl (te rfl) rfl rfl rfl rfl) rfl ?_;rintro _ _ ⟨rfl,rfl⟩;dsimp only [List.set])|(refine uE (uM rfl rfl) rfl rfl ?_)|(refine uE (uA rfl rfl) rfl rfl ?_)|(refine uE (uQ rfl rfl rfl rfl) rfl rfl ?_)|(refine uE (uF rfl rfl (te rfl) rfl (te rfl) (by decide)) rfl rfl ?_)|(refine uE (uL rfl rfl (uO (te rfl) rfl (qT _ (qH _)) rfl)) rfl rfl ?_)|(refine Xg.st (StF.boxAgg rfl rfl) rfl rfl ?_;rintro _ _ ⟨bx,rfl,rfl⟩)))))|(refine uD rfl ?_;refine hK _ _ ?_;clear hK K) | refine uS rfl ?_ | refine uR rfl (fun K hK=>?_) | refine X.skip rfl ?_ | refine X.ret rfl ?_ | (refine X.ite rfl rfl (fun hc=>?_);(first | (with_reducible refine Xb.caseN hc (fun h=>?_) (fun h=>?_))) <;> clear hc))
  all_goals try (exfalso;simp_all;done)
  exact ret_two (by simp) Try.results41 rfl rfl (H' := H) (by (repeat (first | exact qR _ | apply qC));done) ⟨none,0,[],rfl,sleNil,rfl⟩
theorem rng_bd {R : Rm} (hr : okRm R) (hm : matsThere R R.mats) (hT : hasT R R.mats) {a b : Pk} (ha : a ∈ plcs R) (hb : b ∈ plcs R) : -60 ≤ (rng R R.mats a b).lo∧(rng R R.mats a b).lo ≤ (rng R R.mats a b).hi∧(rng R R.mats a b).hi ≤ 60:=by
 have h:=ex_mem hr hm hT ha hb
 obtain ⟨z1,t1,e1⟩:=h.lo
 obtain ⟨z2,t2,e2⟩:=h.hi
 have h1:=h.all z1 t1
 have a1:=t1.in60 hr ha
 have a2:=t1.in60 hr hb
 have b1:=t2.in60 hr ha
 have b2:=t2.in60 hr hb
 omega
def tsAq : List TOp:=[⟨some 63,[],[],[]⟩,⟨some 64,[],[],[]⟩,⟨some 65,[],[],[]⟩,⟨some 66,[2],[2],[]⟩,⟨some 67,[],[],[]⟩,⟨some 68,[4],[4],[]⟩,⟨some 69,[2,3,4,5],[3,5],[]⟩,⟨some 4,[0],[0],[]⟩,⟨some 5,[0,1,7],[1],[]⟩,⟨some 6,[0,1,2,3,4,5,6,7,8],[6],[]⟩]
def valAq (b14 : Nat) (x y : Int) (s : Sp) (v1 v8 v9 v10 v32 v33 v34 v42 v43 v44 : Value) (k : Nat) (env : Env) : Value :=
 match k with
 | 0 => .int .i64 x
 | 1 => .int .i64 y
 | 2 => .pointer (some ⟨b14,1,none⟩)
 | 3 => .int .i64 s.hi
 | 4 => .pointer (some ⟨b14,0,none⟩)
 | 5 => .int .i64 s.lo
 | 6 => .int .i64 (s.hi - s.lo)
 | 7 => .int .i64 x
 | 8 => .int .i64 y
 | 9 => .int .i64 (s.hi - s.lo)
 | _=>undef
def rowsAq (b14 : Nat) (x y : Int) (s : Sp) (v1 v8 v9 v10 v32 v33 v34 v42 v43 v44 : Value) (k : Nat) (env : Env) : List Row :=
 match k with
 | _=>[]
theorem locAq (b14 : Nat) (x y : Int) (s : Sp) (v1 v8 v9 v10 v32 v33 v34 v42 v43 v44 : Value) : ∀ k env i q9,i ≠ k → (tAt tsAq k).sup.contains i = false → valAq b14 x y s v1 v8 v9 v10 v32 v33 v34 v42 v43 v44 k (upd env i q9)=valAq b14 x y s v1 v8 v9 v10 v32 v33 v34 v42 v43 v44 k env∧rowsAq b14 x y s v1 v8 v9 v10 v32 v33 v34 v42 v43 v44 k (upd env i q9)=rowsAq b14 x y s v1 v8 v9 v10 v32 v33 v34 v42 v43 v44 k env:=by
 intro k env i q hk hs
 have hu : ∀ j,j ≠ i → upd env i q j = env j:=fun j hj=>by unfold upd;rw [if_neg hj]
 match k,hk,hs with
 | 0,_,_=>exact ⟨rfl,rfl⟩
 | 1,_,_=>exact ⟨rfl,rfl⟩
 | 2,_,_=>exact ⟨rfl,rfl⟩
 | 3,_,_=>exact ⟨rfl,rfl⟩
 | 4,_,_=>exact ⟨rfl,rfl⟩
 | 5,_,_=>exact ⟨rfl,rfl⟩
 | 6,_,_=>exact ⟨rfl,rfl⟩
 | 7,_,_=>exact ⟨rfl,rfl⟩
 | 8,_,_=>exact ⟨rfl,rfl⟩
 | 9,_,_=>exact ⟨rfl,rfl⟩
 | _ + 10,_,_=>exact ⟨rfl,rfl⟩
set_option maxHeartbeats 16000000 in
theorem kAsk_spec (R : Rm) (p : Pl) (m : Int) (H : List Row) (hR : RmOk H R p) (h2 : R.boxes.length ≤ 1000000) : Fc Try.prog 36 [.agg (cRm R p).toArray,.int .i64 m] H (fun v H' => v = .tuple #[.int .i64 (askF R m).1.1,.int .i64 (askF R m).1.2.1,.int .i64 (askF R m).1.2.2,.int .i64 (askF R m).2]∧H' = H):=by
 obtain ⟨e,he⟩ : ∃ e,openE R [] [m] = e:=⟨_,rfl⟩
 have hbt : ∀ (H' : List Row) (b1 : Nat),⟨b1,0,[.int .i64 m],some 3,1 * 1⟩ ∈ H' → BtOk H' ⟨[],none,0,[m],some ⟨b1,0,none⟩,1⟩:=fun H' b1 q1=>⟨sleNil,SlE.ofRow (l:=[m]) q1 (fun _ _=>rfl),Nat.le_of_ble_eq_true rfl,Nat.le_of_ble_eq_true rfl⟩
 by_cases h0 : e = 0
 ·subst h0
  obtain ⟨hok,_,hin,hT⟩:=openE_ok he
  have hr:=hok.ok
  have hmm : m ≤ R.months - 1:=(hin m (List.mem_singleton.2 rfl)).1.2
  have htl:=thI_len hr m
  have hth:=fun H' b k hC hk=>thereI_spec R p b k m H' hr hmm hC hk
  have hLp : ∀ x ∈ thI R m,(⟨x,m⟩ : Pk) ∈ plcs R:=fun y hy=>by
   obtain ⟨b,hb,rfl⟩:=(mem_thI hmm).1 hy
   exact plcs_mem hb
  have hF : askF R m = if (thI R m).length < 2 then ((0,0,0),6) else (askO (wid2 R m) (thI R m) (0,0, -1),0):=by unfold askF;rw [if_pos he]
  rw [hF]
  clear hF
  obtain ⟨L,hL⟩ : ∃ L,L = thI R m:=⟨_,rfl⟩
  rw [← hL] at hth hLp htl ⊢
  by_cases hl2 : L.length < 2
  ·rw [if_pos hl2]
   refine Fc.mk (callable Try.call36) Try.func36 rfl Try.ntmps36 rfl ?_;dsimp only [fr]
   repeat' (first | (refine uP rfl ?_;(first | ((first | refine uN rfl ?_);(first | (refine uE (uQ (b:=true) rfl rfl rfl (congrArg some (decide_eq_true (by omega)))) rfl rfl ?_)|(refine uE (uQ (b:=false) rfl rfl rfl (congrArg some (nd_f (by omega)))) rfl rfl ?_)|(refine Xg.st (StF.buildOne (v0 := .int .i64 m) rfl el55 rfl rfl rfl (by decide) (by decide)) rfl rfl ?_;rintro _ _ ⟨b1,rfl,rfl⟩)|(refine uE (EvF.build (cs:=cBt ⟨[],none,0,[m],some ⟨b1,0,none⟩,1⟩) rfl (ArgsP.cons rfl ArgsP.nil) (te rfl) (Places.cons (te rfl) (Places.cons (te rfl) Places.nil)) Try.zeroValue98 rfl) rfl rfl ?_)|(refine uC (uT rfl (by (repeat (first | exact Args.nil | refine Args.cons rfl ?_));done)) rfl rfl (openY (hR.sub (fun _ h=>by repeat (first | exact h | apply qT))) (hbt _ b1 (qH _)) h2 he) ?_;rintro _ _ ⟨b,k,hbk,rfl,rfl⟩)|(refine Xg.st (StF.alloc rfl Try.zeroValue93 rfl) rfl rfl ?_;rintro _ _ ⟨b8,rfl,rfl⟩)|(refine Xg.st0 (uZ (i:=0) (vs:=cCt R p (some ⟨b,0,none⟩) k) rfl rfl rfl (te rfl) rfl rfl rfl rfl) rfl ?_;rintro _ _ ⟨rfl,rfl⟩;dsimp only [List.set])|(refine uE (uL rfl rfl (uW (T:=93) (cs:=cCt R p (some ⟨b,0,none⟩) k) (te rfl) rfl (by repeat (first | exact qH _ | apply qT)) rfl)) rfl rfl ?_)|(refine uC (uT rfl (by (repeat (first | exact Args.nil | refine Args.cons rfl ?_));done)) rfl rfl (hth _ b k ⟨hR.sub (fun _ h=>by repeat (first | exact h | apply qT)),SlE.ofRow (qT _ (qH _)) (fun _ _=>rfl)⟩ hbk) ?_;rintro _ _ (⟨ht,rfl,rfl⟩ | ⟨bt,kt,rfl,rfl⟩))|(refine uE (uM rfl rfl) rfl rfl ?_)|(refine uE (uA rfl rfl) rfl rfl ?_)|(refine uE (uY rfl rfl (te rfl)) rfl rfl ?_)|(refine uE (uL rfl rfl (uW (te rfl) rfl (qH _) rfl)) rfl rfl ?_)|(refine uE (uX rfl rfl rfl) rfl rfl ?_)|(refine Xg.st (StF.boxAgg rfl rfl) rfl rfl ?_;rintro _ _ ⟨bx,rfl,rfl⟩)))))|(refine uD rfl ?_;refine hK _ _ ?_;clear hK K) | refine uS rfl ?_ | refine uR rfl (fun K hK=>?_) | refine X.skip rfl ?_ | refine X.ret rfl ?_ | (refine X.ite rfl rfl (fun hc=>?_);(first | (with_reducible refine Xb.t hc ?_)|(with_reducible refine Xb.f hc ?_)) <;> clear hc))
   all_goals try (exfalso;contradiction)
   all_goals exact ret_four (by simp) Try.results36 rfl rfl rfl rfl (H' := H) (by (repeat (first | exact qR _ | apply qC));done) ⟨rfl,rfl⟩
  ·rw [if_neg hl2]
   refine Fc.mk (callable Try.call36) Try.func36 rfl Try.ntmps36 rfl ?_;dsimp only [fr]
   repeat' (first | (exfalso;have:=congrArg List.length ht;simp only [List.length_nil] at this;omega)|(refine uP rfl ?_;(first | ((first | refine uN rfl ?_);(first | (refine uE (uQ (b:=false) rfl rfl rfl (congrArg some (decide_eq_false (by omega)))) rfl rfl ?_)|(refine uE (uQ (b:=false) rfl rfl rfl (congrArg some (nd_f (by omega)))) rfl rfl ?_)|(refine Xg.st (StF.buildOne (v0 := .int .i64 m) rfl el55 rfl rfl rfl (by decide) (by decide)) rfl rfl ?_;rintro _ _ ⟨b1,rfl,rfl⟩)|(refine uE (EvF.build (cs:=cBt ⟨[],none,0,[m],some ⟨b1,0,none⟩,1⟩) rfl (ArgsP.cons rfl ArgsP.nil) (te rfl) (Places.cons (te rfl) (Places.cons (te rfl) Places.nil)) Try.zeroValue98 rfl) rfl rfl ?_)|(refine uC (uT rfl (by (repeat (first | exact Args.nil | refine Args.cons rfl ?_));done)) rfl rfl (openY (hR.sub (fun _ h=>by repeat (first | exact h | apply qT))) (hbt _ b1 (qH _)) h2 he) ?_;rintro _ _ ⟨b,k,hbk,rfl,rfl⟩)|(refine Xg.st (StF.alloc rfl Try.zeroValue93 rfl) rfl rfl ?_;rintro _ _ ⟨b8,rfl,rfl⟩)|(refine Xg.st0 (uZ (i:=0) (vs:=cCt R p (some ⟨b,0,none⟩) k) rfl rfl rfl (te rfl) rfl rfl rfl rfl) rfl ?_;rintro _ _ ⟨rfl,rfl⟩;dsimp only [List.set])|(refine uE (uL rfl rfl (uW (T:=93) (cs:=cCt R p (some ⟨b,0,none⟩) k) (te rfl) rfl (by repeat (first | exact qH _ | apply qT)) rfl)) rfl rfl ?_)|(refine uC (uT rfl (by (repeat (first | exact Args.nil | refine Args.cons rfl ?_));done)) rfl rfl (hth _ b k ⟨hR.sub (fun _ h=>by repeat (first | exact h | apply qT)),SlE.ofRow (qT _ (qH _)) (fun _ _=>rfl)⟩ hbk) ?_;rintro _ _ (⟨ht,rfl,rfl⟩ | ⟨bt,kt,rfl,rfl⟩))|(refine uE (uM rfl rfl) rfl rfl ?_)|(refine uE (uA rfl rfl) rfl rfl ?_)|(refine uE (uY rfl rfl (te rfl)) rfl rfl ?_)|(refine uE (uL rfl rfl (uW (te rfl) rfl (qH _) rfl)) rfl rfl ?_)|(refine uE (uX rfl rfl rfl) rfl rfl ?_)|(refine Xg.st (StF.boxAgg rfl rfl) rfl rfl ?_;rintro _ _ ⟨bx,rfl,rfl⟩)))))|(refine uD rfl ?_;refine hK _ _ ?_;clear hK K) | refine uS rfl ?_ | refine uR rfl (fun K hK=>?_) | refine X.block rfl ?_ | refine X.skip rfl ?_ | (refine X.ite rfl rfl (fun hc=>?_);(first | (with_reducible refine Xb.f hc ?_)) <;> clear hc))
   all_goals try (exfalso;contradiction)
   refine X.capLe (q:=0) rfl (fun hcap=>?_)
   rw [lenI] at hcap
   have hcap : L.length ≤ kt:=by omega
   obtain ⟨Fin,hFin⟩ : ∃ Fin,Fin = askO (wid2 R m) L (0,0, -1):=⟨_,rfl⟩
   rw [← hFin]
   have hC : ∀ S,(∀ r ∈ H,r ∈ S) → (⟨b,0,(plcs R).flatMap cPk,some 101,k * 2⟩ : Row) ∈ S → CtOk S R p (some ⟨b,0,none⟩):=fun S h1 h3=>⟨hR.sub h1,SlE.ofRow h3 (fun _ _=>rfl)⟩
   have hsl : ∀ S,(⟨bt,0,L.flatMap cI,some 3,kt * 1⟩ : Row) ∈ S → SlE S (some ⟨bt,0,none⟩) cI 1 L:=fun S h=>SlE.ofRow h (fun _ _=>rfl)
   refine X.lp rfl (fun q F' H' => ∃ (i : Nat) (a0 b0 w0 : Int),q = L.length - i∧i ≤ L.length∧askO (wid2 R m) (L.drop i) (a0,b0,w0)=Fin ∧ -1 ≤ w0∧w0 ≤ 120∧H' = ⟨bt,0,L.flatMap cI,some 3,kt * 1⟩::⟨b8,0,cCt R p (some ⟨b,0,none⟩) k,some 93,6⟩::⟨b,0,(plcs R).flatMap cPk,some 101,k * 2⟩::H∧F' = [(1,.int .i64 m),(4,.int .i64 a0),(5,.int .i64 b0),(6,.int .i64 w0),(8,.pointer (some ⟨b8,0,none⟩)),(9,.slice (some ⟨bt,0,none⟩) L.length kt),(32,.slice (some ⟨bt,0,none⟩) L.length kt),(33,.int .i64 L.length),(34,.int .i64 i)])
    L.length [(1,.int .i64 m),(4,.int .i64 0),(5,.int .i64 0),(6,.int .i64 (-1)),(8,.pointer (some ⟨b8,0,none⟩)),(9,.slice (some ⟨bt,0,none⟩) L.length kt),(32,.slice (some ⟨bt,0,none⟩) L.length kt),(33,.int .i64 L.length),(34,.int .i64 (0 : Nat))] (⟨bt,0,L.flatMap cI,some 3,kt * 1⟩::⟨b8,0,cCt R p (some ⟨b,0,none⟩) k,some 93,6⟩::⟨b,0,(plcs R).flatMap cPk,some 101,k * 2⟩::H) (by repeat (first | exact uU _ | refine uV rfl ?_)) (by repeat (first | exact qR _ | apply qK | apply qC)) ⟨0,0,0, -1,by omega,by omega,hFin.symm,by omega,by omega,rfl,rfl⟩ ?_
   rintro _ _ _ ⟨i,a0,b0,w0,rfl,hi,hI,hw1,hw2,rfl,rfl⟩
   by_cases hlt : i < L.length
   ·obtain ⟨x,hx⟩ : ∃ x,L[i]? = some x:=⟨_,List.getElem?_eq_getElem hlt⟩
    have hxp:=hLp x (List.mem_of_getElem? hx)
    obtain ⟨T,hTd⟩ : ∃ T,T = L.drop (i + 1):=⟨_,rfl⟩
    have hTl : T.length = L.length - (i + 1):=by rw [hTd,List.length_drop]
    obtain ⟨a9,ha9⟩ : ∃ a9,a9 = sfrom (some ⟨bt,0,none⟩) kt (i + 1) 1:=⟨_,rfl⟩
    have hS1 : ∀ S,(⟨bt,0,L.flatMap cI,some 3,kt * 1⟩ : Row) ∈ S → SlE S a9 cI 1 T:=fun S h=>by rw [ha9,hTd];exact sleFrom (hsl S h) hcap (i + 1)
    have hTm : ∀ y ∈ T,y ∈ L:=fun y hy=>by rw [hTd] at hy;exact List.mem_of_mem_drop hy
    rw [drop_cons hx, ← hTd] at hI
    change askO (wid2 R m) T (askI (wid2 R m) x T (a0,b0,w0)) = Fin at hI
    repeat' (first | (refine uP rfl ?_;(first | ((first | refine uN rfl ?_);(first | (refine uE (uQ (b:=true) rfl rfl rfl (congrArg some (decide_eq_true (by omega)))) rfl rfl ?_)|(refine uE (uL rfl rfl (LoadV.el0 (hsl _ (by repeat (first | exact qH _ | apply qT))) hx (te rfl) rfl (fun _ hm=>hm) rfl)) rfl rfl ?_)|(refine uE (EvF.sliceFrom (lo:=i + 1) rfl rfl (te rfl) (te rfl) rfl (by omega) hcap) rfl rfl ?_)|(refine uE (uM rfl rfl) rfl rfl ?_)|(refine uE (uA rfl rfl) rfl rfl ?_)|(refine uE (EvF.add64 rfl rfl rfl (by omega) (by omega)) rfl rfl ?_)|(refine uE (uY rfl rfl (te rfl)) rfl rfl ?_)|(refine uE (uJ rfl rfl rfl (te rfl) (te rfl) (by omega) (by omega)) rfl rfl ?_)))))|(refine uD rfl ?_;refine hK _ _ ?_;clear hK K) | refine uS rfl ?_ | refine uR rfl (fun K hK=>?_) | refine X.block rfl ?_ | refine X.skip rfl ?_ | (refine X.ite rfl rfl (fun hc=>?_);(first | (with_reducible refine Xb.t hc ?_)) <;> clear hc))
    all_goals try (exfalso;contradiction)
    rw [← ha9, ← hTl]
    refine X.lp rfl (fun q F' H' => ∃ (j : Nat) (a0 b0 w0 : Int),q = T.length - j∧j ≤ T.length∧askO (wid2 R m) T (askI (wid2 R m) x (T.drop j) (a0,b0,w0)) = Fin ∧ -1 ≤ w0∧w0 ≤ 120∧H' = ⟨bt,0,L.flatMap cI,some 3,kt * 1⟩::⟨b8,0,cCt R p (some ⟨b,0,none⟩) k,some 93,6⟩::⟨b,0,(plcs R).flatMap cPk,some 101,k * 2⟩::H∧F' = [(1,.int .i64 m),(4,.int .i64 a0),(5,.int .i64 b0),(6,.int .i64 w0),(8,.pointer (some ⟨b8,0,none⟩)),(9,.slice (some ⟨bt,0,none⟩) L.length kt),(10,.int .i64 i),(11,.int .i64 x),(32,.slice (some ⟨bt,0,none⟩) L.length kt),(33,.int .i64 L.length),(34,.int .i64 i),(42,.slice a9 T.length (kt - (i + 1))),(43,.int .i64 T.length),(44,.int .i64 j)])
     T.length [(1,.int .i64 m),(4,.int .i64 a0),(5,.int .i64 b0),(6,.int .i64 w0),(8,.pointer (some ⟨b8,0,none⟩)),(9,.slice (some ⟨bt,0,none⟩) L.length kt),(10,.int .i64 i),(11,.int .i64 x),(32,.slice (some ⟨bt,0,none⟩) L.length kt),(33,.int .i64 L.length),(34,.int .i64 i),(42,.slice a9 T.length (kt - (i + 1))),(43,.int .i64 T.length),(44,.int .i64 (0 : Nat))] (⟨bt,0,L.flatMap cI,some 3,kt * 1⟩::⟨b8,0,cCt R p (some ⟨b,0,none⟩) k,some 93,6⟩::⟨b,0,(plcs R).flatMap cPk,some 101,k * 2⟩::H) (by repeat (first | exact uU _ | refine uV rfl ?_)) (by repeat (first | exact qR _ | apply qK | apply qC)) ⟨0,a0,b0,w0,by omega,by omega,hI,hw1,hw2,rfl,rfl⟩ ?_
    clear hI hw1 hw2 a0 b0 w0
    rintro _ _ _ ⟨j,a0,b0,w0,rfl,hj,hI,hw1,hw2,rfl,rfl⟩
    by_cases hlj : j < T.length
    ·obtain ⟨b9,o9,y,hq9,hy⟩:=(hS1 (⟨bt,0,L.flatMap cI,some 3,kt * 1⟩::⟨b8,0,cCt R p (some ⟨b,0,none⟩) k,some 93,6⟩::⟨b,0,(plcs R).flatMap cPk,some 101,k * 2⟩::H) (qH _)).elem (i:=j) hlj
     subst hq9
     have hyp:=hLp y (hTm y (List.mem_of_getElem? hy))
     have hdf:=fun S hS=>differ_spec R p (some ⟨b,0,none⟩) k ⟨x,m⟩ ⟨y,m⟩ S hr hok.mats hS hok.lens.ages hok.lens.mats hbk hxp hyp hT
     have hbd:=rng_bd hr hok.mats hT hxp hyp
     have hwd : wid2 R m x y = (rng R R.mats ⟨x,m⟩ ⟨y,m⟩).hi - (rng R R.mats ⟨x,m⟩ ⟨y,m⟩).lo:=rfl
     obtain ⟨s,hs⟩ : ∃ s,s = rng R R.mats ⟨x,m⟩ ⟨y,m⟩:=⟨_,rfl⟩
     rw [← hs] at hdf hbd hwd
     have hstep : askI (wid2 R m) x (y::T.drop (j + 1)) (a0,b0,w0)=askI (wid2 R m) x (T.drop (j + 1)) (if w0 < wid2 R m x y then (x,y,wid2 R m x y) else (a0,b0,w0)):=rfl
     rw [drop_cons hy,hstep,hwd] at hI
     by_cases hgt : w0 < s.hi - s.lo
     ·rw [if_pos hgt] at hI
      repeat' (first | (refine uP rfl ?_;(first | ((first | refine uN rfl ?_);(first | (refine uE (uQ (b:=true) rfl rfl rfl (congrArg some (decide_eq_true (by omega)))) rfl rfl ?_)|(refine uE (uL rfl rfl (LoadV.el0 (hS1 _ (by repeat (first | exact qH _ | apply qT))) hy (te rfl) rfl (fun _ hm=>hm) rfl)) rfl rfl ?_)|(refine uE (uL rfl rfl (uW (T:=93) (cs:=cCt R p (some ⟨b,0,none⟩) k) (te rfl) rfl (by repeat (first | exact qH _ | apply qT)) rfl)) rfl rfl ?_)|(refine uE (EvF.build (cs:=cPk ⟨x,m⟩) rfl (ArgsP.cons rfl (ArgsP.cons rfl ArgsP.nil)) (te rfl) (Places.cons (te rfl) (Places.cons (te rfl) Places.nil)) Try.zeroValue101 rfl) rfl rfl ?_)|(refine uE (EvF.build (cs:=cPk ⟨y,m⟩) rfl (ArgsP.cons rfl (ArgsP.cons rfl ArgsP.nil)) (te rfl) (Places.cons (te rfl) (Places.cons (te rfl) Places.nil)) Try.zeroValue101 rfl) rfl rfl ?_)|(refine uC (uT rfl (Args.cons rfl (Args.cons rfl (Args.cons rfl Args.nil)))) rfl rfl (hdf _ (hC _ (fun _ h=>by repeat (first | exact h | apply qT)) (by repeat (first | exact qH _ | apply qT)))) ?_;rintro _ H9 ⟨rfl,hH9⟩;subst H9)|(refine uE (uM rfl rfl) rfl rfl ?_)|(refine uE (uA rfl rfl) rfl rfl ?_)|(refine uE (EvF.sub64 rfl rfl rfl (by omega) (by omega)) rfl rfl ?_)|(refine uE (uF rfl rfl (te rfl) rfl (te rfl) (by decide)) rfl rfl ?_)|(refine uE (uJ rfl rfl rfl (te rfl) (te rfl) (by omega) (by omega)) rfl rfl ?_)|(refine uE (uL rfl rfl (uO (te rfl) rfl (qH _) rfl)) rfl rfl ?_)|(refine Xg.st (StF.alloc rfl Try.zeroValue35 rfl) rfl rfl ?_;rintro _ _ ⟨bx,rfl,rfl⟩)|(refine Xg.st0 (uZ (i:=0) rfl rfl rfl (te rfl) rfl rfl rfl rfl) rfl ?_;rintro _ _ ⟨rfl,rfl⟩;dsimp only [List.set])))))|(refine uD rfl ?_;refine hK _ _ ?_;clear hK K) | refine uS rfl ?_ | refine uR rfl (fun K hK=>?_) | refine X.block rfl ?_ | refine X.skip rfl ?_ | (refine X.ite rfl rfl (fun hc=>?_);(first | (with_reducible refine Xb.t hc ?_)) <;> clear hc))
      all_goals try (exfalso;contradiction)
      generalize bx = b14
      refine X.regionOb tsAq [1,8,9,10,11,13,14,32,33,34,42,43,44] [(1,(.int .i64 m)),(8,(.pointer (some ⟨b8,0,none⟩))),(9,(.slice (some ⟨bt,0,none⟩) L.length kt)),(10,(.int .i64 i)),(11,.int .i64 x),(13,.int .i64 y),(14,.pointer (some ⟨b14,0,none⟩)),(32,(.slice (some ⟨bt,0,none⟩) L.length kt)),(33,(.int .i64 L.length)),(34,(.int .i64 i)),(42,(.slice (some ⟨b9,o9,none⟩) T.length (kt - (i + 1)))),(43,(.int .i64 T.length)),(44,(.int .i64 j))] (valAq b14 x y s (.int .i64 m) (.pointer (some ⟨b8,0,none⟩)) (.slice (some ⟨bt,0,none⟩) L.length kt) (.int .i64 i) (.slice (some ⟨bt,0,none⟩) L.length kt) (.int .i64 L.length) (.int .i64 i) (.slice (some ⟨b9,o9,none⟩) T.length (kt - (i + 1))) (.int .i64 T.length) (.int .i64 j)) (rowsAq b14 x y s (.int .i64 m) (.pointer (some ⟨b8,0,none⟩)) (.slice (some ⟨bt,0,none⟩) L.length kt) (.int .i64 i) (.slice (some ⟨bt,0,none⟩) L.length kt) (.int .i64 L.length) (.int .i64 i) (.slice (some ⟨b9,o9,none⟩) T.length (kt - (i + 1))) (.int .i64 T.length) (.int .i64 j)) (fun _=>(0,0)) (⟨b14,0,cSp s,some 35,2⟩::⟨bt,0,L.flatMap cI,some 3,kt * 1⟩::⟨b8,0,cCt R p (some ⟨b,0,none⟩) k,some 93,6⟩::⟨b,0,(plcs R).flatMap cPk,some 101,k * 2⟩::H) rfl mixed (by repeat (first | exact uU _ | refine uV rfl ?_)) rfl (by kernel_rfl) (locAq b14 x y s (.int .i64 m) (.pointer (some ⟨b8,0,none⟩)) (.slice (some ⟨bt,0,none⟩) L.length kt) (.int .i64 i) (.slice (some ⟨bt,0,none⟩) L.length kt) (.int .i64 L.length) (.int .i64 i) (.slice (some ⟨b9,o9,none⟩) T.length (kt - (i + 1))) (.int .i64 T.length) (.int .i64 j)) (qR _) ?_ ?_
      ·repeat' (first | exact AllF.done rfl | (refine AllF.step rfl ?_ ?_;·(first | fail | ((first | refine Ob.ng rfl ?_);(first | exact uK (fun env R hR=>by exact ⟨_,uM rfl rfl,rfl⟩) rfl (fun _=>rfl) | exact uK (fun env R hR=>by exact ⟨_,uA rfl rfl,rfl⟩) rfl (fun _=>rfl) | exact uK (fun env R hR=>by exact ⟨_,uF rfl rfl (te rfl) rfl (te rfl) (by decide),rfl⟩) rfl (fun _=>rfl) | exact uK (fun env R hR=>by exact ⟨_,uL rfl rfl (uO (te rfl) rfl (hR _ (qH _)) rfl),rfl⟩) rfl (fun _=>rfl)|(exact uK (fun env S hS=>⟨_,EvF.sub64 rfl rfl rfl (by omega) (by omega),rfl⟩) rfl (fun _=>rfl)))))))
      intro env t ha2 hv;refine ⟨_,((ha2.cons (hv 7 4 (Nat.le_of_ble_eq_true rfl) rfl)).cons (hv 8 5 (Nat.le_of_ble_eq_true rfl) rfl)).cons (hv 9 6 (Nat.le_of_ble_eq_true rfl) rfl),?_⟩;clear hv ha2
      repeat' (first | (refine uP rfl ?_;(first | ((first | refine uN rfl ?_);(first | (refine uE (uM rfl rfl) rfl rfl ?_)|(refine uE (EvF.add64 rfl rfl rfl (by omega) (by omega)) rfl rfl ?_)))))|(refine uD rfl ?_;refine hK _ _ ?_;clear hK K) | refine uR rfl (fun K hK=>?_))
      exact ⟨_,_,⟨bt,0,L.flatMap cI,some 3,kt * 1⟩::⟨b8,0,cCt R p (some ⟨b,0,none⟩) k,some 93,6⟩::⟨b,0,(plcs R).flatMap cPk,some 101,k * 2⟩::H,(by repeat (first | exact uU _ | refine uV rfl ?_)),(by repeat (first | exact qR _ | apply qK | apply qC)),⟨j + 1,x,y,s.hi - s.lo,rfl,by omega,hI,by omega,by omega,rfl,rfl⟩,by omega⟩
     ·rw [if_neg hgt] at hI
      repeat' (first | (refine uP rfl ?_;(first | ((first | refine uN rfl ?_);(first | (refine uE (uQ (b:=true) rfl rfl rfl (congrArg some (decide_eq_true (by omega)))) rfl rfl ?_)|(refine uE (uQ (b:=false) rfl rfl rfl (congrArg some (decide_eq_false (by omega)))) rfl rfl ?_)|(refine uE (uL rfl rfl (LoadV.el0 (hS1 _ (by repeat (first | exact qH _ | apply qT))) hy (te rfl) rfl (fun _ hm=>hm) rfl)) rfl rfl ?_)|(refine uE (uL rfl rfl (uW (T:=93) (cs:=cCt R p (some ⟨b,0,none⟩) k) (te rfl) rfl (by repeat (first | exact qH _ | apply qT)) rfl)) rfl rfl ?_)|(refine uE (EvF.build (cs:=cPk ⟨x,m⟩) rfl (ArgsP.cons rfl (ArgsP.cons rfl ArgsP.nil)) (te rfl) (Places.cons (te rfl) (Places.cons (te rfl) Places.nil)) Try.zeroValue101 rfl) rfl rfl ?_)|(refine uE (EvF.build (cs:=cPk ⟨y,m⟩) rfl (ArgsP.cons rfl (ArgsP.cons rfl ArgsP.nil)) (te rfl) (Places.cons (te rfl) (Places.cons (te rfl) Places.nil)) Try.zeroValue101 rfl) rfl rfl ?_)|(refine uC (uT rfl (Args.cons rfl (Args.cons rfl (Args.cons rfl Args.nil)))) rfl rfl (hdf _ (hC _ (fun _ h=>by repeat (first | exact h | apply qT)) (by repeat (first | exact qH _ | apply qT)))) ?_;rintro _ H9 ⟨rfl,hH9⟩;subst H9)|(refine uE (uM rfl rfl) rfl rfl ?_)|(refine uE (uA rfl rfl) rfl rfl ?_)|(refine uE (EvF.add64 rfl rfl rfl (by omega) (by omega)) rfl rfl ?_)|(refine uE (EvF.sub64 rfl rfl rfl (by omega) (by omega)) rfl rfl ?_)|(refine uE (uF rfl rfl (te rfl) rfl (te rfl) (by decide)) rfl rfl ?_)|(refine uE (uJ rfl rfl rfl (te rfl) (te rfl) (by omega) (by omega)) rfl rfl ?_)|(refine uE (uL rfl rfl (uO (te rfl) rfl (qH _) rfl)) rfl rfl ?_)|(refine Xg.st (StF.alloc rfl Try.zeroValue35 rfl) rfl rfl ?_;rintro _ _ ⟨bx,rfl,rfl⟩)|(refine Xg.st0 (uZ (i:=0) rfl rfl rfl (te rfl) rfl rfl rfl rfl) rfl ?_;rintro _ _ ⟨rfl,rfl⟩;dsimp only [List.set])))))|(refine uD rfl ?_;refine hK _ _ ?_;clear hK K) | refine uS rfl ?_ | refine uR rfl (fun K hK=>?_) | refine X.block rfl ?_ | refine X.skip rfl ?_ | (refine X.ite rfl rfl (fun hc=>?_);(first | (with_reducible refine Xb.t hc ?_)|(with_reducible refine Xb.f hc ?_)) <;> clear hc))
      all_goals try (exfalso;contradiction)
      exact ⟨_,_,⟨bt,0,L.flatMap cI,some 3,kt * 1⟩::⟨b8,0,cCt R p (some ⟨b,0,none⟩) k,some 93,6⟩::⟨b,0,(plcs R).flatMap cPk,some 101,k * 2⟩::H,(by repeat (first | exact uU _ | refine uV rfl ?_)),(by repeat (first | exact qR _ | apply qK | apply qC)),⟨j + 1,a0,b0,w0,rfl,by omega,hI,by omega,by omega,rfl,rfl⟩,by omega⟩
    ·obtain rfl : j = T.length:=by omega
     rw [List.drop_length] at hI
     have hI : askO (wid2 R m) T (a0,b0,w0)=Fin:=hI
     rw [hTd] at hI
     repeat' (first | (refine uP rfl ?_;(first | ((first | refine uN rfl ?_);(first | (refine uE (uQ (b:=false) rfl rfl rfl (congrArg some (decide_eq_false (by omega)))) rfl rfl ?_)|(refine uE (uM rfl rfl) rfl rfl ?_)|(refine uE (EvF.add64 rfl rfl rfl (by omega) (by omega)) rfl rfl ?_)))))|(refine uD rfl ?_;refine hK _ _ ?_;clear hK K) | refine uS rfl ?_ | refine uR rfl (fun K hK=>?_)|(refine X.brk rfl ?_;repeat (first | refine blockX_hit rfl ?_ | refine blockX_miss (by decide) ?_))|(refine X.ite rfl rfl (fun hc=>?_);(first | (with_reducible refine Xb.f hc ?_)) <;> clear hc))
     all_goals try (exfalso;contradiction)
     exact ⟨_,_,⟨bt,0,L.flatMap cI,some 3,kt * 1⟩::⟨b8,0,cCt R p (some ⟨b,0,none⟩) k,some 93,6⟩::⟨b,0,(plcs R).flatMap cPk,some 101,k * 2⟩::H,(by repeat (first | exact uU _ | refine uV rfl ?_)),(by repeat (first | exact qR _ | apply qK | apply qC)),⟨i + 1,a0,b0,w0,rfl,by omega,hI,by omega,by omega,rfl,rfl⟩,by omega⟩
   ·obtain rfl : i = L.length:=by omega
    rw [List.drop_length] at hI
    have hI : (a0,b0,w0)=Fin:=hI
    repeat' (first | (refine uP rfl ?_;(first | ((first | refine uN rfl ?_);(first | (refine uE (uQ (b:=false) rfl rfl rfl (congrArg some (decide_eq_false (by omega)))) rfl rfl ?_)|(refine uE (uM rfl rfl) rfl rfl ?_)|(refine uE (uA rfl rfl) rfl rfl ?_)))))|(refine uD rfl ?_;refine hK _ _ ?_;clear hK K) | refine uS rfl ?_ | refine uR rfl (fun K hK=>?_)|(refine X.brk rfl ?_;repeat (first | refine blockX_hit rfl ?_ | refine blockX_miss (by decide) ?_)) | refine X.ret rfl ?_ | (refine X.ite rfl rfl (fun hc=>?_);(first | (with_reducible refine Xb.f hc ?_)) <;> clear hc))
    all_goals try (exfalso;contradiction)
    exact ret_four (by simp) Try.results36 rfl rfl rfl rfl (H' := H) (by (repeat (first | exact qR _ | apply qC));done) ⟨by rw [← hI],rfl⟩
 ·have hF : askF R m = ((0,0,0),e):=by unfold askF;rw [if_neg (by rw [he];exact h0),he]
  rw [hF]
  refine Fc.mk (callable Try.call36) Try.func36 rfl Try.ntmps36 rfl ?_;dsimp only [fr]
  repeat' (first | (refine uP rfl ?_;(first | ((first | refine uN rfl ?_);(first | (refine uE (uQ (b:=true) rfl rfl rfl (congrArg some (nd_t (by omega)))) rfl rfl ?_)|(refine Xg.st (StF.buildOne (v0 := .int .i64 m) rfl el55 rfl rfl rfl (by decide) (by decide)) rfl rfl ?_;rintro _ _ ⟨b1,rfl,rfl⟩)|(refine uE (EvF.build (cs:=cBt ⟨[],none,0,[m],some ⟨b1,0,none⟩,1⟩) rfl (ArgsP.cons rfl ArgsP.nil) (te rfl) (Places.cons (te rfl) (Places.cons (te rfl) Places.nil)) Try.zeroValue98 rfl) rfl rfl ?_)|(refine uC (uT rfl (Args.cons rfl (Args.cons rfl Args.nil))) rfl rfl (openN (hR.sub (fun _ h=>by repeat (first | exact h | apply qT))) (hbt _ b1 (qH _)) h2 he h0) ?_;rintro _ H9 ⟨rfl,hH9⟩;subst H9)|(refine Xg.st (StF.alloc rfl Try.zeroValue93 rfl) rfl rfl ?_;rintro _ _ ⟨b8,rfl,rfl⟩)|(refine Xg.st0 (uZ (i:=0) (vs:=zCt) rfl rfl rfl (te rfl) rfl rfl rfl rfl) rfl ?_;rintro _ _ ⟨rfl,rfl⟩;dsimp only [List.set])|(refine uE (uM rfl rfl) rfl rfl ?_)|(refine uE (uA rfl rfl) rfl rfl ?_)|(refine uE (uL rfl rfl (uW (te rfl) rfl (qH _) rfl)) rfl rfl ?_)|(refine uE (uX rfl rfl rfl) rfl rfl ?_)|(refine Xg.st (StF.boxAgg rfl rfl) rfl rfl ?_;rintro _ _ ⟨bx,rfl,rfl⟩)))))|(refine uD rfl ?_;refine hK _ _ ?_;clear hK K) | refine uS rfl ?_ | refine uR rfl (fun K hK=>?_) | refine X.ret rfl ?_ | (refine X.ite rfl rfl (fun hc=>?_);(first | (with_reducible refine Xb.t hc ?_)) <;> clear hc))
  all_goals try (exfalso;contradiction)
  exact ret_four (by simp) Try.results36 rfl rfl rfl rfl (H' := H) (by (repeat (first | exact qR _ | apply qC));done) ⟨rfl,rfl⟩
def thL (m : Int) (l : List Bx) : List Int:=(l.filter (fun b=>decide (b.made ≤ m))).map (·.id)
theorem eqE (e : Sp) (w : World) : (Op.equalIn 10000 35 (.agg (cSp e).toArray) (.agg (cSp e).toArray)).run Try.prog w = .ok true w:=by
 rw [eqSp 9998,decide_eq_true rfl]
theorem aYel (po : Pl) (S : List Row) (h : RmOk S RE po) : Fc Try.prog 17 [.agg (cRm RE po).toArray,.int .i64 1,.int .i64 3] S (fun v H' => v = .tuple #[.agg (cSp ⟨4,12⟩).toArray,.int .i64 0]∧H' = S):=by
 have:=kYellow_spec RE po 1 3 S h (Nat.le_of_ble_eq_true rfl)
 rw [vYel] at this
 exact this
theorem aDif (po : Pl) (S : List Row) (h : RmOk S RE po) : Fc Try.prog 19 [.agg (cRm RE po).toArray,.int .i64 1,.int .i64 2,.int .i64 3] S (fun v H' => v = .tuple #[.agg (cSp ⟨-2,10⟩).toArray,.int .i64 0]∧H' = S):=by
 have:=kDiffer_spec RE po 1 2 3 S h (Nat.le_of_ble_eq_true rfl)
 rw [vDif] at this
 exact this
theorem aKno (po : Pl) (S : List Row) (h : RmOk S RE po) : Fc Try.prog 24 [.agg (cRm RE po).toArray,.int .i64 1,.int .i64 3,.int .i64 12] S (fun v H' => v = .tuple #[.int .u8 1,.int .i64 0]∧H' = S):=by
 have:=kKnown_spec RE po 1 3 12 S h (Nat.le_of_ble_eq_true rfl)
 rw [vKno] at this
 exact this
theorem aOrd (po : Pl) (S : List Row) (h : RmOk S RE po) : Fc Try.prog 26 [.agg (cRm RE po).toArray,.int .i64 2,.int .i64 1,.int .i64 2] S (fun v H' => v = .tuple #[.int .u8 0,.int .i64 0]∧H' = S):=by
 have:=kOrder_spec RE po 2 1 2 S h (Nat.le_of_ble_eq_true rfl)
 rw [vOrd] at this
 exact this
theorem aPer (po : Pl) (S : List Row) (h : RmOk S RE po) : Fc Try.prog 28 [.agg (cRm RE po).toArray,.int .i64 1,.int .i64 8] S (fun v H' => v = .tuple #[.int .i64 2,.int .i64 0]∧H' = S):=by
 have:=kPerhaps_spec RE po 1 8 S h (Nat.le_of_ble_eq_true rfl)
 rw [vPer] at this
 exact this
theorem aSur (po : Pl) (S : List Row) (h : RmOk S RE po) : Fc Try.prog 30 [.agg (cRm RE po).toArray,.int .i64 1,.int .i64 4] S (fun v H' => v = .tuple #[.int .i64 2,.int .i64 0]∧H' = S):=by
 have:=kSurely_spec RE po 1 4 S h (Nat.le_of_ble_eq_true rfl)
 rw [vSur] at this
 exact this
theorem aDue (po : Pl) (S : List Row) (h : RmOk S RE po) : Fc Try.prog 32 [.agg (cRm RE po).toArray,.int .i64 7] S (fun v H' => ∃ a c Z,v = .tuple #[.int .i64 2,.slice a 1 c,.int .i64 0]∧SlE (Z++S) a cI 1 [1]∧H' = Z++S):=by
 have:=kDue_spec RE po 7 S h (Nat.le_of_ble_eq_true rfl)
 rw [vDue] at this
 exact this
theorem aFre (po : Pl) (S : List Row) (h : RmOk S RE po) : Fc Try.prog 34 [.agg (cRm RE po).toArray,.int .i64 2] S (fun v H' => ∃ a c Z,v = .tuple #[.slice a 1 c,.int .i64 0]∧SlE (Z++S) a cI 1 [2]∧H' = Z++S):=by
 have:=kFresh_spec RE po 2 S h (Nat.le_of_ble_eq_true rfl)
 rw [vFre] at this
 exact this
theorem aAsk (po : Pl) (S : List Row) (h : RmOk S RE po) : Fc Try.prog 36 [.agg (cRm RE po).toArray,.int .i64 3] S (fun v H' => v = .tuple #[.int .i64 1,.int .i64 2,.int .i64 12,.int .i64 0]∧H' = S):=by
 have:=kAsk_spec RE po 3 S h (Nat.le_of_ble_eq_true rfl)
 rw [vAsk] at this
 exact this
theorem aWhy (po : Pl) (S : List Row) (h : RmOk S RE po) : Fc Try.prog 39 [.agg (cRm RE po).toArray,.int .i64 1,.int .i64 2] S (fun v H' => ∃ a c Z,v = .tuple #[.slice a 1 c,.int .i64 0]∧SlE (Z++S) a cI 1 [1]∧H' = Z++S):=by
 have:=kWhy_spec RE po 1 2 S h (Nat.le_of_ble_eq_true rfl)
 rw [vWhy] at this
 exact this
theorem aRst (po : Pl) (S : List Row) (h : RmOk S RE po) : Fc Try.prog 41 [.agg (cRm RE po).toArray,.int .i64 1,.int .i64 2] S (fun v H' => ∃ a c Z,v = .tuple #[.slice a 1 c,.int .i64 0]∧SlE (Z++S) a cI 1 [1]∧H' = Z++S):=by
 have:=kRests_spec RE po 1 2 S h (Nat.le_of_ble_eq_true rfl)
 rw [vRst] at this
 exact this
theorem aCan (po : Pl) (S : List Row) (h : RmOk S RO po) : Fc Try.prog 15 [.agg (cRm RO po).toArray] S (fun v H' => v = .tuple #[.bool false,.int .i64 0]∧H' = S):=by
 have:=kCan_spec RO po S h
 rw [vCan] at this
 exact this
theorem aWrg (po : Pl) (S : List Row) (h : RmOk S RO po) : Fc Try.prog 43 [.agg (cRm RO po).toArray] S (fun v H' => ∃ a c Z,v = .tuple #[.slice a 1 c,.int .i64 0]∧SlE (Z++S) a cI 1 [1]∧H' = Z++S):=by
 have:=kWrong_spec RO po S h (Nat.le_of_ble_eq_true rfl)
 rw [vWrg] at this
 exact this
def tsKal : List TOp:=[⟨some 54,[],[],[]⟩,⟨some 55,[0],[0],[]⟩,⟨some 56,[0,1],[1],[]⟩,⟨some 57,[0,1,2],[],[]⟩,⟨some 58,[0,1,2],[],[]⟩,⟨some 59,[0,1,2,3,4],[3,4],[]⟩,⟨some 60,[0,1,2,3,4,5],[2,5],[]⟩,⟨some 61,[0,1,2,3,4,5,6],[6],[]⟩,⟨some 62,[0,1,2,3,4,5,6,7],[],[]⟩,⟨some 63,[0,1,2,3,4,5,6,7,8],[8],[]⟩,⟨some 64,[0,1,2,3,4,5,6,7,8,9],[7,9],[]⟩,⟨some 65,[0,1,2,3,4,5,6,7,8,9,10],[10],[]⟩,⟨some 66,[0,1,2,3,4,5,6,7,8,9,10,11],[],[]⟩,⟨some 67,[0,1,2,3,4,5,6,7,8,9,10,11],[],[]⟩,⟨some 68,[0,1,2,3,4,5,6,7,8,9,10,11,12,13],[12,13],[]⟩,⟨some 69,[0,1,2,3,4,5,6,7,8,9,10,11,12,13,14],[11,14],[]⟩,⟨some 70,[0,1,2,3,4,5,6,7,8,9,10,11,12,13,14,15],[15],[]⟩,⟨some 71,[0,1,2,3,4,5,6,7,8,9,10,11,12,13,14,15,16],[],[]⟩,⟨some 72,[0,1,2,3,4,5,6,7,8,9,10,11,12,13,14,15,16,17],[17],[]⟩,⟨some 73,[0,1,2,3,4,5,6,7,8,9,10,11,12,13,14,15,16,17,18],[16,18],[]⟩,⟨some 74,[0,1,2,3,4,5,6,7,8,9,10,11,12,13,14,15,16,17,18,19],[19],[]⟩,⟨some 75,[0,1,2,3,4,5,6,7,8,9,10,11,12,13,14,15,16,17,18,19,20],[],[]⟩,⟨some 76,[0,1,2,3,4,5,6,7,8,9,10,11,12,13,14,15,16,17,18,19,20,21],[21],[]⟩,⟨some 77,[0,1,2,3,4,5,6,7,8,9,10,11,12,13,14,15,16,17,18,19,20,21,22],[20,22],[]⟩,⟨some 78,[0,1,2,3,4,5,6,7,8,9,10,11,12,13,14,15,16,17,18,19,20,21,22,23],[23],[]⟩,⟨some 79,[0,1,2,3,4,5,6,7,8,9,10,11,12,13,14,15,16,17,18,19,20,21,22,23,24],[],[]⟩,⟨some 80,[0,1,2,3,4,5,6,7,8,9,10,11,12,13,14,15,16,17,18,19,20,21,22,23,24,25],[25],[]⟩,⟨some 81,[0,1,2,3,4,5,6,7,8,9,10,11,12,13,14,15,16,17,18,19,20,21,22,23,24,25,26],[24,26],[]⟩,⟨some 82,[0,1,2,3,4,5,6,7,8,9,10,11,12,13,14,15,16,17,18,19,20,21,22,23,24,25,26,27],[27],[]⟩,⟨some 83,[0,1,2,3,4,5,6,7,8,9,10,11,12,13,14,15,16,17,18,19,20,21,22,23,24,25,26,27,28],[],[]⟩,⟨some 84,[0,1,2,3,4,5,6,7,8,9,10,11,12,13,14,15,16,17,18,19,20,21,22,23,24,25,26,27,28,29],[29],[]⟩,⟨some 85,[0,1,2,3,4,5,6,7,8,9,10,11,12,13,14,15,16,17,18,19,20,21,22,23,24,25,26,27,28,29,30],[28,30],[]⟩,⟨some 86,[0,1,2,3,4,5,6,7,8,9,10,11,12,13,14,15,16,17,18,19,20,21,22,23,24,25,26,27,28,29,30,31],[31],[]⟩,⟨some 87,[0,1,2,3,4,5,6,7,8,9,10,11,12,13,14,15,16,17,18,19,20,21,22,23,24,25,26,27,28,29,30,31,32],[],[]⟩,⟨some 88,[0,1,2,3,4,5,6,7,8,9,10,11,12,13,14,15,16,17,18,19,20,21,22,23,24,25,26,27,28,29,30,31,32,33],[33],[]⟩,⟨some 89,[0,1,2,3,4,5,6,7,8,9,10,11,12,13,14,15,16,17,18,19,20,21,22,23,24,25,26,27,28,29,30,31,32,33,34],[32,34],[]⟩,⟨some 90,[0,1,2,3,4,5,6,7,8,9,10,11,12,13,14,15,16,17,18,19,20,21,22,23,24,25,26,27,28,29,30,31,32,33,34,35],[35],[]⟩,⟨some 91,[0,1,2,3,4,5,6,7,8,9,10,11,12,13,14,15,16,17,18,19,20,21,22,23,24,25,26,27,28,29,30,31,32,33,34,35,36],[],[]⟩,⟨some 92,[0,1,2,3,4,5,6,7,8,9,10,11,12,13,14,15,16,17,18,19,20,21,22,23,24,25,26,27,28,29,30,31,32,33,34,35,36,37],[37],[]⟩,⟨some 93,[0,1,2,3,4,5,6,7,8,9,10,11,12,13,14,15,16,17,18,19,20,21,22,23,24,25,26,27,28,29,30,31,32,33,34,35,36,37,38],[36,38],[]⟩,⟨some 94,[0,1,2,3,4,5,6,7,8,9,10,11,12,13,14,15,16,17,18,19,20,21,22,23,24,25,26,27,28,29,30,31,32,33,34,35,36,37,38,39],[39],[]⟩,⟨some 95,[0,1,2,3,4,5,6,7,8,9,10,11,12,13,14,15,16,17,18,19,20,21,22,23,24,25,26,27,28,29,30,31,32,33,34,35,36,37,38,39,40],[],[]⟩,⟨some 96,[0,1,2,3,4,5,6,7,8,9,10,11,12,13,14,15,16,17,18,19,20,21,22,23,24,25,26,27,28,29,30,31,32,33,34,35,36,37,38,39,40,41],[41],[]⟩,⟨some 97,[0,1,2,3,4,5,6,7,8,9,10,11,12,13,14,15,16,17,18,19,20,21,22,23,24,25,26,27,28,29,30,31,32,33,34,35,36,37,38,39,40,41,42],[40,42],[]⟩,⟨some 98,[0,1,2,3,4,5,6,7,8,9,10,11,12,13,14,15,16,17,18,19,20,21,22,23,24,25,26,27,28,29,30,31,32,33,34,35,36,37,38,39,40,41,42,43],[43],[]⟩,⟨some 99,[0,1,2,3,4,5,6,7,8,9,10,11,12,13,14,15,16,17,18,19,20,21,22,23,24,25,26,27,28,29,30,31,32,33,34,35,36,37,38,39,40,41,42,43,44],[],[]⟩,⟨some 100,[0,1,2,3,4,5,6,7,8,9,10,11,12,13,14,15,16,17,18,19,20,21,22,23,24,25,26,27,28,29,30,31,32,33,34,35,36,37,38,39,40,41,42,43,44,45],[45],[]⟩,⟨some 101,[0,1,2,3,4,5,6,7,8,9,10,11,12,13,14,15,16,17,18,19,20,21,22,23,24,25,26,27,28,29,30,31,32,33,34,35,36,37,38,39,40,41,42,43,44,45,46],[44,46],[]⟩]
def valKal (b1 b3 : Nat) (k : Nat) (env : Env) : Value :=
 match k with
 | 0 => .int .i64 0
 | 1 => .bool false
 | 2 => .bool false
 | 3=>gt (false) (.agg (cSp ⟨4,12⟩).toArray)
 | 4=>gt (false) (.agg (cSp ⟨4,12⟩).toArray)
 | 5=>gt (false) (.bool false)
 | 6 => .bool false
 | 7 => .bool false
 | 8=>gt (false) (.int .i64 0)
 | 9=>gt (false) (.bool false)
 | 10 => .bool false
 | 11 => .bool false
 | 12=>gt (false) (.agg (cSp ⟨-2,10⟩).toArray)
 | 13=>gt (false) (.agg (cSp ⟨-2,10⟩).toArray)
 | 14=>gt (false) (.bool false)
 | 15 => .bool false
 | 16 => .bool false
 | 17=>gt (false) (.int .i64 0)
 | 18=>gt (false) (.bool false)
 | 19 => .bool false
 | 20 => .bool false
 | 21=>gt (false) (.int .u8 1)
 | 22=>gt (false) (.bool false)
 | 23 => .bool false
 | 24 => .bool false
 | 25=>gt (false) (.int .i64 0)
 | 26=>gt (false) (.bool false)
 | 27 => .bool false
 | 28 => .bool false
 | 29=>gt (false) (.int .u8 0)
 | 30=>gt (false) (.bool false)
 | 31 => .bool false
 | 32 => .bool false
 | 33=>gt (false) (.int .i64 0)
 | 34=>gt (false) (.bool false)
 | 35 => .bool false
 | 36 => .bool false
 | 37=>gt (false) (.int .i64 2)
 | 38=>gt (false) (.bool false)
 | 39 => .bool false
 | 40 => .bool false
 | 41=>gt (false) (.int .i64 0)
 | 42=>gt (false) (.bool false)
 | 43 => .bool false
 | 44 => .bool false
 | 45=>gt (false) (.int .i64 2)
 | 46=>gt (false) (.bool false)
 | 47 => .bool false
 | _=>undef
def rowsKal (b1 b3 : Nat) (k : Nat) (env : Env) : List Row :=
 match k with
 | _=>[]
theorem locKal (b1 b3 : Nat) : ∀ k env i q9,i ≠ k → (tAt tsKal k).sup.contains i = false → valKal b1 b3 k (upd env i q9)=valKal b1 b3 k env∧rowsKal b1 b3 k (upd env i q9)=rowsKal b1 b3 k env:=by
 intro k env i q hk hs
 have hu : ∀ j,j ≠ i → upd env i q j = env j:=fun j hj=>by unfold upd;rw [if_neg hj]
 match k,hk,hs with
 | 0,_,_=>exact ⟨rfl,rfl⟩
 | 1,_,_=>exact ⟨rfl,rfl⟩
 | 2,_,_=>exact ⟨rfl,rfl⟩
 | 3,_,_=>exact ⟨rfl,rfl⟩
 | 4,_,_=>exact ⟨rfl,rfl⟩
 | 5,_,_=>exact ⟨rfl,rfl⟩
 | 6,_,_=>exact ⟨rfl,rfl⟩
 | 7,_,_=>exact ⟨rfl,rfl⟩
 | 8,_,_=>exact ⟨rfl,rfl⟩
 | 9,_,_=>exact ⟨rfl,rfl⟩
 | 10,_,_=>exact ⟨rfl,rfl⟩
 | 11,_,_=>exact ⟨rfl,rfl⟩
 | 12,_,_=>exact ⟨rfl,rfl⟩
 | 13,_,_=>exact ⟨rfl,rfl⟩
 | 14,_,_=>exact ⟨rfl,rfl⟩
 | 15,_,_=>exact ⟨rfl,rfl⟩
 | 16,_,_=>exact ⟨rfl,rfl⟩
 | 17,_,_=>exact ⟨rfl,rfl⟩
 | 18,_,_=>exact ⟨rfl,rfl⟩
 | 19,_,_=>exact ⟨rfl,rfl⟩
 | 20,_,_=>exact ⟨rfl,rfl⟩
 | 21,_,_=>exact ⟨rfl,rfl⟩
 | 22,_,_=>exact ⟨rfl,rfl⟩
 | 23,_,_=>exact ⟨rfl,rfl⟩
 | 24,_,_=>exact ⟨rfl,rfl⟩
 | 25,_,_=>exact ⟨rfl,rfl⟩
 | 26,_,_=>exact ⟨rfl,rfl⟩
 | 27,_,_=>exact ⟨rfl,rfl⟩
 | 28,_,_=>exact ⟨rfl,rfl⟩
 | 29,_,_=>exact ⟨rfl,rfl⟩
 | 30,_,_=>exact ⟨rfl,rfl⟩
 | 31,_,_=>exact ⟨rfl,rfl⟩
 | 32,_,_=>exact ⟨rfl,rfl⟩
 | 33,_,_=>exact ⟨rfl,rfl⟩
 | 34,_,_=>exact ⟨rfl,rfl⟩
 | 35,_,_=>exact ⟨rfl,rfl⟩
 | 36,_,_=>exact ⟨rfl,rfl⟩
 | 37,_,_=>exact ⟨rfl,rfl⟩
 | 38,_,_=>exact ⟨rfl,rfl⟩
 | 39,_,_=>exact ⟨rfl,rfl⟩
 | 40,_,_=>exact ⟨rfl,rfl⟩
 | 41,_,_=>exact ⟨rfl,rfl⟩
 | 42,_,_=>exact ⟨rfl,rfl⟩
 | 43,_,_=>exact ⟨rfl,rfl⟩
 | 44,_,_=>exact ⟨rfl,rfl⟩
 | 45,_,_=>exact ⟨rfl,rfl⟩
 | 46,_,_=>exact ⟨rfl,rfl⟩
 | 47,_,_=>exact ⟨rfl,rfl⟩
 | _ + 48,_,_=>exact ⟨rfl,rfl⟩
set_option maxHeartbeats 8000000 in
theorem alive_spec (H : List Row) : Fc Try.prog 45 [] H (fun v H' => v = .bool true∧H' = H):=by
 refine Fc.mk (callable Try.call45) Try.func45 rfl Try.ntmps45 rfl ?_;dsimp only [fr]
 repeat' (first | (refine uP rfl ?_;(first | ((first | refine uN rfl ?_);(first | (refine uC (uT rfl (by (repeat (first | exact Args.nil | refine Args.cons rfl ?_));done)) rfl rfl (roomRE _) ?_;rintro _ _ ⟨po,Z,rfl,hpo,rfl⟩)|(refine uE (uX rfl rfl rfl) rfl rfl ?_)|(refine uC (uT rfl (Args.cons rfl (Args.cons rfl (Args.cons rfl Args.nil)))) rfl rfl (aYel po _ (hpo _)) ?_;rintro _ H9 ⟨rfl,hH9⟩;subst H9)|(refine uC (uT rfl (by (repeat (first | exact Args.nil | refine Args.cons rfl ?_));done)) rfl rfl (aDif po _ (hpo _)) ?_;rintro _ H9 ⟨rfl,hH9⟩;subst H9)|(refine uC (uT rfl (by (repeat (first | exact Args.nil | refine Args.cons rfl ?_));done)) rfl rfl (aKno po _ (hpo _)) ?_;rintro _ H9 ⟨rfl,hH9⟩;subst H9)|(refine uC (uT rfl (by (repeat (first | exact Args.nil | refine Args.cons rfl ?_));done)) rfl rfl (aOrd po _ (hpo _)) ?_;rintro _ H9 ⟨rfl,hH9⟩;subst H9)|(refine uC (uT rfl (Args.cons rfl (Args.cons rfl (Args.cons rfl Args.nil)))) rfl rfl (aPer po _ (hpo _)) ?_;rintro _ H9 ⟨rfl,hH9⟩;subst H9)|(refine uC (uT rfl (Args.cons rfl (Args.cons rfl (Args.cons rfl Args.nil)))) rfl rfl (aSur po _ (hpo _)) ?_;rintro _ H9 ⟨rfl,hH9⟩;subst H9)|(refine Xg.st (StF.alloc rfl Try.zeroValue35 rfl) rfl rfl ?_;rintro _ _ ⟨bx,rfl,rfl⟩)|(refine Xg.st0 (uZ (i:=0) (vs:=cSp ⟨4,12⟩) rfl rfl rfl (te rfl) rfl rfl rfl rfl) rfl ?_;rintro _ _ ⟨rfl,rfl⟩;dsimp only [List.set])|(refine Xg.st0 (uZ (i:=0) (vs:=cSp ⟨-2,10⟩) rfl rfl rfl (te rfl) rfl rfl rfl rfl) rfl ?_;rintro _ _ ⟨rfl,rfl⟩;dsimp only [List.set])|(refine uE (uM rfl rfl) rfl rfl ?_)|(refine uE (uA rfl rfl) rfl rfl ?_)))))|(refine uD rfl ?_;refine hK _ _ ?_;clear hK K) | refine uS rfl ?_ | refine uR rfl (fun K hK=>?_))
 generalize bx = b3
 rename_i b1 p1 Z1 h1 p2 Z2 h2 p3 Z3 h3 p4 Z4 h4
 refine X.weak (F' := [(1,.pointer (some ⟨b1,0,none⟩)),(2,.int .i64 0),(3,.pointer (some ⟨b3,0,none⟩)),(4,.int .i64 0),(5,.int .u8 1),(6,.int .i64 0),(7,.int .u8 0),(8,.int .i64 0),(9,.int .i64 2),(10,.int .i64 0),(11,.int .i64 2),(12,.int .i64 0)]) (H' := ⟨b3,0,cSp ⟨-2,10⟩,some 35,2⟩::⟨b1,0,cSp ⟨4,12⟩,some 35,2⟩::H) (by repeat (first | exact uU _ | refine uV rfl ?_)) (by repeat (first | exact qR _ | apply qK | apply qC | refine List.Sublist.trans ?_ (List.sublist_append_right _ _))) ?_
 clear hpo h1 h2 h3 h4
 refine X.regionOb tsKal [1,2,3,4,5,6,7,8,9,10,11,12] [(1,.pointer (some ⟨b1,0,none⟩)),(2,.int .i64 0),(3,.pointer (some ⟨b3,0,none⟩)),(4,.int .i64 0),(5,.int .u8 1),(6,.int .i64 0),(7,.int .u8 0),(8,.int .i64 0),(9,.int .i64 2),(10,.int .i64 0),(11,.int .i64 2),(12,.int .i64 0)] (valKal b1 b3) (rowsKal b1 b3) (fun _=>(0,0)) (⟨b3,0,cSp ⟨-2,10⟩,some 35,2⟩::⟨b1,0,cSp ⟨4,12⟩,some 35,2⟩::H) rfl mixed (by repeat (first | exact uU _ | refine uV rfl ?_)) rfl (by kernel_rfl) (locKal b1 b3) (qR _) ?_ ?_
 ·repeat' (first | exact AllF.done rfl | (refine AllF.step rfl ?_ ?_;·(first | fail | ((first | refine Ob.ng rfl ?_ | refine Ob.g rfl rfl (fun _=>rfl) ?_);(first | exact uK (fun env R hR=>by exact ⟨_,uM rfl rfl,rfl⟩) rfl (fun _=>rfl) | exact uK (fun env R hR=>by exact ⟨_,EvF.pickF rfl rfl rfl,rfl⟩) rfl (fun _=>rfl) | exact uK (fun env R hR=>by exact ⟨_,uQ rfl rfl rfl rfl,rfl⟩) rfl (fun _=>rfl) | exact uK (fun env R hR=>by exact ⟨_,uL rfl rfl (uW (te rfl) rfl (hR _ (qH _)) rfl),rfl⟩) rfl (fun _=>rfl) | exact uK (fun env R hR=>by exact ⟨_,uL rfl rfl (uW (te rfl) rfl (hR _ (qT _ (qH _))) rfl),rfl⟩) rfl (fun _=>rfl)|(exact fun env S hS=>OpF.callV (Z:=[]) (uT rfl (Args.cons rfl (Args.cons rfl Args.nil))) (lawSpan 4 12 S) rfl rfl)|(exact fun env S hS=>OpF.callV (Z:=[]) (uT rfl (Args.cons rfl (Args.cons rfl Args.nil))) (lawSpan (-2) 10 S) rfl rfl)|(exact uK (fun env S hS=>⟨.bool false,EvF.eqSt (r:=true) rfl rfl rfl (by kernel_rfl) (fun w=>eqE ⟨4,12⟩ w) rfl,rfl⟩) rfl (fun _=>rfl))|(exact uK (fun env S hS=>⟨.bool false,EvF.eqSt (r:=true) rfl rfl rfl (by kernel_rfl) (fun w=>eqE ⟨-2,10⟩ w) rfl,rfl⟩) rfl (fun _=>rfl)))))))
 intro env t ha2 hv;refine ⟨_,ha2.cons (hv 47 101 (Nat.le_of_ble_eq_true rfl) rfl),?_⟩;clear hv ha2
 refine X.weak (F' := [(101,.bool false)]) (H' := H) (by repeat (first | exact uU _ | refine uV rfl ?_)) (by repeat (first | exact qR _ | apply qK | apply qC | refine List.Sublist.trans ?_ (List.sublist_append_right _ _))) ?_
 clear env
 clear b1 b3 p1 p2 p3 p4 Z1 Z2 Z3 Z4
 repeat' (first | (refine uP rfl ?_;(first | ((first | refine uN rfl ?_ | (refine Xo.g rfl rfl ?_;with_reducible refine Xw.tt ?_));(first | (refine uE (uQ (b:=true) rfl rfl rfl (congrArg some (decide_eq_true (by omega)))) rfl rfl ?_)|(refine uC (uT rfl Args.nil) rfl rfl (oddRO _) ?_;rintro _ _ ⟨po,Z,rfl,hpo,rfl⟩)|(refine uC (uT rfl (by (repeat (first | exact Args.nil | refine Args.cons rfl ?_));done)) rfl rfl (roomRE _) ?_;rintro _ _ ⟨po,Z,rfl,hpo,rfl⟩)|(refine uE (uX rfl rfl rfl) rfl rfl ?_)|(refine uC (uT rfl (by (repeat (first | exact Args.nil | refine Args.cons rfl ?_));done)) rfl rfl (aDue po _ (hpo _)) ?_;rintro _ _ ⟨a1,c1,Z1,rfl,s1,rfl⟩)|(refine uC (uT rfl (by (repeat (first | exact Args.nil | refine Args.cons rfl ?_));done)) rfl rfl (aFre po _ (hpo _)) ?_;rintro _ _ ⟨a2,c2,Z2,rfl,s2,rfl⟩)|(refine uC (uT rfl (by (repeat (first | exact Args.nil | refine Args.cons rfl ?_));done)) rfl rfl (aAsk po _ (hpo _)) ?_;rintro _ H9 ⟨rfl,hH9⟩;subst H9)|(refine uC (uT rfl (by (repeat (first | exact Args.nil | refine Args.cons rfl ?_));done)) rfl rfl (aWhy po _ (hpo _)) ?_;rintro _ _ ⟨a3,c3,Z3,rfl,s3,rfl⟩)|(refine uC (uT rfl (by (repeat (first | exact Args.nil | refine Args.cons rfl ?_));done)) rfl rfl (aRst po _ (hpo _)) ?_;rintro _ _ ⟨a4,c4,Z4,rfl,s4,rfl⟩)|(refine uC (uT rfl (by (repeat (first | exact Args.nil | refine Args.cons rfl ?_));done)) rfl rfl (aCan po _ (hpo _)) ?_;rintro _ H9 ⟨rfl,hH9⟩;subst H9)|(refine uC (uT rfl (by (repeat (first | exact Args.nil | refine Args.cons rfl ?_));done)) rfl rfl (aWrg po _ (hpo _)) ?_;rintro _ _ ⟨a5,c5,Z5,rfl,s5,rfl⟩)|(refine Xg.st (StF.buildOne (cs:=[.int .i64 1]) rfl el55 rfl rfl rfl (by decide) (by decide)) rfl rfl ?_;rintro _ _ ⟨bq,rfl,rfl⟩)|(refine Xg.st (StF.buildOne (cs:=[.int .i64 2]) rfl el55 rfl rfl rfl (by decide) (by decide)) rfl rfl ?_;rintro _ _ ⟨bq,rfl,rfl⟩)|(refine uC (uT rfl (Args.cons rfl (Args.cons rfl (Args.cons rfl Args.nil)))) rfl rfl (ints_spec [1] a1 c1 bq [1] _ (s1.sub (fun _ h=>by repeat (first | exact h | apply List.mem_append_right | apply qT))) (SlE.ofRow (l:=[1]) (qH _) (fun _ _=>rfl)) rfl (by decide)) ?_;rintro _ H9 ⟨rfl,hH9⟩;subst H9)|(refine uC (uT rfl (Args.cons rfl (Args.cons rfl (Args.cons rfl Args.nil)))) rfl rfl (ints_spec [2] a2 c2 bq [2] _ (s2.sub (fun _ h=>by repeat (first | exact h | apply List.mem_append_right | apply qT))) (SlE.ofRow (l:=[2]) (qH _) (fun _ _=>rfl)) rfl (by decide)) ?_;rintro _ H9 ⟨rfl,hH9⟩;subst H9)|(refine uC (uT rfl (Args.cons rfl (Args.cons rfl (Args.cons rfl Args.nil)))) rfl rfl (ints_spec [1] a3 c3 bq [1] _ (s3.sub (fun _ h=>by repeat (first | exact h | apply List.mem_append_right | apply qT))) (SlE.ofRow (l:=[1]) (qH _) (fun _ _=>rfl)) rfl (by decide)) ?_;rintro _ H9 ⟨rfl,hH9⟩;subst H9)|(refine uC (uT rfl (Args.cons rfl (Args.cons rfl (Args.cons rfl Args.nil)))) rfl rfl (ints_spec [1] a4 c4 bq [1] _ (s4.sub (fun _ h=>by repeat (first | exact h | apply List.mem_append_right | apply qT))) (SlE.ofRow (l:=[1]) (qH _) (fun _ _=>rfl)) rfl (by decide)) ?_;rintro _ H9 ⟨rfl,hH9⟩;subst H9)|(refine uC (uT rfl (Args.cons rfl (Args.cons rfl (Args.cons rfl Args.nil)))) rfl rfl (ints_spec [1] a5 c5 bq [1] _ (s5.sub (fun _ h=>by repeat (first | exact h | apply List.mem_append_right | apply qT))) (SlE.ofRow (l:=[1]) (qH _) (fun _ _=>rfl)) rfl (by decide)) ?_;rintro _ H9 ⟨rfl,hH9⟩;subst H9)|(refine uE (uM rfl rfl) rfl rfl ?_)|(refine uE (uA rfl rfl) rfl rfl ?_)|(refine uE (EvF.pickT rfl rfl rfl) rfl rfl ?_)|(refine uE (EvF.pickF rfl rfl rfl) rfl rfl ?_)|(refine uE (EvF.not rfl rfl) rfl rfl ?_)))|(refine Xo.g rfl rfl ?_;(first | (with_reducible refine Xw.ft rfl rfl ?_)|(with_reducible refine Xw.caseB (fun h=>?_) (fun h=>?_) <;> simp only [h,decide_true,decide_false,Bool.not_true,Bool.not_false,and_self,and_true,true_and,and_false,false_and])))))|(refine uD rfl ?_;refine hK _ _ ?_;clear hK K) | refine uS rfl ?_ | refine uR rfl (fun K hK=>?_) | refine X.skip rfl ?_ | refine X.ret rfl ?_ | (refine X.ite rfl rfl (fun hc=>?_);(first | (with_reducible refine Xb.f hc ?_)) <;> clear hc))
 all_goals try (exfalso;contradiction)
 exact ret_one (by simp) Try.results45 rfl (H' := H) (by repeat (first | exact qR _ | apply qK | apply qC | refine List.Sublist.trans ?_ (List.sublist_append_right _ _))) ⟨rfl,rfl⟩
structure Rdy (R : Rm) : Prop where
 g : ¬ great R
 ok : roomOk R
 t : hasT R R.mats
set_option maxHeartbeats 4000000 in
theorem lawHas (l : List Int) (a : Option Addr) (c : Nat) (n : Int) (H : List Row) (hl : SlE H a cI 1 l) (hb : l.length ≤ 1000000) : Fc Try.prog 49 [.slice a l.length c,.int .i64 n] H (fun v H' => v = .bool (decide (n ∈ l))∧H' = H):=by
 obtain ⟨w,hw⟩ : ∃ w,w = decide (n ∈ l):=⟨_,rfl⟩
 rw [← hw]
 refine Fc.mk (callable Try.call49) Try.func49 rfl Try.ntmps49 rfl ?_;dsimp only [fr]
 repeat' (first | (refine uP rfl ?_;(first | ((first | refine uN rfl ?_);(first | (refine uE (uM rfl rfl) rfl rfl ?_)|(refine uE (uA rfl rfl) rfl rfl ?_)|(refine uE (uY rfl rfl (te rfl)) rfl rfl ?_)))))|(refine uD rfl ?_;refine hK _ _ ?_;clear hK K) | refine uS rfl ?_ | refine uR rfl (fun K hK=>?_) | refine X.block rfl ?_)
 refine X.lp rfl (fun q F' H' => ∃ k : Nat,q = l.length - k∧k ≤ l.length∧w = decide (n ∈ l.drop k)∧H = H'∧F' = [(1,.int .i64 n),(7,.slice a l.length c),(8,.int .i64 l.length),(9,.int .i64 k)])
  l.length [(1,.int .i64 n),(7,.slice a l.length c),(8,.int .i64 l.length),(9,.int .i64 (0 : Nat))] _ (by repeat (first | exact uU _ | refine uV rfl ?_)) (qR _) ⟨0,rfl,Nat.zero_le _,hw,rfl,rfl⟩ ?_
 clear hw
 rintro _ _ _ ⟨k,rfl,hk,hw,rfl,rfl⟩
 by_cases hlt : k < l.length
 ·obtain ⟨b,off,e,rfl,he⟩:=hl.elem (i:=k) hlt
  rw [drop_cons he] at hw
  by_cases heq : e = n
  ·rw [heq,decide_eq_true List.mem_cons_self] at hw
   subst hw
   repeat' (first | (refine uP rfl ?_;(first | ((first | refine uN rfl ?_);(first | (refine uE (uQ (b:=true) rfl rfl rfl (congrArg some (decide_eq_true (by omega)))) rfl rfl ?_)|(refine uE (uL rfl rfl (LoadV.el0 hl he (te rfl) rfl (fun _ hm=>hm) rfl)) rfl rfl ?_)|(refine uE (uM rfl rfl) rfl rfl ?_)|(refine uE (uA rfl rfl) rfl rfl ?_)|(refine uE (uJ rfl rfl rfl (te rfl) (te rfl) (by omega) (by omega)) rfl rfl ?_)))))|(refine uD rfl ?_;refine hK _ _ ?_;clear hK K) | refine uS rfl ?_ | refine uR rfl (fun K hK=>?_) | refine X.block rfl ?_ | refine X.skip rfl ?_ | refine X.ret rfl ?_ | (refine X.ite rfl rfl (fun hc=>?_);(first | (with_reducible refine Xb.t hc ?_)) <;> clear hc))
   all_goals try (exfalso;contradiction)
   exact ret_one (by simp) Try.results49 rfl (H' := H) (by repeat (first | exact qR _ | apply qK | apply qC)) ⟨rfl,rfl⟩
  ·repeat' (first | (refine uP rfl ?_;(first | ((first | refine uN rfl ?_);(first | (refine uE (uQ (b:=true) rfl rfl rfl (congrArg some (decide_eq_true (by omega)))) rfl rfl ?_)|(refine uE (uQ (b:=false) rfl rfl rfl (congrArg some (decide_eq_false (by omega)))) rfl rfl ?_)|(refine uE (uL rfl rfl (LoadV.el0 hl he (te rfl) rfl (fun _ hm=>hm) rfl)) rfl rfl ?_)|(refine uE (uM rfl rfl) rfl rfl ?_)|(refine uE (uA rfl rfl) rfl rfl ?_)|(refine uE (EvF.add64 rfl rfl rfl (by omega) (by omega)) rfl rfl ?_)|(refine uE (uJ rfl rfl rfl (te rfl) (te rfl) (by omega) (by omega)) rfl rfl ?_)))))|(refine uD rfl ?_;refine hK _ _ ?_;clear hK K) | refine uS rfl ?_ | refine uR rfl (fun K hK=>?_) | refine X.block rfl ?_ | refine X.skip rfl ?_ | (refine X.ite rfl rfl (fun hc=>?_);(first | (with_reducible refine Xb.t hc ?_)|(with_reducible refine Xb.f hc ?_)) <;> clear hc))
   all_goals try (exfalso;contradiction)
   refine ⟨_,_,H,(by repeat (first | exact uU _ | refine uV rfl ?_)),(by repeat (first | exact qR _ | apply qK | apply qC)),⟨k + 1,rfl,by omega,?_,rfl,rfl⟩,by omega⟩
   rw [hw]
   refine decide_eq_decide.2 ⟨fun h=>?_,fun h=>List.mem_cons_of_mem _ h⟩
   rcases List.mem_cons.1 h with h | h
   ·exact absurd h.symm heq
   ·exact h
 ·obtain rfl : k = l.length:=by omega
  rw [List.drop_length] at hw
  have hw : w = false:=hw
  subst hw
  repeat' (first | (refine uP rfl ?_;(first | ((first | refine uN rfl ?_);(first | (refine uE (uQ (b:=false) rfl rfl rfl (congrArg some (decide_eq_false (by omega)))) rfl rfl ?_)|(refine uE (uA rfl rfl) rfl rfl ?_)))))|(refine uD rfl ?_;refine hK _ _ ?_;clear hK K) | refine uS rfl ?_ | refine uR rfl (fun K hK=>?_)|(refine X.brk rfl ?_;repeat (first | refine blockX_hit rfl ?_ | refine blockX_miss (by decide) ?_)) | refine X.ret rfl ?_ | (refine X.ite rfl rfl (fun hc=>?_);(first | (with_reducible refine Xb.f hc ?_)) <;> clear hc))
  all_goals try (exfalso;contradiction)
  exact ret_one (by simp) Try.results49 rfl (H' := H) (by repeat (first | exact qR _ | apply qK | apply qC)) ⟨rfl,rfl⟩
theorem byte_und : (Try.prog.underlying 5).isSome = true:=by kernel_rfl
theorem int_undI : Try.prog.underlying 3 = some (.int .i64):=by kernel_rfl
theorem thL_len (m : Int) (l : List Bx) : (thL m l).length ≤ l.length:=by
 unfold thL;rw [List.length_map];exact List.length_filter_le _ _
theorem rem_nat {a : Int} {n : Nat} (ha : 0 ≤ a) (hn : 0 < n) : ∃ i : Nat,i < n∧a % (n : Int)=(i : Int):=by
 have h1:=Int.emod_nonneg a (b:=(n : Int)) (by omega)
 have h2:=Int.emod_lt_of_pos a (b:=(n : Int)) (by omega)
 exact ⟨(a % (n : Int)).toNat,by omega,by omega⟩
theorem bx_one {R : Rm} (hok : roomOk R) {b c : Bx} (hb : b ∈ R.boxes) (hc : c ∈ R.boxes) (h : b.id = c.id) : b = c:=by
 have hpw:=List.pairwise_iff_getElem.1 (okBoxes_pw R.months R.boxes 0 hok.2.2.1)
 obtain ⟨i,hi,rfl⟩:=List.mem_iff_getElem.1 hb
 obtain ⟨j,hj,rfl⟩:=List.mem_iff_getElem.1 hc
 rcases Nat.lt_trichotomy i j with q | q | q
 ·have:=hpw i j hi hj q;omega
 ·subst q;rfl
 ·have:=hpw j i hj hi q;omega
theorem rdy_there {R : Rm} {m a : Int} (hm : 0 ≤ m∧m ≤ R.months - 1) (ha : a ∈ thI R m) : ∃ b,there R b m∧b.id = a:=(mem_thI hm.2).1 ha
theorem rdy_pl {R : Rm} {m a : Int} (hm : 0 ≤ m∧m ≤ R.months - 1) (ha : a ∈ thI R m) : (⟨a,m⟩ : Pk) ∈ plcs R:=by
 obtain ⟨b,hb,rfl⟩:=rdy_there hm ha
 exact plcs_mem hb
theorem rdy_open {R : Rm} (h : Rdy R) {l : List Int} {m : Int} (hm : 0 ≤ m∧m ≤ R.months - 1) (hl : ∀ a ∈ l,a ∈ thI R m) : openE R l [m] = 0:=by
 unfold openE
 have h2 : allThere R l:=fun a ha=>by
  obtain ⟨b,hb,hba⟩:=rdy_there hm (hl a ha)
  exact ⟨b,hb.1,hba⟩
 have h3 : inTime R l [m]:=fun q hq=>by
  rw [List.mem_singleton.1 hq]
  refine ⟨hm,?_⟩
  rintro ⟨b,hb,hb1,hb2⟩
  obtain ⟨c,hc,hcb⟩:=rdy_there hm (hl _ hb2)
  have:=bx_one h.ok hc.1 hb hcb
  subst this
  have:=hc.2.1
  omega
 rw [if_pos h.ok,if_pos h2,if_pos h3,if_pos h.t]
theorem rdy_ex {R : Rm} (h : Rdy R) {m a b : Int} (hm : 0 ≤ m∧m ≤ R.months - 1) (ha : a ∈ thI R m) (hb : b ∈ thI R m) : ExR R R.mats ⟨a,m⟩ ⟨b,m⟩ (rng R R.mats ⟨a,m⟩ ⟨b,m⟩):=ex_mem h.ok.ok h.ok.mats h.t (rdy_pl hm ha) (rdy_pl hm hb)
theorem rdy_exz {R : Rm} (h : Rdy R) {m a : Int} (hm : 0 ≤ m∧m ≤ R.months - 1) (ha : a ∈ thI R m) : ExR R R.mats ⟨a,m⟩ zp (rng R R.mats ⟨a,m⟩ zp):=ex_mem h.ok.ok h.ok.mats h.t (rdy_pl hm ha) (zp_mem R)
theorem rdy_dif {R : Rm} (h : Rdy R) {m a b : Int} (hm : 0 ≤ m∧m ≤ R.months - 1) (ha : a ∈ thI R m) (hb : b ∈ thI R m) (hn : a ≠ b) : difF R a b m = (rng R R.mats ⟨a,m⟩ ⟨b,m⟩,0):=by
 unfold difF
 rw [if_pos (rdy_open h hm (fun x hx=>by
  rcases List.mem_cons.1 hx with rfl | hx
  ·exact ha
  ·rw [List.mem_singleton.1 hx];exact hb)),if_neg hn]
theorem rdy_yel {R : Rm} (h : Rdy R) {m a : Int} (hm : 0 ≤ m∧m ≤ R.months - 1) (ha : a ∈ thI R m) : yelF R a m = (rng R R.mats ⟨a,m⟩ zp,0):=by
 unfold yelF
 rw [if_pos (rdy_open h hm (fun x hx=>by rw [List.mem_singleton.1 hx];exact ha))]
theorem thI_of {R : Rm} {m : Int} {b : Bx} (hb : b ∈ R.boxes) (hm : b.made ≤ m) : b.id ∈ thI R m:=by
 unfold thI
 exact List.mem_map.2 ⟨b,List.mem_filter.2 ⟨hb,decide_eq_true hm⟩,rfl⟩
theorem rdy_open0 {R : Rm} (h : Rdy R) {m : Int} (hm : 0 ≤ m∧m ≤ R.months - 1) : openE R [] [m] = 0:=rdy_open h hm (fun a ha=>absurd ha List.not_mem_nil)
def Hold (p : Prop) : Prop:=p
theorem Hold.out {p : Prop} (h : Hold p) : p:=h
theorem rdy_open1 {R : Rm} (h : Rdy R) {b : Bx} (hb : b ∈ R.boxes) : openE R [b.id] [] = 0:=by
 unfold openE
 rw [if_pos h.ok,if_pos (show allThere R [b.id] from fun a ha=>⟨b,hb,(List.mem_singleton.1 ha).symm⟩),if_pos (show inTime R [b.id] [] from fun a ha=>absurd ha List.not_mem_nil),if_pos h.t]
theorem rdy_bx {R : Rm} (h : Rdy R) {b : Bx} (hb : b ∈ R.boxes) {m : Int} (h1 : b.made ≤ m) (h2 : m ≤ R.months - 1) : there R b m∧(0 ≤ m∧m ≤ R.months - 1)∧b.id ∈ thI R m:=by
 have:=okBoxes_mem _ _ _ h.ok.2.2.1 b hb
 exact ⟨⟨hb,h1,h2⟩,⟨by omega,h2⟩,thI_of hb h1⟩
theorem mon_step {R : Rm} (h : Rdy R) {b : Bx} {m : Int} (hb : there R b m) (hb2 : there R b (m + 1)) : ((rng R R.mats ⟨b.id,m⟩ zp).lo ≤ (rng R R.mats ⟨b.id,m + 1⟩ zp).lo∧(rng R R.mats ⟨b.id,m⟩ zp).hi ≤ (rng R R.mats ⟨b.id,m + 1⟩ zp).hi)∧(rng R R.mats ⟨b.id,m + 1⟩ zp).lo ≤ (rng R R.mats ⟨b.id,m⟩ zp).lo + R.step∧(rng R R.mats ⟨b.id,m + 1⟩ zp).hi ≤ (rng R R.mats ⟨b.id,m⟩ zp).hi + R.step:=by
 have e1:=rdy_exz h (rdy_bx h hb.1 hb.2.1 hb.2.2).2.1 (thI_of hb.1 hb.2.1)
 have e2:=rdy_exz h (rdy_bx h hb2.1 hb2.2.1 hb2.2.2).2.1 (thI_of hb2.1 hb2.2.1)
 obtain ⟨z1,q1,w1⟩:=e1.lo
 obtain ⟨z2,q2,w2⟩:=e1.hi
 obtain ⟨z3,q3,w3⟩:=e2.lo
 obtain ⟨z4,q4,w4⟩:=e2.hi
 have a1:=e2.all z1 q1
 have a2:=e2.all z2 q2
 have a3:=e1.all z3 q3
 have a4:=e1.all z4 q4
 have s1:=q1.step b m hb hb2
 have s2:=q2.step b m hb hb2
 have s3:=q3.step b m hb hb2
 have s4:=q4.step b m hb hb2
 omega
theorem mon_le {R : Rm} (h : Rdy R) {b : Bx} (hb : b ∈ R.boxes) : ∀ (k : Nat) (m : Int),b.made ≤ m → m + k ≤ R.months - 1 → (rng R R.mats ⟨b.id,m⟩ zp).lo ≤ (rng R R.mats ⟨b.id,m + k⟩ zp).lo∧(rng R R.mats ⟨b.id,m⟩ zp).hi ≤ (rng R R.mats ⟨b.id,m + k⟩ zp).hi
 | 0,m,_,_=>by rw [show m + ((0 : Nat) : Int)=m by omega];exact ⟨Int.le_refl _,Int.le_refl _⟩
 | k + 1,m,h1,h2=>by
  have:=mon_le h hb k m h1 (by omega)
  have g:=mon_step h (b:=b) (m:=m + k) ⟨hb,by omega,by omega⟩ ⟨hb,by omega,by omega⟩
  rw [show m + ((k + 1 : Nat) : Int)=m + k + 1 by omega]
  omega
set_option maxHeartbeats 1000000 in
theorem sin_facts {R : Rm} (h : Rdy R) {b : Bx} (hb : b ∈ R.boxes) (sure : Bool) (n : Int) : ∃ a e,sinF R b.id (sinS sure n)=(a,e)∧((e = 0∧b.made ≤ a∧a ≤ R.months - 1 ∧ ∀ m,there R b m → (n ≤ (if sure then (rng R R.mats ⟨b.id,m⟩ zp).lo else (rng R R.mats ⟨b.id,m⟩ zp).hi) ↔ a ≤ m))∨(e = 6∧a = 0 ∧ ∀ m,there R b m → ¬ n ≤ (if sure then (rng R R.mats ⟨b.id,m⟩ zp).lo else (rng R R.mats ⟨b.id,m⟩ zp).hi))):=by
 have hm1:=h.ok.ok.m1
 have hbm:=okBoxes_mem _ _ _ h.ok.2.2.1 b hb
 unfold sinF
 rw [if_pos (rdy_open1 h hb)]
 have hP : ∀ k : Nat,(k : Int)≤R.months - 1 → (sinP R b.id (sinS sure n) k = true ↔ (b.made ≤ k∧n ≤ (if sure then (rng R R.mats ⟨b.id,k⟩ zp).lo else (rng R R.mats ⟨b.id,k⟩ zp).hi))):=fun k hk=>by
  unfold sinP sinS
  simp only [Bool.and_eq_true,decide_eq_true_eq]
  constructor
  ·rintro ⟨⟨c,hc,hcb⟩,h2⟩
   have:=bx_one h.ok hc.1 hb hcb
   subst this
   exact ⟨hc.2.1,h2⟩
  ·rintro ⟨h1,h2⟩
   exact ⟨⟨b,⟨hb,h1,hk⟩,rfl⟩,h2⟩
 cases hf : fstM (sinP R b.id (sinS sure n)) 0 R.months.toNat with
 | some j =>
  obtain ⟨h1,h2,h3,h4⟩:=(fstM_iff _ _ _ _).1 hf
  have hj:=(hP j (by omega)).1 h3
  refine ⟨(j : Int),0,rfl,.inl ⟨rfl,hj.1,by omega,fun m hm=>?_⟩⟩
  constructor
  ·intro q
   rcases Int.lt_or_le m j with c | c
   ·have:=(hP m.toNat (by have:=hm.2.2;omega)).2 ⟨by have:=hm.2.1;omega,by rw [Int.toNat_of_nonneg (by have:=hm.2.1;omega)];exact q⟩
    rw [h4 m.toNat (Nat.zero_le _) (by have:=hm.2.1;omega)] at this
    cases this
   ·exact c
  ·intro q
   have g:=mon_le h hb (m - j).toNat (j : Int) hj.1 (by have:=hm.2.2;omega)
   rw [show (j : Int) + ((m - j).toNat : Int)=m by omega] at g
   have:=hj.2
   cases sure
   ·simp only [Bool.false_eq_true,if_false] at this ⊢;omega
   ·simp only [if_true] at this ⊢;omega
 | none =>
  refine ⟨0,6,rfl,.inr ⟨rfl,rfl,fun m hm q=>?_⟩⟩
  have hk:=(hP m.toNat (by have:=hm.2.2;omega)).2 ⟨by have:=hm.2.1;omega,by rw [Int.toNat_of_nonneg (by have:=hm.2.1;omega)];exact q⟩
  have : ∀ (q k : Nat),fstM (sinP R b.id (sinS sure n)) k q = none → ∀ i,k ≤ i → i < k + q → sinP R b.id (sinS sure n) i = false:=by
   intro q
   induction q with
   | zero=>intro k _ i h1 h2;omega
   | succ q ih =>
    intro k hn i h1 h2
    unfold fstM at hn
    by_cases c : sinP R b.id (sinS sure n) k = true
    ·rw [if_pos c] at hn;cases hn
    ·rw [if_neg c] at hn
     by_cases d : i = k
     ·rw [d];exact Bool.eq_false_iff.2 c
     ·exact ih (k + 1) hn i (by omega) (by omega)
  rw [this _ _ hf m.toNat (Nat.zero_le _) (by have:=hm.2.2;have:=hm.2.1;omega)] at hk
  cases hk
theorem fre_eq {R : Rm} (h : Rdy R) {m : Int} (hm : 0 ≤ m∧m ≤ R.months - 1) : freF R m = (freL R m,0):=by
 unfold freF
 rw [if_pos (rdy_open0 h hm)]
theorem mem_fre {R : Rm} {m a : Int} : a ∈ freL R m ↔ a ∈ thI R m ∧ ∀ b ∈ thI R m,(rng R R.mats ⟨a,m⟩ ⟨b,m⟩).lo ≤ 0:=by
 unfold freL stale
 rw [List.mem_filter]
 simp only [Bool.not_eq_true',List.any_eq_false,decide_eq_true_eq]
 exact ⟨fun q=>⟨q.1,fun b hb=>by have:=q.2 b hb;omega⟩,fun q=>⟨q.1,fun b hb=>by have:=q.2 b hb;omega⟩⟩
theorem fre_sub (R : Rm) (m : Int) : (freL R m).Sublist (thI R m):=List.filter_sublist
def yat (Y : List Int) (i : Nat) (m : Int) : Int:=Y.getD (i * 12 + m.toNat) 0
structure GY (R : Rm) (Y : List Int) (i : Nat) (mm : Int) : Prop where
 len : Y.length = 48
 bd : ∀ v ∈ Y,0 ≤ v∧v ≤ 60
 age : ∀ j b n,R.boxes[j]? = some b → b.made ≤ n → n ≤ R.months - 1 → (j < i∨(j = i∧n < mm)) → (R.ages.getD (n - b.made).toNat ⟨0,0⟩).lo ≤ yat Y j n∧yat Y j n ≤ (R.ages.getD (n - b.made).toNat ⟨0,0⟩).hi
 step : ∀ j b n,R.boxes[j]? = some b → b.made ≤ n → n + 1 ≤ R.months - 1 → (j < i∨(j = i∧n + 1 < mm)) → 0 ≤ yat Y j (n + 1) - yat Y j n∧yat Y j (n + 1) - yat Y j n ≤ R.step
theorem yat_bd {R : Rm} {Y : List Int} {i : Nat} {mm : Int} (h : GY R Y i mm) (j : Nat) (m : Int) : 0 ≤ yat Y j m∧yat Y j m ≤ 60:=by
 unfold yat
 rw [List.getD_eq_getElem?_getD]
 cases hc : Y[j * 12 + m.toNat]? with
 | none=>exact ⟨Int.le_refl _,by decide⟩
 | some v=>exact h.bd v (List.mem_of_getElem? hc)
theorem yat_set {Y : List Int} {i j : Nat} {m n v : Int} (hl : i * 12 + m.toNat < Y.length) (hm : 0 ≤ m∧m ≤ 11) (hn : 0 ≤ n∧n ≤ 11) : yat (Y.set (i * 12 + m.toNat) v) j n = if j = i∧n = m then v else yat Y j n:=by
 unfold yat
 simp only [List.getD_eq_getElem?_getD]
 by_cases e : j = i∧n = m
 ·obtain ⟨rfl,rfl⟩:=e
  rw [if_pos ⟨rfl,rfl⟩,List.getElem?_set_self hl];rfl
 ·rw [if_neg e,List.getElem?_set_ne (fun q=>e (by omega))]
theorem gy_zero {R : Rm} (hok : roomOk R) : GY R (List.replicate 48 0) 0 0 where
 len:=by simp
 bd:=fun v hv=>by rw [List.eq_of_mem_replicate hv];decide
 age:=fun j b n hb h1 _ h3=>by
  have:=okBoxes_mem _ _ _ hok.2.2.1 b (List.mem_of_getElem? hb)
  omega
 step:=fun j b n hb h1 _ h3=>by
  have:=okBoxes_mem _ _ _ hok.2.2.1 b (List.mem_of_getElem? hb)
  omega
theorem gy_in {R : Rm} {Y : List Int} {i : Nat} {b : Bx} (h : GY R Y i 0) (hb : R.boxes[i]? = some b) : GY R Y i b.made where
 len:=h.len
 bd:=h.bd
 age:=fun j c n hc h1 h2 h3=>h.age j c n hc h1 h2 (by
  rcases h3 with q | ⟨rfl,q⟩
  ·exact .inl q
  ·rw [hb] at hc;cases hc;omega)
 step:=fun j c n hc h1 h2 h3=>h.step j c n hc h1 h2 (by
  rcases h3 with q | ⟨rfl,q⟩
  ·exact .inl q
  ·rw [hb] at hc;cases hc;omega)
theorem gy_out {R : Rm} (hok : roomOk R) {Y : List Int} {i : Nat} (h : GY R Y i R.months) : GY R Y (i + 1) 0 where
 len:=h.len
 bd:=h.bd
 age:=fun j c n hc h1 h2 h3=>h.age j c n hc h1 h2 (by
  have:=okBoxes_mem _ _ _ hok.2.2.1 c (List.mem_of_getElem? hc)
  omega)
 step:=fun j c n hc h1 h2 h3=>h.step j c n hc h1 h2 (by
  have:=okBoxes_mem _ _ _ hok.2.2.1 c (List.mem_of_getElem? hc)
  omega)
theorem gy_set {R : Rm} (hok : roomOk R) {Y : List Int} {i : Nat} {m v : Int} {b : Bx} (h : GY R Y i m) (hb : R.boxes[i]? = some b) (h1 : b.made ≤ m) (h2 : m ≤ R.months - 1) (ha : (R.ages.getD (m - b.made).toNat ⟨0,0⟩).lo ≤ v∧v ≤ (R.ages.getD (m - b.made).toNat ⟨0,0⟩).hi) (hs : b.made < m → yat Y i (m - 1)≤v∧v ≤ yat Y i (m - 1) + R.step) : GY R (Y.set (i * 12 + m.toNat) v) i (m + 1):=by
 have hm12:=hok.ok.m12
 have hb4:=hok.ok.b4
 have hi:=(List.getElem?_eq_some_iff.1 hb).1
 have hbm:=okBoxes_mem _ _ _ hok.2.2.1 b (List.mem_of_getElem? hb)
 have hl : i * 12 + m.toNat < Y.length:=by rw [h.len];omega
 have hage:=hok.ok.age (b:=b) (m:=m) ⟨List.mem_of_getElem? hb,h1,h2⟩
 refine ⟨by rw [List.length_set];exact h.len,fun w hw=>?_,fun j c n hc g1 g2 g3=>?_,fun j c n hc g1 g2 g3=>?_⟩
 ·rcases List.mem_or_eq_of_mem_set hw with q | rfl
  ·exact h.bd w q
  ·omega
 ·have hcm:=okBoxes_mem _ _ _ hok.2.2.1 c (List.mem_of_getElem? hc)
  rw [yat_set hl (by omega) (by omega)]
  by_cases e : j = i∧n = m
  ·obtain ⟨rfl,rfl⟩:=e
   rw [hb] at hc;cases hc
   rw [if_pos ⟨rfl,rfl⟩];exact ha
  ·rw [if_neg e]
   exact h.age j c n hc g1 g2 (by omega)
 ·have hcm:=okBoxes_mem _ _ _ hok.2.2.1 c (List.mem_of_getElem? hc)
  rw [yat_set hl (by omega) (by omega),yat_set hl (by omega) (by omega)]
  by_cases e : j = i∧n + 1 = m
  ·obtain ⟨rfl,rfl⟩:=e
   rw [hb] at hc;cases hc
   rw [if_pos ⟨rfl,rfl⟩,if_neg (by omega)]
   have:=hs (by omega)
   rw [show n + 1 - 1 = n by omega] at this
   omega
  ·rw [if_neg e,if_neg (by omega)]
   exact h.step j c n hc g1 g2 (by omega)
theorem gy_tru {R : Rm} (hok : roomOk R) {Y : List Int} (h : GY R Y R.boxes.length 0) (hm : ∀ x ∈ R.mats,x.lo ≤ yat Y (index R.boxes x.a).toNat x.month - yat Y (index R.boxes x.b).toNat x.month∧yat Y (index R.boxes x.a).toNat x.month - yat Y (index R.boxes x.b).toNat x.month ≤ x.hi) :
  ∃ z,Tru R R.mats z ∧ ∀ j b m,R.boxes[j]? = some b → there R b m → z ⟨b.id,m⟩ = yat Y j m:=by
 have hid : ∀ b ∈ R.boxes,0 < b.id:=fun b hb=>(okBoxes_mem _ _ _ hok.2.2.1 b hb).1
 have hz : ∀ j b (m : Int),R.boxes[j]? = some b → (if b.id = 0 then (0 : Int) else yat Y (index R.boxes b.id).toNat m)=yat Y j m:=fun j b m hb=>by
  have:=hid b (List.mem_of_getElem? hb)
  rw [if_neg (by omega),index_box hok.ok.bx hb]
  rfl
 refine ⟨fun p=>if p.box = 0 then 0 else yat Y (index R.boxes p.box).toNat p.month,⟨rfl,fun b m hb=>?_,fun b m hb hb2=>?_,fun x hx=>?_⟩,fun j b m hb _=>hz j b m hb⟩
 ·obtain ⟨j,hj⟩:=List.mem_iff_getElem?.1 hb.1
  have hlt:=(List.getElem?_eq_some_iff.1 hj).1
  show _ ≤ (if b.id = 0 then (0 : Int) else yat Y (index R.boxes b.id).toNat m)∧(if b.id = 0 then (0 : Int) else yat Y (index R.boxes b.id).toNat m)≤_
  rw [hz j b m hj]
  exact h.age j b m hj hb.2.1 hb.2.2 (.inl hlt)
 ·obtain ⟨j,hj⟩:=List.mem_iff_getElem?.1 hb.1
  have hlt:=(List.getElem?_eq_some_iff.1 hj).1
  show 0 ≤ (if b.id = 0 then (0 : Int) else yat Y (index R.boxes b.id).toNat (m + 1)) - (if b.id = 0 then (0 : Int) else yat Y (index R.boxes b.id).toNat m)∧(if b.id = 0 then (0 : Int) else yat Y (index R.boxes b.id).toNat (m + 1)) - (if b.id = 0 then (0 : Int) else yat Y (index R.boxes b.id).toNat m)≤_
  rw [hz j b m hj,hz j b (m + 1) hj]
  exact h.step j b m hj hb.2.1 hb2.2.2 (.inl hlt)
 ·obtain ⟨⟨a,ha,ea⟩,⟨b,hb,eb⟩,_⟩:=hok.mats x hx
  have h1:=hid a ha.1
  have h2:=hid b hb.1
  show x.lo ≤ (if x.a = 0 then (0 : Int) else _) - (if x.b = 0 then (0 : Int) else _)∧(if x.a = 0 then (0 : Int) else _) - (if x.b = 0 then (0 : Int) else _)≤x.hi
  rw [if_neg (by omega),if_neg (by omega)]
  exact hm x hx
def cU (n : Int) : List Value:=[.int .u8 n]
structure Rst9 (p : Prop) : Prop where
 out : p
theorem oneIs (l : List Int) : (l.flatMap cI).all (·.oneCell') = true:=by
 rw [List.all_eq_true]
 intro v hv
 obtain ⟨s,_,h⟩:=List.mem_flatMap.1 hv
 simp only [cI,List.mem_cons,List.not_mem_nil,or_false] at h
 rcases h with rfl;rfl
theorem yat_cell {R : Rm} {Y : List Int} {i : Nat} {mm : Int} (h : GY R Y i mm) {j : Nat} {m : Int} (hj : j < 4) (hm : 0 ≤ m∧m ≤ 11) : (Y.flatMap cI)[0 + (j : Int).toNat * 12 + m.toNat * 1]? = some (.int .i64 (yat Y j m)):=by
 have hl:=h.len
 rw [show 0 + (j : Int).toNat * 12 + m.toNat * 1 = j * 12 + m.toNat by omega,get_cell]
 unfold yat
 rw [List.getD_eq_getElem?_getD,List.getElem?_eq_getElem (by omega)]
 rfl
def tsKg1 : List TOp:=[⟨some 43,[],[],[]⟩,⟨some 44,[0],[0],[]⟩,⟨some 45,[],[],[]⟩,⟨some 46,[],[],[]⟩,⟨some 47,[3],[3],[]⟩,⟨some 48,[2],[2],[]⟩,⟨some 49,[2,3,4,5],[5,4],[]⟩,⟨some 50,[2,3,4,5,6],[6],[]⟩,⟨some 51,[0,1,2,3,4,5,6,7],[1,7],[]⟩,⟨some 52,[],[],[]⟩,⟨some 53,[9],[9],[]⟩,⟨some 54,[],[],[]⟩,⟨some 55,[],[],[]⟩,⟨some 56,[12],[12],[]⟩,⟨some 57,[11],[11],[]⟩,⟨some 58,[11,12,13,14],[14,13],[]⟩,⟨some 59,[11,12,13,14,15],[15],[]⟩,⟨some 60,[],[],[]⟩,⟨some 61,[17],[17],[]⟩,⟨some 62,[11,12,13,14,15,16,17,18],[16,18],[]⟩,⟨some 63,[9,10,11,12,13,14,15,16,17,18,19],[10,19],[]⟩,⟨some 64,[0,1,2,3,4,5,6,7,8,9,10,11,12,13,14,15,16,17,18,19,20],[8,20],[]⟩,⟨none,[0,1,2,3,4,5,6,7,8,9,10,11,12,13,14,15,16,17,18,19,20,21],[21],[23]⟩,⟨none,[],[],[]⟩]
def valKg1 (b2 b4 b6 b9 b11 kk : Nat) (tn m : Int) (R : Rm) (bl : List Int) (ab : Option Addr) (cb : Nat) (q3 : Option Addr) (q4 : Nat) (s : Sp) (yv : Int) (k : Nat) (env : Env) : Value :=
 match k with
 | 0 => .pointer (some ⟨b11,0,none⟩)
 | 1 => .int .i64 s.lo
 | 2 => .int .i64 (kk : Nat)
 | 3 => .int .i64 m
 | 4 => .int .i64 (m - 1)
 | 5 => .pointer (some ⟨b6,0 + (kk : Int).toNat * 12,none⟩)
 | 6 => .pointer (some ⟨b6,0 + (kk : Int).toNat * 12 + (m - 1).toNat * 1,none⟩)
 | 7 => .int .i64 yv
 | 8 => .int .i64 (max s.lo yv)
 | 9 => .pointer (some ⟨b11,1,none⟩)
 | 10 => .int .i64 s.hi
 | 11 => .int .i64 (kk : Nat)
 | 12 => .int .i64 m
 | 13 => .int .i64 (m - 1)
 | 14 => .pointer (some ⟨b6,0 + (kk : Int).toNat * 12,none⟩)
 | 15 => .pointer (some ⟨b6,0 + (kk : Int).toNat * 12 + (m - 1).toNat * 1,none⟩)
 | 16 => .int .i64 yv
 | 17 => .pointer (some ⟨b2,1,none⟩)
 | 18 => .int .i64 R.step
 | 19 => .int .i64 (yv + R.step)
 | 20 => .int .i64 (min s.hi (yv + R.step))
 | 21 => .agg (cSp ⟨max s.lo yv,min s.hi (yv + R.step)⟩).toArray
 | 22=>undef
 | _=>undef
def rowsKg1 (b2 b4 b6 b9 b11 kk : Nat) (tn m : Int) (R : Rm) (bl : List Int) (ab : Option Addr) (cb : Nat) (q3 : Option Addr) (q4 : Nat) (s : Sp) (yv : Int) (k : Nat) (env : Env) : List Row :=
 match k with
 | 22=>[⟨b11,0,cSp ⟨max s.lo yv,min s.hi (yv + R.step)⟩,some 35,2⟩]
 | 23=>[⟨b11,0,cSp s,some 35,2⟩]
 | _=>[]
theorem locKg1 (b2 b4 b6 b9 b11 kk : Nat) (tn m : Int) (R : Rm) (bl : List Int) (ab : Option Addr) (cb : Nat) (q3 : Option Addr) (q4 : Nat) (s : Sp) (yv : Int) : ∀ k env i q9,i ≠ k → (tAt tsKg1 k).sup.contains i = false → valKg1 b2 b4 b6 b9 b11 kk tn m R bl ab cb q3 q4 s yv k (upd env i q9)=valKg1 b2 b4 b6 b9 b11 kk tn m R bl ab cb q3 q4 s yv k env∧rowsKg1 b2 b4 b6 b9 b11 kk tn m R bl ab cb q3 q4 s yv k (upd env i q9)=rowsKg1 b2 b4 b6 b9 b11 kk tn m R bl ab cb q3 q4 s yv k env:=by
 intro k env i q hk hs
 have hu : ∀ j,j ≠ i → upd env i q j = env j:=fun j hj=>by unfold upd;rw [if_neg hj]
 match k,hk,hs with
 | 0,_,_=>exact ⟨rfl,rfl⟩
 | 1,_,_=>exact ⟨rfl,rfl⟩
 | 2,_,_=>exact ⟨rfl,rfl⟩
 | 3,_,_=>exact ⟨rfl,rfl⟩
 | 4,_,_=>exact ⟨rfl,rfl⟩
 | 5,_,_=>exact ⟨rfl,rfl⟩
 | 6,_,_=>exact ⟨rfl,rfl⟩
 | 7,_,_=>exact ⟨rfl,rfl⟩
 | 8,_,_=>exact ⟨rfl,rfl⟩
 | 9,_,_=>exact ⟨rfl,rfl⟩
 | 10,_,_=>exact ⟨rfl,rfl⟩
 | 11,_,_=>exact ⟨rfl,rfl⟩
 | 12,_,_=>exact ⟨rfl,rfl⟩
 | 13,_,_=>exact ⟨rfl,rfl⟩
 | 14,_,_=>exact ⟨rfl,rfl⟩
 | 15,_,_=>exact ⟨rfl,rfl⟩
 | 16,_,_=>exact ⟨rfl,rfl⟩
 | 17,_,_=>exact ⟨rfl,rfl⟩
 | 18,_,_=>exact ⟨rfl,rfl⟩
 | 19,_,_=>exact ⟨rfl,rfl⟩
 | 20,_,_=>exact ⟨rfl,rfl⟩
 | 21,_,_=>exact ⟨rfl,rfl⟩
 | 22,_,_=>exact ⟨rfl,rfl⟩
 | 23,_,_=>exact ⟨rfl,rfl⟩
 | _ + 24,_,_=>exact ⟨rfl,rfl⟩
def rdKg1 (k : Nat) : List Nat:=match k with
 | 1=>[23]
 | 10=>[23]
 | _=>[]
def tsKg2 : List TOp:=[⟨some 71,[],[],[]⟩,⟨some 72,[],[],[]⟩,⟨some 73,[],[],[]⟩,⟨some 74,[2],[2],[]⟩,⟨some 75,[0],[0],[]⟩,⟨some 76,[0,1,2,3,4],[4,1],[]⟩,⟨none,[0,1,2,3,4,5],[5,3],[7]⟩,⟨none,[],[],[]⟩]
def valKg2 (b2 b4 b6 b9 b11 kk : Nat) (tn m : Int) (R : Rm) (bl : List Int) (ab : Option Addr) (cb : Nat) (q3 : Option Addr) (q4 : Nat) (s : Sp) (Y : List Int) (ix : Nat) (k : Nat) (env : Env) : Value :=
 match k with
 | 0 => .int .i64 (kk : Nat)
 | 1 => .int .i64 m
 | 2 => .pointer (some ⟨b11,0,none⟩)
 | 3 => .int .i64 s.lo
 | 4 => .pointer (some ⟨b6,0 + (kk : Int).toNat * 12,none⟩)
 | 5 => .pointer (some ⟨b6,0 + (kk : Int).toNat * 12 + (m).toNat * 1,none⟩)
 | 6=>undef
 | _=>undef
def rowsKg2 (b2 b4 b6 b9 b11 kk : Nat) (tn m : Int) (R : Rm) (bl : List Int) (ab : Option Addr) (cb : Nat) (q3 : Option Addr) (q4 : Nat) (s : Sp) (Y : List Int) (ix : Nat) (k : Nat) (env : Env) : List Row :=
 match k with
 | 6=>[⟨b6,0,(Y.set ix s.lo).flatMap cI,some 77,48⟩]
 | 7=>[⟨b6,0,(Y).flatMap cI,some 77,48⟩]
 | _=>[]
theorem locKg2 (b2 b4 b6 b9 b11 kk : Nat) (tn m : Int) (R : Rm) (bl : List Int) (ab : Option Addr) (cb : Nat) (q3 : Option Addr) (q4 : Nat) (s : Sp) (Y : List Int) (ix : Nat) : ∀ k env i q9,i ≠ k → (tAt tsKg2 k).sup.contains i = false → valKg2 b2 b4 b6 b9 b11 kk tn m R bl ab cb q3 q4 s Y ix k (upd env i q9)=valKg2 b2 b4 b6 b9 b11 kk tn m R bl ab cb q3 q4 s Y ix k env∧rowsKg2 b2 b4 b6 b9 b11 kk tn m R bl ab cb q3 q4 s Y ix k (upd env i q9)=rowsKg2 b2 b4 b6 b9 b11 kk tn m R bl ab cb q3 q4 s Y ix k env:=by
 intro k env i q hk hs
 have hu : ∀ j,j ≠ i → upd env i q j = env j:=fun j hj=>by unfold upd;rw [if_neg hj]
 match k,hk,hs with
 | 0,_,_=>exact ⟨rfl,rfl⟩
 | 1,_,_=>exact ⟨rfl,rfl⟩
 | 2,_,_=>exact ⟨rfl,rfl⟩
 | 3,_,_=>exact ⟨rfl,rfl⟩
 | 4,_,_=>exact ⟨rfl,rfl⟩
 | 5,_,_=>exact ⟨rfl,rfl⟩
 | 6,_,_=>exact ⟨rfl,rfl⟩
 | 7,_,_=>exact ⟨rfl,rfl⟩
 | _ + 8,_,_=>exact ⟨rfl,rfl⟩
def tsKg3 : List TOp:=[⟨some 80,[],[],[]⟩,⟨some 81,[],[],[]⟩,⟨some 82,[0],[0],[]⟩,⟨some 83,[0,1,2],[2,1],[]⟩,⟨some 84,[0,1,2,3],[3],[]⟩,⟨some 85,[],[],[]⟩,⟨some 86,[],[],[]⟩,⟨some 87,[],[],[]⟩,⟨some 88,[7],[7],[]⟩,⟨some 89,[6,7,8],[6,8],[]⟩,⟨some 90,[5,6,7,8,9],[5,9],[]⟩,⟨some 91,[5,6,7,8,9,10],[10],[]⟩,⟨some 92,[5,6,7,8,9,10,11],[11],[]⟩,⟨some 93,[],[],[]⟩,⟨some 94,[13],[13],[]⟩,⟨some 95,[],[],[]⟩,⟨some 96,[15],[15],[]⟩,⟨some 97,[13,14,15,16],[14,16],[]⟩,⟨some 98,[13,14,15,16,17],[17],[]⟩,⟨some 99,[5,6,7,8,9,10,11,12,13,14,15,16,17,18],[12,18],[]⟩,⟨some 100,[0,1,2,3,4,5,6,7,8,9,10,11,12,13,14,15,16,17,18,19],[4,19],[]⟩,⟨some 101,[0],[0],[]⟩,⟨some 102,[0,1,2,3,4,5,6,7,8,9,10,11,12,13,14,15,16,17,18,19,20,21],[21,1],[]⟩,⟨none,[0,1,2,3,4,5,6,7,8,9,10,11,12,13,14,15,16,17,18,19,20,21,22],[22,20],[24]⟩,⟨none,[],[],[]⟩]
def valKg3 (b2 b4 b6 b9 b11 kk : Nat) (tn m : Int) (R : Rm) (bl : List Int) (ab : Option Addr) (cb : Nat) (q3 : Option Addr) (q4 : Nat) (s : Sp) (Y : List Int) (ix jj bo oo : Nat) (u : Int) (k : Nat) (env : Env) : Value :=
 match k with
 | 0 => .int .i64 (kk : Nat)
 | 1 => .int .i64 m
 | 2 => .pointer (some ⟨b6,0 + (kk : Int).toNat * 12,none⟩)
 | 3 => .pointer (some ⟨b6,0 + (kk : Int).toNat * 12 + (m).toNat * 1,none⟩)
 | 4 => .int .i64 s.lo
 | 5 => .slice (some ⟨bo,oo,none⟩) bl.length cb
 | 6 => .int .i64 tn
 | 7 => .slice (some ⟨bo,oo,none⟩) bl.length cb
 | 8 => .int .i64 bl.length
 | 9 => .int .i64 (jj : Nat)
 | 10 => .pointer (some ⟨bo,oo + jj * 1,none⟩)
 | 11 => .int .u8 u
 | 12 => .int .i64 u
 | 13 => .pointer (some ⟨b11,1,none⟩)
 | 14 => .int .i64 s.hi
 | 15 => .pointer (some ⟨b11,0,none⟩)
 | 16 => .int .i64 s.lo
 | 17 => .int .i64 (s.hi - s.lo)
 | 18 => .int .i64 ((s.hi - s.lo) + 1)
 | 19 => .int .i64 (u % ((s.hi - s.lo) + 1))
 | 20 => .int .i64 (s.lo + (u % ((s.hi - s.lo) + 1)))
 | 21 => .pointer (some ⟨b6,0 + (kk : Int).toNat * 12,none⟩)
 | 22 => .pointer (some ⟨b6,0 + (kk : Int).toNat * 12 + (m).toNat * 1,none⟩)
 | 23=>undef
 | _=>undef
def rowsKg3 (b2 b4 b6 b9 b11 kk : Nat) (tn m : Int) (R : Rm) (bl : List Int) (ab : Option Addr) (cb : Nat) (q3 : Option Addr) (q4 : Nat) (s : Sp) (Y : List Int) (ix jj bo oo : Nat) (u : Int) (k : Nat) (env : Env) : List Row :=
 match k with
 | 23=>[⟨b6,0,((Y.set ix s.lo).set ix (s.lo + u % (s.hi - s.lo + 1))).flatMap cI,some 77,48⟩]
 | 24=>[⟨b6,0,(Y.set ix s.lo).flatMap cI,some 77,48⟩]
 | _=>[]
theorem locKg3 (b2 b4 b6 b9 b11 kk : Nat) (tn m : Int) (R : Rm) (bl : List Int) (ab : Option Addr) (cb : Nat) (q3 : Option Addr) (q4 : Nat) (s : Sp) (Y : List Int) (ix jj bo oo : Nat) (u : Int) : ∀ k env i q9,i ≠ k → (tAt tsKg3 k).sup.contains i = false → valKg3 b2 b4 b6 b9 b11 kk tn m R bl ab cb q3 q4 s Y ix jj bo oo u k (upd env i q9)=valKg3 b2 b4 b6 b9 b11 kk tn m R bl ab cb q3 q4 s Y ix jj bo oo u k env∧rowsKg3 b2 b4 b6 b9 b11 kk tn m R bl ab cb q3 q4 s Y ix jj bo oo u k (upd env i q9)=rowsKg3 b2 b4 b6 b9 b11 kk tn m R bl ab cb q3 q4 s Y ix jj bo oo u k env:=by
 intro k env i q hk hs
 have hu : ∀ j,j ≠ i → upd env i q j = env j:=fun j hj=>by unfold upd;rw [if_neg hj]
 match k,hk,hs with
 | 0,_,_=>exact ⟨rfl,rfl⟩
 | 1,_,_=>exact ⟨rfl,rfl⟩
 | 2,_,_=>exact ⟨rfl,rfl⟩
 | 3,_,_=>exact ⟨rfl,rfl⟩
 | 4,_,_=>exact ⟨rfl,rfl⟩
 | 5,_,_=>exact ⟨rfl,rfl⟩
 | 6,_,_=>exact ⟨rfl,rfl⟩
 | 7,_,_=>exact ⟨rfl,rfl⟩
 | 8,_,_=>exact ⟨rfl,rfl⟩
 | 9,_,_=>exact ⟨rfl,rfl⟩
 | 10,_,_=>exact ⟨rfl,rfl⟩
 | 11,_,_=>exact ⟨rfl,rfl⟩
 | 12,_,_=>exact ⟨rfl,rfl⟩
 | 13,_,_=>exact ⟨rfl,rfl⟩
 | 14,_,_=>exact ⟨rfl,rfl⟩
 | 15,_,_=>exact ⟨rfl,rfl⟩
 | 16,_,_=>exact ⟨rfl,rfl⟩
 | 17,_,_=>exact ⟨rfl,rfl⟩
 | 18,_,_=>exact ⟨rfl,rfl⟩
 | 19,_,_=>exact ⟨rfl,rfl⟩
 | 20,_,_=>exact ⟨rfl,rfl⟩
 | 21,_,_=>exact ⟨rfl,rfl⟩
 | 22,_,_=>exact ⟨rfl,rfl⟩
 | 23,_,_=>exact ⟨rfl,rfl⟩
 | 24,_,_=>exact ⟨rfl,rfl⟩
 | _ + 25,_,_=>exact ⟨rfl,rfl⟩
def rdKg3 (k : Nat) : List Nat:=match k with
 | 4=>[24]
 | _=>[]
def tsKg4 : List TOp:=[⟨some 113,[],[],[]⟩,⟨some 114,[],[],[]⟩,⟨some 115,[1],[1],[]⟩,⟨some 116,[0,1,2],[0,2],[]⟩,⟨some 117,[],[],[]⟩,⟨some 118,[4],[4],[]⟩,⟨some 119,[0,1,2,3],[3],[]⟩,⟨some 120,[0,1,2,3,4,5,6],[6,5],[]⟩,⟨some 121,[0,1,2,3,4,5,6,7],[7],[]⟩,⟨some 122,[],[],[]⟩,⟨some 123,[],[],[]⟩,⟨some 124,[10],[10],[]⟩,⟨some 125,[0,1,2,3,9,10,11],[9,11],[]⟩,⟨some 126,[],[],[]⟩,⟨some 127,[13],[13],[]⟩,⟨some 128,[0,1,2,3,9,10,11,12],[12],[]⟩,⟨some 129,[0,1,2,3,9,10,11,12,13,14,15],[15,14],[]⟩,⟨some 130,[0,1,2,3,9,10,11,12,13,14,15,16],[16],[]⟩,⟨some 131,[0,1,2,3,4,5,6,7,8,9,10,11,12,13,14,15,16,17],[8,17],[]⟩,⟨some 14,[0,1,2,3,4,5,6,7,8,9,10,11,12,13,14,15,16,17,18],[18],[]⟩]
def valKg4 (b2 b4 b6 b13 kk ia ib : Nat) (R : Rm) (p : Pl) (e : Mt) (ya yb : Int) (q5 : Option Addr) (q6 : Nat) (k : Nat) (env : Env) : Value :=
 match k with
 | 0 => .agg (cRm R p).toArray
 | 1 => .pointer (some ⟨b13,2,none⟩)
 | 2 => .int .i64 e.a
 | 3 => .int .i64 (ia : Nat)
 | 4 => .pointer (some ⟨b13,1,none⟩)
 | 5 => .int .i64 e.month
 | 6 => .pointer (some ⟨b6,0 + (ia : Int).toNat * 12,none⟩)
 | 7 => .pointer (some ⟨b6,0 + (ia : Int).toNat * 12 + e.month.toNat * 1,none⟩)
 | 8 => .int .i64 ya
 | 9 => .agg (cRm R p).toArray
 | 10 => .pointer (some ⟨b13,3,none⟩)
 | 11 => .int .i64 e.b
 | 12 => .int .i64 (ib : Nat)
 | 13 => .pointer (some ⟨b13,1,none⟩)
 | 14 => .int .i64 e.month
 | 15 => .pointer (some ⟨b6,0 + (ib : Int).toNat * 12,none⟩)
 | 16 => .pointer (some ⟨b6,0 + (ib : Int).toNat * 12 + e.month.toNat * 1,none⟩)
 | 17 => .int .i64 yb
 | 18 => .int .i64 (ya - yb)
 | 19 => .int .i64 (ya - yb)
 | _=>undef
def rowsKg4 (b2 b4 b6 b13 kk ia ib : Nat) (R : Rm) (p : Pl) (e : Mt) (ya yb : Int) (q5 : Option Addr) (q6 : Nat) (k : Nat) (env : Env) : List Row :=
 match k with
 | _=>[]
theorem locKg4 (b2 b4 b6 b13 kk ia ib : Nat) (R : Rm) (p : Pl) (e : Mt) (ya yb : Int) (q5 : Option Addr) (q6 : Nat) : ∀ k env i q9,i ≠ k → (tAt tsKg4 k).sup.contains i = false → valKg4 b2 b4 b6 b13 kk ia ib R p e ya yb q5 q6 k (upd env i q9)=valKg4 b2 b4 b6 b13 kk ia ib R p e ya yb q5 q6 k env∧rowsKg4 b2 b4 b6 b13 kk ia ib R p e ya yb q5 q6 k (upd env i q9)=rowsKg4 b2 b4 b6 b13 kk ia ib R p e ya yb q5 q6 k env:=by
 intro k env i q hk hs
 have hu : ∀ j,j ≠ i → upd env i q j = env j:=fun j hj=>by unfold upd;rw [if_neg hj]
 match k,hk,hs with
 | 0,_,_=>exact ⟨rfl,rfl⟩
 | 1,_,_=>exact ⟨rfl,rfl⟩
 | 2,_,_=>exact ⟨rfl,rfl⟩
 | 3,_,_=>exact ⟨rfl,rfl⟩
 | 4,_,_=>exact ⟨rfl,rfl⟩
 | 5,_,_=>exact ⟨rfl,rfl⟩
 | 6,_,_=>exact ⟨rfl,rfl⟩
 | 7,_,_=>exact ⟨rfl,rfl⟩
 | 8,_,_=>exact ⟨rfl,rfl⟩
 | 9,_,_=>exact ⟨rfl,rfl⟩
 | 10,_,_=>exact ⟨rfl,rfl⟩
 | 11,_,_=>exact ⟨rfl,rfl⟩
 | 12,_,_=>exact ⟨rfl,rfl⟩
 | 13,_,_=>exact ⟨rfl,rfl⟩
 | 14,_,_=>exact ⟨rfl,rfl⟩
 | 15,_,_=>exact ⟨rfl,rfl⟩
 | 16,_,_=>exact ⟨rfl,rfl⟩
 | 17,_,_=>exact ⟨rfl,rfl⟩
 | 18,_,_=>exact ⟨rfl,rfl⟩
 | 19,_,_=>exact ⟨rfl,rfl⟩
 | _ + 20,_,_=>exact ⟨rfl,rfl⟩
set_option maxHeartbeats 16000000 in
theorem grown_spec (R : Rm) (p : Pl) (bl : List Int) (ab : Option Addr) (cb : Nat) (H : List Row) (hR : RmOk H R p) (hok : roomOk R) (hb : SlE H ab cU 1 bl) (h8 : ∀ u ∈ bl,0 ≤ u∧u ≤ 255) :
  Fc Try.prog 47 [.agg (cRm R p).toArray,.slice ab bl.length cb] H (fun v H' => ∃ (Y : List Int) (w : Bool),v = .tuple #[.agg (Y.flatMap cI).toArray,.bool w]∧(Y.length = 48∧(w = true → GY R Y R.boxes.length 0 ∧ ∀ x ∈ R.mats,x.lo ≤ yat Y (index R.boxes x.a).toNat x.month - yat Y (index R.boxes x.b).toNat x.month∧yat Y (index R.boxes x.a).toNat x.month - yat Y (index R.boxes x.b).toNat x.month ≤ x.hi))∧H' = H):=by
 have hm1:=hok.ok.m1
 have hm12:=hok.ok.m12
 have hb4:=hok.ok.b4
 have hst:=hok.ok.s0
 have hst60:=hok.ok.s60
 have ha12 : (R.ages.length : Int)=R.months:=hok.1.2.2.2.2.1
 have hm8 : R.mats.length ≤ 8:=hok.1.2.2.2.2.2.2
 obtain ⟨q1,q2,q3,q4,q5,q6⟩:=p
 obtain ⟨ba,oa,_,rfl,_⟩:=hR.ages.elem (i:=0) (by omega)
 have hag:=hR.ages
 have hbxs:=hR.boxes
 refine Fc.mk (callable Try.call47) Try.func47 rfl Try.ntmps47 rfl ?_;dsimp only [fr]
 repeat' (first | (refine uP rfl ?_;(first | ((first | refine uN rfl ?_);(first | (refine Xg.st (StF.alloc rfl Try.zeroValue77 rfl) rfl rfl ?_;rintro _ _ ⟨b6,rfl,rfl⟩)|(refine uE (uY rfl rfl (te rfl)) rfl rfl ?_)|(refine uE (uM rfl rfl) rfl rfl ?_)|(refine uE (uA rfl rfl) rfl rfl ?_)|(refine uE (uF rfl rfl (te rfl) rfl (te rfl) (by decide)) rfl rfl ?_)|(refine uE (uL rfl rfl (uO (te rfl) rfl (qT _ (qT _ (qH _))) rfl)) rfl rfl ?_)|(refine Xg.st (StF.boxAgg rfl rfl) rfl rfl ?_;rintro _ _ ⟨bx,rfl,rfl⟩)))))|(refine uD rfl ?_;refine hK _ _ ?_;clear hK K) | refine uS rfl ?_ | refine uR rfl (fun K hK=>?_) | refine X.block rfl ?_)
 all_goals try (exfalso;contradiction)
 rename_i b4
 generalize bx = b2
 refine X.lp rfl (fun q F' H' => ∃ (kk : Nat) (tn : Int) (Y : List Int),q = R.boxes.length - kk∧kk ≤ R.boxes.length∧GY R Y kk 0∧0 ≤ tn∧tn ≤ 12 * kk∧⟨b6,0,(Y).flatMap cI,some 77,48⟩::⟨b4,0,(List.replicate 48 (0 : Int)).flatMap cI,some 77,48⟩::⟨b2,0,cRm R ⟨some ⟨ba,oa,none⟩,q2,q3,q4,q5,q6⟩,some 26,5⟩::H = H'∧F' = [(1,.slice ab bl.length cb),(2,.pointer (some ⟨b2,0,none⟩)),(4,.pointer (some ⟨b4,0,none⟩)),(6,.pointer (some ⟨b6,0,none⟩)),(7,.int .i64 tn),(16,.slice q3 R.boxes.length q4),(17,.int .i64 R.boxes.length),(18,.int .i64 (kk : Nat))])
  R.boxes.length [(1,.slice ab bl.length cb),(2,.pointer (some ⟨b2,0,none⟩)),(4,.pointer (some ⟨b4,0,none⟩)),(6,.pointer (some ⟨b6,0,none⟩)),(7,.int .i64 0),(16,.slice q3 R.boxes.length q4),(17,.int .i64 R.boxes.length),(18,.int .i64 (0 : Nat))] (⟨b6,0,(List.replicate 48 (0 : Int)).flatMap cI,some 77,48⟩::⟨b4,0,(List.replicate 48 (0 : Int)).flatMap cI,some 77,48⟩::⟨b2,0,cRm R ⟨some ⟨ba,oa,none⟩,q2,q3,q4,q5,q6⟩,some 26,5⟩::H) (by repeat (first | exact uU _ | refine uV rfl ?_)) (by repeat (first | exact qR _ | apply qK | apply qC)) ⟨0,0,_,rfl,Nat.zero_le _,gy_zero hok,by omega,by omega,rfl,rfl⟩ ?_
 rintro _ _ _ ⟨kk,tn,Y,rfl,hk,hgy,ht1,ht2,rfl,rfl⟩
 by_cases hlt : kk < R.boxes.length
 ·have hlt' : (kk : Int)<(R.boxes.length : Int):=by omega
  obtain ⟨bx2,ox2,x,rfl,hx⟩:=hbxs.elem (i:=kk) hlt
  have hxb:=okBoxes_mem _ _ _ hok.2.2.1 x (List.mem_of_getElem? hx)
  repeat' (first | (refine uP rfl ?_;(first | ((first | refine uN rfl ?_);(first | (refine uE (uQ (b:=true) rfl rfl rfl (congrArg some (decide_eq_true hlt'))) rfl rfl ?_)|(refine uE (uL rfl rfl (LoadV.elA0 (hbxs.sub (fun _ h=>qT _ (qT _ (qT _ h)))) hx (te rfl) rfl (fun _ hm=>hm) rfl)) rfl rfl ?_)|(refine Xg.st (StF.alloc rfl Try.zeroValue81 rfl) rfl rfl ?_;rintro _ _ ⟨b9,rfl,rfl⟩)|(refine Xg.st0 (uZ (i:=0) (vs:=cBx x) rfl rfl rfl (te rfl) rfl rfl rfl rfl) rfl ?_;rintro _ _ ⟨rfl,rfl⟩;dsimp only [List.set])|(refine uE (uL rfl rfl (uO (te rfl) rfl (qH _) rfl)) rfl rfl ?_)|(refine uE (uM rfl rfl) rfl rfl ?_)|(refine uE (uA rfl rfl) rfl rfl ?_)|(refine uE (uF rfl rfl (te rfl) rfl (te rfl) (by decide)) rfl rfl ?_)|(refine uE (uJ rfl rfl rfl (te rfl) (te rfl) (by omega) (by omega)) rfl rfl ?_)))))|(refine uD rfl ?_;refine hK _ _ ?_;clear hK K) | refine uS rfl ?_ | refine uR rfl (fun K hK=>?_) | refine X.block rfl ?_ | refine X.skip rfl ?_ | (refine X.ite rfl rfl (fun hc=>?_);(first | (with_reducible refine Xb.t hc ?_)) <;> clear hc))
  all_goals try (exfalso;contradiction)
  refine X.permH (H' := ⟨b6,0,(Y).flatMap cI,some 77,48⟩::⟨b9,0,cBx x,some 81,2⟩::⟨b4,0,(List.replicate 48 (0 : Int)).flatMap cI,some 77,48⟩::⟨b2,0,cRm R ⟨some ⟨ba,oa,none⟩,q2,(some ⟨bx2,ox2,none⟩),q4,q5,q6⟩,some 26,5⟩::H) (List.Perm.swap _ _ _) ?_
  refine X.lp rfl (fun q F' H' => ∃ (m tn' : Int) (Y' : List Int),q = (R.months - m).toNat∧x.made ≤ m∧m ≤ R.months∧GY R Y' kk m∧0 ≤ tn'∧tn' ≤ tn + (m - x.made)∧⟨b6,0,(Y').flatMap cI,some 77,48⟩::⟨b9,0,cBx x,some 81,2⟩::⟨b4,0,(List.replicate 48 (0 : Int)).flatMap cI,some 77,48⟩::⟨b2,0,cRm R ⟨some ⟨ba,oa,none⟩,q2,(some ⟨bx2,ox2,none⟩),q4,q5,q6⟩,some 26,5⟩::H = H'∧F' = [(1,.slice ab bl.length cb),(2,.pointer (some ⟨b2,0,none⟩)),(4,.pointer (some ⟨b4,0,none⟩)),(6,.pointer (some ⟨b6,0,none⟩)),(7,.int .i64 tn'),(8,.int .i64 (kk : Nat)),(9,.pointer (some ⟨b9,0,none⟩)),(10,.int .i64 m),(16,.slice (some ⟨bx2,ox2,none⟩) R.boxes.length q4),(17,.int .i64 R.boxes.length),(18,.int .i64 (kk : Nat))])
   (R.months - x.made).toNat [(1,.slice ab bl.length cb),(2,.pointer (some ⟨b2,0,none⟩)),(4,.pointer (some ⟨b4,0,none⟩)),(6,.pointer (some ⟨b6,0,none⟩)),(7,.int .i64 tn),(8,.int .i64 (kk : Nat)),(9,.pointer (some ⟨b9,0,none⟩)),(10,.int .i64 x.made),(16,.slice (some ⟨bx2,ox2,none⟩) R.boxes.length q4),(17,.int .i64 R.boxes.length),(18,.int .i64 (kk : Nat))] (⟨b6,0,(Y).flatMap cI,some 77,48⟩::⟨b9,0,cBx x,some 81,2⟩::⟨b4,0,(List.replicate 48 (0 : Int)).flatMap cI,some 77,48⟩::⟨b2,0,cRm R ⟨some ⟨ba,oa,none⟩,q2,(some ⟨bx2,ox2,none⟩),q4,q5,q6⟩,some 26,5⟩::H) (by repeat (first | exact uU _ | refine uV rfl ?_)) (qR _) ⟨x.made,tn,Y,rfl,Int.le_refl _,by omega,gy_in hgy hx,ht1,by omega,rfl,rfl⟩ ?_
  clear hgy
  rintro _ _ _ ⟨m,tn',Y,rfl,hm,hm2,hgy,ht3,ht4,rfl,rfl⟩
  by_cases hmt : m < R.months
  ·have hth : there R x m:=⟨List.mem_of_getElem? hx,hm,by omega⟩
   have hage:=hok.ok.age hth
   have hlen : (m - x.made).toNat < R.ages.length:=by omega
   obtain ⟨s,hs2⟩ : ∃ s,R.ages[(m - x.made).toNat]? = some s:=⟨_,List.getElem?_eq_getElem hlen⟩
   have hsd : R.ages.getD (m - x.made).toNat ⟨0,0⟩ = s:=by rw [List.getD_eq_getElem?_getD,hs2];rfl
   rw [hsd] at hage
   obtain ⟨yv,hyv⟩ : ∃ yv,yv = yat Y kk (m - 1):=⟨_,rfl⟩
   have hyb:=yat_bd hgy kk (m - 1)
   rw [← hyv] at hyb
   obtain ⟨s',hs'⟩ : ∃ s' : Sp,s' = if x.made < m then ⟨max s.lo yv,min s.hi (yv + R.step)⟩ else s:=⟨_,rfl⟩
   have hsb : (s.lo ≤ s'.lo∧s'.hi ≤ s.hi)∧(x.made < m → yv ≤ s'.lo∧s'.hi ≤ yv + R.step):=by
    rw [hs']
    by_cases h : x.made < m
    ·rw [if_pos h]
     exact ⟨⟨Int.le_max_left _ _,Int.min_le_left _ _⟩,fun _=>⟨Int.le_max_right _ _,Int.min_le_right _ _⟩⟩
    ·rw [if_neg h]
     exact ⟨⟨Int.le_refl _,Int.le_refl _⟩,fun q=>absurd q h⟩
   repeat' (first | (refine X.toN (c:=cfst (csnd (cfst (cfst (csnd (cfst (cfst (csnd (csnd (cfst (cfst (csnd (csnd (cfst (cfst (csnd (cfst (csnd (csnd (csnd (cof Try.f47))))))))))))))))))))) (F1:=[(1,.slice ab bl.length cb),(2,.pointer (some ⟨b2,0,none⟩)),(4,.pointer (some ⟨b4,0,none⟩)),(6,.pointer (some ⟨b6,0,none⟩)),(7,.int .i64 tn'),(8,.int .i64 (kk : Nat)),(9,.pointer (some ⟨b9,0,none⟩)),(10,.int .i64 m),(11,.pointer (some ⟨b11,0,none⟩)),(16,.slice (some ⟨bx2,ox2,none⟩) R.boxes.length q4),(17,.int .i64 R.boxes.length),(18,.int .i64 (kk : Nat))]) (H1:=⟨b11,0,cSp s',some 35,2⟩::⟨b6,0,(Y).flatMap cI,some 77,48⟩::⟨b9,0,cBx x,some 81,2⟩::⟨b4,0,(List.replicate 48 (0 : Int)).flatMap cI,some 77,48⟩::⟨b2,0,cRm R ⟨some ⟨ba,oa,none⟩,q2,(some ⟨bx2,ox2,none⟩),q4,q5,q6⟩,some 26,5⟩::H) (Rst9.out ?_) (Rst9.out ?_))|(refine uP rfl ?_;(first | ((first | refine uN rfl ?_);(first | (refine uE (uQ (b:=true) rfl rfl rfl (congrArg some (decide_eq_true hmt))) rfl rfl ?_)|(refine uE (uL rfl rfl (uO (te rfl) rfl (qT _ (qT _ (qT _ (qH _)))) rfl)) rfl rfl ?_)|(refine uE (uL rfl rfl (uO (te rfl) rfl (qT _ (qH _)) rfl)) rfl rfl ?_)|(refine uE (EvF.sub64 rfl rfl rfl (by omega) (by omega)) rfl rfl ?_)|(refine uE (uL rfl rfl (LoadV.elA0 (hag.sub (fun _ h=>qT _ (qT _ (qT _ (qT _ h))))) hs2 (te rfl) rfl (fun _ hm=>hm) rfl)) rfl rfl ?_)|(refine Xg.st (StF.alloc rfl Try.zeroValue35 rfl) rfl rfl ?_;rintro _ _ ⟨b11,rfl,rfl⟩)|(refine Xg.st0 (uZ (i:=0) (vs:=cSp s) rfl rfl rfl (te rfl) rfl rfl rfl rfl) rfl ?_;rintro _ _ ⟨rfl,rfl⟩;dsimp only [List.set])|(refine uE (uM rfl rfl) rfl rfl ?_)|(refine uE (uF rfl rfl (te rfl) rfl (te rfl) (by decide)) rfl rfl ?_)|(refine uE (uJ rfl rfl rfl (te rfl) (te rfl) (by omega) (by omega)) rfl rfl ?_)))))|(refine uD rfl ?_;refine hK _ _ ?_;clear hK K) | refine uS rfl ?_ | refine uR rfl (fun K hK=>?_) | refine X.block rfl ?_ | refine X.skip rfl ?_ | (refine X.ite rfl rfl (fun hc=>?_);(first | (with_reducible refine Xb.t hc ?_)) <;> clear hc))
   ·refine ⟨?_⟩
    by_cases hgt : x.made < m
    ·have hgt' : m > x.made:=hgt
     rw [if_pos hgt] at hs'
     have hc1 : (Y.flatMap cI)[0 + (kk : Int).toNat * 12 + (m - 1).toNat * 1]? = some (.int .i64 yv):=by rw [hyv];exact yat_cell hgy (by omega) (by omega)
     repeat' (first | (refine uP rfl ?_;(first | ((first | refine uN rfl ?_);(first | (refine uE (uL rfl rfl (uO (te rfl) rfl (qT _ (qT _ (qH _))) rfl)) rfl rfl ?_)|(refine uE (uQ (b:=true) rfl rfl rfl (congrArg some (decide_eq_true hgt'))) rfl rfl ?_)|(refine uE (uM rfl rfl) rfl rfl ?_)|(refine uE (uF rfl rfl (te rfl) rfl (te rfl) (by decide)) rfl rfl ?_)))))|(refine uD rfl ?_;refine hK _ _ ?_;clear hK K) | refine uS rfl ?_ | refine uR rfl (fun K hK=>?_)|(refine X.ite rfl rfl (fun hc=>?_);(first | (with_reducible refine Xb.t hc ?_)) <;> clear hc))
     all_goals try (exfalso;contradiction)
     refine X.weak (F' := [(1,.slice ab bl.length cb),(2,.pointer (some ⟨b2,0,none⟩)),(4,.pointer (some ⟨b4,0,none⟩)),(6,.pointer (some ⟨b6,0,none⟩)),(7,.int .i64 tn'),(8,.int .i64 (kk : Nat)),(9,.pointer (some ⟨b9,0,none⟩)),(10,.int .i64 m),(11,.pointer (some ⟨b11,0,none⟩)),(16,.slice (some ⟨bx2,ox2,none⟩) R.boxes.length q4),(17,.int .i64 R.boxes.length),(18,.int .i64 (kk : Nat))]) (H' := ⟨b11,0,cSp s,some 35,2⟩::⟨b6,0,(Y).flatMap cI,some 77,48⟩::⟨b9,0,cBx x,some 81,2⟩::⟨b4,0,(List.replicate 48 (0 : Int)).flatMap cI,some 77,48⟩::⟨b2,0,cRm R ⟨some ⟨ba,oa,none⟩,q2,(some ⟨bx2,ox2,none⟩),q4,q5,q6⟩,some 26,5⟩::H) (by repeat (first | exact uU _ | refine uV rfl ?_)) (qR _) ?_
     refine X.regionRd tsKg1 rdKg1 [1,2,4,6,7,8,9,10,11,16,17,18] [(1,.slice ab bl.length cb),(2,.pointer (some ⟨b2,0,none⟩)),(4,.pointer (some ⟨b4,0,none⟩)),(6,.pointer (some ⟨b6,0,none⟩)),(7,.int .i64 tn'),(8,.int .i64 (kk : Nat)),(9,.pointer (some ⟨b9,0,none⟩)),(10,.int .i64 m),(11,.pointer (some ⟨b11,0,none⟩)),(16,.slice (some ⟨bx2,ox2,none⟩) R.boxes.length q4),(17,.int .i64 R.boxes.length),(18,.int .i64 (kk : Nat))] (valKg1 b2 b4 b6 b9 b11 kk tn' m R bl ab cb (some ⟨bx2,ox2,none⟩) q4 s yv) (rowsKg1 b2 b4 b6 b9 b11 kk tn' m R bl ab cb (some ⟨bx2,ox2,none⟩) q4 s yv) (fun _=>(0,0)) (⟨b6,0,(Y).flatMap cI,some 77,48⟩::⟨b9,0,cBx x,some 81,2⟩::⟨b4,0,(List.replicate 48 (0 : Int)).flatMap cI,some 77,48⟩::⟨b2,0,cRm R ⟨some ⟨ba,oa,none⟩,q2,(some ⟨bx2,ox2,none⟩),q4,q5,q6⟩,some 26,5⟩::H) rfl mixed (by repeat (first | exact uU _ | refine uV rfl ?_)) rfl (by kernel_rfl) (by kernel_rfl) (locKg1 b2 b4 b6 b9 b11 kk tn' m R bl ab cb (some ⟨bx2,ox2,none⟩) q4 s yv) (qR _) ?_ ?_
     ·repeat' (first | exact AllF.done rfl | (refine AllF.step rfl ?_ ?_;·(first | exact (Ob.ng rfl (uK (fun env R hR=>by exact ⟨_,uM rfl rfl,rfl⟩) rfl (fun _=>rfl))).toR | exact (Ob.ng rfl (uK (fun env R hR=>by exact ⟨_,uF rfl rfl (te rfl) rfl (te rfl) (by decide),rfl⟩) rfl (fun _=>rfl))).toR | exact (Ob.ng rfl (uK (fun env R hR=>by exact ⟨_,uL rfl rfl (uO (te rfl) rfl (hR _ (qT _ (qT _ (qT _ (qH _))))) rfl),rfl⟩) rfl (fun _=>rfl))).toR | (refine ObR.ng rfl ?_;(first | (exact fun env S hS hrd=>(StF.ofEv (uL rfl rfl (uO (cs:=cSp s) (te rfl) rfl (hrd 23 (qH _) _ (qH _)) rfl))).op.mono (fun v H' ⟨hv,hH⟩=>⟨(0,0),fun _=>hv,by rw [hH];exact List.Perm.refl _⟩))|(exact fun env S hS hrd=>(StF.ofEv (uL rfl rfl (uO (cs:=Y.flatMap cI) (te rfl) rfl (hS _ (qH _)) hc1))).op.mono (fun v H' ⟨hv,hH⟩=>⟨(0,0),fun _=>hv,by rw [hH];exact List.Perm.refl _⟩))|(exact fun env S hS hrd=>(StF.ofEv (EvF.max64 rfl rfl rfl)).op.mono (fun v H' ⟨hv,hH⟩=>⟨(0,0),fun _=>hv,by rw [hH];exact List.Perm.refl _⟩))|(exact fun env S hS hrd=>(StF.ofEv (EvF.min64 rfl rfl rfl)).op.mono (fun v H' ⟨hv,hH⟩=>⟨(0,0),fun _=>hv,by rw [hH];exact List.Perm.refl _⟩))|(exact fun env S hS hrd=>(StF.ofEv (EvF.sub64 rfl rfl rfl (by omega) (by omega))).op.mono (fun v H' ⟨hv,hH⟩=>⟨(0,0),fun _=>hv,by rw [hH];exact List.Perm.refl _⟩))|(exact fun env S hS hrd=>(StF.ofEv (EvF.add64 rfl rfl rfl (by omega) (by omega))).op.mono (fun v H' ⟨hv,hH⟩=>⟨(0,0),fun _=>hv,by rw [hH];exact List.Perm.refl _⟩))|(exact fun env S hS hrd=>(StF.ofEv (v := .pointer (some ⟨b6,0 + (kk : Int).toNat * 12,none⟩)) (EvF.indexArray (T:=77) (e:=76) (ti:=⟨.ar 12 3,12,96⟩) (len:=4) (i:=(kk : Int)) (b:=b6) (off:=0) rfl rfl rfl (te rfl) (te rfl) (by omega) (by omega))).op.mono (fun v H' ⟨hv,hH⟩=>⟨(0,0),fun _=>hv,by rw [hH];exact List.Perm.refl _⟩))|(exact fun env S hS hrd=>(StF.ofEv (v := .pointer (some ⟨b6,0 + (kk : Int).toNat * 12 + (m - 1).toNat * 1,none⟩)) (EvF.indexArray (T:=76) (e:=3) (ti:=⟨.int .i64,1,8⟩) (len:=12) (i:=m - 1) (b:=b6) (off:=0 + (kk : Int).toNat * 12) rfl rfl rfl (te rfl) (te rfl) (by omega) (by omega))).op.mono (fun v H' ⟨hv,hH⟩=>⟨(0,0),fun _=>hv,by rw [hH];exact List.Perm.refl _⟩))|(exact fun env S hS hrd=>(OpF.call (uT rfl (Args.cons rfl (Args.cons rfl Args.nil))) (lawSpan _ _ _)).mono (fun v H' ⟨hv,hH⟩=>⟨(0,0),fun _=>hv,by rw [hH];exact List.Perm.refl _⟩))|(exact fun env S hS hrd=>(uZ (i:=0) (vs:=cSp ⟨max s.lo yv,min s.hi (yv + R.step)⟩) (cs:=cSp s) rfl rfl rfl (te rfl) rfl rfl rfl rfl).op.mono (fun v H' ⟨hv,hH⟩=>⟨(0,0),fun h=>absurd rfl h,by rw [hH];exact List.Perm.refl _⟩)))))))
     ·intro env t ha2 hv;refine ⟨_,ha2,?_⟩;clear hv ha2
      rw [hs']
      exact ⟨rfl,(by repeat (first | exact uU _ | refine uV rfl ?_)),qR _⟩
    ·have hgt' : ¬ m > x.made:=hgt
     rw [if_neg hgt] at hs'
     rw [hs']
     repeat' (first | (refine uP rfl ?_;(first | ((first | refine uN rfl ?_);(first | (refine uE (uL rfl rfl (uO (te rfl) rfl (qT _ (qT _ (qH _))) rfl)) rfl rfl ?_)|(refine uE (uQ (b:=false) rfl rfl rfl (congrArg some (decide_eq_false hgt'))) rfl rfl ?_)|(refine uE (uM rfl rfl) rfl rfl ?_)|(refine uE (uF rfl rfl (te rfl) rfl (te rfl) (by decide)) rfl rfl ?_)))))|(refine uD rfl ?_;refine hK _ _ ?_;clear hK K) | refine uS rfl ?_ | refine uR rfl (fun K hK=>?_) | refine X.skip rfl ?_ | (refine X.ite rfl rfl (fun hc=>?_);(first | (with_reducible refine Xb.f hc ?_)) <;> clear hc))
     all_goals try (exfalso;contradiction)
     exact ⟨rfl,(by repeat (first | exact uU _ | refine uV rfl ?_)),(by repeat (first | exact qR _ | apply qK | apply qC))⟩
   ·refine ⟨?_⟩
    clear hs'
    have hly : (Y.flatMap cI).length = 48:=by rw [lenI];have:=hgy.len;omega
    have hly2 : (Y.flatMap cI).length = ((List.replicate 48 (0 : Int)).flatMap cI).length:=by rw [hly,lenI,List.length_replicate]
    by_cases hbad : s'.lo > s'.hi
    ·repeat' (first | (refine uP rfl ?_;(first | ((first | refine uN rfl ?_);(first | (refine uE (uL rfl rfl (uO (te rfl) rfl (qH _) rfl)) rfl rfl ?_)|(refine uE (uQ (b:=true) rfl rfl rfl (congrArg some (decide_eq_true hbad))) rfl rfl ?_)|(refine uE (uL rfl rfl (uW (T:=77) (cs:=(Y).flatMap cI) (te rfl) rfl (qT _ (qH _)) hly)) rfl rfl ?_)|(refine Xg.st0 (uZ (i:=3) (vs:=(Y).flatMap cI) (cs:=(List.replicate 48 (0 : Int)).flatMap cI) rfl rfl rfl (te rfl) rfl hly (oneIs _) hly2) rfl ?_;rintro _ _ ⟨rfl,rfl⟩;dsimp only [List.set])|(refine uE (uA rfl rfl) rfl rfl ?_)|(refine uE (uF rfl rfl (te rfl) rfl (te rfl) (by decide)) rfl rfl ?_)))))|(refine uD rfl ?_;refine hK _ _ ?_;clear hK K) | refine uS rfl ?_ | refine uR rfl (fun K hK=>?_) | refine X.ret rfl ?_ | (refine X.ite rfl rfl (fun hc=>?_);(first | (with_reducible refine Xb.t hc ?_)) <;> clear hc))
     all_goals try (exfalso;contradiction)
     exact ret_two (by simp) Try.results47 ⟨_,rfl,uW (te rfl) rfl (qT _ (qT _ (qT _ (qH _)))) hly⟩ rfl (H' := H) (by repeat (first | exact qR _ | apply qK | apply qC)) ⟨_,false,rfl,⟨hgy.len,fun e=>by cases e⟩,rfl⟩
    ·repeat' (first | (refine uP rfl ?_;(first | ((first | refine uN rfl ?_);(first | (refine uE (uL rfl rfl (uO (te rfl) rfl (qH _) rfl)) rfl rfl ?_)|(refine uE (uQ (b:=false) rfl rfl rfl (congrArg some (decide_eq_false hbad))) rfl rfl ?_)|(refine uE (uF rfl rfl (te rfl) rfl (te rfl) (by decide)) rfl rfl ?_)))))|(refine uD rfl ?_;refine hK _ _ ?_;clear hK K) | refine uS rfl ?_ | refine uR rfl (fun K hK=>?_) | refine X.skip rfl ?_ | (refine X.ite rfl rfl (fun hc=>?_);(first | (with_reducible refine Xb.f hc ?_)) <;> clear hc))
     all_goals try (exfalso;contradiction)
     obtain ⟨ix,hix⟩ : ∃ ix,ix = kk * 12 + m.toNat:=⟨_,rfl⟩
     have hpi : 0 + (kk : Int).toNat * 12 + m.toNat * 1 = ix:=by omega
     have hlx : ix < Y.length:=by have:=hgy.len;omega
     refine X.weak (F' := [(1,.slice ab bl.length cb),(2,.pointer (some ⟨b2,0,none⟩)),(4,.pointer (some ⟨b4,0,none⟩)),(6,.pointer (some ⟨b6,0,none⟩)),(7,.int .i64 tn'),(8,.int .i64 (kk : Nat)),(9,.pointer (some ⟨b9,0,none⟩)),(10,.int .i64 m),(11,.pointer (some ⟨b11,0,none⟩)),(16,.slice (some ⟨bx2,ox2,none⟩) R.boxes.length q4),(17,.int .i64 R.boxes.length),(18,.int .i64 (kk : Nat))]) (H' := ⟨b11,0,cSp s',some 35,2⟩::⟨b6,0,(Y).flatMap cI,some 77,48⟩::⟨b9,0,cBx x,some 81,2⟩::⟨b4,0,(List.replicate 48 (0 : Int)).flatMap cI,some 77,48⟩::⟨b2,0,cRm R ⟨some ⟨ba,oa,none⟩,q2,(some ⟨bx2,ox2,none⟩),q4,q5,q6⟩,some 26,5⟩::H) (by repeat (first | exact uU _ | refine uV rfl ?_)) (qR _) ?_
     refine X.permH (H' := ⟨b6,0,(Y).flatMap cI,some 77,48⟩::⟨b11,0,cSp s',some 35,2⟩::⟨b9,0,cBx x,some 81,2⟩::⟨b4,0,(List.replicate 48 (0 : Int)).flatMap cI,some 77,48⟩::⟨b2,0,cRm R ⟨some ⟨ba,oa,none⟩,q2,(some ⟨bx2,ox2,none⟩),q4,q5,q6⟩,some 26,5⟩::H) (List.Perm.swap _ _ _) ?_
     refine X.regionOb tsKg2 [1,2,4,6,7,8,9,10,11,16,17,18] [(1,.slice ab bl.length cb),(2,.pointer (some ⟨b2,0,none⟩)),(4,.pointer (some ⟨b4,0,none⟩)),(6,.pointer (some ⟨b6,0,none⟩)),(7,.int .i64 tn'),(8,.int .i64 (kk : Nat)),(9,.pointer (some ⟨b9,0,none⟩)),(10,.int .i64 m),(11,.pointer (some ⟨b11,0,none⟩)),(16,.slice (some ⟨bx2,ox2,none⟩) R.boxes.length q4),(17,.int .i64 R.boxes.length),(18,.int .i64 (kk : Nat))] (valKg2 b2 b4 b6 b9 b11 kk tn' m R bl ab cb (some ⟨bx2,ox2,none⟩) q4 s' Y ix) (rowsKg2 b2 b4 b6 b9 b11 kk tn' m R bl ab cb (some ⟨bx2,ox2,none⟩) q4 s' Y ix) (fun _=>(0,0)) (⟨b11,0,cSp s',some 35,2⟩::⟨b9,0,cBx x,some 81,2⟩::⟨b4,0,(List.replicate 48 (0 : Int)).flatMap cI,some 77,48⟩::⟨b2,0,cRm R ⟨some ⟨ba,oa,none⟩,q2,(some ⟨bx2,ox2,none⟩),q4,q5,q6⟩,some 26,5⟩::H) rfl mixed (by repeat (first | exact uU _ | refine uV rfl ?_)) rfl (by kernel_rfl) (locKg2 b2 b4 b6 b9 b11 kk tn' m R bl ab cb (some ⟨bx2,ox2,none⟩) q4 s' Y ix) (qR _) ?_ ?_
     ·repeat' (first | exact AllF.done rfl | (refine AllF.step rfl ?_ ?_;·(first | fail | ((first | refine Ob.ng rfl ?_);(first | exact uK (fun env R hR=>by exact ⟨_,uM rfl rfl,rfl⟩) rfl (fun _=>rfl) | exact uK (fun env R hR=>by exact ⟨_,uF rfl rfl (te rfl) rfl (te rfl) (by decide),rfl⟩) rfl (fun _=>rfl) | exact uK (fun env R hR=>by exact ⟨_,uL rfl rfl (uO (te rfl) rfl (hR _ (qH _)) rfl),rfl⟩) rfl (fun _=>rfl)|(exact uK (fun env S hS=>⟨.pointer (some ⟨b6,0 + (kk : Int).toNat * 12,none⟩),EvF.indexArray (T:=77) (e:=76) (ti:=⟨.ar 12 3,12,96⟩) (len:=4) (i:=(kk : Int)) (b:=b6) (off:=0) rfl rfl rfl (te rfl) (te rfl) (by omega) (by omega),rfl⟩) rfl (fun _=>rfl))|(exact uK (fun env S hS=>⟨.pointer (some ⟨b6,0 + (kk : Int).toNat * 12 + (m).toNat * 1,none⟩),EvF.indexArray (T:=76) (e:=3) (ti:=⟨.int .i64,1,8⟩) (len:=12) (i:=m) (b:=b6) (off:=0 + (kk : Int).toNat * 12) rfl rfl rfl (te rfl) (te rfl) (by omega) (by omega),rfl⟩) rfl (fun _=>rfl))|(exact fun env S hS=>(StF.storeI (q:=0) (i:=ix) rfl rfl rfl (te rfl) rfl rfl hpi hlx).op.mono (fun v H' ⟨hv,hH⟩=>⟨(0,0),fun h=>absurd rfl h,by rw [hH];exact List.Perm.refl _⟩)))))))
     ·intro env t ha2 hv;refine ⟨_,ha2,?_⟩;clear hv ha2
      show X _ _ _ [(1,.slice ab bl.length cb),(2,.pointer (some ⟨b2,0,none⟩)),(4,.pointer (some ⟨b4,0,none⟩)),(6,.pointer (some ⟨b6,0,none⟩)),(7,.int .i64 tn'),(8,.int .i64 (kk : Nat)),(9,.pointer (some ⟨b9,0,none⟩)),(10,.int .i64 m),(11,.pointer (some ⟨b11,0,none⟩)),(16,.slice (some ⟨bx2,ox2,none⟩) R.boxes.length q4),(17,.int .i64 R.boxes.length),(18,.int .i64 (kk : Nat))] (⟨b6,0,(Y.set ix s'.lo).flatMap cI,some 77,48⟩::⟨b11,0,cSp s',some 35,2⟩::⟨b9,0,cBx x,some 81,2⟩::⟨b4,0,(List.replicate 48 (0 : Int)).flatMap cI,some 77,48⟩::⟨b2,0,cRm R ⟨some ⟨ba,oa,none⟩,q2,(some ⟨bx2,ox2,none⟩),q4,q5,q6⟩,some 26,5⟩::H) _
      clear env
      have hlo : s'.lo ≤ s'.hi:=by omega
      obtain ⟨v,hv1,hv2⟩ : ∃ v,(s'.lo ≤ v∧v ≤ s'.hi)∧((bl.length = 0∧v = s'.lo)∨(∃ (jj : Nat) (u : Int),jj < bl.length∧tn' % (bl.length : Int)=(jj : Int)∧bl[jj]? = some u∧v = s'.lo + u % (s'.hi - s'.lo + 1))):=by
       by_cases h0 : bl.length = 0
       ·exact ⟨s'.lo,⟨Int.le_refl _,hlo⟩,.inl ⟨h0,rfl⟩⟩
       ·obtain ⟨jj,hj1,hj2⟩:=rem_nat ht3 (n:=bl.length) (by omega)
        have e1:=Int.emod_nonneg (bl[jj]) (b:=s'.hi - s'.lo + 1) (by omega)
        have e2:=Int.emod_lt_of_pos (bl[jj]) (b:=s'.hi - s'.lo + 1) (by omega)
        exact ⟨_,⟨by omega,by omega⟩,.inr ⟨jj,bl[jj],hj1,hj2,List.getElem?_eq_getElem hj1,rfl⟩⟩
      have hgy2 : GY R (Y.set ix v) kk (m + 1):=by
       rw [hix]
       exact gy_set hok hgy hx hm (by omega) (by rw [hsd];omega) (fun h=>by rw [← hyv];have:=hsb.2 h;omega)
      refine uS rfl ?_
      refine X.toN (F1:=[(1,.slice ab bl.length cb),(2,.pointer (some ⟨b2,0,none⟩)),(4,.pointer (some ⟨b4,0,none⟩)),(6,.pointer (some ⟨b6,0,none⟩)),(7,.int .i64 tn'),(8,.int .i64 (kk : Nat)),(9,.pointer (some ⟨b9,0,none⟩)),(10,.int .i64 m),(11,.pointer (some ⟨b11,0,none⟩)),(16,.slice (some ⟨bx2,ox2,none⟩) R.boxes.length q4),(17,.int .i64 R.boxes.length),(18,.int .i64 (kk : Nat))]) (H1:=⟨b6,0,(Y.set ix v).flatMap cI,some 77,48⟩::⟨b11,0,cSp s',some 35,2⟩::⟨b9,0,cBx x,some 81,2⟩::⟨b4,0,(List.replicate 48 (0 : Int)).flatMap cI,some 77,48⟩::⟨b2,0,cRm R ⟨some ⟨ba,oa,none⟩,q2,(some ⟨bx2,ox2,none⟩),q4,q5,q6⟩,some 26,5⟩::H) ?_ ?_
      ·rcases hv2 with ⟨hb0,rfl⟩ | ⟨jj,u,hj1,hj2,hju,hvq⟩
       ·have hb0' : ¬ ((bl.length : Nat) : Int) > 0:=by omega
        repeat' (first | (refine uP rfl ?_;(first | ((first | refine uN rfl ?_);(first | (refine uE (uY rfl rfl (te rfl)) rfl rfl ?_)|(refine uE (uQ (b:=false) rfl rfl rfl (congrArg some (decide_eq_false hb0'))) rfl rfl ?_)|(refine uE (uM rfl rfl) rfl rfl ?_)))))|(refine uD rfl ?_;refine hK _ _ ?_;clear hK K) | refine uS rfl ?_ | refine uR rfl (fun K hK=>?_) | refine X.skip rfl ?_ | (refine X.ite rfl rfl (fun hc=>?_);(first | (with_reducible refine Xb.f hc ?_)) <;> clear hc))
        all_goals try (exfalso;contradiction)
        exact ⟨rfl,(by repeat (first | exact uU _ | refine uV rfl ?_)),(by repeat (first | exact qR _ | apply qK | apply qC))⟩
       ·have hb0' : ((bl.length : Nat) : Int) > 0:=by omega
        have hu:=h8 u (List.mem_of_getElem? hju)
        obtain ⟨bo,oo,_,rfl,_⟩:=hb.elem (i:=jj) hj1
        have hc2 : ((Y.set ix s'.lo).flatMap cI)[0 + (kk : Int).toNat * 12 + m.toNat * 1]? = some (.int .i64 s'.lo):=by rw [hpi,get_cell,List.getElem?_set_self hlx];rfl
        have hlx2 : ix < (Y.set ix s'.lo).length:=by rw [List.length_set];exact hlx
        have e1:=Int.emod_nonneg u (b:=s'.hi - s'.lo + 1) (by omega)
        have e2:=Int.emod_lt_of_pos u (b:=s'.hi - s'.lo + 1) (by omega)
        repeat' (first | (refine uP rfl ?_;(first | ((first | refine uN rfl ?_);(first | (refine uE (uY rfl rfl (te rfl)) rfl rfl ?_)|(refine uE (uQ (b:=true) rfl rfl rfl (congrArg some (decide_eq_true hb0'))) rfl rfl ?_)|(refine uE (uM rfl rfl) rfl rfl ?_)))))|(refine uD rfl ?_;refine hK _ _ ?_;clear hK K) | refine uS rfl ?_ | refine uR rfl (fun K hK=>?_)|(refine X.ite rfl rfl (fun hc=>?_);(first | (with_reducible refine Xb.t hc ?_)) <;> clear hc))
        all_goals try (exfalso;contradiction)
        refine X.weak (F' := [(1,.slice (some ⟨bo,oo,none⟩) bl.length cb),(2,.pointer (some ⟨b2,0,none⟩)),(4,.pointer (some ⟨b4,0,none⟩)),(6,.pointer (some ⟨b6,0,none⟩)),(7,.int .i64 tn'),(8,.int .i64 (kk : Nat)),(9,.pointer (some ⟨b9,0,none⟩)),(10,.int .i64 m),(11,.pointer (some ⟨b11,0,none⟩)),(16,.slice (some ⟨bx2,ox2,none⟩) R.boxes.length q4),(17,.int .i64 R.boxes.length),(18,.int .i64 (kk : Nat))]) (H' := ⟨b6,0,(Y.set ix s'.lo).flatMap cI,some 77,48⟩::⟨b11,0,cSp s',some 35,2⟩::⟨b9,0,cBx x,some 81,2⟩::⟨b4,0,(List.replicate 48 (0 : Int)).flatMap cI,some 77,48⟩::⟨b2,0,cRm R ⟨some ⟨ba,oa,none⟩,q2,(some ⟨bx2,ox2,none⟩),q4,q5,q6⟩,some 26,5⟩::H) (by repeat (first | exact uU _ | refine uV rfl ?_)) (qR _) ?_
        refine X.regionRd tsKg3 rdKg3 [1,2,4,6,7,8,9,10,11,16,17,18] [(1,.slice (some ⟨bo,oo,none⟩) bl.length cb),(2,.pointer (some ⟨b2,0,none⟩)),(4,.pointer (some ⟨b4,0,none⟩)),(6,.pointer (some ⟨b6,0,none⟩)),(7,.int .i64 tn'),(8,.int .i64 (kk : Nat)),(9,.pointer (some ⟨b9,0,none⟩)),(10,.int .i64 m),(11,.pointer (some ⟨b11,0,none⟩)),(16,.slice (some ⟨bx2,ox2,none⟩) R.boxes.length q4),(17,.int .i64 R.boxes.length),(18,.int .i64 (kk : Nat))] (valKg3 b2 b4 b6 b9 b11 kk tn' m R bl none cb (some ⟨bx2,ox2,none⟩) q4 s' Y ix jj bo oo u) (rowsKg3 b2 b4 b6 b9 b11 kk tn' m R bl none cb (some ⟨bx2,ox2,none⟩) q4 s' Y ix jj bo oo u) (fun _=>(0,0)) (⟨b11,0,cSp s',some 35,2⟩::⟨b9,0,cBx x,some 81,2⟩::⟨b4,0,(List.replicate 48 (0 : Int)).flatMap cI,some 77,48⟩::⟨b2,0,cRm R ⟨some ⟨ba,oa,none⟩,q2,(some ⟨bx2,ox2,none⟩),q4,q5,q6⟩,some 26,5⟩::H) rfl mixed (by repeat (first | exact uU _ | refine uV rfl ?_)) rfl (by kernel_rfl) (by kernel_rfl) (locKg3 b2 b4 b6 b9 b11 kk tn' m R bl none cb (some ⟨bx2,ox2,none⟩) q4 s' Y ix jj bo oo u) (qR _) ?_ ?_
        ·repeat' (first | exact AllF.done rfl | (refine AllF.step rfl ?_ ?_;·(first | exact (Ob.ng rfl (uK (fun env R hR=>by exact ⟨_,uM rfl rfl,rfl⟩) rfl (fun _=>rfl))).toR | exact (Ob.ng rfl (uK (fun env R hR=>by exact ⟨_,uF rfl rfl (te rfl) rfl (te rfl) (by decide),rfl⟩) rfl (fun _=>rfl))).toR | exact (Ob.ng rfl (uK (fun env R hR=>by exact ⟨_,uY rfl rfl (te rfl),rfl⟩) rfl (fun _=>rfl))).toR | exact (Ob.ng rfl (uK (fun env R hR=>by exact ⟨_,uL rfl rfl (uO (te rfl) rfl (hR _ (qH _)) rfl),rfl⟩) rfl (fun _=>rfl))).toR | (refine ObR.ng rfl ?_;(first | (exact fun env S hS hrd=>(StF.ofEv (uL rfl rfl (uO (cs:=(Y.set ix s'.lo).flatMap cI) (te rfl) rfl (hrd 24 (qH _) _ (qH _)) hc2))).op.mono (fun v H' ⟨hv,hH⟩=>⟨(0,0),fun _=>hv,by rw [hH];exact List.Perm.refl _⟩))|(exact fun env S hS hrd=>(StF.ofEv (v := .pointer (some ⟨b6,0 + (kk : Int).toNat * 12,none⟩)) (EvF.indexArray (T:=77) (e:=76) (ti:=⟨.ar 12 3,12,96⟩) (len:=4) (i:=(kk : Int)) (b:=b6) (off:=0) rfl rfl rfl (te rfl) (te rfl) (by omega) (by omega))).op.mono (fun v H' ⟨hv,hH⟩=>⟨(0,0),fun _=>hv,by rw [hH];exact List.Perm.refl _⟩))|(exact fun env S hS hrd=>(StF.ofEv (v := .pointer (some ⟨b6,0 + (kk : Int).toNat * 12 + (m).toNat * 1,none⟩)) (EvF.indexArray (T:=76) (e:=3) (ti:=⟨.int .i64,1,8⟩) (len:=12) (i:=m) (b:=b6) (off:=0 + (kk : Int).toNat * 12) rfl rfl rfl (te rfl) (te rfl) (by omega) (by omega))).op.mono (fun v H' ⟨hv,hH⟩=>⟨(0,0),fun _=>hv,by rw [hH];exact List.Perm.refl _⟩))|(exact fun env S hS hrd=>(StF.ofEv (v := .int .i64 (jj : Nat)) ((by rw [← hj2];exact EvF.rem64 (p:=tn') rfl rfl rfl (by omega) (by omega)))).op.mono (fun v H' ⟨hv,hH⟩=>⟨(0,0),fun _=>hv,by rw [hH];exact List.Perm.refl _⟩))|(exact fun env S hS hrd=>(StF.ofEv (v := .pointer (some ⟨bo,oo + jj * 1,none⟩)) (uJ (i:=(jj : Int)) (off:=oo) (b:=bo) (T:=74) (e:=5) (len:=bl.length) (ti:=⟨.int .u8,1,1⟩) rfl rfl rfl (te rfl) (te rfl) (by omega) (by omega))).op.mono (fun v H' ⟨hv,hH⟩=>⟨(0,0),fun _=>hv,by rw [hH];exact List.Perm.refl _⟩))|(exact fun env S hS hrd=>(StF.ofEv (v := .int .u8 u) (uL rfl rfl (LoadV.el0 (n:=jj) (hb.sub (fun r h=>hS r (qT _ (qT _ (qT _ (qT _ h)))))) hju (te rfl) rfl (fun _ h=>h) rfl))).op.mono (fun v H' ⟨hv,hH⟩=>⟨(0,0),fun _=>hv,by rw [hH];exact List.Perm.refl _⟩))|(exact fun env S hS hrd=>(StF.ofEv (v := .int .i64 u) (EvF.conv rfl rfl byte_und int_undI (by omega) (by omega))).op.mono (fun v H' ⟨hv,hH⟩=>⟨(0,0),fun _=>hv,by rw [hH];exact List.Perm.refl _⟩))|(exact fun env S hS hrd=>(StF.ofEv (EvF.sub64 rfl rfl rfl (by omega) (by omega))).op.mono (fun v H' ⟨hv,hH⟩=>⟨(0,0),fun _=>hv,by rw [hH];exact List.Perm.refl _⟩))|(exact fun env S hS hrd=>(StF.ofEv (EvF.add64 rfl rfl rfl (by omega) (by omega))).op.mono (fun v H' ⟨hv,hH⟩=>⟨(0,0),fun _=>hv,by rw [hH];exact List.Perm.refl _⟩))|(exact fun env S hS hrd=>(StF.ofEv (EvF.rem64 (p:=u) rfl rfl rfl (by omega) (by omega))).op.mono (fun v H' ⟨hv,hH⟩=>⟨(0,0),fun _=>hv,by rw [hH];exact List.Perm.refl _⟩))|(exact fun env S hS hrd=>(StF.storeI (q:=0) (i:=ix) rfl rfl rfl (te rfl) rfl rfl hpi hlx2).op.mono (fun v H' ⟨hv,hH⟩=>⟨(0,0),fun h=>absurd rfl h,by rw [hH];exact List.Perm.refl _⟩)))))))
        ·intro env t ha2 hv;refine ⟨_,ha2,?_⟩;clear hv ha2
         have e : (Y.set ix s'.lo).set ix (s'.lo + u % (s'.hi - s'.lo + 1)) = Y.set ix v:=by rw [List.set_set,hvq]
         rw [← e]
         exact ⟨rfl,(by repeat (first | exact uU _ | refine uV rfl ?_)),qR _⟩
      ·repeat' (first | (refine uP rfl ?_;(first | ((first | refine uN rfl ?_);(first | (refine uE (EvF.add64 (p:=tn') (q:=1) rfl rfl rfl (by omega) (by omega)) rfl rfl ?_)|(refine uE (EvF.add64 (p:=m) (q:=1) rfl rfl rfl (by omega) (by omega)) rfl rfl ?_)|(refine uE (uM rfl rfl) rfl rfl ?_)|(refine uE (uA rfl rfl) rfl rfl ?_)))))|(refine uD rfl ?_;refine hK _ _ ?_;clear hK K) | refine uR rfl (fun K hK=>?_))
       all_goals try (exfalso;contradiction)
       exact ⟨_,_,_,(by repeat (first | exact uU _ | refine uV rfl ?_)),(by repeat (first | exact qR _ | apply qK | apply qC)),⟨m + 1,tn' + 1,Y.set ix v,rfl,by omega,by omega,hgy2,by omega,by omega,rfl,rfl⟩,by omega⟩
  ·have hmq : m = R.months:=by omega
   repeat' (first | (refine uP rfl ?_;(first | ((first | refine uN rfl ?_);(first | (refine uE (uQ (b:=false) rfl rfl rfl (congrArg some (decide_eq_false hmt))) rfl rfl ?_)|(refine uE (uL rfl rfl (uO (te rfl) rfl (qT _ (qT _ (qT _ (qH _)))) rfl)) rfl rfl ?_)|(refine uE (EvF.add64 (p:=(kk : Int)) (q:=1) rfl rfl rfl (by omega) (by omega)) rfl rfl ?_)|(refine uE (uM rfl rfl) rfl rfl ?_)|(refine uE (uF rfl rfl (te rfl) rfl (te rfl) (by decide)) rfl rfl ?_)))))|(refine uD rfl ?_;refine hK _ _ ?_;clear hK K) | refine uS rfl ?_ | refine uR rfl (fun K hK=>?_)|(refine X.brk rfl ?_;repeat (first | refine blockX_hit rfl ?_ | refine blockX_miss (by decide) ?_))|(refine X.ite rfl rfl (fun hc=>?_);(first | (with_reducible refine Xb.f hc ?_)) <;> clear hc))
   all_goals try (exfalso;contradiction)
   exact ⟨_,_,_,(by repeat (first | exact uU _ | refine uV rfl ?_)),(by repeat (first | exact qR _ | apply qK | apply qC)),⟨kk + 1,tn',Y,rfl,by omega,gy_out hok (by rw [← hmq];exact hgy),by omega,by omega,rfl,rfl⟩,by omega⟩
 ·obtain rfl : kk = R.boxes.length:=by omega
  have hlt' : ¬ (R.boxes.length : Int)<(R.boxes.length : Int):=by omega
  repeat' (first | (refine uP rfl ?_;(first | ((first | refine uN rfl ?_);(first | (refine uE (uQ (b:=false) rfl rfl rfl (congrArg some (decide_eq_false hlt'))) rfl rfl ?_)|(refine uE (uY rfl rfl (te rfl)) rfl rfl ?_)|(refine uE (uL rfl rfl (uO (te rfl) rfl (qT _ (qT _ (qH _))) rfl)) rfl rfl ?_)|(refine uE (uM rfl rfl) rfl rfl ?_)|(refine uE (uF rfl rfl (te rfl) rfl (te rfl) (by decide)) rfl rfl ?_)))))|(refine uD rfl ?_;refine hK _ _ ?_;clear hK K) | refine uS rfl ?_ | refine uR rfl (fun K hK=>?_) | refine X.block rfl ?_ | (refine X.brk rfl ?_;repeat (first | refine blockX_hit rfl ?_ | refine blockX_miss (by decide) ?_))|(refine X.ite rfl rfl (fun hc=>?_);(first | (with_reducible refine Xb.f hc ?_)) <;> clear hc))
  all_goals try (exfalso;contradiction)
  have hmts:=hR.mats
  have hly : (Y.flatMap cI).length = 48:=by rw [lenI];have:=hgy.len;omega
  have hly2 : (Y.flatMap cI).length = ((List.replicate 48 (0 : Int)).flatMap cI).length:=by rw [hly,lenI,List.length_replicate]
  refine X.lp rfl (fun q F' H' => ∃ kk : Nat,q = R.mats.length - kk∧kk ≤ R.mats.length∧(∀ x ∈ R.mats.take kk,x.lo ≤ yat Y (index R.boxes x.a).toNat x.month - yat Y (index R.boxes x.b).toNat x.month∧yat Y (index R.boxes x.a).toNat x.month - yat Y (index R.boxes x.b).toNat x.month ≤ x.hi)∧⟨b6,0,(Y).flatMap cI,some 77,48⟩::⟨b4,0,(List.replicate 48 (0 : Int)).flatMap cI,some 77,48⟩::⟨b2,0,cRm R ⟨some ⟨ba,oa,none⟩,q2,q3,q4,q5,q6⟩,some 26,5⟩::H = H'∧F' = [(2,.pointer (some ⟨b2,0,none⟩)),(4,.pointer (some ⟨b4,0,none⟩)),(6,.pointer (some ⟨b6,0,none⟩)),(107,.slice q5 R.mats.length q6),(108,.int .i64 R.mats.length),(109,.int .i64 (kk : Nat))])
   R.mats.length [(2,.pointer (some ⟨b2,0,none⟩)),(4,.pointer (some ⟨b4,0,none⟩)),(6,.pointer (some ⟨b6,0,none⟩)),(107,.slice q5 R.mats.length q6),(108,.int .i64 R.mats.length),(109,.int .i64 (0 : Nat))] (⟨b6,0,(Y).flatMap cI,some 77,48⟩::⟨b4,0,(List.replicate 48 (0 : Int)).flatMap cI,some 77,48⟩::⟨b2,0,cRm R ⟨some ⟨ba,oa,none⟩,q2,q3,q4,q5,q6⟩,some 26,5⟩::H) (by repeat (first | exact uU _ | refine uV rfl ?_)) (qR _) ⟨0,rfl,Nat.zero_le _,fun x hx=>absurd hx List.not_mem_nil,rfl,rfl⟩ ?_
  rintro _ _ _ ⟨kk,rfl,hk3,hall,rfl,rfl⟩
  by_cases hlt2 : kk < R.mats.length
  ·have hlt3 : (kk : Int)<(R.mats.length : Int):=by omega
   obtain ⟨bm,om,e,rfl,he⟩:=hmts.elem (i:=kk) hlt2
   obtain ⟨⟨xa,hxa,exa⟩,⟨xb,hxb,exb⟩,_⟩:=hok.mats e (List.mem_of_getElem? he)
   obtain ⟨ia,hia⟩:=List.mem_iff_getElem?.1 hxa.1
   obtain ⟨ib,hib⟩:=List.mem_iff_getElem?.1 hxb.1
   have hia4:=(List.getElem?_eq_some_iff.1 hia).1
   have hib4:=(List.getElem?_eq_some_iff.1 hib).1
   have hma:=okBoxes_mem _ _ _ hok.2.2.1 xa hxa.1
   have hmo1:=hxa.2.1
   have hmo2:=hxa.2.2
   have e1 : index R.boxes e.a = (ia : Int):=by rw [← exa];exact index_box hok.ok.bx hia
   have e2 : index R.boxes e.b = (ib : Int):=by rw [← exb];exact index_box hok.ok.bx hib
   have kia:=fun S hS=>index_spec R ⟨some ⟨ba,oa,none⟩,q2,q3,q4,some ⟨bm,om,none⟩,q6⟩ e.a S hS
   have kib:=fun S hS=>index_spec R ⟨some ⟨ba,oa,none⟩,q2,q3,q4,some ⟨bm,om,none⟩,q6⟩ e.b S hS
   rw [e1] at kia
   rw [e2] at kib
   have hca : (Y.flatMap cI)[0 + (ia : Int).toNat * 12 + e.month.toNat * 1]? = some (.int .i64 (yat Y ia e.month)):=yat_cell hgy (by omega) (by omega)
   have hcb : (Y.flatMap cI)[0 + (ib : Int).toNat * 12 + e.month.toNat * 1]? = some (.int .i64 (yat Y ib e.month)):=yat_cell hgy (by omega) (by omega)
   have hya:=yat_bd hgy ia e.month
   have hyb:=yat_bd hgy ib e.month
   have hsn : yat Y ia e.month - yat Y ib e.month < e.lo∨yat Y ia e.month - yat Y ib e.month > e.hi ∨ ∀ x ∈ R.mats.take (kk + 1),x.lo ≤ yat Y (index R.boxes x.a).toNat x.month - yat Y (index R.boxes x.b).toNat x.month∧yat Y (index R.boxes x.a).toNat x.month - yat Y (index R.boxes x.b).toNat x.month ≤ x.hi:=by
    by_cases g1 : yat Y ia e.month - yat Y ib e.month < e.lo
    ·exact .inl g1
    ·by_cases g2 : yat Y ia e.month - yat Y ib e.month > e.hi
     ·exact .inr (.inl g2)
     ·refine .inr (.inr fun x hx=>?_)
      rw [take_snoc he] at hx
      rcases List.mem_append.1 hx with hx | hx
      ·exact hall x hx
      ·rw [List.mem_singleton.1 hx,e1,e2]
       exact ⟨Int.not_lt.1 g1,Int.not_lt.1 g2⟩
   obtain ⟨ya,hyaq⟩ : ∃ ya,ya = yat Y ia e.month:=⟨_,rfl⟩
   obtain ⟨yb,hybq⟩ : ∃ yb,yb = yat Y ib e.month:=⟨_,rfl⟩
   rw [← hyaq] at hca hya hsn
   rw [← hybq] at hcb hyb hsn
   clear hyaq hybq e1 e2
   repeat' (first | (refine uP rfl ?_;(first | ((first | refine uN rfl ?_);(first | (refine uE (uQ (b:=true) rfl rfl rfl (congrArg some (decide_eq_true hlt3))) rfl rfl ?_)|(refine uE (uL rfl rfl (LoadV.elA0 (hmts.sub (fun _ h=>qT _ (qT _ (qT _ h)))) he (te rfl) rfl (fun _ hm=>hm) rfl)) rfl rfl ?_)|(refine Xg.st (StF.alloc rfl Try.zeroValue111 rfl) rfl rfl ?_;rintro _ _ ⟨b13,rfl,rfl⟩)|(refine Xg.st0 (uZ (i:=0) (vs:=cMt e) rfl rfl rfl (te rfl) rfl rfl rfl rfl) rfl ?_;rintro _ _ ⟨rfl,rfl⟩;dsimp only [List.set])|(refine uE (uJ rfl rfl rfl (te rfl) (te rfl) (by omega) (by omega)) rfl rfl ?_)))))|(refine uD rfl ?_;refine hK _ _ ?_;clear hK K) | refine uS rfl ?_ | refine uR rfl (fun K hK=>?_) | refine X.block rfl ?_ | refine X.skip rfl ?_ | (refine X.ite rfl rfl (fun hc=>?_);(first | (with_reducible refine Xb.t hc ?_)) <;> clear hc))
   all_goals try (exfalso;contradiction)
   refine X.weak (F' := [(2,.pointer (some ⟨b2,0,none⟩)),(4,.pointer (some ⟨b4,0,none⟩)),(6,.pointer (some ⟨b6,0,none⟩)),(13,.pointer (some ⟨b13,0,none⟩)),(107,.slice (some ⟨bm,om,none⟩) R.mats.length q6),(108,.int .i64 R.mats.length),(109,.int .i64 (kk : Nat))]) (H' := ⟨b13,0,cMt e,some 111,6⟩::⟨b6,0,(Y).flatMap cI,some 77,48⟩::⟨b4,0,(List.replicate 48 (0 : Int)).flatMap cI,some 77,48⟩::⟨b2,0,cRm R ⟨some ⟨ba,oa,none⟩,q2,q3,q4,some ⟨bm,om,none⟩,q6⟩,some 26,5⟩::H) (by repeat (first | exact uU _ | refine uV rfl ?_)) (qR _) ?_
   refine X.regionOb tsKg4 [2,4,6,13,107,108,109] [(2,.pointer (some ⟨b2,0,none⟩)),(4,.pointer (some ⟨b4,0,none⟩)),(6,.pointer (some ⟨b6,0,none⟩)),(13,.pointer (some ⟨b13,0,none⟩)),(107,.slice (some ⟨bm,om,none⟩) R.mats.length q6),(108,.int .i64 R.mats.length),(109,.int .i64 (kk : Nat))] (valKg4 b2 b4 b6 b13 kk ia ib R ⟨some ⟨ba,oa,none⟩,q2,q3,q4,some ⟨bm,om,none⟩,q6⟩ e ya yb (some ⟨bm,om,none⟩) q6) (rowsKg4 b2 b4 b6 b13 kk ia ib R ⟨some ⟨ba,oa,none⟩,q2,q3,q4,some ⟨bm,om,none⟩,q6⟩ e ya yb (some ⟨bm,om,none⟩) q6) (fun _=>(0,0)) (⟨b13,0,cMt e,some 111,6⟩::⟨b6,0,(Y).flatMap cI,some 77,48⟩::⟨b4,0,(List.replicate 48 (0 : Int)).flatMap cI,some 77,48⟩::⟨b2,0,cRm R ⟨some ⟨ba,oa,none⟩,q2,q3,q4,some ⟨bm,om,none⟩,q6⟩,some 26,5⟩::H) rfl mixed (by repeat (first | exact uU _ | refine uV rfl ?_)) rfl (by kernel_rfl) (locKg4 b2 b4 b6 b13 kk ia ib R ⟨some ⟨ba,oa,none⟩,q2,q3,q4,some ⟨bm,om,none⟩,q6⟩ e ya yb (some ⟨bm,om,none⟩) q6) (qR _) ?_ ?_
   ·repeat' (first | exact AllF.done rfl | (refine AllF.step rfl ?_ ?_;·(first | fail | ((first | refine Ob.ng rfl ?_);(first | exact uK (fun env R hR=>by exact ⟨_,uA rfl rfl,rfl⟩) rfl (fun _=>rfl) | exact uK (fun env R hR=>by exact ⟨_,uF rfl rfl (te rfl) rfl (te rfl) (by decide),rfl⟩) rfl (fun _=>rfl) | exact uK (fun env R hR=>by exact ⟨_,uL rfl rfl (uO (te rfl) rfl (hR _ (qH _)) rfl),rfl⟩) rfl (fun _=>rfl) | exact uK (fun env R hR=>by exact ⟨_,uL rfl rfl (uW (te rfl) rfl (hR _ (qT _ (qT _ (qT _ (qH _))))) rfl),rfl⟩) rfl (fun _=>rfl)|(exact uK (fun env S hS=>⟨.pointer (some ⟨b6,0 + (ia : Int).toNat * 12,none⟩),EvF.indexArray (T:=77) (e:=76) (ti:=⟨.ar 12 3,12,96⟩) (len:=4) (i:=(ia : Int)) (b:=b6) (off:=0) rfl rfl rfl (te rfl) (te rfl) (by omega) (by omega),rfl⟩) rfl (fun _=>rfl))|(exact uK (fun env S hS=>⟨.pointer (some ⟨b6,0 + (ib : Int).toNat * 12,none⟩),EvF.indexArray (T:=77) (e:=76) (ti:=⟨.ar 12 3,12,96⟩) (len:=4) (i:=(ib : Int)) (b:=b6) (off:=0) rfl rfl rfl (te rfl) (te rfl) (by omega) (by omega),rfl⟩) rfl (fun _=>rfl))|(exact uK (fun env S hS=>⟨.pointer (some ⟨b6,0 + (ia : Int).toNat * 12 + e.month.toNat * 1,none⟩),EvF.indexArray (T:=76) (e:=3) (ti:=⟨.int .i64,1,8⟩) (len:=12) (i:=e.month) (b:=b6) (off:=0 + (ia : Int).toNat * 12) rfl rfl rfl (te rfl) (te rfl) (by omega) (by omega),rfl⟩) rfl (fun _=>rfl))|(exact uK (fun env S hS=>⟨.pointer (some ⟨b6,0 + (ib : Int).toNat * 12 + e.month.toNat * 1,none⟩),EvF.indexArray (T:=76) (e:=3) (ti:=⟨.int .i64,1,8⟩) (len:=12) (i:=e.month) (b:=b6) (off:=0 + (ib : Int).toNat * 12) rfl rfl rfl (te rfl) (te rfl) (by omega) (by omega),rfl⟩) rfl (fun _=>rfl))|(exact uK (fun env S hS=>⟨_,uL rfl rfl (uO (cs:=Y.flatMap cI) (te rfl) rfl (hS _ (qT _ (qH _))) hca),rfl⟩) rfl (fun _=>rfl))|(exact uK (fun env S hS=>⟨_,uL rfl rfl (uO (cs:=Y.flatMap cI) (te rfl) rfl (hS _ (qT _ (qH _))) hcb),rfl⟩) rfl (fun _=>rfl))|(exact fun env S hS=>(OpF.call (uT rfl (Args.cons rfl (Args.cons rfl Args.nil))) (kia _ (hR.sub (fun r h=>hS r (qT _ (qT _ (qT _ (qT _ h)))))))).mono (fun v H' ⟨hv,hH⟩=>⟨(0,0),fun _=>hv,by rw [hH];exact List.Perm.refl _⟩))|(exact fun env S hS=>(OpF.call (uT rfl (Args.cons rfl (Args.cons rfl Args.nil))) (kib _ (hR.sub (fun r h=>hS r (qT _ (qT _ (qT _ (qT _ h)))))))).mono (fun v H' ⟨hv,hH⟩=>⟨(0,0),fun _=>hv,by rw [hH];exact List.Perm.refl _⟩))|(exact uK (fun env S hS=>⟨_,EvF.sub64 rfl rfl rfl (by omega) (by omega),rfl⟩) rfl (fun _=>rfl)))))))
   ·intro env t ha2 hv;refine ⟨_,ha2.cons (hv 19 14 (Nat.le_of_ble_eq_true rfl) rfl),?_⟩;clear hv ha2
    show X _ _ _ [(14,.int .i64 (ya - yb)),(2,.pointer (some ⟨b2,0,none⟩)),(4,.pointer (some ⟨b4,0,none⟩)),(6,.pointer (some ⟨b6,0,none⟩)),(13,.pointer (some ⟨b13,0,none⟩)),(107,.slice (some ⟨bm,om,none⟩) R.mats.length q6),(108,.int .i64 R.mats.length),(109,.int .i64 (kk : Nat))] (⟨b13,0,cMt e,some 111,6⟩::⟨b6,0,(Y).flatMap cI,some 77,48⟩::⟨b4,0,(List.replicate 48 (0 : Int)).flatMap cI,some 77,48⟩::⟨b2,0,cRm R ⟨some ⟨ba,oa,none⟩,q2,q3,q4,some ⟨bm,om,none⟩,q6⟩,some 26,5⟩::H) _
    clear env
    by_cases g1 : ya - yb < e.lo
    ·repeat' (first | (refine uP rfl ?_;(first | ((first | refine uN rfl ?_);(first | (refine uE (uL rfl rfl (uO (te rfl) rfl (qH _) rfl)) rfl rfl ?_)|(refine uE (uQ (b:=true) rfl rfl rfl (congrArg some (decide_eq_true g1))) rfl rfl ?_)|(refine uE (uL rfl rfl (uW (T:=77) (cs:=(Y).flatMap cI) (te rfl) rfl (qT _ (qH _)) hly)) rfl rfl ?_)|(refine Xg.st0 (uZ (i:=2) (vs:=(Y).flatMap cI) (cs:=(List.replicate 48 (0 : Int)).flatMap cI) rfl rfl rfl (te rfl) rfl hly (oneIs _) hly2) rfl ?_;rintro _ _ ⟨rfl,rfl⟩;dsimp only [List.set])|(refine uE (uM rfl rfl) rfl rfl ?_)|(refine uE (uA rfl rfl) rfl rfl ?_)|(refine uE (EvF.pickT rfl rfl rfl) rfl rfl ?_)|(refine uE (uF rfl rfl (te rfl) rfl (te rfl) (by decide)) rfl rfl ?_)))|(refine Xo.g rfl rfl ?_;(first | (with_reducible refine Xw.tf rfl rfl ?_)))))|(refine uD rfl ?_;refine hK _ _ ?_;clear hK K) | refine uS rfl ?_ | refine uR rfl (fun K hK=>?_) | refine X.ret rfl ?_ | (refine X.ite rfl rfl (fun hc=>?_);(first | (with_reducible refine Xb.t hc ?_)) <;> clear hc))
     all_goals try (exfalso;contradiction)
     exact ret_two (by simp) Try.results47 ⟨_,rfl,uW (te rfl) rfl (qT _ (qT _ (qH _))) hly⟩ rfl (H' := H) (by repeat (first | exact qR _ | apply qK | apply qC)) ⟨_,false,rfl,⟨hgy.len,fun e=>by cases e⟩,rfl⟩
    ·by_cases g2 : ya - yb > e.hi
     ·repeat' (first | (refine uP rfl ?_;(first | ((first | refine uN rfl ?_ | (refine Xo.g rfl rfl ?_;with_reducible refine Xw.ff ?_));(first | (refine uE (uL rfl rfl (uO (te rfl) rfl (qH _) rfl)) rfl rfl ?_)|(refine uE (uQ (b:=false) rfl rfl rfl (congrArg some (decide_eq_false g1))) rfl rfl ?_)|(refine uE (uQ (b:=true) rfl rfl rfl (congrArg some (decide_eq_true g2))) rfl rfl ?_)|(refine uE (uL rfl rfl (uW (T:=77) (cs:=(Y).flatMap cI) (te rfl) rfl (qT _ (qH _)) hly)) rfl rfl ?_)|(refine Xg.st0 (uZ (i:=2) (vs:=(Y).flatMap cI) (cs:=(List.replicate 48 (0 : Int)).flatMap cI) rfl rfl rfl (te rfl) rfl hly (oneIs _) hly2) rfl ?_;rintro _ _ ⟨rfl,rfl⟩;dsimp only [List.set])|(refine uE (uM rfl rfl) rfl rfl ?_)|(refine uE (uA rfl rfl) rfl rfl ?_)|(refine uE (EvF.pickF rfl rfl rfl) rfl rfl ?_)|(refine uE (uF rfl rfl (te rfl) rfl (te rfl) (by decide)) rfl rfl ?_)))))|(refine uD rfl ?_;refine hK _ _ ?_;clear hK K) | refine uS rfl ?_ | refine uR rfl (fun K hK=>?_) | refine X.ret rfl ?_ | (refine X.ite rfl rfl (fun hc=>?_);(first | (with_reducible refine Xb.t hc ?_)) <;> clear hc))
      all_goals try (exfalso;contradiction)
      exact ret_two (by simp) Try.results47 ⟨_,rfl,uW (te rfl) rfl (qT _ (qT _ (qH _))) hly⟩ rfl (H' := H) (by repeat (first | exact qR _ | apply qK | apply qC)) ⟨_,false,rfl,⟨hgy.len,fun e=>by cases e⟩,rfl⟩
     ·repeat' (first | (refine uP rfl ?_;(first | ((first | refine uN rfl ?_ | (refine Xo.g rfl rfl ?_;with_reducible refine Xw.ff ?_));(first | (refine uE (uL rfl rfl (uO (te rfl) rfl (qH _) rfl)) rfl rfl ?_)|(refine uE (uQ (b:=false) rfl rfl rfl (congrArg some (decide_eq_false g1))) rfl rfl ?_)|(refine uE (uQ (b:=false) rfl rfl rfl (congrArg some (decide_eq_false g2))) rfl rfl ?_)|(refine uE (EvF.add64 (p:=(kk : Int)) (q:=1) rfl rfl rfl (by omega) (by omega)) rfl rfl ?_)|(refine uE (uM rfl rfl) rfl rfl ?_)|(refine uE (EvF.pickF rfl rfl rfl) rfl rfl ?_)|(refine uE (uF rfl rfl (te rfl) rfl (te rfl) (by decide)) rfl rfl ?_)))))|(refine uD rfl ?_;refine hK _ _ ?_;clear hK K) | refine uS rfl ?_ | refine uR rfl (fun K hK=>?_) | refine X.skip rfl ?_ | (refine X.ite rfl rfl (fun hc=>?_);(first | (with_reducible refine Xb.f hc ?_)) <;> clear hc))
      all_goals try (exfalso;contradiction)
      exact ⟨_,_,_,(by repeat (first | exact uU _ | refine uV rfl ?_)),(by repeat (first | exact qR _ | apply qK | apply qC)),⟨kk + 1,rfl,by omega,hsn.elim (fun q=>absurd q g1) (fun q=>q.elim (fun q=>absurd q g2) id),rfl,rfl⟩,by omega⟩
  ·obtain rfl : kk = R.mats.length:=by omega
   have hlt3 : ¬ (R.mats.length : Int)<(R.mats.length : Int):=by omega
   rw [List.take_length] at hall
   repeat' (first | (refine uP rfl ?_;(first | ((first | refine uN rfl ?_);(first | (refine uE (uQ (b:=false) rfl rfl rfl (congrArg some (decide_eq_false hlt3))) rfl rfl ?_)|(refine uE (uL rfl rfl (uW (T:=77) (cs:=(Y).flatMap cI) (te rfl) rfl (qH _) hly)) rfl rfl ?_)|(refine Xg.st0 (uZ (i:=1) (vs:=(Y).flatMap cI) (cs:=(List.replicate 48 (0 : Int)).flatMap cI) rfl rfl rfl (te rfl) rfl hly (oneIs _) hly2) rfl ?_;rintro _ _ ⟨rfl,rfl⟩;dsimp only [List.set])|(refine uE (uA rfl rfl) rfl rfl ?_)))))|(refine uD rfl ?_;refine hK _ _ ?_;clear hK K) | refine uS rfl ?_ | refine uR rfl (fun K hK=>?_)|(refine X.brk rfl ?_;repeat (first | refine blockX_hit rfl ?_ | refine blockX_miss (by decide) ?_)) | refine X.ret rfl ?_ | (refine X.ite rfl rfl (fun hc=>?_);(first | (with_reducible refine Xb.f hc ?_)) <;> clear hc))
   all_goals try (exfalso;contradiction)
   exact ret_two (by simp) Try.results47 ⟨_,rfl,uW (te rfl) rfl (qT _ (qH _)) hly⟩ rfl (H' := H) (by repeat (first | exact qR _ | apply qK | apply qC)) ⟨_,true,rfl,⟨hgy.len,fun _=>⟨hgy,hall⟩⟩,rfl⟩
end Go.Proofs.Ytmfppdpkalelhaa
