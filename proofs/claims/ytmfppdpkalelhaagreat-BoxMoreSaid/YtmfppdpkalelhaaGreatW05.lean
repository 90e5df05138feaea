/- Own work: contracts of functions, from rows of what is known of the memory; contracts of functions, from rows of what is known of the memory; contracts of functions, from rows of what is known of the memory; contracts of functions, from rows of what is known of the memory; contracts of functions, from rows of what is known of the memory; contracts of functions, from rows of what is known of the memory; contracts of functions, from rows of what is known of the memory; contracts of functions, from rows of what is known of the memory; contracts of functions, from rows of what is known of the memory -/
import Derived.Test.YtmfppdpkalelhaaGreatW04
section
set_option linter.unusedVariables false
set_option linter.unusedSimpArgs false
namespace Go.Proofs.YtmfppdpkalelhaaGreat
open Go Go.Fw
set_option maxRecDepth 10000
def zCt : List Value:=[.int .i64 0,.int .i64 0,.slice none 0 0,.slice none 0 0,.slice none 0 0,.slice none 0 0]
theorem plcs_take (R : Rm) {i : Nat} {b : Bx} (h : R.boxes[i]? = some b) (k : Nat) : (⟨0,0⟩ : Pk)::((R.boxes.take i).flatMap (agesOf R)++(agesOf R b).take (nAge R b)) = (⟨0,0⟩ : Pk)::(R.boxes.take (i + 1)).flatMap (agesOf R):=by
 rw [take_snoc h,List.flatMap_append]
 have : (agesOf R b).take (nAge R b)=agesOf R b:=List.take_of_length_le (by unfold agesOf;rw [List.length_map,List.length_range];exact Nat.le_refl _)
 rw [this]
 simp
theorem agesOf_get (R : Rm) (b : Bx) {k : Nat} (h : k < nAge R b) : (agesOf R b)[k]? = some ⟨b.id,b.made + k⟩:=by
 unfold agesOf
 rw [List.getElem?_map,List.getElem?_range h]
 rfl
set_option maxHeartbeats 4000000 in
theorem draw_spec (R : Rm) (p : Pl) (H : List Row) (hr : okRm R) (hR : RmOk H R p) :
  Fc Tryz.prog 72 [.agg (cRm R p).toArray] H (fun v H' => ∃ b k,(plcs R).length ≤ k∧v = .agg (cCt R p (some ⟨b,0,none⟩) k).toArray∧H' = ⟨b,0,(plcs R).flatMap cPk,some 86,k * 2⟩::H):=by
 have hR2 : ∀ r1 r2,RmOk (r1::r2::H) R p:=fun r1 r2=>hR.sub (fun _ h=>qT _ (qT _ h))
 have hb4:=hr.b4
 have hm12:=hr.m12
 obtain ⟨a1,c1,a2,c2,a3,c3⟩:=p
 refine Fc.mk (callable Tryz.call72) Tryz.func72 rfl Tryz.ntmps72 rfl ?_;dsimp only [fr]
 repeat' (first | (refine uP rfl ?_;(first | ((first | refine uN rfl ?_);(first | (refine uE (EvF.build (cs:=cPk ⟨0,0⟩) rfl ArgsP.nil (te rfl) (Places.cons (te rfl) (Places.cons (te rfl) Places.nil)) Tryz.zeroValue86 rfl) rfl rfl ?_)|(refine Xg.st (StF.buildOne rfl elPk rfl rfl rfl (by decide) (by decide)) rfl rfl ?_;rintro _ _ ⟨bs,rfl,rfl⟩)|(refine uE (uM rfl rfl) rfl rfl ?_)|(refine uE (uA rfl rfl) rfl rfl ?_)|(refine uE (uF rfl rfl (te rfl) rfl (te rfl) (by decide)) rfl rfl ?_)|(refine uE (EvF.lenSlice rfl rfl (te rfl)) rfl rfl ?_)|(refine uE (uL rfl rfl (uO (te rfl) rfl (qT _ (qT _ (qH _))) rfl)) rfl rfl ?_)|(refine Xg.st (StF.boxAgg rfl rfl) rfl rfl ?_;rintro _ _ ⟨bx,rfl,rfl⟩)|(refine Xg.st (StF.alloc rfl Tryz.zeroValue79 rfl) rfl rfl ?_;rintro _ _ ⟨bx,rfl,rfl⟩)))))|(refine uD rfl ?_;refine hK _ _ ?_;clear hK K) | refine uS rfl ?_ | refine uR rfl (fun K hK=>?_) | refine X.block rfl ?_)
 rename_i b1
 generalize bx = b2
 refine X.lp rfl (fun q F' H' => ∃ (i b n k : Nat),q = R.boxes.length - i∧i ≤ R.boxes.length∧n = ((⟨0,0⟩ : Pk)::(R.boxes.take i).flatMap (agesOf R)).length ∧
   ⟨b,0,((⟨0,0⟩ : Pk)::(R.boxes.take i).flatMap (agesOf R)).flatMap cPk,some 86,k * 2⟩::⟨b2,0,zCt,some 79,6⟩::⟨b1,0,cRm R ⟨a1,c1,a2,c2,a3,c3⟩,some 32,5⟩::H = H' ∧
   F' = [(1,.pointer (some ⟨b1,0,none⟩)),(2,.pointer (some ⟨b2,0,none⟩)),(3,.slice (some ⟨b,0,none⟩) n k),(10,.slice a2 R.boxes.length c2),(11,.int .i64 R.boxes.length),(12,.int .i64 i)])
  R.boxes.length [(1,.pointer (some ⟨b1,0,none⟩)),(2,.pointer (some ⟨b2,0,none⟩)),(3,.slice (some ⟨bs,0,none⟩) 1 1),(10,.slice a2 R.boxes.length c2),(11,.int .i64 R.boxes.length),(12,.int .i64 (0 : Nat))] _ (by repeat (first | exact uU _ | refine uV rfl ?_)) (by repeat (first | exact qR _ | apply qK | apply qC)) ⟨0,bs,1,1,by omega,by omega,rfl,rfl,rfl⟩ ?_
 rintro _ _ _ ⟨i,b,n,k,rfl,hi,hn,rfl,rfl⟩
 repeat' (first | (refine uP rfl ?_;(first | ((first | refine uN rfl ?_);(first | (refine uE (uM rfl rfl) rfl rfl ?_)|(refine uE (uA rfl rfl) rfl rfl ?_)|(refine uE (uQ rfl rfl rfl rfl) rfl rfl ?_)|(refine uE (EvF.add64 rfl rfl rfl (by omega) (by omega)) rfl rfl ?_)|(refine uE (uF rfl rfl (te rfl) rfl (te rfl) (by decide)) rfl rfl ?_)|(refine uE (uL rfl rfl (uO (te rfl) rfl (qT _ (qH _)) rfl)) rfl rfl ?_)|(refine uE (uL rfl rfl (uW (te rfl) rfl (qT _ (qT _ (qH _))) rfl)) rfl rfl ?_)))))|(refine uD rfl ?_;refine hK _ _ ?_;clear hK K) | refine uS rfl ?_ | refine uR rfl (fun K hK=>?_) | refine X.block rfl ?_ | (refine X.brk rfl ?_;repeat (first | refine blockX_hit rfl ?_ | refine blockX_miss (by decide) ?_)) | refine X.skip rfl ?_ | (refine X.ite rfl rfl (fun hc=>?_);(first | (with_reducible refine Xb.case hc (fun h=>?_) (fun h=>?_))) <;> clear hc))
 ·obtain ⟨bb,off,e,rfl,he⟩:=hR.boxes.elem (i:=i) (by omega)
  have hmem:=List.mem_of_getElem? he
  have hbx:=okBoxes_mem _ _ _ hr.bx e hmem
  have hnA : ((nAge R e : Nat) : Int)=R.months - e.made:=by unfold nAge;omega
  have hnA12:=nAge_le hr hmem
  have hfl : ((R.boxes.take i).flatMap (agesOf R)).length ≤ 12 * (R.boxes.take i).length:=flat_le (agesOf R) 12 _ (fun b hb=>by unfold agesOf;rw [List.length_map,List.length_range];exact nAge_le hr (List.mem_of_mem_take hb))
  rw [List.length_take] at hfl
  rw [List.length_cons] at hn
  repeat' (first | (refine uP rfl ?_;(first | ((first | refine uN rfl ?_);(first | (refine uE (uL rfl rfl (LoadV.elA0 (hR.boxes.sub (fun _ h=>by repeat (first | exact h | apply qT))) he (te rfl) rfl (fun _ hm=>hm) rfl)) rfl rfl ?_)|(refine uE (uM rfl rfl) rfl rfl ?_)|(refine uE (EvF.sub64 rfl rfl rfl (by omega) (by omega)) rfl rfl ?_)|(refine uE (uF rfl rfl (te rfl) rfl (te rfl) (by decide)) rfl rfl ?_)|(refine uE (EvF.indexSlice rfl rfl rfl (te rfl) (te rfl) (by omega) (by omega)) rfl rfl ?_)|(refine uE (uL rfl rfl (uO (te rfl) rfl (qH _) rfl)) rfl rfl ?_)|(refine uE (uL rfl rfl (uO (te rfl) rfl (qT _ (qT _ (qT _ (qH _)))) rfl)) rfl rfl ?_)|(refine Xg.st (StF.alloc rfl Tryz.zeroValue24 rfl) rfl rfl ?_;rintro _ _ ⟨bx,rfl,rfl⟩)|(refine Xg.st0 (StF.storeAll (i:=0) rfl rfl rfl (te rfl) rfl rfl rfl rfl) rfl ?_;rintro _ _ ⟨rfl,rfl⟩;dsimp only [List.set])))))|(refine uD rfl ?_;refine hK _ _ ?_;clear hK K) | refine uS rfl ?_ | refine uR rfl (fun K hK=>?_) | refine X.block rfl ?_)
  rename Nat=>be
  refine X.permH (H' := ⟨b,0,((⟨0,0⟩ : Pk)::(R.boxes.take i).flatMap (agesOf R)).flatMap cPk,some 86,k * 2⟩::⟨be,0,cBx e,some 47,2⟩::⟨b2,0,zCt,some 79,6⟩::⟨b1,0,cRm R ⟨a1,c1,some ⟨bb,off,none⟩,c2,a3,c3⟩,some 32,5⟩::H) (List.Perm.swap _ _ _) ?_
  refine X.lp rfl (fun q F' H' => ∃ (j b n k : Nat),q = nAge R e - j∧j ≤ nAge R e∧n = ((⟨0,0⟩ : Pk)::((R.boxes.take i).flatMap (agesOf R)++(agesOf R e).take j)).length ∧
    ⟨b,0,((⟨0,0⟩ : Pk)::((R.boxes.take i).flatMap (agesOf R)++(agesOf R e).take j)).flatMap cPk,some 86,k * 2⟩::⟨be,0,cBx e,some 47,2⟩::⟨b2,0,zCt,some 79,6⟩::⟨b1,0,cRm R ⟨a1,c1,some ⟨bb,off,none⟩,c2,a3,c3⟩,some 32,5⟩::H = H' ∧
    F' = [(1,.pointer (some ⟨b1,0,none⟩)),(2,.pointer (some ⟨b2,0,none⟩)),(3,.slice (some ⟨b,0,none⟩) n k),(5,.pointer (some ⟨be,0,none⟩)),(10,.slice (some ⟨bb,off,none⟩) R.boxes.length c2),(11,.int .i64 R.boxes.length),(12,.int .i64 i),(20,.int .i64 (nAge R e : Nat)),(21,.int .i64 j)])
   (nAge R e) [(1,.pointer (some ⟨b1,0,none⟩)),(2,.pointer (some ⟨b2,0,none⟩)),(3,.slice (some ⟨b,0,none⟩) n k),(5,.pointer (some ⟨be,0,none⟩)),(10,.slice (some ⟨bb,off,none⟩) R.boxes.length c2),(11,.int .i64 R.boxes.length),(12,.int .i64 i),(20,.int .i64 (nAge R e : Nat)),(21,.int .i64 (0 : Nat))]
   (⟨b,0,((⟨0,0⟩ : Pk)::((R.boxes.take i).flatMap (agesOf R)++(agesOf R e).take 0)).flatMap cPk,some 86,k * 2⟩::⟨be,0,cBx e,some 47,2⟩::⟨b2,0,zCt,some 79,6⟩::⟨b1,0,cRm R ⟨a1,c1,some ⟨bb,off,none⟩,c2,a3,c3⟩,some 32,5⟩::H) (by rw [hnA];exact (by repeat (first | exact uU _ | refine uV rfl ?_))) (by rw [List.take_zero,List.append_nil];exact (by repeat (first | exact qR _ | apply qK | apply qC))) ⟨0,b,n,k,by omega,by omega,by rw [hn];simp,rfl,rfl⟩ ?_
  rintro _ _ _ ⟨j,b',n',k',rfl,hj,hn',rfl,rfl⟩
  have hlen' : (((⟨0,0⟩ : Pk)::((R.boxes.take i).flatMap (agesOf R)++(agesOf R e).take j)).flatMap cPk).length = n' * 2:=by rw [lenPk,hn']
  rw [List.length_cons,List.length_append,List.length_take] at hn'
  repeat' (first | (refine uP rfl ?_;(first | ((first | refine uN rfl ?_);(first | (refine uE (uM rfl rfl) rfl rfl ?_)|(refine uE (uA rfl rfl) rfl rfl ?_)|(refine uE (uQ rfl rfl rfl rfl) rfl rfl ?_)|(refine uE (EvF.add64 rfl rfl rfl (by omega) (by omega)) rfl rfl ?_)|(refine uE (uF rfl rfl (te rfl) rfl (te rfl) (by decide)) rfl rfl ?_)|(refine uE (uL rfl rfl (uO (te rfl) rfl (qT _ (qH _)) rfl)) rfl rfl ?_)|(refine uE (uL rfl rfl (uW (te rfl) rfl (qT _ (qT _ (qH _))) rfl)) rfl rfl ?_)))))|(refine uD rfl ?_;refine hK _ _ ?_;clear hK K) | refine uS rfl ?_ | refine uR rfl (fun K hK=>?_) | refine X.block rfl ?_ | (refine X.brk rfl ?_;repeat (first | refine blockX_hit rfl ?_ | refine blockX_miss (by decide) ?_)) | refine X.skip rfl ?_ | (refine X.ite rfl rfl (fun hc=>?_);(first | (with_reducible refine Xb.case hc (fun h=>?_) (fun h=>?_))) <;> clear hc))
  ·have hga:=agesOf_get R e (k:=j) (by omega)
   repeat' (first | (refine uP rfl ?_;(first | ((first | refine uN rfl ?_);(first | (refine uE (EvF.build (cs:=cPk ⟨e.id,e.made + j⟩) rfl (ArgsP.cons rfl (ArgsP.cons rfl ArgsP.nil)) (te rfl) (Places.cons (te rfl) (Places.cons (te rfl) Places.nil)) Tryz.zeroValue86 rfl) rfl rfl ?_)|(refine Xg.st (StF.buildOne rfl elPk rfl rfl rfl (by decide) (by decide)) rfl rfl ?_;rintro _ _ ⟨bs2,rfl,rfl⟩)|(refine Xg.st (StF.appendOwn (i:=1) rfl elPk rfl rfl rfl hlen' rfl (Rd.own (qH _)) rfl (by omega)) rfl rfl ?_;rintro _ _ ⟨bn,kn,rfl,rfl⟩;dsimp only [List.eraseIdx])|(refine uE (uM rfl rfl) rfl rfl ?_)|(refine uE (uA rfl rfl) rfl rfl ?_)|(refine uE (EvF.add64 rfl rfl rfl (by omega) (by omega)) rfl rfl ?_)))))|(refine uD rfl ?_;refine hK _ _ ?_;clear hK K) | refine uR rfl (fun K hK=>?_))
   have hsn : ((⟨0,0⟩ : Pk)::((R.boxes.take i).flatMap (agesOf R)++(agesOf R e).take (j + 1))).flatMap cPk = ((⟨0,0⟩ : Pk)::((R.boxes.take i).flatMap (agesOf R)++(agesOf R e).take j)).flatMap cPk++cPk ⟨e.id,e.made + j⟩:=by
    rw [take_snoc hga, ← List.append_assoc, ← List.cons_append,List.flatMap_append]
    simp
   refine ⟨_,_,_,(by repeat (first | exact uU _ | refine uV rfl ?_)),?_,⟨j + 1,bn,n' + 1,kn,rfl,by omega,by rw [take_snoc hga, ← List.append_assoc];simp only [List.length_cons,List.length_append,List.length_nil,List.length_take];omega,rfl,rfl⟩,by omega⟩
   rw [hsn]
   exact (by repeat (first | exact qR _ | apply qK | apply qC))
  ·have hj2 : j = nAge R e:=by omega
   subst hj2
   have hp:=plcs_take R he 0
   refine ⟨_,_,⟨b',0,((⟨0,0⟩ : Pk)::(R.boxes.take (i + 1)).flatMap (agesOf R)).flatMap cPk,some 86,k' * 2⟩::⟨b2,0,zCt,some 79,6⟩::⟨b1,0,cRm R ⟨a1,c1,some ⟨bb,off,none⟩,c2,a3,c3⟩,some 32,5⟩::H,(by repeat (first | exact uU _ | refine uV rfl ?_)),?_,⟨i + 1,b',n',k',rfl,by omega,?_,rfl,rfl⟩,by omega⟩
   ·rw [← hp];exact (by repeat (first | exact qR _ | apply qK | apply qC))
   ·rw [← hp,hn'];simp only [List.length_cons,List.length_append,List.length_take]
 ·have hi2 : i = R.boxes.length:=by omega
  subst hi2
  rw [List.take_length] at hn ⊢
  have hn2 : n = (plcs R).length:=hn
  subst hn2
  refine XO.capLe (q:=0) (b:=b) (cap:=k * 2) (el:=86) (cs:=((⟨0,0⟩ : Pk)::R.boxes.flatMap (agesOf R)).flatMap cPk) ?_ (fun hcap=>?_)
  ·rfl
  have hcap' : (plcs R).length ≤ k:=by
   have:=lenPk ((⟨0,0⟩ : Pk)::R.boxes.flatMap (agesOf R))
   have h2 : ((⟨0,0⟩ : Pk)::R.boxes.flatMap (agesOf R)).length = (plcs R).length:=rfl
   omega
  repeat' (first | (refine uP rfl ?_;(first | ((first | refine uN rfl ?_);(first | (refine uE (EvF.build (cs:=cCt R ⟨a1,c1,a2,c2,a3,c3⟩ (some ⟨b,0,none⟩) k) rfl (ArgsP.cons rfl (ArgsP.cons rfl ArgsP.nil)) (te rfl) (Places.cons (te rfl) (Places.cons (te rfl) Places.nil)) Tryz.zeroValue79 rfl) rfl rfl ?_)|(refine Xg.st0 (StF.storeAll (i:=1) (vs:=cCt R ⟨a1,c1,a2,c2,a3,c3⟩ (some ⟨b,0,none⟩) k) rfl rfl rfl (te rfl) rfl rfl rfl rfl) rfl ?_;rintro _ _ ⟨rfl,rfl⟩;dsimp only [List.set])))))|(refine uD rfl ?_;refine hK _ _ ?_;clear hK K) | refine X.ret rfl ?_)
  exact ret_one (by simp) Tryz.results72 ⟨_,rfl,uW (te rfl) rfl (qT _ (qH _)) rfl⟩ (H' := ⟨b,0,(plcs R).flatMap cPk,some 86,k * 2⟩::H) (by repeat (first | exact qR _ | apply qK | apply qC)) ⟨b,k,hcap',rfl,rfl⟩
end Go.Proofs.YtmfppdpkalelhaaGreat
end
section
set_option linter.unusedVariables false
set_option linter.unusedSimpArgs false
namespace Go.Proofs.YtmfppdpkalelhaaGreat
open Go Go.Fw
set_option maxRecDepth 10000
theorem uint_und : Tryz.prog.underlying 168 = some (.int .u64):=by kernel_rfl
theorem i64_und : (Tryz.prog.underlying 3).isSome = true:=by kernel_rfl
theorem i64_undI : Tryz.prog.underlying 3 = some (.int .i64):=by kernel_rfl
theorem u64_und : (Tryz.prog.underlying 168).isSome = true:=by kernel_rfl
set_option maxHeartbeats 4000000 in
theorem mul64one_spec (y : Int) (H : List Row) (h0 : 0 ≤ y) (h1 : y < 4294967296) : Fc Tryz.prog 133 [.int .u64 1,.int .u64 y] H (fun v H' => v = .tuple #[.int .u64 0,.int .u64 y]∧H' = H):=by
 have z1 : (0 : Int) * y = 0:=Int.zero_mul _
 have z2 : (1 : Int) * y = y:=Int.one_mul _
 refine Fc.mk (callable Tryz.call133) Tryz.func133 rfl Tryz.ntmps133 rfl ?_;dsimp only [fr]
 repeat' (first | (refine uP rfl ?_;(first | ((first | refine uN rfl ?_);(first | (refine uE (EvF.mask32 rfl rfl rfl (by omega) (by omega)) rfl rfl ?_)|(refine uE (EvF.shr32 rfl rfl rfl (by omega) (by omega)) rfl rfl ?_)|(refine uE (EvF.mulU rfl rfl rfl (by omega) (by omega)) rfl rfl ?_)|(refine uE (EvF.addU rfl rfl rfl (by omega) (by omega)) rfl rfl ?_)|(refine uE (uM rfl rfl) rfl rfl ?_)|(refine uE (uA rfl rfl) rfl rfl ?_)))))|(refine uD rfl ?_;refine hK _ _ ?_;clear hK K) | refine uS rfl ?_ | refine uR rfl (fun K hK=>?_) | refine X.ret rfl ?_)
 refine ret_two (by simp) Tryz.results133 rfl rfl (H' := H) (by (repeat (first | exact qR _ | apply qC));done) ⟨?_,rfl⟩
 rw [z2]
 congr 1
theorem mulone_spec (y : Int) (H : List Row) (h0 : 0 ≤ y) (h1 : y < 4294967296) : Fc Tryz.prog 126 [.int .u64 1,.int .u64 y] H (fun v H' => v = .tuple #[.int .u64 0,.int .u64 y]∧H' = H):=by
 refine Fc.mk (callable Tryz.call126) Tryz.func126 rfl Tryz.ntmps126 rfl ?_;dsimp only [fr]
 repeat' (first | (refine uP rfl ?_;(first | ((first | refine uN rfl ?_);(first | (refine uC (uT rfl (Args.cons rfl (Args.cons rfl Args.nil))) rfl rfl (mul64one_spec y _ h0 h1) ?_;rintro _ H9 ⟨rfl,hH9⟩;subst H9)|(refine uE (uM rfl rfl) rfl rfl ?_)|(refine uE (uA rfl rfl) rfl rfl ?_)|(refine uE (uX rfl rfl rfl) rfl rfl ?_)))))|(refine uD rfl ?_;refine hK _ _ ?_;clear hK K) | refine uS rfl ?_ | refine uR rfl (fun K hK=>?_) | refine X.skip rfl ?_ | refine X.ret rfl ?_ | (refine X.ite rfl rfl (fun hc=>?_);(first | (with_reducible refine Xb.f hc ?_)) <;> clear hc))
 exact ret_two (by simp) Tryz.results126 rfl rfl (H' := H) (by (repeat (first | exact qR _ | apply qC));done) ⟨rfl,rfl⟩
def farI : Value := .int .i64 1048576
def zI : Value := .int .i64 0
def tsRp : List TOp:=[⟨some 38,[],[],[]⟩,⟨some 39,[],[],[]⟩,⟨some 40,[],[],[]⟩,⟨some 41,[1,2],[1,2],[]⟩,⟨some 42,[],[],[]⟩,⟨some 43,[],[],[]⟩,⟨some 44,[4,5],[4,5],[]⟩,⟨some 45,[1,2,3,4,5,6],[3,6],[10]⟩,⟨some 46,[0,1,2,3,4,5,6,7],[0,7],[]⟩,⟨some 8,[0,1,2,3,4,5,6,7,8],[8],[]⟩,⟨none,[],[],[]⟩]
def valRp (b : Nat) (n j m : Nat) (k : Nat) (env : Env) : Value :=
 match k with
 | 0 => .int .i64 j
 | 1 => .slice (some ⟨b,0,none⟩) n n
 | 2 => .int .i64 j
 | 3 => .slice (some ⟨b,0 + j * 1,none⟩) (n - j) (n - j)
 | 4 => .slice (some ⟨b,0,none⟩) n n
 | 5 => .int .i64 j
 | 6 => .slice (some ⟨b,0,none⟩) j n
 | 7 => .int .i64 m
 | 8 => .int .i64 ((j : Int) + (m : Int))
 | 9 => .int .i64 ((j : Int) + (m : Int))
 | _=>undef
def rowsRp (b : Nat) (n j m : Nat) (k : Nat) (env : Env) : List Row :=
 match k with
 | 7=>[⟨b,0,List.replicate (j + m) farI++List.replicate (n - (j + m)) zI,some 3,n * 1⟩]
 | 10=>[⟨b,0,List.replicate j farI++List.replicate (n - j) zI,some 3,n * 1⟩]
 | _=>[]
theorem locRp (b : Nat) (n j m : Nat) : ∀ k env i q9,i ≠ k → (tAt tsRp k).sup.contains i = false → valRp b n j m k (upd env i q9)=valRp b n j m k env∧rowsRp b n j m k (upd env i q9)=rowsRp b n j m k env:=by
 intro k env i q hk hs
 have hu : ∀ j,j ≠ i → upd env i q j = env j:=fun j hj=>by unfold upd;rw [if_neg hj]
 match k,hk,hs with
 | 0,_,_=>exact ⟨rfl,rfl⟩
 | 1,_,_=>exact ⟨rfl,rfl⟩
 | 2,_,_=>exact ⟨rfl,rfl⟩
 | 3,_,_=>exact ⟨rfl,rfl⟩
 | 4,_,_=>exact ⟨rfl,rfl⟩
 | 5,_,_=>exact ⟨rfl,rfl⟩
 | 6,_,_=>exact ⟨rfl,rfl⟩
 | 7,_,_=>exact ⟨rfl,rfl⟩
 | 8,_,_=>exact ⟨rfl,rfl⟩
 | 9,_,_=>exact ⟨rfl,rfl⟩
 | 10,_,_=>exact ⟨rfl,rfl⟩
 | _ + 11,_,_=>exact ⟨rfl,rfl⟩
def rdRp (_ : Nat) : List Nat:=[]
set_option maxHeartbeats 4000000 in
theorem repeat_spec (bo n : Nat) (ow : Option Kd) (cap : Nat) (H : List Row) (hm : ⟨bo,0,[farI],ow,cap⟩ ∈ H) (h1 : 1 ≤ n) (h2 : n ≤ 1000) :
  Fc Tryz.prog 114 [.slice (some ⟨bo,0,none⟩) 1 1,.int .i64 n] H (fun v H' => ∃ b,v = .slice (some ⟨b,0,none⟩) n n∧H' = ⟨b,0,(List.replicate n (1048576 : Int)).flatMap cI,some 3,n * 1⟩::H):=by
 have hz : ((Array.range (n * 1)).map ((#[zI] : Array Value)[·% (#[zI] : Array Value).size]!)).toList = List.replicate n zI:=zeros_rep zI n
 have hrep : ∀ k : Nat,(List.replicate k (1048576 : Int)).flatMap cI = List.replicate k farI:=by
  intro k
  induction k with
  | zero=>rfl
  | succ k ih=>rw [List.replicate_succ,List.replicate_succ,List.flatMap_cons,ih];rfl
 refine Fc.mk (callable Tryz.call114) Tryz.func114 rfl Tryz.ntmps114 rfl ?_;dsimp only [fr]
 repeat' (first | (refine uP rfl ?_;(first | ((first | refine uN rfl ?_ | (refine Xo.g rfl rfl ?_;with_reducible refine Xw.ff ?_));(first | (refine uE (uQ (b:=false) rfl rfl rfl (congrArg some (decide_eq_false (by omega)))) rfl rfl ?_)|(refine uE (EvF.convU rfl rfl i64_und uint_und (by omega) (by omega)) rfl rfl ?_)|(refine uE (EvF.conv rfl rfl u64_und i64_undI (by omega) (by omega)) rfl rfl ?_)|(refine uC (uT rfl (Args.cons rfl (Args.cons rfl Args.nil))) rfl rfl (mulone_spec (n : Nat) _ (by omega) (by omega)) ?_;rintro _ H9 ⟨rfl,hH9⟩;subst H9)|(refine Xg.st (StF.makeN (len:=n) (sz:=1) (y:=8) (z:=zI) (cs:=List.replicate n zI) rfl el55 Tryz.zeroValue3 rfl rfl hz (Nat.ble_eq_true_of_le (by omega)) (Nat.ble_eq_true_of_le (by omega)) rfl (by simp)) rfl rfl ?_;rintro _ _ ⟨bn,rfl,rfl⟩)|(refine Xg.st (StF.copyOwn (q:=0) (j:=0) (m:=1) (vs:=[farI]) rfl el55 rfl rfl rfl (Nat.min_eq_left (by omega)) rfl (Rd.own (qT _ hm)) rfl (by simp;omega)) rfl rfl ?_;rintro _ _ ⟨rfl,rfl⟩;dsimp only [List.set])|(refine uE (uM rfl rfl) rfl rfl ?_)|(refine uE (uA rfl rfl) rfl rfl ?_)|(refine uE (EvF.pickF rfl rfl rfl) rfl rfl ?_)|(refine uE (EvF.lenSlice rfl rfl (te rfl)) rfl rfl ?_)|(refine uE (uX rfl rfl rfl) rfl rfl ?_)))))|(refine uD rfl ?_;refine hK _ _ ?_;clear hK K) | refine uS rfl ?_ | refine uR rfl (fun K hK=>?_) | refine X.block rfl ?_ | refine X.skip rfl ?_ | (refine X.ite rfl rfl (fun hc=>?_);(first | (with_reducible refine Xb.f hc ?_)) <;> clear hc))
 have hs0 : splice (List.replicate n zI) 0 [farI] = List.replicate 1 farI++List.replicate (n - 1) zI:=by
  unfold splice
  simp [List.drop_replicate]
 refine X.lp rfl (fun q F' H' => ∃ k : Nat,q = n - k∧1 ≤ k∧k ≤ n∧⟨bn,0,List.replicate k farI++List.replicate (n - k) zI,some 3,n * 1⟩::H = H'∧F' = [(7,.slice (some ⟨bn,0,none⟩) n n),(8,.int .i64 k)])
  (n - 1) [(7,.slice (some ⟨bn,0,none⟩) n n),(8,.int .i64 (1 : Nat))] (⟨bn,0,List.replicate 1 farI++List.replicate (n - 1) zI,some 3,n * 1⟩::H) (by repeat (first | exact uU _ | refine uV rfl ?_)) (by rw [hs0];exact (by repeat (first | exact qR _ | apply qK | apply qC))) ⟨1,rfl,by omega,by omega,rfl,rfl⟩ ?_
 rintro _ _ _ ⟨k,rfl,hk1,hkn,rfl,rfl⟩
 repeat' (first | (refine uP rfl ?_;(first | ((first | refine uN rfl ?_);(first | (refine uE (uM rfl rfl) rfl rfl ?_)|(refine uE (uA rfl rfl) rfl rfl ?_)|(refine uE (uQ rfl rfl rfl rfl) rfl rfl ?_)|(refine uE (EvF.lenSlice rfl rfl (te rfl)) rfl rfl ?_)))))|(refine uD rfl ?_;refine hK _ _ ?_;clear hK K) | refine uS rfl ?_ | refine uR rfl (fun K hK=>?_) | refine X.block rfl ?_ | (refine X.brk rfl ?_;repeat (first | refine blockX_hit rfl ?_ | refine blockX_miss (by decide) ?_)) | refine X.skip rfl ?_ | refine X.ret rfl ?_ | (refine X.ite rfl rfl (fun hc=>?_);(first | (with_reducible refine Xb.case hc (fun h=>?_) (fun h=>?_))) <;> clear hc))
 ·obtain ⟨m,hmm⟩ : ∃ m,m = Nat.min k (n - k):=⟨_,rfl⟩
  have hm1 : 1 ≤ m∧m ≤ k∧k + m ≤ n:=by
   have h3 : k < n:=by omega
   rw [hmm]
   have : Nat.min k (n - k)=min k (n - k):=rfl
   omega
  have hrow : splice (List.replicate k farI++List.replicate (n - k) zI) (0 + k * 1) (List.replicate m farI)=List.replicate (k + m) farI++List.replicate (n - (k + m)) zI:=by
   have:=splice_at (xs:=List.replicate k farI) (ys:=List.replicate m zI) (zs:=List.replicate (n - (k + m)) zI) (vs:=List.replicate m farI) (j:=0 + k * 1) (by simp) (by simp)
   rw [List.append_assoc,List.replicate_append_replicate,show m + (n - (k + m)) = n - k by omega,List.replicate_append_replicate] at this
   exact this
  refine X.regionRs [] tsRp rdRp [7] [(7,.slice (some ⟨bn,0,none⟩) n n)] (valRp bn n k m) (rowsRp bn n k m) (fun _=>(0,0)) (H) rfl mixed (by repeat (first | exact uU _ | refine uV rfl ?_)) rfl (by kernel_rfl) (by kernel_rfl) (locRp bn n k m) (fun i d hi=>by cases hi) (qR _) [(9,8,.int .i64 k)] (by intro e he;simp only [List.mem_cons,List.not_mem_nil,or_false] at he;rcases he with rfl <;> exact ⟨rfl,Nat.le_of_ble_eq_true rfl⟩) (by intro e he;simp only [List.mem_cons,List.not_mem_nil,or_false] at he;rcases he with rfl <;> exact rfl) ?_ ?_
  ·have hsrc : List.replicate k farI++List.replicate (n - k) zI = []++List.replicate m farI++(List.replicate (k - m) farI++List.replicate (n - k) zI):=by
    rw [List.nil_append, ← List.append_assoc,List.replicate_append_replicate,show m + (k - m)=k by omega]
   repeat' (first | exact AllF.done rfl | (refine AllF.step rfl ?_ ?_;·(first | fail | (refine Ob.toR ?_;((first | refine Ob.ng rfl ?_);(first | exact ObK.pure (fun env R hR=>by exact ⟨_,uM rfl rfl,rfl⟩) rfl (fun _=>rfl) | exact ObK.pure (fun env R hR=>by exact ⟨_,uA rfl rfl,rfl⟩) rfl (fun _=>rfl)|(exact ObK.pure (fun env S hS=>⟨_,EvF.sliceFromL (lo:=k) rfl rfl (te rfl) (te rfl) rfl (by omega) (by omega) (by omega),rfl⟩) rfl (fun _=>rfl))|(exact ObK.pure (fun env S hS=>⟨_,EvF.sliceTo (hh:=k) rfl rfl (te rfl) (te rfl) rfl (by omega),rfl⟩) rfl (fun _=>rfl))|(exact ObK.pure (fun env S hS=>⟨_,EvF.add64 rfl rfl rfl (by omega) (by omega),rfl⟩) rfl (fun _=>rfl))|(exact fun env S hS=>(StF.copyOwn (q:=0) (j:=0 + k * 1) (m:=m) (vs:=List.replicate m farI) rfl el55 rfl rfl rfl hmm.symm (by simp) (Rd.piece (xs:=[]) (zs:=List.replicate (k - m) farI++List.replicate (n - k) zI) (j:=0) (by rw [← hsrc];exact qH _) rfl) (by simp [farI];exact .inr rfl) (by simp;omega)).op.mono (fun v H' ⟨hv,hH⟩=>⟨(0,0),fun _=>hv,by rw [hH,hrow];exact List.Perm.refl _⟩))))))))
  ·intro env t ha2 hv;refine ⟨_,ha2.cons (hv 9 8 (Nat.le_of_ble_eq_true rfl) rfl),?_⟩;clear hv ha2
   refine ⟨_,[(7,.slice (some ⟨bn,0,none⟩) n n),(8,.int .i64 (k + m : Nat))],_,(by rw [show ((k + m : Nat) : Int)=(k : Int) + (m : Int) by omega];exact (by repeat (first | exact uU _ | refine uV rfl ?_))),qR _,⟨k + m,rfl,by omega,by omega,rfl,rfl⟩,by omega⟩
 ·have hk2 : k = n:=by omega
  subst hk2
  refine ret_one (by simp) Tryz.results114 rfl (H' := _) (qR _) ⟨bn,rfl,?_⟩
  rw [hrep,Nat.sub_self,List.replicate_zero,List.append_nil]
end Go.Proofs.YtmfppdpkalelhaaGreat
end
section
set_option linter.unusedVariables false
set_option linter.unusedSimpArgs false
namespace Go.Proofs.YtmfppdpkalelhaaGreat
open Go Go.Fw
set_option maxRecDepth 10000
def cBd (d : Bd) : List Value:=[.int .i64 d.a,.int .i64 d.b,.int .i64 d.s.lo,.int .i64 d.s.hi]
noncomputable def bdA1 (R : Rm) (x : Bx) : List Bd:=(List.range (nAge R x)).map (fun (k : Nat)=>⟨pidx R ⟨x.id,x.made⟩ + k,0,R.ages.getD k ⟨0,0⟩⟩)
theorem bdA1_get (R : Rm) (b : Bx) {k : Nat} (h : k < nAge R b) : (bdA1 R b)[k]? = some ⟨pidx R ⟨b.id,b.made⟩ + k,0,R.ages.getD k ⟨0,0⟩⟩:=by
 unfold bdA1
 rw [List.getElem?_map,List.getElem?_range h]
 rfl
theorem take_full {α : Type} {l : List α} {n : Nat} (h : l.length = n) : l.take n = l:=List.take_of_length_le (by omega)
theorem flat_step {α β : Type} (f : α → List β) {l : List α} {i : Nat} {e : α} (h : l[i]? = some e) : (l.take (i + 1)).flatMap f = (l.take i).flatMap f++f e:=by
 rw [take_snoc h,List.flatMap_append];simp
theorem flat_pre {α β : Type} (f : α → List β) {l : List α} {i j : Nat} {e : α} {x : β} (h : l[i]? = some e) (hx : (f e)[j]? = some x) : (l.take i).flatMap f++(f e).take j++[x] <+: l.flatMap f:=by
 have h1 : l.flatMap f = (l.take i).flatMap f++(f e++(l.drop (i + 1)).flatMap f):=by
  conv=>lhs;rw [← List.take_append_drop i l,List.flatMap_append,drop_cons h,List.flatMap_cons]
 rw [h1,List.append_assoc]
 refine (List.prefix_append_right_inj _).2 ?_
 rw [← take_snoc hx]
 exact (List.take_prefix _ _).trans (List.prefix_append _ _)
theorem allOk_snoc {α : Type} {ok : List α → Bool} {pre : List α} {x : α} (h : allOk ok pre) (hx : ok (pre++[x]) = true) : allOk ok (pre++[x]):=by
 intro q hq hne
 rcases List.prefix_concat_iff.1 hq with rfl | h1
 ·exact hx
 ·exact h q h1 hne
def tsBy : List TOp:=[⟨some 58,[],[],[]⟩,⟨some 59,[0],[0],[]⟩,⟨some 60,[],[],[]⟩,⟨some 61,[0,1,2],[1,2],[]⟩,⟨some 62,[0,1,2,3],[3],[]⟩,⟨some 63,[],[],[]⟩,⟨some 64,[5],[5],[]⟩,⟨some 65,[],[],[]⟩,⟨some 66,[7],[7],[]⟩,⟨some 67,[7,8],[8],[]⟩,⟨some 68,[5,6,7,8,9],[6,9],[]⟩,⟨some 69,[0,1,2,3,4,5,6,7,8,9,10],[4,10],[]⟩,⟨some 70,[0,1,2,3,4,5,6,7,8,9,10,11],[11],[]⟩,⟨some 71,[0,1,2,3,4,5,6,7,8,9,10,11,12],[],[]⟩,⟨some 72,[0,1,2,3,4,5,6,7,8,9,10,11,12],[],[]⟩,⟨some 73,[0,1,2,3,4,5,6,7,8,9,10,11,12,14],[14],[]⟩,⟨some 74,[0,1,2,3,4,5,6,7,8,9,10,11,12],[],[]⟩,⟨some 75,[0,1,2,3,4,5,6,7,8,9,10,11,12],[],[]⟩,⟨some 76,[0,1,2,3,4,5,6,7,8,9,10,11,12,17],[17],[]⟩,⟨some 77,[0,1,2,3,4,5,6,7,8,9,10,11,12,17,18],[18],[]⟩,⟨some 78,[0,1,2,3,4,5,6,7,8,9,10,11,12,17,18,19],[19],[]⟩,⟨some 79,[0,1,2,3,4,5,6,7,8,9,10,11,12,14,15,16,17,18,19,20],[15,16,20],[]⟩,⟨some 80,[0,1,2,3,4,5,6,7,8,9,10,11,12,13,14,15,16,17,18,19,20,21],[13,21],[25]⟩,⟨some 81,[0,1,2,3,4,5,6,7,8,9,10,11,12,13,14,15,16,17,18,19,20,21,22],[22],[]⟩,⟨some 82,[0,1,2,3,4,5,6,7,8,9,10,11,12,13,14,15,16,17,18,19,20,21,22,23],[12,23],[]⟩,⟨none,[],[],[]⟩]
def valBy (bo b8 y pb po : Nat) (R : Rm) (p : Pl) (c ix : Nat) (q e : Pk) (w u : Bool) (v51 v52 v53 : Value) (hp hn : List Row) (k : Nat) (env : Env) : Value :=
 match k with
 | 0 => .pointer (some ⟨bo,5,none⟩)
 | 1 => .slice (some ⟨pb,po,none⟩) (plcs R).length c
 | 2 => .int .i64 ix
 | 3 => .pointer (some ⟨pb,po + ix * 2,none⟩)
 | 4 => .agg (cPk e).toArray
 | 5 => .pointer (some ⟨b8,0,none⟩)
 | 6 => .int .i64 q.box
 | 7 => .pointer (some ⟨b8,1,none⟩)
 | 8 => .int .i64 q.month
 | 9 => .int .i64 (q.month - 1)
 | 10 => .agg (cPk ⟨q.box,q.month - 1⟩).toArray
 | 11 => .bool w
 | 12 => .bool w
 | 13=>gt (!w) (.func (.yield y) #[] #[])
 | 14=>gt (!w) (.int .i64 ix)
 | 15=>gt (!w) (.int .i64 (ix + 1))
 | 16=>gt (!w) (.int .i64 ix)
 | 17=>gt (!w) (.pointer (some ⟨bo,0,none⟩))
 | 18=>gt (!w) (.pointer (some ⟨bo,1,none⟩))
 | 19=>gt (!w) (.int .i64 R.step)
 | 20=>gt (!w) (.agg (cSp ⟨0,R.step⟩).toArray)
 | 21=>gt (!w) (.agg (cBd ⟨ix + 1,ix,⟨0,R.step⟩⟩).toArray)
 | 22=>gt (!w) (.bool u)
 | 23=>gt (!w) (.bool (!u))
 | 24 => .bool (w && !u)
 | _=>undef
def rowsBy (bo b8 y pb po : Nat) (R : Rm) (p : Pl) (c ix : Nat) (q e : Pk) (w u : Bool) (v51 v52 v53 : Value) (hp hn : List Row) (k : Nat) (env : Env) : List Row :=
 match k with
 | 22=>gr (!w) (hn)
 | 25=>hp
 | _=>[]
theorem locBy (bo b8 y pb po : Nat) (R : Rm) (p : Pl) (c ix : Nat) (q e : Pk) (w u : Bool) (v51 v52 v53 : Value) (hp hn : List Row) : ∀ k env i q9,i ≠ k → (tAt tsBy k).sup.contains i = false → valBy bo b8 y pb po R p c ix q e w u v51 v52 v53 hp hn k (upd env i q9)=valBy bo b8 y pb po R p c ix q e w u v51 v52 v53 hp hn k env∧rowsBy bo b8 y pb po R p c ix q e w u v51 v52 v53 hp hn k (upd env i q9)=rowsBy bo b8 y pb po R p c ix q e w u v51 v52 v53 hp hn k env:=by
 intro k env i q hk hs
 have hu : ∀ j,j ≠ i → upd env i q j = env j:=fun j hj=>by unfold upd;rw [if_neg hj]
 match k,hk,hs with
 | 0,_,_=>exact ⟨rfl,rfl⟩
 | 1,_,_=>exact ⟨rfl,rfl⟩
 | 2,_,_=>exact ⟨rfl,rfl⟩
 | 3,_,_=>exact ⟨rfl,rfl⟩
 | 4,_,_=>exact ⟨rfl,rfl⟩
 | 5,_,_=>exact ⟨rfl,rfl⟩
 | 6,_,_=>exact ⟨rfl,rfl⟩
 | 7,_,_=>exact ⟨rfl,rfl⟩
 | 8,_,_=>exact ⟨rfl,rfl⟩
 | 9,_,_=>exact ⟨rfl,rfl⟩
 | 10,_,_=>exact ⟨rfl,rfl⟩
 | 11,_,_=>exact ⟨rfl,rfl⟩
 | 12,_,_=>exact ⟨rfl,rfl⟩
 | 13,_,_=>exact ⟨rfl,rfl⟩
 | 14,_,_=>exact ⟨rfl,rfl⟩
 | 15,_,_=>exact ⟨rfl,rfl⟩
 | 16,_,_=>exact ⟨rfl,rfl⟩
 | 17,_,_=>exact ⟨rfl,rfl⟩
 | 18,_,_=>exact ⟨rfl,rfl⟩
 | 19,_,_=>exact ⟨rfl,rfl⟩
 | 20,_,_=>exact ⟨rfl,rfl⟩
 | 21,_,_=>exact ⟨rfl,rfl⟩
 | 22,_,_=>exact ⟨rfl,rfl⟩
 | 23,_,_=>exact ⟨rfl,rfl⟩
 | 24,_,_=>exact ⟨rfl,rfl⟩
 | 25,_,_=>exact ⟨rfl,rfl⟩
 | _ + 26,_,_=>exact ⟨rfl,rfl⟩
def tsBm : List TOp:=[⟨some 92,[],[],[]⟩,⟨some 93,[],[],[]⟩,⟨some 94,[],[],[]⟩,⟨some 95,[2],[2],[]⟩,⟨some 96,[],[],[]⟩,⟨some 97,[4],[4],[]⟩,⟨some 98,[1,2,3,4,5],[1,3,5],[]⟩,⟨some 99,[],[],[]⟩,⟨some 100,[],[],[]⟩,⟨some 101,[8],[8],[]⟩,⟨some 102,[],[],[]⟩,⟨some 103,[10],[10],[]⟩,⟨some 104,[1,2,3,4,5,6,7,8,9,10,11],[7,9,11],[]⟩,⟨some 105,[],[],[]⟩,⟨some 106,[13],[13],[]⟩,⟨some 107,[1,2,3,4,5,6,7,8,9,10,11,12,13,14],[6,12,14],[]⟩,⟨some 108,[0,1,2,3,4,5,6,7,8,9,10,11,12,13,14,15],[0,15],[18]⟩,⟨some 109,[0,1,2,3,4,5,6,7,8,9,10,11,12,13,14,15,16],[16],[]⟩,⟨none,[],[],[]⟩]
def valBm (bo b10 y : Nat) (R : Rm) (p : Pl) (a : Option Addr) (c : Nat) (x : Mt) (ia ib : Nat) (u : Bool) (v86 v87 v88 : Value) (hp hn : List Row) (k : Nat) (env : Env) : Value :=
 match k with
 | 0 => .func (.yield y) #[] #[]
 | 1 => .agg (cCt R p a c).toArray
 | 2 => .pointer (some ⟨b10,2,none⟩)
 | 3 => .int .i64 x.a
 | 4 => .pointer (some ⟨b10,1,none⟩)
 | 5 => .int .i64 x.month
 | 6 => .int .i64 ia
 | 7 => .agg (cCt R p a c).toArray
 | 8 => .pointer (some ⟨b10,3,none⟩)
 | 9 => .int .i64 x.b
 | 10 => .pointer (some ⟨b10,1,none⟩)
 | 11 => .int .i64 x.month
 | 12 => .int .i64 ib
 | 13 => .pointer (some ⟨b10,4,none⟩)
 | 14 => .agg (cSp ⟨x.lo,x.hi⟩).toArray
 | 15 => .agg (cBd ⟨ia,ib,⟨x.lo,x.hi⟩⟩).toArray
 | 16 => .bool u
 | 17 => .bool (!u)
 | _=>undef
def rowsBm (bo b10 y : Nat) (R : Rm) (p : Pl) (a : Option Addr) (c : Nat) (x : Mt) (ia ib : Nat) (u : Bool) (v86 v87 v88 : Value) (hp hn : List Row) (k : Nat) (env : Env) : List Row :=
 match k with
 | 16=>hn
 | 18=>hp
 | _=>[]
theorem locBm (bo b10 y : Nat) (R : Rm) (p : Pl) (a : Option Addr) (c : Nat) (x : Mt) (ia ib : Nat) (u : Bool) (v86 v87 v88 : Value) (hp hn : List Row) : ∀ k env i q9,i ≠ k → (tAt tsBm k).sup.contains i = false → valBm bo b10 y R p a c x ia ib u v86 v87 v88 hp hn k (upd env i q9)=valBm bo b10 y R p a c x ia ib u v86 v87 v88 hp hn k env∧rowsBm bo b10 y R p a c x ia ib u v86 v87 v88 hp hn k (upd env i q9)=rowsBm bo b10 y R p a c x ia ib u v86 v87 v88 hp hn k env:=by
 intro k env i q hk hs
 have hu : ∀ j,j ≠ i → upd env i q j = env j:=fun j hj=>by unfold upd;rw [if_neg hj]
 match k,hk,hs with
 | 0,_,_=>exact ⟨rfl,rfl⟩
 | 1,_,_=>exact ⟨rfl,rfl⟩
 | 2,_,_=>exact ⟨rfl,rfl⟩
 | 3,_,_=>exact ⟨rfl,rfl⟩
 | 4,_,_=>exact ⟨rfl,rfl⟩
 | 5,_,_=>exact ⟨rfl,rfl⟩
 | 6,_,_=>exact ⟨rfl,rfl⟩
 | 7,_,_=>exact ⟨rfl,rfl⟩
 | 8,_,_=>exact ⟨rfl,rfl⟩
 | 9,_,_=>exact ⟨rfl,rfl⟩
 | 10,_,_=>exact ⟨rfl,rfl⟩
 | 11,_,_=>exact ⟨rfl,rfl⟩
 | 12,_,_=>exact ⟨rfl,rfl⟩
 | 13,_,_=>exact ⟨rfl,rfl⟩
 | 14,_,_=>exact ⟨rfl,rfl⟩
 | 15,_,_=>exact ⟨rfl,rfl⟩
 | 16,_,_=>exact ⟨rfl,rfl⟩
 | 17,_,_=>exact ⟨rfl,rfl⟩
 | 18,_,_=>exact ⟨rfl,rfl⟩
 | _ + 19,_,_=>exact ⟨rfl,rfl⟩
theorem bdS_step (R : Rm) (j : Nat) : (List.range (j + 1)).flatMap (bdS1 R)=(List.range j).flatMap (bdS1 R)++bdS1 R j:=by
 rw [List.range_succ,List.flatMap_append];simp
theorem bdS_le (R : Rm) {j n : Nat} (h : j ≤ n) : (List.range j).flatMap (bdS1 R) <+: (List.range n).flatMap (bdS1 R):=by
 have : List.range n = List.range j++(List.range n).drop j:=by
  conv=>lhs;rw [← List.take_append_drop j (List.range n)]
  rw [List.take_range,Nat.min_eq_left h]
 rw [this,List.flatMap_append]
 exact List.prefix_append _ _
set_option maxHeartbeats 16000000 in
theorem bounds1_itd (R : Rm) (p : Pl) (a : Option Addr) (c bo capo : Nat) (owo : Option Kd) (E : List Row) (hr : okRm R) (hm : matsThere R R.mats) (hC : CtOk E R p a) (hla : R.ages.length ≤ 1000000) (hlm : R.mats.length ≤ 1000000) (hpc : (plcs R).length ≤ c)
  (ho : ⟨bo,0,cCt R p a c,owo,capo⟩ ∈ E) :
  Itd Tryz.prog 127 [.pointer (some ⟨bo,0,none⟩)] E (bds R R.mats) (fun d=>[.agg (cBd d).toArray]):=by
 refine ⟨callable Tryz.call127,fun y hh ok hx hY=>?_⟩
 have ho0 : ∀ Z : List Row,(⟨bo,0,cCt R p a c,owo,capo⟩ : Row) ∈ Z++E:=fun Z=>List.mem_append_right _ ho
 have hC0 : ∀ Z : List Row,CtOk (Z++E) R p a:=fun Z=>hC.sub (fun _ h=>List.mem_append_right _ h)
 have hb4:=hr.b4
 have hm12:=hr.m12
 have hm1:=hr.m1
 have hpl:=plcs_len hr
 obtain ⟨a1,c1,a2,c2,a3,c3⟩:=p
 refine Fc.mk (callable Tryz.call127) Tryz.func127 rfl Tryz.ntmps127 rfl ?_;dsimp only [fr]
 repeat' (first | (refine uP rfl ?_;(first | ((first | refine uN rfl ?_);(first | (refine uE (uL rfl rfl (uO (te rfl) rfl (ho0 _) rfl)) rfl rfl ?_)|(refine uE (uM rfl rfl) rfl rfl ?_)|(refine uE (uF rfl rfl (te rfl) rfl (te rfl) (by decide)) rfl rfl ?_)|(refine uE (EvF.lenSlice rfl rfl (te rfl)) rfl rfl ?_)))))|(refine uD rfl ?_;refine hK _ _ ?_;clear hK K) | refine uS rfl ?_ | refine uR rfl (fun K hK=>?_) | refine X.block rfl ?_)
 refine X.lp rfl (fun m F' H' => ∃ (i : Nat),m = R.boxes.length - i∧i ≤ R.boxes.length∧allOk ok ((R.boxes.take i).flatMap (bdA1 R))∧H' = hh ((R.boxes.take i).flatMap (bdA1 R))++E ∧
   F' = [(0,.func (.yield y) #[] #[]),(1,.pointer (some ⟨bo,0,none⟩)),(13,.slice a2 R.boxes.length c2),(14,.int .i64 R.boxes.length),(15,.int .i64 i)])
  R.boxes.length [(0,.func (.yield y) #[] #[]),(1,.pointer (some ⟨bo,0,none⟩)),(13,.slice a2 R.boxes.length c2),(14,.int .i64 R.boxes.length),(15,.int .i64 (0 : Nat))] _ (by repeat (first | exact uU _ | refine uV rfl ?_)) (qR _) ⟨0,by omega,by omega,(fun q hq hne=>absurd (List.prefix_nil.1 (by simpa using hq)) hne),rfl,rfl⟩ ?_
 rintro _ _ _ ⟨i,rfl,hi,hall,rfl,rfl⟩
 repeat' (first | (refine uP rfl ?_;(first | ((first | refine uN rfl ?_);(first | (refine uE (uQ rfl rfl rfl rfl) rfl rfl ?_)|(refine uE (uF rfl rfl (te rfl) rfl (te rfl) (by decide)) rfl rfl ?_)))))|(refine uD rfl ?_;refine hK _ _ ?_;clear hK K) | refine uS rfl ?_ | refine uR rfl (fun K hK=>?_) | refine X.block rfl ?_ | (refine X.brk rfl ?_;repeat (first | refine blockX_hit rfl ?_ | refine blockX_miss (by decide) ?_)) | refine X.skip rfl ?_ | (refine X.ite rfl rfl (fun hc=>?_);(first | (with_reducible refine Xb.case hc (fun h=>?_) (fun h=>?_))) <;> clear hc))
 ·obtain ⟨bb,off,e,hae,he⟩:=hC.rm.boxes.elem (i:=i) (by omega)
  simp only at hae
  subst hae
  have hmem:=List.mem_of_getElem? he
  have hbx:=okBoxes_mem _ _ _ hr.bx e hmem
  have hnA : ((nAge R e : Nat) : Int)=R.months - e.made:=by unfold nAge;omega
  have hnA12:=nAge_le hr hmem
  have hth : there R e e.made:=⟨hmem,Int.le_refl _,by omega⟩
  have hz : atZ R ⟨e.id,e.made⟩ = (pidx R ⟨e.id,e.made⟩ : Nat):=by unfold atZ;rw [if_pos (plcs_mem hth)]
  have hpi:=pidx_lt (plcs_mem hth)
  have hlen:=hr.len
  have hat:=fun H' hH' => at_spec R ⟨a1,c1,some ⟨bb,off,none⟩,c2,a3,c3⟩ a c e.id e.made H' hr hH'
  rw [hz] at hat
  repeat' (first | (refine uP rfl ?_;(first | ((first | refine uN rfl ?_);(first | (refine uE (uL rfl rfl (LoadV.elA0 (hC0 _).rm.boxes he (te rfl) rfl (fun _ hm=>hm) rfl)) rfl rfl ?_)|(refine uE (uL rfl rfl (uW (te rfl) rfl (qT _ (ho0 _)) rfl)) rfl rfl ?_)|(refine uC (uT rfl (Args.cons rfl (Args.cons rfl (Args.cons rfl Args.nil)))) rfl rfl (hat _ (hC.sub (fun _ q=>qT _ (List.mem_append_right _ q)))) ?_;rintro _ H9 ⟨rfl,hH9⟩;subst H9)|(refine uE (uL rfl rfl (uO (te rfl) rfl (qT _ (ho0 _)) rfl)) rfl rfl ?_)|(refine uE (uM rfl rfl) rfl rfl ?_)|(refine uE (uA rfl rfl) rfl rfl ?_)|(refine uE (EvF.sub64 rfl rfl rfl (by omega) (by omega)) rfl rfl ?_)|(refine uE (uF rfl rfl (te rfl) rfl (te rfl) (by decide)) rfl rfl ?_)|(refine uE (EvF.indexSlice rfl rfl rfl (te rfl) (te rfl) (by omega) (by omega)) rfl rfl ?_)|(refine uE (uL rfl rfl (uO (te rfl) rfl (qH _) rfl)) rfl rfl ?_)|(refine Xg.st (StF.alloc rfl Tryz.zeroValue24 rfl) rfl rfl ?_;rintro _ _ ⟨bx,rfl,rfl⟩)|(refine Xg.st0 (StF.storeAll (i:=0) rfl rfl rfl (te rfl) rfl rfl rfl rfl) rfl ?_;rintro _ _ ⟨rfl,rfl⟩;dsimp only [List.set])))))|(refine uD rfl ?_;refine hK _ _ ?_;clear hK K) | refine uS rfl ?_ | refine uR rfl (fun K hK=>?_) | refine X.block rfl ?_)
  rename Nat=>be
  have hpa : pidx R ⟨e.id,e.made⟩ < 49:=by omega
  refine X.permH (H' := hh ((R.boxes.take i).flatMap (bdA1 R))++(⟨be,0,cBx e,some 47,2⟩::E)) List.perm_middle ?_
  refine X.lp rfl (fun m F' H' => ∃ (j : Nat),m = nAge R e - j∧j ≤ nAge R e∧allOk ok ((R.boxes.take i).flatMap (bdA1 R)++(bdA1 R e).take j)∧H' = hh ((R.boxes.take i).flatMap (bdA1 R)++(bdA1 R e).take j)++(⟨be,0,cBx e,some 47,2⟩::E) ∧
    F' = [(0,.func (.yield y) #[] #[]),(1,.pointer (some ⟨bo,0,none⟩)),(13,.slice (some ⟨bb,off,none⟩) R.boxes.length c2),(14,.int .i64 R.boxes.length),(15,.int .i64 i),(5,.int .i64 (pidx R ⟨e.id,e.made⟩ : Nat)),(30,.int .i64 (nAge R e : Nat)),(31,.int .i64 j)])
   (nAge R e) [(0,.func (.yield y) #[] #[]),(1,.pointer (some ⟨bo,0,none⟩)),(13,.slice (some ⟨bb,off,none⟩) R.boxes.length c2),(14,.int .i64 R.boxes.length),(15,.int .i64 i),(5,.int .i64 (pidx R ⟨e.id,e.made⟩ : Nat)),(30,.int .i64 (nAge R e : Nat)),(31,.int .i64 (0 : Nat))]
   (hh ((R.boxes.take i).flatMap (bdA1 R)++(bdA1 R e).take 0)++(⟨be,0,cBx e,some 47,2⟩::E)) (by rw [hnA];exact (by repeat (first | exact uU _ | refine uV rfl ?_))) (by rw [List.take_zero,List.append_nil];exact qR _) ⟨0,by omega,by omega,by rw [List.take_zero,List.append_nil];exact hall,rfl,rfl⟩ ?_
  rintro _ _ _ ⟨j,rfl,hj,hallj,rfl,rfl⟩
  repeat' (first | (refine uP rfl ?_;(first | ((first | refine uN rfl ?_);(first | (refine uE (uM rfl rfl) rfl rfl ?_)|(refine uE (uA rfl rfl) rfl rfl ?_)|(refine uE (uQ rfl rfl rfl rfl) rfl rfl ?_)|(refine uE (EvF.add64 rfl rfl rfl (by omega) (by omega)) rfl rfl ?_)|(refine uE (uF rfl rfl (te rfl) rfl (te rfl) (by decide)) rfl rfl ?_)))))|(refine uD rfl ?_;refine hK _ _ ?_;clear hK K) | refine uS rfl ?_ | refine uR rfl (fun K hK=>?_) | refine X.block rfl ?_ | (refine X.brk rfl ?_;repeat (first | refine blockX_hit rfl ?_ | refine blockX_miss (by decide) ?_)) | refine X.skip rfl ?_ | (refine X.ite rfl rfl (fun hc=>?_);(first | (with_reducible refine Xb.case hc (fun h=>?_) (fun h=>?_))) <;> clear hc))
  ·have hjn : j < nAge R e:=by omega
   have hga:=bdA1_get R e hjn
   have hpre : ((R.boxes.take i).flatMap (bdA1 R)++(bdA1 R e).take j)++[⟨pidx R ⟨e.id,e.made⟩ + j,0,R.ages.getD j ⟨0,0⟩⟩] <+: bds R R.mats:=by
    refine (flat_pre (bdA1 R) he hga).trans ?_
    unfold bds
    rw [List.append_assoc]
    exact List.prefix_append _ _
   have hagl : j < R.ages.length:=by omega
   obtain ⟨ba,oa,ea,haa,hea⟩:=hC.rm.ages.elem (i:=j) hagl
   simp only at haa
   subst haa
   have heg : R.ages.getD j ⟨0,0⟩ = ea:=by simp [List.getD_eq_getElem?_getD,hea]
   rw [heg] at hga hpre
   have hsn:=take_snoc hga
   have hyy:=fun E' => hY _ _ hpre hallj E'
   obtain ⟨u,hu⟩ : ∃ u,u = ok ((R.boxes.take i).flatMap (bdA1 R)++(bdA1 R e).take j++[⟨pidx R ⟨e.id,e.made⟩ + j,0,ea⟩]):=⟨_,rfl⟩
   rw [← hu] at hyy
   repeat' (first | (refine uP rfl ?_;(first | ((first | refine uN rfl ?_);(first | (refine uE (uL rfl rfl (uO (te rfl) rfl (List.mem_append_right _ (qT _ ho)) rfl)) rfl rfl ?_)|(refine uE (EvF.add64 rfl rfl rfl (by omega) (by omega)) rfl rfl ?_)|(refine uE (uL rfl rfl (LoadV.elA0 (hC.rm.ages.sub (fun _ q=>List.mem_append_right _ (qT _ q))) hea (te rfl) rfl (fun _ hm=>hm) rfl)) rfl rfl ?_)|(refine uE (EvF.build (cs:=cBd ⟨pidx R ⟨e.id,e.made⟩ + j,0,ea⟩) rfl (ArgsP.cons rfl (ArgsP.cons rfl (ArgsP.cons rfl ArgsP.nil))) (te rfl) (Places.cons (te rfl) (Places.cons (te rfl) (Places.cons (te rfl) Places.nil))) Tryz.zeroValue159 rfl) rfl rfl ?_)|(refine Xg.yield rfl rfl (Args.cons rfl Args.nil) rfl rfl (hyy _) ?_;rintro _ _ ⟨rfl,rfl⟩)|(refine uE (uM rfl rfl) rfl rfl ?_)|(refine uE (EvF.not rfl rfl) rfl rfl ?_)|(refine uE (EvF.indexSlice rfl rfl rfl (te rfl) (te rfl) (by omega) (by omega)) rfl rfl ?_)))))|(refine uD rfl ?_;refine hK _ _ ?_;clear hK K) | refine uR rfl (fun K hK=>?_) | refine X.skip rfl ?_ | refine X.ret rfl ?_ | (refine X.ite rfl rfl (fun hc=>?_);(first | (with_reducible refine Xb.caseB hc (fun h=>?_) (fun h=>?_))) <;> clear hc))
   ·have hu1 : u = false:=by simpa using (by assumption : (!u)=true)
    rw [hu1]
    exact ret_none (by simp) Tryz.results127 (H' := _) (List.Sublist.append (qR _) (List.sublist_cons_self _ _)) (.inr ⟨_,hpre,by rw [← hu];exact hu1,rfl⟩)
   ·have hu1 : u = true:=by simpa using (by assumption : (!u)=false)
    rw [hu1,if_pos rfl]
    refine ⟨_,[(0,.func (.yield y) #[] #[]),(1,.pointer (some ⟨bo,0,none⟩)),(13,.slice (some ⟨bb,off,none⟩) R.boxes.length c2),(14,.int .i64 R.boxes.length),(15,.int .i64 i),(5,.int .i64 (pidx R ⟨e.id,e.made⟩ : Nat)),(30,.int .i64 (nAge R e : Nat)),(31,.int .i64 (j + 1 : Nat))],hh ((R.boxes.take i).flatMap (bdA1 R)++(bdA1 R e).take (j + 1))++(⟨be,0,cBx e,some 47,2⟩::E),(by repeat (first | exact uU _ | refine uV rfl ?_)),?_,⟨j + 1,rfl,by omega,?_,rfl,rfl⟩,by omega⟩
    ·rw [hsn, ← List.append_assoc]
     exact qR _
    ·rw [hsn, ← List.append_assoc]
     exact allOk_snoc hallj (by rw [← hu];exact hu1)
  ·have hj2 : j = nAge R e:=by omega
   subst hj2
   have hfull : (bdA1 R e).take (nAge R e)=bdA1 R e:=take_full (by unfold bdA1;rw [List.length_map,List.length_range])
   rw [hfull, ← flat_step (bdA1 R) he] at hallj ⊢
   exact ⟨_,[(0,.func (.yield y) #[] #[]),(1,.pointer (some ⟨bo,0,none⟩)),(13,.slice (some ⟨bb,off,none⟩) R.boxes.length c2),(14,.int .i64 R.boxes.length),(15,.int .i64 (i + 1 : Nat))],_,(by repeat (first | exact uU _ | refine uV rfl ?_)),List.Sublist.append (qR _) (List.sublist_cons_self _ _),⟨i + 1,rfl,by omega,hallj,rfl,rfl⟩,by omega⟩
 ·have hi2 : i = R.boxes.length:=by omega
  subst hi2
  rw [List.take_length] at hall ⊢
  have hbA : R.boxes.flatMap (bdA1 R)=bdA R:=rfl
  rw [hbA] at hall ⊢
  have hallA:=hall
  clear hall
  have hall : allOk ok (bdA R++(List.range 0).flatMap (bdS1 R)):=by simpa using hallA
  obtain ⟨pb,po,q0,hpa,hq0,_⟩:=hC.pl.elem (i:=0) (by unfold plcs;simp)
  subst hpa
  have hp1 : 1 ≤ (plcs R).length:=by unfold plcs;simp
  have hdl : ((plcs R).drop 1).length = (plcs R).length - 1:=List.length_drop
  have hS1 : SlE E (sfrom (some ⟨pb,po,none⟩) c 1 2) cPk 2 ((plcs R).drop 1):=sleFrom hC.pl hpc 1
  obtain ⟨a9,ha9⟩ : ∃ a9,a9 = sfrom (some ⟨pb,po,none⟩) c 1 2:=⟨_,rfl⟩
  repeat' (first | (refine uP rfl ?_;(first | ((first | refine uN rfl ?_);(first | (refine uE (uL rfl rfl (uO (te rfl) rfl (ho0 _) rfl)) rfl rfl ?_)|(refine uE (EvF.sliceFrom (lo:=1) rfl rfl (te rfl) (te rfl) rfl (by omega) hpc) rfl rfl ?_)|(refine uE (uM rfl rfl) rfl rfl ?_)|(refine uE (EvF.lenSlice rfl rfl (te rfl)) rfl rfl ?_)))))|(refine uD rfl ?_;refine hK _ _ ?_;clear hK K) | refine X.block rfl ?_)
  rw [← ha9, ← hdl]
  rw [← ha9] at hS1
  refine X.lp rfl (fun m F' H' => ∃ (j : Nat),m = ((plcs R).drop 1).length - j∧j ≤ ((plcs R).drop 1).length∧allOk ok (bdA R++(List.range j).flatMap (bdS1 R))∧H' = hh (bdA R++(List.range j).flatMap (bdS1 R))++E ∧
    F' = [(0,.func (.yield y) #[] #[]),(1,.pointer (some ⟨bo,0,none⟩)),(51,.slice a9 ((plcs R).drop 1).length (c - 1)),(52,.int .i64 ((plcs R).drop 1).length),(53,.int .i64 j)])
   ((plcs R).drop 1).length [(0,.func (.yield y) #[] #[]),(1,.pointer (some ⟨bo,0,none⟩)),(51,.slice a9 ((plcs R).drop 1).length (c - 1)),(52,.int .i64 ((plcs R).drop 1).length),(53,.int .i64 (0 : Nat))] (hh (bdA R++(List.range 0).flatMap (bdS1 R))++E) (by repeat (first | exact uU _ | refine uV rfl ?_)) (by rw [List.range_zero,List.flatMap_nil,List.append_nil];exact qR _) ⟨0,by omega,by omega,hall,rfl,rfl⟩ ?_
  rintro _ _ _ ⟨j,rfl,hj,hallj,rfl,rfl⟩
  clear hall hallA
  repeat' (first | (refine uP rfl ?_;(first | ((first | refine uN rfl ?_);(first | (refine uE (uM rfl rfl) rfl rfl ?_)|(refine uE (uQ rfl rfl rfl rfl) rfl rfl ?_)|(refine uE (uF rfl rfl (te rfl) rfl (te rfl) (by decide)) rfl rfl ?_)))))|(refine uD rfl ?_;refine hK _ _ ?_;clear hK K) | refine uS rfl ?_ | refine uR rfl (fun K hK=>?_) | refine X.block rfl ?_ | (refine X.brk rfl ?_;repeat (first | refine blockX_hit rfl ?_ | refine blockX_miss (by decide) ?_)) | refine X.skip rfl ?_ | (refine X.ite rfl rfl (fun hc=>?_);(first | (with_reducible refine Xb.case hc (fun h=>?_) (fun h=>?_))) <;> clear hc))
  ·have hjl : j + 1 < (plcs R).length:=by omega
   obtain ⟨b9,o9,q,hq9,hq⟩:=hS1.elem (i:=j) (by omega)
   subst hq9
   have hq' : (plcs R)[j + 1]? = some q:=by
    have:=hq
    rwa [List.getElem?_drop,Nat.add_comm] at this
   obtain ⟨e,he⟩ : ∃ e,(plcs R)[j]? = some e:=⟨_,List.getElem?_eq_getElem (by omega)⟩
   have hqm : -100 ≤ q.month∧q.month ≤ 100:=by
    rcases mem_plcs (List.mem_of_getElem? hq') with rfl | ⟨b,hb,_⟩
    ·exact ⟨by decide,by decide⟩
    ·have:=there_bd hr hb;omega
   have hbS : bdS1 R j = if e = ⟨q.box,q.month - 1⟩ then [⟨j + 1,j,⟨0,R.step⟩⟩] else []:=by
    unfold bdS1
    simp only [List.getD_eq_getElem?_getD,he,hq',Option.getD_some]
   repeat' (first | (refine uP rfl ?_;(first | ((first | refine uN rfl ?_);(first | (refine uE (uL rfl rfl (LoadV.elA0 (hS1.sub (fun _ q=>List.mem_append_right _ q)) hq (te rfl) rfl (fun _ hm=>hm) rfl)) rfl rfl ?_)|(refine uE (uA rfl rfl) rfl rfl ?_)|(refine uE (EvF.indexSlice rfl rfl rfl (te rfl) (te rfl) (by omega) (by omega)) rfl rfl ?_)|(refine Xg.st (StF.alloc rfl Tryz.zeroValue24 rfl) rfl rfl ?_;rintro _ _ ⟨bx,rfl,rfl⟩)|(refine Xg.st0 (StF.storeAll (i:=0) rfl rfl rfl (te rfl) rfl rfl rfl rfl) rfl ?_;rintro _ _ ⟨rfl,rfl⟩;dsimp only [List.set])))))|(refine uD rfl ?_;refine hK _ _ ?_;clear hK K) | refine uS rfl ?_)
   rename Nat=>b8
   refine X.weak (F' := [(0,.func (.yield y) #[] #[]),(1,.pointer (some ⟨bo,0,none⟩)),(7,.int .i64 j),(8,.pointer (some ⟨b8,0,none⟩)),(51,.slice (some ⟨b9,o9,none⟩) ((plcs R).drop 1).length (c - 1)),(52,.int .i64 ((plcs R).drop 1).length),(53,.int .i64 j)]) (H' := ⟨b8,0,cPk q,some 86,2⟩::(hh (bdA R++(List.range j).flatMap (bdS1 R))++E)) (by repeat (first | exact uU _ | refine uV rfl ?_)) (by repeat (first | exact qR _ | apply qK | apply qC)) ?_
   by_cases hw : e = ⟨q.box,q.month - 1⟩
   ·rw [if_pos hw] at hbS
    have hpre : (bdA R++(List.range j).flatMap (bdS1 R))++[⟨j + 1,j,⟨0,R.step⟩⟩] <+: bds R R.mats:=by
     rw [List.append_assoc, ← hbS, ← bdS_step]
     unfold bds
     rw [List.append_assoc]
     exact (List.prefix_append_right_inj _).2 ((bdS_le R (by omega : j + 1 ≤ (plcs R).length - 1)).trans (List.prefix_append _ _))
    have hyy:=fun E' => hY _ _ hpre hallj E'
    obtain ⟨u,hu⟩ : ∃ u,u = ok ((bdA R++(List.range j).flatMap (bdS1 R))++[⟨j + 1,j,⟨0,R.step⟩⟩]):=⟨_,rfl⟩
    rw [← hu] at hyy
    refine X.permH (H' := (hh (bdA R++(List.range j).flatMap (bdS1 R))++[])++(⟨b8,0,cPk q,some 86,2⟩::E)) (by rw [List.append_nil];exact List.perm_middle) ?_
    refine X.regionOb tsBy [0,1,7,8,51,52,53] [(0,.func (.yield y) #[] #[]),(1,.pointer (some ⟨bo,0,none⟩)),(7,.int .i64 j),(8,.pointer (some ⟨b8,0,none⟩)),(51,(.slice (some ⟨b9,o9,none⟩) ((plcs R).drop 1).length (c - 1))),(52,(.int .i64 ((plcs R).drop 1).length)),(53,(.int .i64 j))] (valBy bo b8 y pb po R ⟨a1,c1,a2,c2,a3,c3⟩ c j q e true u (.slice (some ⟨b9,o9,none⟩) ((plcs R).drop 1).length (c - 1)) (.int .i64 ((plcs R).drop 1).length) (.int .i64 j) (hh (bdA R++(List.range j).flatMap (bdS1 R))) (if u = true then hh ((bdA R++(List.range j).flatMap (bdS1 R))++[⟨j + 1,j,⟨0,R.step⟩⟩]) else hx ((bdA R++(List.range j).flatMap (bdS1 R))++[⟨j + 1,j,⟨0,R.step⟩⟩]))) (rowsBy bo b8 y pb po R ⟨a1,c1,a2,c2,a3,c3⟩ c j q e true u (.slice (some ⟨b9,o9,none⟩) ((plcs R).drop 1).length (c - 1)) (.int .i64 ((plcs R).drop 1).length) (.int .i64 j) (hh (bdA R++(List.range j).flatMap (bdS1 R))) (if u = true then hh ((bdA R++(List.range j).flatMap (bdS1 R))++[⟨j + 1,j,⟨0,R.step⟩⟩]) else hx ((bdA R++(List.range j).flatMap (bdS1 R))++[⟨j + 1,j,⟨0,R.step⟩⟩]))) (fun _=>(0,0)) (⟨b8,0,cPk q,some 86,2⟩::E) rfl mixed (by repeat (first | exact uU _ | refine uV rfl ?_)) rfl (by kernel_rfl) (locBy bo b8 y pb po R ⟨a1,c1,a2,c2,a3,c3⟩ c j q e true u (.slice (some ⟨b9,o9,none⟩) ((plcs R).drop 1).length (c - 1)) (.int .i64 ((plcs R).drop 1).length) (.int .i64 j) (hh (bdA R++(List.range j).flatMap (bdS1 R))) (if u = true then hh ((bdA R++(List.range j).flatMap (bdS1 R))++[⟨j + 1,j,⟨0,R.step⟩⟩]) else hx ((bdA R++(List.range j).flatMap (bdS1 R))++[⟨j + 1,j,⟨0,R.step⟩⟩]))) (qR _) ?_ ?_
    ·have hlo : ∀ S : List Row,(∀ r ∈ ⟨b8,0,cPk q,some 86,2⟩::E,r ∈ S) → (⟨bo,0,cCt R ⟨a1,c1,a2,c2,a3,c3⟩ (some ⟨pb,po,none⟩) c,owo,capo⟩ : Row) ∈ S:=fun S hS=>hS _ (qT _ ho)
     have hyn : ∀ S : List Row,Yc Tryz.prog y [Value.agg (cBd ⟨j + 1,j,⟨0,R.step⟩⟩).toArray] ((hh (bdA R++(List.range j).flatMap (bdS1 R))++[])++S) (fun v H' => v = .bool u∧H' = (if u = true then hh ((bdA R++(List.range j).flatMap (bdS1 R))++[⟨j + 1,j,⟨0,R.step⟩⟩]) else hx ((bdA R++(List.range j).flatMap (bdS1 R))++[⟨j + 1,j,⟨0,R.step⟩⟩]))++S):=fun S=>by rw [List.append_nil];exact hyy S
     repeat' (first | exact AllF.done rfl | (refine AllF.step rfl ?_ ?_;·(first | fail | ((first | refine Ob.ng rfl ?_ | refine Ob.g rfl rfl (fun _=>rfl) ?_);(first | exact ObK.pure (fun env R hR=>by exact ⟨_,uM rfl rfl,rfl⟩) rfl (fun _=>rfl) | exact ObK.pure (fun env R hR=>by exact ⟨_,EvF.pickT rfl rfl rfl,rfl⟩) rfl (fun _=>rfl) | exact ObK.pure (fun env R hR=>by exact ⟨_,uF rfl rfl (te rfl) rfl (te rfl) (by decide),rfl⟩) rfl (fun _=>rfl) | exact ObK.pure (fun env R hR=>by exact ⟨_,EvF.not rfl rfl,rfl⟩) rfl (fun _=>rfl) | exact ObK.pure (fun env R hR=>by exact ⟨_,uL rfl rfl (uO (te rfl) rfl (hR _ (qH _)) rfl),rfl⟩) rfl (fun _=>rfl)|(exact ObK.pure (fun env S hS=>⟨_,uL rfl rfl (uO (te rfl) rfl (hlo _ hS) rfl),rfl⟩) rfl (fun _=>rfl))|((refine ObK.pure (fun env S hS=>⟨.pointer (some ⟨pb,po + j * 2,none⟩),?_,rfl⟩) rfl (fun _=>rfl);exact EvF.indexSlice (i:=(j : Int)) (off:=po) (b:=pb) (T:=77) (e:=86) (len:=(plcs R).length) rfl rfl rfl (te rfl) (te rfl) (by omega) (by omega)))|(exact ObK.pure (fun env S hS=>⟨.agg (cPk e).toArray,uL rfl rfl (LoadV.elA0 (hC.pl.sub (fun _ h=>hS _ (qT _ h))) he (te rfl) rfl (fun _ h=>h) rfl),rfl⟩) rfl (fun _=>rfl))|(exact ObK.pure (fun env S hS=>⟨_,EvF.build (cs:=cPk ⟨q.box,q.month - 1⟩) rfl (ArgsP.cons rfl (ArgsP.cons rfl ArgsP.nil)) (te rfl) (Places.cons (te rfl) (Places.cons (te rfl) Places.nil)) Tryz.zeroValue86 rfl,rfl⟩) rfl (fun _=>rfl))|(exact ObK.pure (fun env S hS=>⟨_,EvF.eqSt rfl rfl rfl (by kernel_rfl) (fun w=>eqPk 9998 e ⟨q.box,q.month - 1⟩ w) rfl,by rw [decide_eq_true hw];rfl⟩) rfl (fun _=>rfl))|(exact ObK.pure (fun env S hS=>⟨_,EvF.build (cs:=cSp ⟨0,R.step⟩) rfl (ArgsP.cons rfl (ArgsP.cons rfl ArgsP.nil)) (te rfl) (Places.cons (te rfl) (Places.cons (te rfl) Places.nil)) Tryz.zeroValue24 rfl,rfl⟩) rfl (fun _=>rfl))|(exact ObK.pure (fun env S hS=>⟨_,EvF.build (cs:=cBd ⟨j + 1,j,⟨0,R.step⟩⟩) rfl (ArgsP.cons rfl (ArgsP.cons rfl (ArgsP.cons rfl ArgsP.nil))) (te rfl) (Places.cons (te rfl) (Places.cons (te rfl) (Places.cons (te rfl) Places.nil))) Tryz.zeroValue159 rfl,rfl⟩) rfl (fun _=>rfl))|(exact fun env S hS=>(OpF.yield rfl rfl (Args.cons rfl Args.nil) (hyn S)).mono (fun v H' ⟨hv,hH⟩=>⟨(0,0),fun _=>hv,by rw [hH];exact List.Perm.refl _⟩))|(exact ObK.pure (fun env S hS=>⟨_,EvF.add64 rfl rfl rfl (by omega) (by omega),rfl⟩) rfl (fun _=>rfl))|(exact ObK.pure (fun env S hS=>⟨_,EvF.sub64 rfl rfl rfl (by omega) (by omega),rfl⟩) rfl (fun _=>rfl)))))))
    ·intro env t ha2 hv
     refine ⟨_,ha2.cons (hv 24 82 (Nat.le_of_ble_eq_true rfl) rfl),?_⟩
     clear hv ha2
     cases u
     ·show X _ _ _ _ ((hx ((bdA R++(List.range j).flatMap (bdS1 R))++[⟨j + 1,j,⟨0,R.step⟩⟩])++[])++(⟨b8,0,cPk q,some 86,2⟩::E)) _
      rw [List.append_nil]
      repeat' (first | (refine uP rfl ?_;(first | ((first | refine uN rfl ?_);(first | (refine uE (uM rfl rfl) rfl rfl ?_)|(refine uE (EvF.add64 rfl rfl rfl (by omega) (by omega)) rfl rfl ?_)))))|(refine uD rfl ?_;refine hK _ _ ?_;clear hK K) | refine uR rfl (fun K hK=>?_) | refine X.skip rfl ?_ | refine X.ret rfl ?_ | (refine X.ite rfl rfl (fun hc=>?_);(first | (with_reducible refine Xb.caseB hc (fun h=>?_) (fun h=>?_))) <;> clear hc))
      all_goals try (exfalso;contradiction)
      exact ret_none (by simp) Tryz.results127 (H' := _) (List.Sublist.append (qR _) (List.sublist_cons_self _ _)) (.inr ⟨_,hpre,hu.symm,rfl⟩)
     ·show X _ _ _ _ ((hh ((bdA R++(List.range j).flatMap (bdS1 R))++[⟨j + 1,j,⟨0,R.step⟩⟩])++[])++(⟨b8,0,cPk q,some 86,2⟩::E)) _
      have e9 : (bdA R++(List.range j).flatMap (bdS1 R))++[⟨j + 1,j,⟨0,R.step⟩⟩] = bdA R++(List.range (j + 1)).flatMap (bdS1 R):=by rw [bdS_step,hbS,List.append_assoc]
      have hall2:=allOk_snoc hallj hu.symm
      rw [List.append_nil]
      rw [e9] at hall2 ⊢
      repeat' (first | (refine uP rfl ?_;(first | ((first | refine uN rfl ?_);(first | (refine uE (uM rfl rfl) rfl rfl ?_)|(refine uE (EvF.add64 rfl rfl rfl (by omega) (by omega)) rfl rfl ?_)))))|(refine uD rfl ?_;refine hK _ _ ?_;clear hK K) | refine uR rfl (fun K hK=>?_) | refine X.skip rfl ?_ | refine X.ret rfl ?_ | (refine X.ite rfl rfl (fun hc=>?_);(first | (with_reducible refine Xb.caseB hc (fun h=>?_) (fun h=>?_))) <;> clear hc))
      all_goals try (exfalso;contradiction)
      exact ⟨_,[(0,.func (.yield y) #[] #[]),(1,.pointer (some ⟨bo,0,none⟩)),(51,.slice (some ⟨b9,o9,none⟩) ((plcs R).drop 1).length (c - 1)),(52,.int .i64 ((plcs R).drop 1).length),(53,.int .i64 (j + 1 : Nat))],_,(by repeat (first | exact uU _ | refine uV rfl ?_)),List.Sublist.append (qR _) (List.sublist_cons_self _ _),⟨j + 1,rfl,by omega,hall2,rfl,rfl⟩,by omega⟩
   ·rw [if_neg hw] at hbS
    refine X.permH (H' := hh (bdA R++(List.range j).flatMap (bdS1 R))++(⟨b8,0,cPk q,some 86,2⟩::E)) List.perm_middle ?_
    refine X.regionOb tsBy [0,1,7,8,51,52,53] [(0,.func (.yield y) #[] #[]),(1,.pointer (some ⟨bo,0,none⟩)),(7,.int .i64 j),(8,.pointer (some ⟨b8,0,none⟩)),(51,(.slice (some ⟨b9,o9,none⟩) ((plcs R).drop 1).length (c - 1))),(52,(.int .i64 ((plcs R).drop 1).length)),(53,(.int .i64 j))] (valBy bo b8 y pb po R ⟨a1,c1,a2,c2,a3,c3⟩ c j q e false false (.slice (some ⟨b9,o9,none⟩) ((plcs R).drop 1).length (c - 1)) (.int .i64 ((plcs R).drop 1).length) (.int .i64 j) [] []) (rowsBy bo b8 y pb po R ⟨a1,c1,a2,c2,a3,c3⟩ c j q e false false (.slice (some ⟨b9,o9,none⟩) ((plcs R).drop 1).length (c - 1)) (.int .i64 ((plcs R).drop 1).length) (.int .i64 j) [] []) (fun _=>(0,0)) (hh (bdA R++(List.range j).flatMap (bdS1 R))++(⟨b8,0,cPk q,some 86,2⟩::E)) rfl mixed (by repeat (first | exact uU _ | refine uV rfl ?_)) rfl (by kernel_rfl) (locBy bo b8 y pb po R ⟨a1,c1,a2,c2,a3,c3⟩ c j q e false false (.slice (some ⟨b9,o9,none⟩) ((plcs R).drop 1).length (c - 1)) (.int .i64 ((plcs R).drop 1).length) (.int .i64 j) [] []) (qR _) ?_ ?_
    ·have hlo : ∀ S : List Row,(∀ r ∈ hh (bdA R++(List.range j).flatMap (bdS1 R))++(⟨b8,0,cPk q,some 86,2⟩::E),r ∈ S) → (⟨bo,0,cCt R ⟨a1,c1,a2,c2,a3,c3⟩ (some ⟨pb,po,none⟩) c,owo,capo⟩ : Row) ∈ S:=fun S hS=>hS _ (List.mem_append_right _ (qT _ ho))
     repeat' (first | exact AllF.done rfl | (refine AllF.step rfl ?_ ?_;·(first | exact Ob.sk rfl rfl (fun _=>rfl) (fun _=>rfl) (fun _=>rfl) (fun _=>rfl)|((first | refine Ob.ng rfl ?_);(first | exact ObK.pure (fun env R hR=>by exact ⟨_,uM rfl rfl,rfl⟩) rfl (fun _=>rfl) | exact ObK.pure (fun env R hR=>by exact ⟨_,EvF.pickF rfl rfl rfl,rfl⟩) rfl (fun _=>rfl) | exact ObK.pure (fun env R hR=>by exact ⟨_,uF rfl rfl (te rfl) rfl (te rfl) (by decide),rfl⟩) rfl (fun _=>rfl)|(exact ObK.pure (fun env S hS=>⟨_,uL rfl rfl (uO (te rfl) rfl (hlo _ hS) rfl),rfl⟩) rfl (fun _=>rfl))|(exact ObK.pure (fun env S hS=>⟨_,uL rfl rfl (uO (te rfl) rfl (hS _ (List.mem_append_right _ (qH _))) rfl),rfl⟩) rfl (fun _=>rfl))|((refine ObK.pure (fun env S hS=>⟨.pointer (some ⟨pb,po + j * 2,none⟩),?_,rfl⟩) rfl (fun _=>rfl);exact EvF.indexSlice (i:=(j : Int)) (off:=po) (b:=pb) (T:=77) (e:=86) (len:=(plcs R).length) rfl rfl rfl (te rfl) (te rfl) (by omega) (by omega)))|(exact ObK.pure (fun env S hS=>⟨.agg (cPk e).toArray,uL rfl rfl (LoadV.elA0 (hC.pl.sub (fun _ h=>hS _ (List.mem_append_right _ (qT _ h)))) he (te rfl) rfl (fun _ h=>h) rfl),rfl⟩) rfl (fun _=>rfl))|(exact ObK.pure (fun env S hS=>⟨_,EvF.build (cs:=cPk ⟨q.box,q.month - 1⟩) rfl (ArgsP.cons rfl (ArgsP.cons rfl ArgsP.nil)) (te rfl) (Places.cons (te rfl) (Places.cons (te rfl) Places.nil)) Tryz.zeroValue86 rfl,rfl⟩) rfl (fun _=>rfl))|(exact ObK.pure (fun env S hS=>⟨_,EvF.eqSt rfl rfl rfl (by kernel_rfl) (fun w=>eqPk 9998 e ⟨q.box,q.month - 1⟩ w) rfl,by rw [decide_eq_false hw];rfl⟩) rfl (fun _=>rfl))|(exact ObK.pure (fun env S hS=>⟨_,EvF.sub64 rfl rfl rfl (by omega) (by omega),rfl⟩) rfl (fun _=>rfl)))))))
    ·intro env t ha2 hv
     refine ⟨_,ha2.cons (hv 24 82 (Nat.le_of_ble_eq_true rfl) rfl),?_⟩
     clear hv ha2
     have e9 : bdA R++(List.range j).flatMap (bdS1 R)=bdA R++(List.range (j + 1)).flatMap (bdS1 R):=by rw [bdS_step,hbS,List.append_nil]
     show X _ _ _ _ (hh (bdA R++(List.range j).flatMap (bdS1 R))++(⟨b8,0,cPk q,some 86,2⟩::E)) _
     rw [e9] at hallj ⊢
     repeat' (first | (refine uP rfl ?_;(first | ((first | refine uN rfl ?_);(first | (refine uE (uM rfl rfl) rfl rfl ?_)|(refine uE (EvF.add64 rfl rfl rfl (by omega) (by omega)) rfl rfl ?_)))))|(refine uD rfl ?_;refine hK _ _ ?_;clear hK K) | refine uR rfl (fun K hK=>?_) | refine X.skip rfl ?_ | refine X.ret rfl ?_ | (refine X.ite rfl rfl (fun hc=>?_);(first | (with_reducible refine Xb.caseB hc (fun h=>?_) (fun h=>?_))) <;> clear hc))
     all_goals try (exfalso;contradiction)
     exact ⟨_,[(0,.func (.yield y) #[] #[]),(1,.pointer (some ⟨bo,0,none⟩)),(51,.slice (some ⟨b9,o9,none⟩) ((plcs R).drop 1).length (c - 1)),(52,.int .i64 ((plcs R).drop 1).length),(53,.int .i64 (j + 1 : Nat))],_,(by repeat (first | exact uU _ | refine uV rfl ?_)),List.Sublist.append (qR _) (List.sublist_cons_self _ _),⟨j + 1,rfl,by omega,hallj,rfl,rfl⟩,by omega⟩
  ·have hj2 : j = (plcs R).length - 1:=by omega
   subst hj2
   have hbS2 : (List.range ((plcs R).length - 1)).flatMap (bdS1 R)=bdS R:=rfl
   rw [hbS2] at hallj ⊢
   repeat' (first | (refine uP rfl ?_;(first | ((first | refine uN rfl ?_);(first | (refine uE (uL rfl rfl (uO (te rfl) rfl (ho0 _) rfl)) rfl rfl ?_)|(refine uE (uM rfl rfl) rfl rfl ?_)|(refine uE (EvF.lenSlice rfl rfl (te rfl)) rfl rfl ?_)))))|(refine uD rfl ?_;refine hK _ _ ?_;clear hK K) | refine X.block rfl ?_)
   clear hS1 ha9 hdl
   refine X.lp rfl (fun m F' H' => ∃ (k : Nat),m = R.mats.length - k∧k ≤ R.mats.length∧allOk ok (bdA R++bdS R++bdM R (R.mats.take k))∧H' = hh (bdA R++bdS R++bdM R (R.mats.take k))++E ∧
     F' = [(0,.func (.yield y) #[] #[]),(1,.pointer (some ⟨bo,0,none⟩)),(86,.slice a3 R.mats.length c3),(87,.int .i64 R.mats.length),(88,.int .i64 k)])
    R.mats.length [(0,.func (.yield y) #[] #[]),(1,.pointer (some ⟨bo,0,none⟩)),(86,.slice a3 R.mats.length c3),(87,.int .i64 R.mats.length),(88,.int .i64 (0 : Nat))] (hh (bdA R++bdS R++bdM R (R.mats.take 0))++E) (by repeat (first | exact uU _ | refine uV rfl ?_)) (by simp [bdM]) ⟨0,by omega,by omega,by simpa [bdM] using hallj,rfl,rfl⟩ ?_
   rintro _ _ _ ⟨k,rfl,hk,hallk,rfl,rfl⟩
   clear hallj
   repeat' (first | (refine uP rfl ?_;(first | ((first | refine uN rfl ?_);(first | (refine uE (uQ rfl rfl rfl rfl) rfl rfl ?_)))))|(refine uD rfl ?_;refine hK _ _ ?_;clear hK K) | refine uS rfl ?_ | refine uR rfl (fun K hK=>?_) | refine X.block rfl ?_ | (refine X.brk rfl ?_;repeat (first | refine blockX_hit rfl ?_ | refine blockX_miss (by decide) ?_)) | refine X.skip rfl ?_ | (refine X.ite rfl rfl (fun hc=>?_);(first | (with_reducible refine Xb.case hc (fun h=>?_) (fun h=>?_))) <;> clear hc))
   ·obtain ⟨bx0,ox0,x,hax,hx9⟩:=hC.rm.mats.elem (i:=k) (by omega)
    simp only at hax
    subst hax
    have hmem:=List.mem_of_getElem? hx9
    have hza : atZ R ⟨x.a,x.month⟩ = (pidx R ⟨x.a,x.month⟩ : Nat):=by unfold atZ;rw [if_pos (hm.a hmem)]
    have hzb : atZ R ⟨x.b,x.month⟩ = (pidx R ⟨x.b,x.month⟩ : Nat):=by unfold atZ;rw [if_pos (hm.b hmem)]
    have hata:=fun H' hH' => at_spec R ⟨a1,c1,a2,c2,some ⟨bx0,ox0,none⟩,c3⟩ (some ⟨pb,po,none⟩) c x.a x.month H' hr hH'
    have hatb:=fun H' hH' => at_spec R ⟨a1,c1,a2,c2,some ⟨bx0,ox0,none⟩,c3⟩ (some ⟨pb,po,none⟩) c x.b x.month H' hr hH'
    rw [hza] at hata
    rw [hzb] at hatb
    have hsn : bdA R++bdS R++bdM R (R.mats.take (k + 1)) = (bdA R++bdS R++bdM R (R.mats.take k))++[⟨pidx R ⟨x.a,x.month⟩,pidx R ⟨x.b,x.month⟩,⟨x.lo,x.hi⟩⟩]:=by
     rw [take_snoc hx9]
     unfold bdM
     rw [List.map_append, ← List.append_assoc];rfl
    have hpre : (bdA R++bdS R++bdM R (R.mats.take k))++[⟨pidx R ⟨x.a,x.month⟩,pidx R ⟨x.b,x.month⟩,⟨x.lo,x.hi⟩⟩] <+: bds R R.mats:=by
     rw [← hsn]
     unfold bds
     refine (List.prefix_append_right_inj _).2 ?_
     unfold bdM
     exact (List.take_prefix (k + 1) R.mats).map _
    have hyy:=fun E' => hY _ _ hpre hallk E'
    obtain ⟨u,hu⟩ : ∃ u,u = ok ((bdA R++bdS R++bdM R (R.mats.take k))++[⟨pidx R ⟨x.a,x.month⟩,pidx R ⟨x.b,x.month⟩,⟨x.lo,x.hi⟩⟩]):=⟨_,rfl⟩
    rw [← hu] at hyy
    repeat' (first | (refine uP rfl ?_;(first | ((first | refine uN rfl ?_);(first | (refine uE (uL rfl rfl (LoadV.elA0 (hC.rm.mats.sub (fun _ q=>List.mem_append_right _ q)) hx9 (te rfl) rfl (fun _ hm=>hm) rfl)) rfl rfl ?_)|(refine uE (EvF.indexSlice rfl rfl rfl (te rfl) (te rfl) (by omega) (by omega)) rfl rfl ?_)|(refine Xg.st (StF.alloc rfl Tryz.zeroValue44 rfl) rfl rfl ?_;rintro _ _ ⟨bx,rfl,rfl⟩)|(refine Xg.st0 (StF.storeAll (i:=0) rfl rfl rfl (te rfl) rfl rfl rfl rfl) rfl ?_;rintro _ _ ⟨rfl,rfl⟩;dsimp only [List.set])))))|(refine uD rfl ?_;refine hK _ _ ?_;clear hK K) | refine uS rfl ?_)
    rename Nat=>b10
    refine X.weak (F' := [(0,.func (.yield y) #[] #[]),(1,.pointer (some ⟨bo,0,none⟩)),(10,.pointer (some ⟨b10,0,none⟩)),(86,.slice (some ⟨bx0,ox0,none⟩) R.mats.length c3),(87,.int .i64 R.mats.length),(88,.int .i64 k)]) (H' := ⟨b10,0,cMt x,some 44,6⟩::(hh (bdA R++bdS R++bdM R (R.mats.take k))++E)) (by repeat (first | exact uU _ | refine uV rfl ?_)) (by repeat (first | exact qR _ | apply qK | apply qC)) ?_
    refine X.permH (H' := (hh (bdA R++bdS R++bdM R (R.mats.take k))++[])++(⟨b10,0,cMt x,some 44,6⟩::E)) (by rw [List.append_nil];exact List.perm_middle) ?_
    refine X.regionOb tsBm [0,1,10,86,87,88] [(0,.func (.yield y) #[] #[]),(1,.pointer (some ⟨bo,0,none⟩)),(10,.pointer (some ⟨b10,0,none⟩)),(86,(.slice (some ⟨bx0,ox0,none⟩) R.mats.length c3)),(87,(.int .i64 R.mats.length)),(88,(.int .i64 k))] (valBm bo b10 y R ⟨a1,c1,a2,c2,some ⟨bx0,ox0,none⟩,c3⟩ (some ⟨pb,po,none⟩) c x (pidx R ⟨x.a,x.month⟩) (pidx R ⟨x.b,x.month⟩) u (.slice (some ⟨bx0,ox0,none⟩) R.mats.length c3) (.int .i64 R.mats.length) (.int .i64 k) (hh (bdA R++bdS R++bdM R (R.mats.take k))) (if u = true then hh ((bdA R++bdS R++bdM R (R.mats.take k))++[⟨pidx R ⟨x.a,x.month⟩,pidx R ⟨x.b,x.month⟩,⟨x.lo,x.hi⟩⟩]) else hx ((bdA R++bdS R++bdM R (R.mats.take k))++[⟨pidx R ⟨x.a,x.month⟩,pidx R ⟨x.b,x.month⟩,⟨x.lo,x.hi⟩⟩]))) (rowsBm bo b10 y R ⟨a1,c1,a2,c2,some ⟨bx0,ox0,none⟩,c3⟩ (some ⟨pb,po,none⟩) c x (pidx R ⟨x.a,x.month⟩) (pidx R ⟨x.b,x.month⟩) u (.slice (some ⟨bx0,ox0,none⟩) R.mats.length c3) (.int .i64 R.mats.length) (.int .i64 k) (hh (bdA R++bdS R++bdM R (R.mats.take k))) (if u = true then hh ((bdA R++bdS R++bdM R (R.mats.take k))++[⟨pidx R ⟨x.a,x.month⟩,pidx R ⟨x.b,x.month⟩,⟨x.lo,x.hi⟩⟩]) else hx ((bdA R++bdS R++bdM R (R.mats.take k))++[⟨pidx R ⟨x.a,x.month⟩,pidx R ⟨x.b,x.month⟩,⟨x.lo,x.hi⟩⟩]))) (fun _=>(0,0)) (⟨b10,0,cMt x,some 44,6⟩::E) rfl mixed (by repeat (first | exact uU _ | refine uV rfl ?_)) rfl (by kernel_rfl) (locBm bo b10 y R ⟨a1,c1,a2,c2,some ⟨bx0,ox0,none⟩,c3⟩ (some ⟨pb,po,none⟩) c x (pidx R ⟨x.a,x.month⟩) (pidx R ⟨x.b,x.month⟩) u (.slice (some ⟨bx0,ox0,none⟩) R.mats.length c3) (.int .i64 R.mats.length) (.int .i64 k) (hh (bdA R++bdS R++bdM R (R.mats.take k))) (if u = true then hh ((bdA R++bdS R++bdM R (R.mats.take k))++[⟨pidx R ⟨x.a,x.month⟩,pidx R ⟨x.b,x.month⟩,⟨x.lo,x.hi⟩⟩]) else hx ((bdA R++bdS R++bdM R (R.mats.take k))++[⟨pidx R ⟨x.a,x.month⟩,pidx R ⟨x.b,x.month⟩,⟨x.lo,x.hi⟩⟩]))) (qR _) ?_ ?_
    ·have hlo : ∀ S : List Row,(∀ r ∈ ⟨b10,0,cMt x,some 44,6⟩::E,r ∈ S) → (⟨bo,0,cCt R ⟨a1,c1,a2,c2,some ⟨bx0,ox0,none⟩,c3⟩ (some ⟨pb,po,none⟩) c,owo,capo⟩ : Row) ∈ S:=fun S hS=>hS _ (qT _ ho)
     have hyn : ∀ S : List Row,Yc Tryz.prog y [Value.agg (cBd ⟨pidx R ⟨x.a,x.month⟩,pidx R ⟨x.b,x.month⟩,⟨x.lo,x.hi⟩⟩).toArray] ((hh (bdA R++bdS R++bdM R (R.mats.take k))++[])++S) (fun v H' => v = .bool u∧H' = (if u = true then hh ((bdA R++bdS R++bdM R (R.mats.take k))++[⟨pidx R ⟨x.a,x.month⟩,pidx R ⟨x.b,x.month⟩,⟨x.lo,x.hi⟩⟩]) else hx ((bdA R++bdS R++bdM R (R.mats.take k))++[⟨pidx R ⟨x.a,x.month⟩,pidx R ⟨x.b,x.month⟩,⟨x.lo,x.hi⟩⟩]))++S):=fun S=>by rw [List.append_nil];exact hyy S
     repeat' (first | exact AllF.done rfl | (refine AllF.step rfl ?_ ?_;·(first | fail | ((first | refine Ob.ng rfl ?_);(first | exact ObK.pure (fun env R hR=>by exact ⟨_,uM rfl rfl,rfl⟩) rfl (fun _=>rfl) | exact ObK.pure (fun env R hR=>by exact ⟨_,uF rfl rfl (te rfl) rfl (te rfl) (by decide),rfl⟩) rfl (fun _=>rfl) | exact ObK.pure (fun env R hR=>by exact ⟨_,EvF.not rfl rfl,rfl⟩) rfl (fun _=>rfl) | exact ObK.pure (fun env R hR=>by exact ⟨_,uL rfl rfl (uO (te rfl) rfl (hR _ (qH _)) rfl),rfl⟩) rfl (fun _=>rfl) | exact ObK.pure (fun env R hR=>by exact ⟨_,uL rfl rfl (LoadV.ownAgg (te rfl) rfl (hR _ (qH _)) rfl rfl),rfl⟩) rfl (fun _=>rfl)|(exact ObK.pure (fun env S hS=>⟨_,uL rfl rfl (uW (te rfl) rfl (hlo _ hS) rfl),rfl⟩) rfl (fun _=>rfl))|(exact fun env S hS=>OpF.callV (Z:=[]) (uT rfl (Args.cons rfl (Args.cons rfl (Args.cons rfl Args.nil)))) (hata _ (hC.sub (fun _ h=>hS _ (qT _ h)))) rfl rfl)|(exact fun env S hS=>OpF.callV (Z:=[]) (uT rfl (Args.cons rfl (Args.cons rfl (Args.cons rfl Args.nil)))) (hatb _ (hC.sub (fun _ h=>hS _ (qT _ h)))) rfl rfl)|(exact ObK.pure (fun env S hS=>⟨_,EvF.build (cs:=cBd ⟨pidx R ⟨x.a,x.month⟩,pidx R ⟨x.b,x.month⟩,⟨x.lo,x.hi⟩⟩) rfl (ArgsP.cons rfl (ArgsP.cons rfl (ArgsP.cons rfl ArgsP.nil))) (te rfl) (Places.cons (te rfl) (Places.cons (te rfl) (Places.cons (te rfl) Places.nil))) Tryz.zeroValue159 rfl,rfl⟩) rfl (fun _=>rfl))|(exact fun env S hS=>(OpF.yield rfl rfl (Args.cons rfl Args.nil) (hyn S)).mono (fun v H' ⟨hv,hH⟩=>⟨(0,0),fun _=>hv,by rw [hH];exact List.Perm.refl _⟩)))))))
    ·intro env t ha2 hv
     refine ⟨_,ha2.cons (hv 17 109 (Nat.le_of_ble_eq_true rfl) rfl),?_⟩
     clear hv ha2
     cases u
     ·show X _ _ _ _ ((hx ((bdA R++bdS R++bdM R (R.mats.take k))++[⟨pidx R ⟨x.a,x.month⟩,pidx R ⟨x.b,x.month⟩,⟨x.lo,x.hi⟩⟩])++[])++(⟨b10,0,cMt x,some 44,6⟩::E)) _
      rw [List.append_nil]
      repeat' (first | (refine uP rfl ?_;(first | ((first | refine uN rfl ?_);(first | (refine uE (uM rfl rfl) rfl rfl ?_)|(refine uE (EvF.add64 rfl rfl rfl (by omega) (by omega)) rfl rfl ?_)))))|(refine uD rfl ?_;refine hK _ _ ?_;clear hK K) | refine uR rfl (fun K hK=>?_) | refine X.skip rfl ?_ | refine X.ret rfl ?_ | (refine X.ite rfl rfl (fun hc=>?_);(first | (with_reducible refine Xb.caseB hc (fun h=>?_) (fun h=>?_))) <;> clear hc))
      all_goals try (exfalso;contradiction)
      exact ret_none (by simp) Tryz.results127 (H' := _) (List.Sublist.append (qR _) (List.sublist_cons_self _ _)) (.inr ⟨_,hpre,hu.symm,rfl⟩)
     ·show X _ _ _ _ ((hh ((bdA R++bdS R++bdM R (R.mats.take k))++[⟨pidx R ⟨x.a,x.month⟩,pidx R ⟨x.b,x.month⟩,⟨x.lo,x.hi⟩⟩])++[])++(⟨b10,0,cMt x,some 44,6⟩::E)) _
      have hall2:=allOk_snoc hallk hu.symm
      rw [List.append_nil]
      rw [← hsn] at hall2 ⊢
      repeat' (first | (refine uP rfl ?_;(first | ((first | refine uN rfl ?_);(first | (refine uE (uM rfl rfl) rfl rfl ?_)|(refine uE (EvF.add64 rfl rfl rfl (by omega) (by omega)) rfl rfl ?_)))))|(refine uD rfl ?_;refine hK _ _ ?_;clear hK K) | refine uR rfl (fun K hK=>?_) | refine X.skip rfl ?_ | refine X.ret rfl ?_ | (refine X.ite rfl rfl (fun hc=>?_);(first | (with_reducible refine Xb.caseB hc (fun h=>?_) (fun h=>?_))) <;> clear hc))
      all_goals try (exfalso;contradiction)
      exact ⟨_,[(0,.func (.yield y) #[] #[]),(1,.pointer (some ⟨bo,0,none⟩)),(86,.slice (some ⟨bx0,ox0,none⟩) R.mats.length c3),(87,.int .i64 R.mats.length),(88,.int .i64 (k + 1 : Nat))],_,(by repeat (first | exact uU _ | refine uV rfl ?_)),List.Sublist.append (qR _) (List.sublist_cons_self _ _),⟨k + 1,rfl,by omega,hall2,rfl,rfl⟩,by omega⟩
   ·have hk2 : k = R.mats.length:=by omega
    subst hk2
    rw [List.take_length] at hallk ⊢
    exact ret_none (by simp) Tryz.results127 (H' := _) (qR _) (.inl ⟨hallk,rfl⟩)
end Go.Proofs.YtmfppdpkalelhaaGreat
end
section
set_option linter.unusedVariables false
set_option linter.unusedSimpArgs false
namespace Go.Proofs.YtmfppdpkalelhaaGreat
open Go Go.Fw
set_option maxRecDepth 10000
theorem bounds_spec (R : Rm) (p : Pl) (a : Option Addr) (c : Nat) (H : List Row) : Fc Tryz.prog 115 [.agg (cCt R p a c).toArray] H (fun v H' => ∃ bo,v = .func (.func 127) #[] #[.pointer (some ⟨bo,0,none⟩)]∧H' = ⟨bo,0,cCt R p a c,some 79,6⟩::H):=by
 refine Fc.mk (callable Tryz.call115) Tryz.func115 rfl Tryz.ntmps115 rfl ?_;dsimp only [fr]
 repeat' (first | (refine uP rfl ?_;(first | ((first | refine uN rfl ?_);(first | (refine uE (EvF.makeFunc (fl:=[]) rfl Args.nil (Args.cons rfl Args.nil)) rfl rfl ?_)|(refine uE (uA rfl rfl) rfl rfl ?_)|(refine Xg.st (StF.boxAgg rfl rfl) rfl rfl ?_;rintro _ _ ⟨bx,rfl,rfl⟩)))))|(refine uD rfl ?_;refine hK _ _ ?_;clear hK K) | refine uS rfl ?_ | refine uR rfl (fun K hK=>?_) | refine X.ret rfl ?_)
 exact ret_one (by simp) Tryz.results115 rfl (H' := _) (qR _) ⟨bx,rfl,rfl⟩
theorem flat_set : ∀ (l : List Int) (j : Nat) (v : Int),(l.flatMap cI).set j (.int .i64 v)=(l.set j v).flatMap cI
 | [],j,v=>by simp
 | x::l,0,v=>by simp [cI]
 | x::l,j + 1,v=>by
  have:=flat_set l j v
  simp only [List.flatMap_cons,List.set_cons_succ,cI,List.cons_append,List.nil_append] at this ⊢
  rw [this]
theorem get_cell (c : List Int) (i : Nat) : (c.flatMap cI)[i]? = c[i]?.map (Value.int .i64):=by
 induction c generalizing i with
 | nil=>rfl
 | cons a c ih =>
  cases i with
  | zero=>rfl
  | succ i=>simpa [List.flatMap_cons,cI] using ih i
theorem gt0_get {l : List Int} {i : Nat} (h : i < l.length) : l[i]? = some (gt0 l i):=by
 unfold gt0
 simp [List.getD_eq_getElem?_getD,List.getElem?_eq_getElem h]
def okB (l : List Int) (q : List Bd) : Bool:=match q.getLast? with
 | some d=>decide (d.s.lo ≤ gt0 l d.a - gt0 l d.b∧gt0 l d.a - gt0 l d.b ≤ d.s.hi)
 | none=>true
theorem okB_snoc (l : List Int) (q : List Bd) (d : Bd) : okB l (q++[d]) = decide (d.s.lo ≤ gt0 l d.a - gt0 l d.b∧gt0 l d.a - gt0 l d.b ≤ d.s.hi):=by
 unfold okB
 rw [List.getLast?_append]
 rfl
theorem okB_all {l : List Int} {B : List Bd} (h : allOk (okB l) B) : fitB (gt0 l) B:=by
 intro d hd
 obtain ⟨s,t,rfl⟩:=List.append_of_mem hd
 have:=h (s++[d]) ⟨t,by simp⟩ (by simp)
 rw [okB_snoc] at this
 exact of_decide_eq_true this
theorem okB_no {l : List Int} {B q : List Bd} (hq : q <+: B) (h : okB l q = false) : ¬ fitB (gt0 l) B:=by
 intro hf
 rcases List.eq_nil_or_concat q with rfl | ⟨s,d,rfl⟩
 ·cases h
 ·rw [List.concat_eq_append,okB_snoc] at h
  rw [List.concat_eq_append] at hq
  exact absurd (hf d (hq.subset (List.mem_append_right _ List.mem_cons_self))) (of_decide_eq_false h)
end Go.Proofs.YtmfppdpkalelhaaGreat
end
section
set_option linter.unusedVariables false
set_option linter.unusedSimpArgs false
namespace Go.Proofs.YtmfppdpkalelhaaGreat
open Go Go.Fw
set_option maxRecDepth 10000
def tsMa : List TOp:=[⟨some 14,[],[],[]⟩,⟨some 15,[],[],[]⟩,⟨some 16,[],[],[]⟩,⟨some 17,[2],[2],[]⟩,⟨some 18,[],[],[]⟩,⟨some 19,[4],[4],[]⟩,⟨some 20,[1,2,3,4,5],[1,3,5],[]⟩,⟨some 21,[0,1,2,3,4,5,6],[0,6],[]⟩,⟨none,[0,1,2,3,4,5,6,7],[7],[9]⟩,⟨none,[],[],[]⟩]
def valMa (b2 b3 b6 bl n ix : Nat) (R : Rm) (p : Pl) (a : Option Addr) (c : Nat) (f : Pk) (k : Nat) (env : Env) : Value :=
 match k with
 | 0 => .slice (some ⟨bl,0,none⟩) n n
 | 1 => .agg (cCt R p a c).toArray
 | 2 => .pointer (some ⟨b3,0,none⟩)
 | 3 => .int .i64 f.box
 | 4 => .pointer (some ⟨b3,1,none⟩)
 | 5 => .int .i64 f.month
 | 6 => .int .i64 (ix : Nat)
 | 7 => .pointer (some ⟨bl,0 + ix * 1,none⟩)
 | 8=>undef
 | _=>undef
def rowsMa (b2 b3 b6 bl n ix : Nat) (R : Rm) (p : Pl) (a : Option Addr) (c : Nat) (f : Pk) (k : Nat) (env : Env) : List Row :=
 match k with
 | 8=>[⟨bl,0,(start n ix).flatMap cI,some 3,n * 1⟩]
 | 9=>[⟨bl,0,(List.replicate n (1048576 : Int)).flatMap cI,some 3,n * 1⟩]
 | _=>[]
theorem locMa (b2 b3 b6 bl n ix : Nat) (R : Rm) (p : Pl) (a : Option Addr) (c : Nat) (f : Pk) : ∀ k env i q9,i ≠ k → (tAt tsMa k).sup.contains i = false → valMa b2 b3 b6 bl n ix R p a c f k (upd env i q9)=valMa b2 b3 b6 bl n ix R p a c f k env∧rowsMa b2 b3 b6 bl n ix R p a c f k (upd env i q9)=rowsMa b2 b3 b6 bl n ix R p a c f k env:=by
 intro k env i q hk hs
 have hu : ∀ j,j ≠ i → upd env i q j = env j:=fun j hj=>by unfold upd;rw [if_neg hj]
 match k,hk,hs with
 | 0,_,_=>exact ⟨rfl,rfl⟩
 | 1,_,_=>exact ⟨rfl,rfl⟩
 | 2,_,_=>exact ⟨rfl,rfl⟩
 | 3,_,_=>exact ⟨rfl,rfl⟩
 | 4,_,_=>exact ⟨rfl,rfl⟩
 | 5,_,_=>exact ⟨rfl,rfl⟩
 | 6,_,_=>exact ⟨rfl,rfl⟩
 | 7,_,_=>exact ⟨rfl,rfl⟩
 | 8,_,_=>exact ⟨rfl,rfl⟩
 | 9,_,_=>exact ⟨rfl,rfl⟩
 | _ + 10,_,_=>exact ⟨rfl,rfl⟩
def tsMb : List TOp:=[⟨some 30,[],[],[]⟩,⟨some 31,[],[],[]⟩,⟨some 32,[1],[1],[]⟩,⟨some 33,[],[],[]⟩,⟨some 34,[],[],[]⟩,⟨some 35,[4],[4],[]⟩,⟨some 36,[3,4,5],[3,5],[]⟩,⟨some 37,[3,4,5,6],[6],[]⟩,⟨some 38,[],[],[]⟩,⟨some 39,[],[],[]⟩,⟨some 40,[9],[9],[]⟩,⟨some 41,[8,9,10],[8,10],[]⟩,⟨some 42,[8,9,10,11],[11],[]⟩,⟨some 43,[],[],[]⟩,⟨some 44,[13],[13],[]⟩,⟨some 45,[13,14],[14],[]⟩,⟨some 46,[8,9,10,11,12,13,14,15],[12,15],[]⟩,⟨some 47,[3,4,5,6,7,8,9,10,11,12,13,14,15,16],[7,16],[]⟩,⟨some 48,[0,1,2,3,4,5,6,7,8,9,10,11,12,13,14,15,16,17],[0,2],[]⟩,⟨none,[0,1,2,3,4,5,6,7,8,9,10,11,12,13,14,15,16,17,18],[18,17],[20]⟩,⟨none,[],[],[]⟩]
def valMb (b6 b7 bl n : Nat) (d : Bd) (l : List Int) (k : Nat) (env : Env) : Value :=
 match k with
 | 0 => .slice (some ⟨bl,0,none⟩) n n
 | 1 => .pointer (some ⟨b7,0,none⟩)
 | 2 => .int .i64 d.a
 | 3 => .slice (some ⟨bl,0,none⟩) n n
 | 4 => .pointer (some ⟨b7,0,none⟩)
 | 5 => .int .i64 d.a
 | 6 => .pointer (some ⟨bl,0 + d.a * 1,none⟩)
 | 7 => .int .i64 (gt0 l d.a)
 | 8 => .slice (some ⟨bl,0,none⟩) n n
 | 9 => .pointer (some ⟨b7,1,none⟩)
 | 10 => .int .i64 d.b
 | 11 => .pointer (some ⟨bl,0 + d.b * 1,none⟩)
 | 12 => .int .i64 (gt0 l d.b)
 | 13 => .pointer (some ⟨b7,2,none⟩)
 | 14 => .pointer (some ⟨b7,3,none⟩)
 | 15 => .int .i64 d.s.hi
 | 16 => .int .i64 ((gt0 l d.b) + d.s.hi)
 | 17 => .int .i64 (min (gt0 l d.a) (gt0 l d.b + d.s.hi))
 | 18 => .pointer (some ⟨bl,0 + d.a * 1,none⟩)
 | 19=>undef
 | _=>undef
def rowsMb (b6 b7 bl n : Nat) (d : Bd) (l : List Int) (k : Nat) (env : Env) : List Row :=
 match k with
 | 19=>[⟨bl,0,(rlx l ⟨d.a,d.b,d.s.hi⟩).flatMap cI,some 3,n * 1⟩]
 | 20=>[⟨bl,0,l.flatMap cI,some 3,n * 1⟩]
 | _=>[]
theorem locMb (b6 b7 bl n : Nat) (d : Bd) (l : List Int) : ∀ k env i q9,i ≠ k → (tAt tsMb k).sup.contains i = false → valMb b6 b7 bl n d l k (upd env i q9)=valMb b6 b7 bl n d l k env∧rowsMb b6 b7 bl n d l k (upd env i q9)=rowsMb b6 b7 bl n d l k env:=by
 intro k env i q hk hs
 have hu : ∀ j,j ≠ i → upd env i q j = env j:=fun j hj=>by unfold upd;rw [if_neg hj]
 match k,hk,hs with
 | 0,_,_=>exact ⟨rfl,rfl⟩
 | 1,_,_=>exact ⟨rfl,rfl⟩
 | 2,_,_=>exact ⟨rfl,rfl⟩
 | 3,_,_=>exact ⟨rfl,rfl⟩
 | 4,_,_=>exact ⟨rfl,rfl⟩
 | 5,_,_=>exact ⟨rfl,rfl⟩
 | 6,_,_=>exact ⟨rfl,rfl⟩
 | 7,_,_=>exact ⟨rfl,rfl⟩
 | 8,_,_=>exact ⟨rfl,rfl⟩
 | 9,_,_=>exact ⟨rfl,rfl⟩
 | 10,_,_=>exact ⟨rfl,rfl⟩
 | 11,_,_=>exact ⟨rfl,rfl⟩
 | 12,_,_=>exact ⟨rfl,rfl⟩
 | 13,_,_=>exact ⟨rfl,rfl⟩
 | 14,_,_=>exact ⟨rfl,rfl⟩
 | 15,_,_=>exact ⟨rfl,rfl⟩
 | 16,_,_=>exact ⟨rfl,rfl⟩
 | 17,_,_=>exact ⟨rfl,rfl⟩
 | 18,_,_=>exact ⟨rfl,rfl⟩
 | 19,_,_=>exact ⟨rfl,rfl⟩
 | 20,_,_=>exact ⟨rfl,rfl⟩
 | _ + 21,_,_=>exact ⟨rfl,rfl⟩
def rdMb (k : Nat) : List Nat:=match k with
 | 7=>[20]
 | 12=>[20]
 | _=>[]
def tsMc : List TOp:=[⟨some 49,[],[],[]⟩,⟨some 50,[],[],[]⟩,⟨some 51,[1],[1],[]⟩,⟨some 52,[],[],[]⟩,⟨some 53,[],[],[]⟩,⟨some 54,[4],[4],[]⟩,⟨some 55,[3,4,5],[3,5],[]⟩,⟨some 56,[3,4,5,6],[6],[]⟩,⟨some 57,[],[],[]⟩,⟨some 58,[],[],[]⟩,⟨some 59,[9],[9],[]⟩,⟨some 60,[8,9,10],[8,10],[]⟩,⟨some 61,[8,9,10,11],[11],[]⟩,⟨some 62,[],[],[]⟩,⟨some 63,[13],[13],[]⟩,⟨some 64,[13,14],[14],[]⟩,⟨some 65,[8,9,10,11,12,13,14,15],[12,15],[]⟩,⟨some 66,[3,4,5,6,7,8,9,10,11,12,13,14,15,16],[7,16],[]⟩,⟨some 67,[0,1,2,3,4,5,6,7,8,9,10,11,12,13,14,15,16,17],[0,2],[]⟩,⟨none,[0,1,2,3,4,5,6,7,8,9,10,11,12,13,14,15,16,17,18],[18,17],[20]⟩,⟨none,[],[],[]⟩]
def valMc (b6 b7 bl n : Nat) (d : Bd) (l : List Int) (k : Nat) (env : Env) : Value :=
 match k with
 | 0 => .slice (some ⟨bl,0,none⟩) n n
 | 1 => .pointer (some ⟨b7,1,none⟩)
 | 2 => .int .i64 d.b
 | 3 => .slice (some ⟨bl,0,none⟩) n n
 | 4 => .pointer (some ⟨b7,1,none⟩)
 | 5 => .int .i64 d.b
 | 6 => .pointer (some ⟨bl,0 + d.b * 1,none⟩)
 | 7 => .int .i64 (gt0 l d.b)
 | 8 => .slice (some ⟨bl,0,none⟩) n n
 | 9 => .pointer (some ⟨b7,0,none⟩)
 | 10 => .int .i64 d.a
 | 11 => .pointer (some ⟨bl,0 + d.a * 1,none⟩)
 | 12 => .int .i64 (gt0 l d.a)
 | 13 => .pointer (some ⟨b7,2,none⟩)
 | 14 => .pointer (some ⟨b7,2,none⟩)
 | 15 => .int .i64 d.s.lo
 | 16 => .int .i64 ((gt0 l d.a) - d.s.lo)
 | 17 => .int .i64 (min (gt0 l d.b) (gt0 l d.a - d.s.lo))
 | 18 => .pointer (some ⟨bl,0 + d.b * 1,none⟩)
 | 19=>undef
 | _=>undef
def rowsMc (b6 b7 bl n : Nat) (d : Bd) (l : List Int) (k : Nat) (env : Env) : List Row :=
 match k with
 | 19=>[⟨bl,0,(rlx l ⟨d.b,d.a, -d.s.lo⟩).flatMap cI,some 3,n * 1⟩]
 | 20=>[⟨bl,0,l.flatMap cI,some 3,n * 1⟩]
 | _=>[]
theorem locMc (b6 b7 bl n : Nat) (d : Bd) (l : List Int) : ∀ k env i q9,i ≠ k → (tAt tsMc k).sup.contains i = false → valMc b6 b7 bl n d l k (upd env i q9)=valMc b6 b7 bl n d l k env∧rowsMc b6 b7 bl n d l k (upd env i q9)=rowsMc b6 b7 bl n d l k env:=by
 intro k env i q hk hs
 have hu : ∀ j,j ≠ i → upd env i q j = env j:=fun j hj=>by unfold upd;rw [if_neg hj]
 match k,hk,hs with
 | 0,_,_=>exact ⟨rfl,rfl⟩
 | 1,_,_=>exact ⟨rfl,rfl⟩
 | 2,_,_=>exact ⟨rfl,rfl⟩
 | 3,_,_=>exact ⟨rfl,rfl⟩
 | 4,_,_=>exact ⟨rfl,rfl⟩
 | 5,_,_=>exact ⟨rfl,rfl⟩
 | 6,_,_=>exact ⟨rfl,rfl⟩
 | 7,_,_=>exact ⟨rfl,rfl⟩
 | 8,_,_=>exact ⟨rfl,rfl⟩
 | 9,_,_=>exact ⟨rfl,rfl⟩
 | 10,_,_=>exact ⟨rfl,rfl⟩
 | 11,_,_=>exact ⟨rfl,rfl⟩
 | 12,_,_=>exact ⟨rfl,rfl⟩
 | 13,_,_=>exact ⟨rfl,rfl⟩
 | 14,_,_=>exact ⟨rfl,rfl⟩
 | 15,_,_=>exact ⟨rfl,rfl⟩
 | 16,_,_=>exact ⟨rfl,rfl⟩
 | 17,_,_=>exact ⟨rfl,rfl⟩
 | 18,_,_=>exact ⟨rfl,rfl⟩
 | 19,_,_=>exact ⟨rfl,rfl⟩
 | 20,_,_=>exact ⟨rfl,rfl⟩
 | _ + 21,_,_=>exact ⟨rfl,rfl⟩
def rdMc (k : Nat) : List Nat:=match k with
 | 7=>[20]
 | 12=>[20]
 | _=>[]
def tsMd : List TOp:=[⟨some 71,[],[],[]⟩,⟨some 72,[0],[0],[]⟩,⟨some 73,[],[],[]⟩,⟨some 74,[],[],[]⟩,⟨some 75,[3],[3],[]⟩,⟨some 76,[2,3,4],[2,4],[]⟩,⟨some 77,[2,3,4,5],[5],[]⟩,⟨some 78,[],[],[]⟩,⟨some 79,[],[],[]⟩,⟨some 80,[8],[8],[]⟩,⟨some 81,[7,8,9],[7,9],[]⟩,⟨some 82,[7,8,9,10],[10],[]⟩,⟨some 83,[2,3,4,5,6,7,8,9,10,11],[6,11],[]⟩,⟨some 84,[2,3,4,5,6,7,8,9,10,11,12],[12],[]⟩,⟨some 85,[0,1,2,3,4,5,6,7,8,9,10,11,12,13],[1,13],[13]⟩,⟨some 86,[0,1,2,3,4,5,6,7,8,9,10,11,12,13,14],[14],[]⟩]
def valMd (b6 b8 bl n : Nat) (d : Bd) (l : List Int) (w : Bool) (k : Nat) (env : Env) : Value :=
 match k with
 | 0 => .pointer (some ⟨b8,2,none⟩)
 | 1 => .agg (cSp d.s).toArray
 | 2 => .slice (some ⟨bl,0,none⟩) n n
 | 3 => .pointer (some ⟨b8,0,none⟩)
 | 4 => .int .i64 d.a
 | 5 => .pointer (some ⟨bl,0 + d.a * 1,none⟩)
 | 6 => .int .i64 (gt0 l d.a)
 | 7 => .slice (some ⟨bl,0,none⟩) n n
 | 8 => .pointer (some ⟨b8,1,none⟩)
 | 9 => .int .i64 d.b
 | 10 => .pointer (some ⟨bl,0 + d.b * 1,none⟩)
 | 11 => .int .i64 (gt0 l d.b)
 | 12 => .int .i64 ((gt0 l d.a) - (gt0 l d.b))
 | 13 => .slice (some ⟨(env 13).1,0,none⟩) 1 1
 | 14 => .bool w
 | 15 => .bool (!w)
 | _=>undef
def rowsMd (b6 b8 bl n : Nat) (d : Bd) (l : List Int) (w : Bool) (k : Nat) (env : Env) : List Row :=
 match k with
 | 13=>[⟨(env 13).1,0,[.int .i64 ((gt0 l d.a) - (gt0 l d.b))],some 3,1 * 1⟩]
 | _=>[]
theorem locMd (b6 b8 bl n : Nat) (d : Bd) (l : List Int) (w : Bool) : ∀ k env i q9,i ≠ k → (tAt tsMd k).sup.contains i = false → valMd b6 b8 bl n d l w k (upd env i q9)=valMd b6 b8 bl n d l w k env∧rowsMd b6 b8 bl n d l w k (upd env i q9)=rowsMd b6 b8 bl n d l w k env:=by
 intro k env i q hk hs
 have hu : ∀ j,j ≠ i → upd env i q j = env j:=fun j hj=>by unfold upd;rw [if_neg hj]
 match k,hk,hs with
 | 0,_,_=>exact ⟨rfl,rfl⟩
 | 1,_,_=>exact ⟨rfl,rfl⟩
 | 2,_,_=>exact ⟨rfl,rfl⟩
 | 3,_,_=>exact ⟨rfl,rfl⟩
 | 4,_,_=>exact ⟨rfl,rfl⟩
 | 5,_,_=>exact ⟨rfl,rfl⟩
 | 6,_,_=>exact ⟨rfl,rfl⟩
 | 7,_,_=>exact ⟨rfl,rfl⟩
 | 8,_,_=>exact ⟨rfl,rfl⟩
 | 9,_,_=>exact ⟨rfl,rfl⟩
 | 10,_,_=>exact ⟨rfl,rfl⟩
 | 11,_,_=>exact ⟨rfl,rfl⟩
 | 12,_,_=>exact ⟨rfl,rfl⟩
 | 13,hk,hs=>exact ⟨by simp only [valMd,hu 13 (fun e=>hk e.symm)],by simp only [rowsMd,hu 13 (fun e=>hk e.symm)]⟩
 | 14,_,_=>exact ⟨rfl,rfl⟩
 | 15,_,_=>exact ⟨rfl,rfl⟩
 | _ + 16,_,_=>exact ⟨rfl,rfl⟩
set_option maxHeartbeats 16000000 in
theorem most_spec (R : Rm) (p : Pl) (a : Option Addr) (c : Nat) (f : Pk) (H : List Row) (hr : okRm R) (hm : matsThere R R.mats) (hC : CtOk H R p a) (hla : R.ages.length ≤ 1000) (hlm : R.mats.length ≤ 1000) (hpc : (plcs R).length ≤ c) (hf : f ∈ plcs R) :
  Fc Tryz.prog 83 [.agg (cCt R p a c).toArray,.agg (cPk f).toArray] H (fun v H' => (mostR R R.mats (pidx R f)=none∧v = .tuple #[.slice none 0 0,.bool false]∧H' = H) ∨
   ∃ t b k,mostR R R.mats (pidx R f)=some t∧v = .tuple #[.slice (some ⟨b,0,none⟩) (plcs R).length k,.bool true]∧H' = ⟨b,0,t.flatMap cI,some 3,k * 1⟩::H):=by
 have hpl:=plcs_len hr
 have hp1 : 1 ≤ (plcs R).length:=by unfold plcs;simp
 have hpf:=pidx_lt hf
 have hz : atZ R ⟨f.box,f.month⟩ = (pidx R f : Nat):=by unfold atZ;rw [if_pos hf]
 obtain ⟨n,hn⟩ : ∃ n,n = (plcs R).length:=⟨_,rfl⟩
 obtain ⟨ix,hix⟩ : ∃ ix,ix = pidx R f:=⟨_,rfl⟩
 rw [← hix] at hz hpf ⊢
 have hat:=fun H' hH' => at_spec R p a c f.box f.month H' hr hH'
 rw [hz] at hat
 refine Fc.mkT (callable Tryz.call83) Tryz.func83 rfl Tryz.ntmps83 rfl ?_
 dsimp only [fr]
 refine XT.seq rfl (XT.of0 ?_)
 repeat' (first | (refine uP rfl ?_;(first | ((first | refine uN rfl ?_);(first | (refine uE (uA rfl rfl) rfl rfl ?_)|(refine Xg.st (StF.boxAgg rfl rfl) rfl rfl ?_;rintro _ _ ⟨bx,rfl,rfl⟩)))))|(refine uD rfl ?_;refine hK _ _ ?_;clear hK K) | refine uR rfl (fun K hK=>?_) | refine X.label rfl ?_)
 refine XT.scope rfl ?_
 refine XT.seq rfl (XT.of0 ?_)
 rename_i b2;generalize bx = b3
 repeat' (first | (refine uP rfl ?_;(first | ((first | refine uN rfl ?_);(first | (refine Xg.st (StF.buildOne rfl el55 rfl rfl rfl (by decide) (by decide)) rfl rfl ?_;rintro _ _ ⟨bs,rfl,rfl⟩)|(refine uC (uT rfl (Args.cons rfl (Args.cons rfl Args.nil))) rfl rfl (repeat_spec bs (plcs R).length _ _ _ (qH _) (by omega) (by omega)) ?_;rintro _ _ ⟨bl,rfl,rfl⟩)|(refine uE (uF rfl rfl (te rfl) rfl (te rfl) (by decide)) rfl rfl ?_)|(refine uE (EvF.lenSlice rfl rfl (te rfl)) rfl rfl ?_)|(refine uE (uL rfl rfl (uO (te rfl) rfl (qT _ (qT _ (qH _))) rfl)) rfl rfl ?_)|(refine Xg.st (StF.alloc rfl Tryz.zeroValue38 rfl) rfl rfl ?_;rintro _ _ ⟨bx,rfl,rfl⟩)|(refine Xg.st0 (StF.storeOne (i:=0) rfl rfl rfl rfl (te rfl) rfl rfl (Nat.le_of_ble_eq_true rfl)) rfl ?_;rintro _ _ ⟨rfl,rfl⟩;dsimp only [List.set])))))|(refine uD rfl ?_;refine hK _ _ ?_;clear hK K) | refine uR rfl (fun K hK=>?_))
 rw [← hn]
 rw [← hn] at hpf hpc hp1 hpl
 rename Nat=>b6
 refine XT.seq rfl (XT.of0 ?_)
 refine X.weak (F' := [(2,.pointer (some ⟨b2,0,none⟩)),(3,.pointer (some ⟨b3,0,none⟩)),(6,.pointer (some ⟨b6,0,none⟩))]) (H' := ⟨b6,0,[.slice (some ⟨bl,0,none⟩) n n],some 38,1⟩::⟨bl,0,(List.replicate n (1048576 : Int)).flatMap cI,some 3,n * 1⟩::⟨b3,0,cPk f,some 86,2⟩::⟨b2,0,cCt R p a c,some 79,6⟩::H) (by repeat (first | exact uU _ | refine uV rfl ?_)) (by repeat (first | exact qR _ | apply qK | apply qC)) ?_
 refine X.permH (H' := ⟨bl,0,(List.replicate n (1048576 : Int)).flatMap cI,some 3,n * 1⟩::⟨b6,0,[.slice (some ⟨bl,0,none⟩) n n],some 38,1⟩::⟨b3,0,cPk f,some 86,2⟩::⟨b2,0,cCt R p a c,some 79,6⟩::H) (List.Perm.swap _ _ _) ?_
 refine X.regionOb tsMa [2,3,6] [(2,.pointer (some ⟨b2,0,none⟩)),(3,.pointer (some ⟨b3,0,none⟩)),(6,.pointer (some ⟨b6,0,none⟩))] (valMa b2 b3 b6 bl n ix R p a c f) (rowsMa b2 b3 b6 bl n ix R p a c f) (fun _=>(0,0)) (⟨b6,0,[.slice (some ⟨bl,0,none⟩) n n],some 38,1⟩::⟨b3,0,cPk f,some 86,2⟩::⟨b2,0,cCt R p a c,some 79,6⟩::H) rfl mixed (by repeat (first | exact uU _ | refine uV rfl ?_)) rfl (by kernel_rfl) (locMa b2 b3 b6 bl n ix R p a c f) (qR _) ?_ ?_
 ·have hCs : ∀ S : List Row,(∀ r ∈ ⟨b6,0,[.slice (some ⟨bl,0,none⟩) n n],some 38,1⟩::⟨b3,0,cPk f,some 86,2⟩::⟨b2,0,cCt R p a c,some 79,6⟩::H,r ∈ S) → CtOk S R p a:=fun S hS=>hC.sub (fun r h=>hS r (List.mem_append_right [_,_,_] h))
  repeat' (first | exact AllF.done rfl | (refine AllF.step rfl ?_ ?_;·(first | fail | ((first | refine Ob.ng rfl ?_);(first | exact ObK.pure (fun env R hR=>by exact ⟨_,uF rfl rfl (te rfl) rfl (te rfl) (by decide),rfl⟩) rfl (fun _=>rfl) | exact ObK.pure (fun env R hR=>by exact ⟨_,uL rfl rfl (uO (te rfl) rfl (hR _ (qH _)) rfl),rfl⟩) rfl (fun _=>rfl) | exact ObK.pure (fun env R hR=>by exact ⟨_,uL rfl rfl (uO (te rfl) rfl (hR _ (qT _ (qH _))) rfl),rfl⟩) rfl (fun _=>rfl) | exact ObK.pure (fun env R hR=>by exact ⟨_,uL rfl rfl (uW (te rfl) rfl (hR _ (qT _ (qT _ (qH _)))) rfl),rfl⟩) rfl (fun _=>rfl)|(exact fun env S hS=>OpF.callV (Z:=[]) (uT rfl (Args.cons rfl (Args.cons rfl (Args.cons rfl Args.nil)))) (hat _ (hCs _ hS)) rfl rfl)|((refine ObK.pure (fun env S hS=>⟨.pointer (some ⟨bl,0 + ix * 1,none⟩),?_,rfl⟩) rfl (fun _=>rfl);exact EvF.indexSlice (i:=(ix : Int)) (off:=0) (b:=bl) (T:=38) (e:=3) (len:=n) (ti:=⟨.int .i64,1,8⟩) rfl rfl rfl (te rfl) (te rfl) (by omega) (by omega)))|(exact fun env S hS=>(StF.storeOne (i:=0) (cs:=(List.replicate n (1048576 : Int)).flatMap cI) (j:=0 + ix * 1) rfl rfl rfl rfl (te rfl) rfl rfl (by rw [lenI,List.length_replicate];omega)).op.mono (fun v H' ⟨hv,hH⟩=>⟨(0,0),fun h=>absurd rfl h,by rw [hH];show List.Perm (⟨bl,0,((List.replicate n (1048576 : Int)).flatMap cI).set (0 + ix * 1) (.int .i64 0),some 3,n * 1⟩::S) _;rw [flat_set,show 0 + ix * 1 = ix by omega];exact List.Perm.refl _⟩)))))))
 intro env t ha2 hv
 refine ⟨_,ha2,?_⟩
 clear hv ha2
 show XT _ _ _ _ _ (⟨bl,0,(start n ix).flatMap cI,some 3,n * 1⟩::⟨b6,0,[.slice (some ⟨bl,0,none⟩) n n],some 38,1⟩::⟨b3,0,cPk f,some 86,2⟩::⟨b2,0,cCt R p a c,some 79,6⟩::H) _
 clear env
 refine XT.seq rfl (XT.of0 ?_)
 repeat' (first | (refine uP rfl ?_;(first | ((first | refine uN rfl ?_);(first | (refine uE (uA rfl rfl) rfl rfl ?_)|(refine Xg.st (StF.boxAgg rfl rfl) rfl rfl ?_;rintro _ _ ⟨bx,rfl,rfl⟩)))))|(refine uD rfl ?_;refine hK _ _ ?_;clear hK K) | refine uR rfl (fun K hK=>?_) | refine X.label rfl ?_)
 refine XT.seq rfl (XT.seq rfl (XT.of0 ?_))
 repeat' (first | (refine uP rfl ?_;(first | ((first | refine uN rfl ?_);(first | (refine uE (uL rfl rfl (uO (te rfl) rfl (qT _ (qT _ (qT _ (qH _)))) rfl)) rfl rfl ?_)|(refine uE (uM rfl rfl) rfl rfl ?_)|(refine uE (uF rfl rfl (te rfl) rfl (te rfl) (by decide)) rfl rfl ?_)|(refine uE (EvF.lenSlice rfl rfl (te rfl)) rfl rfl ?_)))))|(refine uD rfl ?_;refine hK _ _ ?_;clear hK K) | refine uR rfl (fun K hK=>?_))
 rw [← hn]
 obtain ⟨es,hes⟩ : ∃ es,es = edges (bds R R.mats):=⟨_,rfl⟩
 have hsl : (start n ix).length = n:=start_len n ix
 have hin : inE n es:=by rw [hes,hn];exact edges_in hr.bx hm
 have hsb : bnd 0 (start n ix):=fun i hi=>by
  rw [hsl] at hi
  rw [start_at hpf hi]
  split <;> omega
 have hwt : ∀ e ∈ es, -60 ≤ e.w∧e.w ≤ 60:=by rw [hes];exact edges_w (bds_w hr hm)
 have hel : es.length ≤ 5000:=by
  have:=bds_len hr (M:=R.mats) hlm
  rw [hes,edges_len];omega
 have hmost : mostR R R.mats ix = mostL es n (start n ix):=by unfold mostR;rw [← hn, ← hes]
 refine XT.block rfl ?_
 refine XT.lp rfl (fun m F' Ds' H' => ∃ (r : Nat) (l : List Int),m = n - r∧r ≤ n∧l.length = n∧bnd (300000 * r) l∧mostR R R.mats ix = mostL es (n - r) l ∧
   H' = ⟨bl,0,l.flatMap cI,some 3,n * 1⟩::⟨b6,0,[.slice (some ⟨bl,0,none⟩) n n],some 38,1⟩::⟨b2,0,cCt R p a c,some 79,6⟩::H ∧
   F' = [(2,.pointer (some ⟨b2,0,none⟩)),(6,.pointer (some ⟨b6,0,none⟩)),(24,.int .i64 n),(25,.int .i64 r)])
  n [(2,.pointer (some ⟨b2,0,none⟩)),(6,.pointer (some ⟨b6,0,none⟩)),(24,.int .i64 n),(25,.int .i64 (0 : Nat))] (⟨bl,0,(start n ix).flatMap cI,some 3,n * 1⟩::⟨b6,0,[.slice (some ⟨bl,0,none⟩) n n],some 38,1⟩::⟨b2,0,cCt R p a c,some 79,6⟩::H) (by repeat (first | exact uU _ | refine uV rfl ?_)) (by repeat (first | exact qR _ | apply qK | apply qC)) ⟨0,start n ix,by omega,by omega,hsl,hsb.mono (by omega),hmost,rfl,rfl⟩ ?_
 rintro m _ Ds _ ⟨r,l,rfl,hrn,hll,hbl,hml,rfl,rfl⟩
 refine XT.seq rfl (XT.ofX ?_)
 obtain ⟨D,hD⟩ : ∃ D,D = Ds.map dRow:=⟨_,rfl⟩
 rw [← hD]
 repeat' (first | (refine uP rfl ?_;(first | ((first | refine uN rfl ?_);(first | (refine uE (uQ rfl rfl rfl rfl) rfl rfl ?_)))))|(refine uD rfl ?_;refine hK _ _ ?_;clear hK K) | refine uR rfl (fun K hK=>?_))
 refine ⟨⟨bl,0,l.flatMap cI,some 3,n * 1⟩::⟨b6,0,[.slice (some ⟨bl,0,none⟩) n n],some 38,1⟩::⟨b2,0,cCt R p a c,some 79,6⟩::H,qR _,XT.seq rfl (XT.ofX ?_)⟩
 rw [← hD]
 have hes2 : es.length = 2 * (bds R R.mats).length:=by rw [hes,edges_len]
 have hbl2 : ∀ pre,pre <+: bds R R.mats → (rnd (edges pre) l).length = n∧bnd (300000 * r + 300000) (rnd (edges pre) l):=by
  intro pre hp
  obtain ⟨q,hq⟩:=hp
  have he : es = edges pre++edges q:=by rw [hes, ← hq];unfold edges;rw [List.flatMap_append]
  have hsub : ∀ e ∈ edges pre,e ∈ es:=fun e h=>by rw [he];exact List.mem_append_left _ h
  refine ⟨by rw [rnd_len];exact hll,(bnd_rnd (edges pre) l _ hbl (by rw [hll];exact fun e h=>hin e (hsub e h)) (fun e h=>hwt e (hsub e h))).mono ?_⟩
  have : (edges pre).length ≤ es.length:=by rw [he,List.length_append];omega
  omega
 have hdin:=bds_in hr.bx hm
 rw [← hn] at hdin
 have hdw:=bds_w hr hm
 repeat' (first | (refine X.brk rfl ?_;repeat (first | refine blockX_hit rfl ?_ | refine blockX_miss (by decide) ?_)) | refine X.skip rfl ?_ | (refine X.ite rfl rfl (fun hc=>?_);(first | (with_reducible refine Xb.case hc (fun h=>?_) (fun h=>?_))) <;> clear hc))
 ·have hrl : r < n:=by omega
  refine ⟨⟨bl,0,l.flatMap cI,some 3,n * 1⟩::⟨b6,0,[.slice (some ⟨bl,0,none⟩) n n],some 38,1⟩::⟨b2,0,cCt R p a c,some 79,6⟩::H,qR _,XT.seq rfl (XT.block rfl (XT.seq rfl (XT.seq rfl (XT.ofX ?_))))⟩
  rw [← hD]
  repeat' (first | (refine uP rfl ?_;(first | ((first | refine uN rfl ?_);(first | (refine uE (uL rfl rfl (uW (te rfl) rfl (qT _ (qT _ (qH _))) rfl)) rfl rfl ?_)|(refine uC (uT rfl (by (repeat (first | exact Args.nil | refine Args.cons rfl ?_));done)) rfl rfl (bounds_spec R p a c _) ?_;rintro _ _ ⟨bo,rfl,rfl⟩)))))|(refine uD rfl ?_;refine hK _ _ ?_;clear hK K) | refine uR rfl (fun K hK=>?_))
  refine ⟨⟨bo,0,cCt R p a c,some 79,6⟩::⟨bl,0,l.flatMap cI,some 3,n * 1⟩::⟨b6,0,[.slice (some ⟨bl,0,none⟩) n n],some 38,1⟩::⟨b2,0,cCt R p a c,some 79,6⟩::H,qR _,XT.block rfl ?_⟩
  refine XT.weak (F' := [(2,.pointer (some ⟨b2,0,none⟩)),(6,.pointer (some ⟨b6,0,none⟩)),(24,.int .i64 n),(25,.int .i64 r),(28,.func (.func 127) #[] #[.pointer (some ⟨bo,0,none⟩)])]) (H' := ⟨bo,0,cCt R p a c,some 79,6⟩::⟨bl,0,l.flatMap cI,some 3,n * 1⟩::⟨b6,0,[.slice (some ⟨bl,0,none⟩) n n],some 38,1⟩::⟨b2,0,cCt R p a c,some 79,6⟩::H) (by repeat (first | exact uU _ | refine uV rfl ?_)) (by repeat (first | exact qR _ | apply qK | apply qC)) ?_
  refine XT.perm (H' := [⟨bl,0,l.flatMap cI,some 3,n * 1⟩,⟨b6,0,[.slice (some ⟨bl,0,none⟩) n n],some 38,1⟩]++(⟨bo,0,cCt R p a c,some 79,6⟩::⟨b2,0,cCt R p a c,some 79,6⟩::H)) (List.perm_middle (l₁:=[_,_])) ?_
  have hCs : CtOk (⟨bo,0,cCt R p a c,some 79,6⟩::⟨b2,0,cCt R p a c,some 79,6⟩::H) R p a:=hC.sub (fun _ h=>qT _ (qT _ h))
  refine XT.rangeD (ps:=[29]) rfl rfl (bounds1_itd R p a c bo 6 _ _ hr hm hCs (by omega) (by omega) (by omega) (qH _)) rfl (fun _=>rfl) (fun pre=>[⟨bl,0,(rnd (edges pre) l).flatMap cI,some 3,n * 1⟩,⟨b6,0,[.slice (some ⟨bl,0,none⟩) n n],some 38,1⟩]) (fun _=>true) (fun _=>[]) .ret rfl ?_ ?_ (fun _ _ _ _ h=>by cases h) (fun _ _ _ h=>by cases h) (.inl rfl)
  ·intro pre d hpre _ Z
   obtain ⟨hl1,hb1⟩:=hbl2 pre ((List.prefix_append _ _).trans hpre)
   have hdm : d ∈ bds R R.mats:=hpre.subset (List.mem_append_right _ List.mem_cons_self)
   obtain ⟨hda,hdb⟩:=hdin d hdm
   have hdd:=hdw d hdm
   obtain ⟨l1,hl1e⟩ : ∃ l1,l1 = rnd (edges pre) l:=⟨_,rfl⟩
   have hsn : rnd (edges (pre++[d])) l = rlx (rlx l1 ⟨d.a,d.b,d.s.hi⟩) ⟨d.b,d.a, -d.s.lo⟩:=by
    unfold edges
    rw [List.flatMap_append,rnd_app]
    rw [hl1e];rfl
   rw [hsn]
   rw [← hl1e] at hl1 hb1 ⊢
   have hva:=hb1 d.a (by omega)
   have hvb:=hb1 d.b (by omega)
   show X _ _ _ _ (⟨bl,0,l1.flatMap cI,some 3,n * 1⟩::⟨b6,0,[.slice (some ⟨bl,0,none⟩) n n],some 38,1⟩::Z) _
   repeat' (first | (refine uP rfl ?_;(first | ((first | refine uN rfl ?_);(first | (refine Xg.st (StF.alloc rfl Tryz.zeroValue159 rfl) rfl rfl ?_;rintro _ _ ⟨bx,rfl,rfl⟩)|(refine Xg.st0 (StF.storeAll (i:=0) rfl rfl rfl (te rfl) rfl rfl rfl rfl) rfl ?_;rintro _ _ ⟨rfl,rfl⟩;dsimp only [List.set])))))|(refine uD rfl ?_;refine hK _ _ ?_;clear hK K) | refine uR rfl (fun K hK=>?_))
   rename Nat=>b7
   refine ⟨rfl,[⟨b7,0,cBd d,some 159,4⟩,⟨bl,0,l1.flatMap cI,some 3,n * 1⟩,⟨b6,0,[.slice (some ⟨bl,0,none⟩) n n],some 38,1⟩],qR _,fun Z' => ?_⟩
   refine X.weak (F' := [(6,.pointer (some ⟨b6,0,none⟩)),(7,.pointer (some ⟨b7,0,none⟩))]) (H' := ⟨b7,0,cBd d,some 159,4⟩::⟨bl,0,l1.flatMap cI,some 3,n * 1⟩::⟨b6,0,[.slice (some ⟨bl,0,none⟩) n n],some 38,1⟩::Z') (by repeat (first | exact uU _ | refine uV rfl ?_)) (by repeat (first | exact qR _ | apply qK | apply qC)) ?_
   refine X.permH (H' := ⟨bl,0,l1.flatMap cI,some 3,n * 1⟩::⟨b7,0,cBd d,some 159,4⟩::⟨b6,0,[.slice (some ⟨bl,0,none⟩) n n],some 38,1⟩::Z') (List.Perm.swap _ _ _) ?_
   refine X.block rfl (uS rfl ?_)
   refine X.regionRd tsMb rdMb [6,7] [(6,.pointer (some ⟨b6,0,none⟩)),(7,.pointer (some ⟨b7,0,none⟩))] (valMb b6 b7 bl n d l1) (rowsMb b6 b7 bl n d l1) (fun _=>(0,0)) (⟨b7,0,cBd d,some 159,4⟩::⟨b6,0,[.slice (some ⟨bl,0,none⟩) n n],some 38,1⟩::Z') rfl mixed (by repeat (first | exact uU _ | refine uV rfl ?_)) rfl (by kernel_rfl) (by kernel_rfl) (locMb b6 b7 bl n d l1) (qR _) ?_ ?_
   ·have hca : (l1.flatMap cI)[0 + d.a * 1]? = some (.int .i64 (gt0 l1 d.a)):=by rw [get_cell,show 0 + d.a * 1 = d.a by omega,gt0_get (by omega)];rfl
    have hcb : (l1.flatMap cI)[0 + d.b * 1]? = some (.int .i64 (gt0 l1 d.b)):=by rw [get_cell,show 0 + d.b * 1 = d.b by omega,gt0_get (by omega)];rfl
    repeat' (first | exact AllF.done rfl | (refine AllF.step rfl ?_ ?_;·(first | exact (Ob.ng rfl (ObK.pure (fun env R hR=>by exact ⟨_,uF rfl rfl (te rfl) rfl (te rfl) (by decide),rfl⟩) rfl (fun _=>rfl))).toR | exact (Ob.ng rfl (ObK.pure (fun env R hR=>by exact ⟨_,uL rfl rfl (uO (te rfl) rfl (hR _ (qH _)) rfl),rfl⟩) rfl (fun _=>rfl))).toR | exact (Ob.ng rfl (ObK.pure (fun env R hR=>by exact ⟨_,uL rfl rfl (uO (te rfl) rfl (hR _ (qT _ (qH _))) rfl),rfl⟩) rfl (fun _=>rfl))).toR | (refine ObR.ng rfl ?_;(first | ((refine fun env S hS hrd=>(StF.ofEv (v := .pointer (some ⟨bl,0 + d.a * 1,none⟩)) ?_).op.mono (fun v H' ⟨hv,hH⟩=>⟨(0,0),fun _=>hv,by rw [hH];exact List.Perm.refl _⟩);exact EvF.indexSlice (i:=(d.a : Int)) (off:=0) (b:=bl) (T:=38) (e:=3) (len:=n) (ti:=⟨.int .i64,1,8⟩) rfl rfl rfl (te rfl) (te rfl) (by omega) (by omega)))|((refine fun env S hS hrd=>(StF.ofEv (v := .pointer (some ⟨bl,0 + d.b * 1,none⟩)) ?_).op.mono (fun v H' ⟨hv,hH⟩=>⟨(0,0),fun _=>hv,by rw [hH];exact List.Perm.refl _⟩);exact EvF.indexSlice (i:=(d.b : Int)) (off:=0) (b:=bl) (T:=38) (e:=3) (len:=n) (ti:=⟨.int .i64,1,8⟩) rfl rfl rfl (te rfl) (te rfl) (by omega) (by omega)))|(exact fun env S hS hrd=>(StF.ofEv (uL rfl rfl (uO (te rfl) rfl (hrd 20 (qH _) _ (qH _)) hca))).op.mono (fun v H' ⟨hv,hH⟩=>⟨(0,0),fun _=>hv,by rw [hH];exact List.Perm.refl _⟩))|(exact fun env S hS hrd=>(StF.ofEv (uL rfl rfl (uO (te rfl) rfl (hrd 20 (qH _) _ (qH _)) hcb))).op.mono (fun v H' ⟨hv,hH⟩=>⟨(0,0),fun _=>hv,by rw [hH];exact List.Perm.refl _⟩))|(exact fun env S hS hrd=>(StF.ofEv (EvF.add64 rfl rfl rfl (by omega) (by omega))).op.mono (fun v H' ⟨hv,hH⟩=>⟨(0,0),fun _=>hv,by rw [hH];exact List.Perm.refl _⟩))|(exact fun env S hS hrd=>(StF.ofEv (EvF.min64 rfl rfl rfl)).op.mono (fun v H' ⟨hv,hH⟩=>⟨(0,0),fun _=>hv,by rw [hH];exact List.Perm.refl _⟩))|(exact fun env S hS hrd=>(StF.storeOne (i:=0) (cs:=l1.flatMap cI) (j:=0 + d.a * 1) rfl rfl rfl rfl (te rfl) rfl rfl (by rw [lenI];omega)).op.mono (fun v H' ⟨hv,hH⟩=>⟨(0,0),fun h=>absurd rfl h,by rw [hH];exact by show List.Perm (⟨bl,0,(l1.flatMap cI).set (0 + d.a * 1) (.int .i64 (min (gt0 l1 d.a) (gt0 l1 d.b + d.s.hi))),some 3,n * 1⟩::S) _;rw [flat_set,show 0 + d.a * 1 = d.a by omega];exact List.Perm.refl _⟩)))))))
   intro env t2 ha2 hv
   refine ⟨_,ha2,?_⟩
   clear hv ha2
   obtain ⟨l2,hl2e⟩ : ∃ l2,l2 = rlx l1 ⟨d.a,d.b,d.s.hi⟩:=⟨_,rfl⟩
   have hl2 : l2.length = n:=by rw [hl2e,rlx_len];exact hl1
   have hb2 : bnd (300000 * r + 300060) l2:=by rw [hl2e];exact (bnd_rlx hb1 (by dsimp only;omega) (by dsimp only;omega) (by dsimp only;omega)).mono (by omega)
   show X _ _ _ _ (⟨bl,0,(rlx l1 ⟨d.a,d.b,d.s.hi⟩).flatMap cI,some 3,n * 1⟩::⟨b7,0,cBd d,some 159,4⟩::⟨b6,0,[.slice (some ⟨bl,0,none⟩) n n],some 38,1⟩::Z') _
   rw [← hl2e]
   clear env
   have hva:=hb2 d.a (by omega)
   have hvb:=hb2 d.b (by omega)
   refine X.regionRd tsMc rdMc [6,7] [(6,.pointer (some ⟨b6,0,none⟩)),(7,.pointer (some ⟨b7,0,none⟩))] (valMc b6 b7 bl n d l2) (rowsMc b6 b7 bl n d l2) (fun _=>(0,0)) (⟨b7,0,cBd d,some 159,4⟩::⟨b6,0,[.slice (some ⟨bl,0,none⟩) n n],some 38,1⟩::Z') rfl mixed (by repeat (first | exact uU _ | refine uV rfl ?_)) rfl (by kernel_rfl) (by kernel_rfl) (locMc b6 b7 bl n d l2) (qR _) ?_ ?_
   ·have hca : (l2.flatMap cI)[0 + d.a * 1]? = some (.int .i64 (gt0 l2 d.a)):=by rw [get_cell,show 0 + d.a * 1 = d.a by omega,gt0_get (by omega)];rfl
    have hcb : (l2.flatMap cI)[0 + d.b * 1]? = some (.int .i64 (gt0 l2 d.b)):=by rw [get_cell,show 0 + d.b * 1 = d.b by omega,gt0_get (by omega)];rfl
    repeat' (first | exact AllF.done rfl | (refine AllF.step rfl ?_ ?_;·(first | exact (Ob.ng rfl (ObK.pure (fun env R hR=>by exact ⟨_,uF rfl rfl (te rfl) rfl (te rfl) (by decide),rfl⟩) rfl (fun _=>rfl))).toR | exact (Ob.ng rfl (ObK.pure (fun env R hR=>by exact ⟨_,uL rfl rfl (uO (te rfl) rfl (hR _ (qH _)) rfl),rfl⟩) rfl (fun _=>rfl))).toR | exact (Ob.ng rfl (ObK.pure (fun env R hR=>by exact ⟨_,uL rfl rfl (uO (te rfl) rfl (hR _ (qT _ (qH _))) rfl),rfl⟩) rfl (fun _=>rfl))).toR | (refine ObR.ng rfl ?_;(first | ((refine fun env S hS hrd=>(StF.ofEv (v := .pointer (some ⟨bl,0 + d.a * 1,none⟩)) ?_).op.mono (fun v H' ⟨hv,hH⟩=>⟨(0,0),fun _=>hv,by rw [hH];exact List.Perm.refl _⟩);exact EvF.indexSlice (i:=(d.a : Int)) (off:=0) (b:=bl) (T:=38) (e:=3) (len:=n) (ti:=⟨.int .i64,1,8⟩) rfl rfl rfl (te rfl) (te rfl) (by omega) (by omega)))|((refine fun env S hS hrd=>(StF.ofEv (v := .pointer (some ⟨bl,0 + d.b * 1,none⟩)) ?_).op.mono (fun v H' ⟨hv,hH⟩=>⟨(0,0),fun _=>hv,by rw [hH];exact List.Perm.refl _⟩);exact EvF.indexSlice (i:=(d.b : Int)) (off:=0) (b:=bl) (T:=38) (e:=3) (len:=n) (ti:=⟨.int .i64,1,8⟩) rfl rfl rfl (te rfl) (te rfl) (by omega) (by omega)))|(exact fun env S hS hrd=>(StF.ofEv (uL rfl rfl (uO (te rfl) rfl (hrd 20 (qH _) _ (qH _)) hca))).op.mono (fun v H' ⟨hv,hH⟩=>⟨(0,0),fun _=>hv,by rw [hH];exact List.Perm.refl _⟩))|(exact fun env S hS hrd=>(StF.ofEv (uL rfl rfl (uO (te rfl) rfl (hrd 20 (qH _) _ (qH _)) hcb))).op.mono (fun v H' ⟨hv,hH⟩=>⟨(0,0),fun _=>hv,by rw [hH];exact List.Perm.refl _⟩))|(exact fun env S hS hrd=>(StF.ofEv (EvF.sub64 rfl rfl rfl (by omega) (by omega))).op.mono (fun v H' ⟨hv,hH⟩=>⟨(0,0),fun _=>hv,by rw [hH];exact List.Perm.refl _⟩))|(exact fun env S hS hrd=>(StF.ofEv (EvF.min64 rfl rfl rfl)).op.mono (fun v H' ⟨hv,hH⟩=>⟨(0,0),fun _=>hv,by rw [hH];exact List.Perm.refl _⟩))|(exact fun env S hS hrd=>(StF.storeOne (i:=0) (cs:=l2.flatMap cI) (j:=0 + d.b * 1) rfl rfl rfl rfl (te rfl) rfl rfl (by rw [lenI];omega)).op.mono (fun v H' ⟨hv,hH⟩=>⟨(0,0),fun h=>absurd rfl h,by rw [hH];exact by show List.Perm (⟨bl,0,(l2.flatMap cI).set (0 + d.b * 1) (.int .i64 (min (gt0 l2 d.b) (gt0 l2 d.a - d.s.lo))),some 3,n * 1⟩::S) _;rw [flat_set,show 0 + d.b * 1 = d.b by omega];exact List.Perm.refl _⟩)))))))
   intro env t3 ha3 hv
   refine ⟨_,ha3,?_⟩
   clear hv ha3
   exact ⟨[⟨bl,0,(rlx l2 ⟨d.b,d.a, -d.s.lo⟩).flatMap cI,some 3,n * 1⟩,⟨b6,0,[.slice (some ⟨bl,0,none⟩) n n],some 38,1⟩],qK _ (qC _ (qR _)),rfl,by rw [hl2e]⟩
  ·intro D1 _
   obtain ⟨l',hl'e⟩ : ∃ l',l' = rnd es l:=⟨_,rfl⟩
   rw [← hes, ← hl'e]
   obtain ⟨hl',hb'⟩:=hbl2 _ (List.prefix_refl _)
   rw [← hes, ← hl'e] at hl' hb'
   have hmr : mostL es (n - r) l = open Classical in if fitE (gt0 l') es then some l' else mostL es (n - (r + 1)) l' := by
    rw [show n - r = (n - (r + 1)) + 1 by omega,hl'e];rfl
   clear hl'e
   show XT _ _ _ _ (D1::Ds) (⟨bl,0,l'.flatMap cI,some 3,n * 1⟩::⟨b6,0,[.slice (some ⟨bl,0,none⟩) n n],some 38,1⟩::⟨bo,0,cCt R p a c,some 79,6⟩::⟨b2,0,cCt R p a c,some 79,6⟩::H) _
   refine XT.seq rfl (XT.seq rfl (XT.ofX ?_))
   obtain ⟨D2,hD2⟩ : ∃ D2,D2 = (D1::Ds).map dRow:=⟨_,rfl⟩
   rw [← hD2]
   refine X.weak (F' := [(2,.pointer (some ⟨b2,0,none⟩)),(6,.pointer (some ⟨b6,0,none⟩)),(24,.int .i64 n),(25,.int .i64 r)]) (H' := ⟨bl,0,l'.flatMap cI,some 3,n * 1⟩::⟨b6,0,[.slice (some ⟨bl,0,none⟩) n n],some 38,1⟩::⟨b2,0,cCt R p a c,some 79,6⟩::(H++D2)) (by repeat (first | exact uU _ | refine uV rfl ?_)) (by repeat (first | exact qR _ | apply qK | apply qC)) ?_
   clear hCs
   repeat' (first | (refine uP rfl ?_;(first | ((first | refine uN rfl ?_);(first | (refine uE (uL rfl rfl (uW (te rfl) rfl (qT _ (qT _ (qH _))) rfl)) rfl rfl ?_)|(refine uC (uT rfl (by (repeat (first | exact Args.nil | refine Args.cons rfl ?_));done)) rfl rfl (bounds_spec R p a c _) ?_;rintro _ _ ⟨b9,rfl,rfl⟩)))))|(refine uD rfl ?_;refine hK _ _ ?_;clear hK K) | refine uR rfl (fun K hK=>?_))
   refine ⟨⟨b9,0,cCt R p a c,some 79,6⟩::⟨bl,0,l'.flatMap cI,some 3,n * 1⟩::⟨b6,0,[.slice (some ⟨bl,0,none⟩) n n],some 38,1⟩::⟨b2,0,cCt R p a c,some 79,6⟩::H,qR _,XT.block rfl ?_⟩
   refine XT.weak (F' := [(2,.pointer (some ⟨b2,0,none⟩)),(6,.pointer (some ⟨b6,0,none⟩)),(24,.int .i64 n),(25,.int .i64 r),(69,.func (.func 127) #[] #[.pointer (some ⟨b9,0,none⟩)])]) (H' := ⟨b9,0,cCt R p a c,some 79,6⟩::⟨bl,0,l'.flatMap cI,some 3,n * 1⟩::⟨b6,0,[.slice (some ⟨bl,0,none⟩) n n],some 38,1⟩::⟨b2,0,cCt R p a c,some 79,6⟩::H) (by repeat (first | exact uU _ | refine uV rfl ?_)) (by repeat (first | exact qR _ | apply qK | apply qC)) ?_
   refine XT.perm (H' := [⟨bl,0,l'.flatMap cI,some 3,n * 1⟩,⟨b6,0,[.slice (some ⟨bl,0,none⟩) n n],some 38,1⟩]++(⟨b9,0,cCt R p a c,some 79,6⟩::⟨b2,0,cCt R p a c,some 79,6⟩::H)) (List.perm_middle (l₁:=[_,_])) ?_
   have hCs : CtOk (⟨b9,0,cCt R p a c,some 79,6⟩::⟨b2,0,cCt R p a c,some 79,6⟩::H) R p a:=hC.sub (fun _ h=>qT _ (qT _ h))
   refine XT.rangeD (ps:=[70]) rfl rfl (bounds1_itd R p a c b9 6 _ _ hr hm hCs (by omega) (by omega) (by omega) (qH _)) rfl (fun _=>rfl) (fun pre=>[⟨bl,0,l'.flatMap cI,some 3,n * 1⟩,⟨b6,0,[.slice (some ⟨bl,0,none⟩) n n],some 38,1⟩]) (okB l') (fun _=>[⟨bl,0,l'.flatMap cI,some 3,n * 1⟩,⟨b6,0,[.slice (some ⟨bl,0,none⟩) n n],some 38,1⟩]) (.exit 1) rfl ?_ ?_ (fun _ _ h=>by cases h) ?_ (.inr ⟨1,rfl⟩)
   ·intro pre d hpre _ Z
    have hdm : d ∈ bds R R.mats:=hpre.subset (List.mem_append_right _ List.mem_cons_self)
    obtain ⟨hda,hdb⟩:=hdin d hdm
    have hdd:=hdw d hdm
    have hva:=hb' d.a (by omega)
    have hvb:=hb' d.b (by omega)
    rw [okB_snoc]
    show X _ _ _ _ (⟨bl,0,l'.flatMap cI,some 3,n * 1⟩::⟨b6,0,[.slice (some ⟨bl,0,none⟩) n n],some 38,1⟩::Z) _
    repeat' (first | (refine uP rfl ?_;(first | ((first | refine uN rfl ?_);(first | (refine Xg.st (StF.alloc rfl Tryz.zeroValue159 rfl) rfl rfl ?_;rintro _ _ ⟨bx,rfl,rfl⟩)|(refine Xg.st0 (StF.storeAll (i:=0) rfl rfl rfl (te rfl) rfl rfl rfl rfl) rfl ?_;rintro _ _ ⟨rfl,rfl⟩;dsimp only [List.set])))))|(refine uD rfl ?_;refine hK _ _ ?_;clear hK K) | refine uR rfl (fun K hK=>?_))
    rename Nat=>b8
    refine ⟨rfl,[⟨b8,0,cBd d,some 159,4⟩,⟨bl,0,l'.flatMap cI,some 3,n * 1⟩,⟨b6,0,[.slice (some ⟨bl,0,none⟩) n n],some 38,1⟩],qR _,fun Z' => ?_⟩
    refine X.weak (F' := [(6,.pointer (some ⟨b6,0,none⟩)),(8,.pointer (some ⟨b8,0,none⟩))]) (H' := ⟨b8,0,cBd d,some 159,4⟩::⟨bl,0,l'.flatMap cI,some 3,n * 1⟩::⟨b6,0,[.slice (some ⟨bl,0,none⟩) n n],some 38,1⟩::Z') (by repeat (first | exact uU _ | refine uV rfl ?_)) (by repeat (first | exact qR _ | apply qK | apply qC)) ?_
    refine X.block rfl (uS rfl ?_)
    obtain ⟨w,hw⟩ : ∃ w,w = decide (d.s.lo ≤ gt0 l' d.a - gt0 l' d.b∧gt0 l' d.a - gt0 l' d.b ≤ d.s.hi):=⟨_,rfl⟩
    rw [← hw]
    refine X.regionOb tsMd [6,8] [(6,.pointer (some ⟨b6,0,none⟩)),(8,.pointer (some ⟨b8,0,none⟩))] (valMd b6 b8 bl n d l' w) (rowsMd b6 b8 bl n d l' w) (fun _=>(0,0)) (⟨b8,0,cBd d,some 159,4⟩::⟨bl,0,l'.flatMap cI,some 3,n * 1⟩::⟨b6,0,[.slice (some ⟨bl,0,none⟩) n n],some 38,1⟩::Z') rfl mixed (by repeat (first | exact uU _ | refine uV rfl ?_)) rfl (by kernel_rfl) (locMd b6 b8 bl n d l' w) (qR _) ?_ ?_
    ·have hca : (l'.flatMap cI)[0 + d.a * 1]? = some (.int .i64 (gt0 l' d.a)):=by rw [get_cell,show 0 + d.a * 1 = d.a by omega,gt0_get (by omega)];rfl
     have hcb : (l'.flatMap cI)[0 + d.b * 1]? = some (.int .i64 (gt0 l' d.b)):=by rw [get_cell,show 0 + d.b * 1 = d.b by omega,gt0_get (by omega)];rfl
     have hwv : decide (∀ x ∈ [gt0 l' d.a - gt0 l' d.b],d.s.lo ≤ x∧x ≤ d.s.hi)=w:=by rw [hw];simp
     repeat' (first | exact AllF.done rfl | (refine AllF.step rfl ?_ ?_;·(first | fail | ((first | refine Ob.ng rfl ?_);(first | exact ObK.pure (fun env R hR=>by exact ⟨_,uF rfl rfl (te rfl) rfl (te rfl) (by decide),rfl⟩) rfl (fun _=>rfl) | exact ObK.pure (fun env R hR=>by exact ⟨_,EvF.not rfl rfl,rfl⟩) rfl (fun _=>rfl) | exact ObK.pure (fun env R hR=>by exact ⟨_,uL rfl rfl (uO (te rfl) rfl (hR _ (qH _)) rfl),rfl⟩) rfl (fun _=>rfl) | exact ObK.pure (fun env R hR=>by exact ⟨_,uL rfl rfl (uO (te rfl) rfl (hR _ (qT _ (qT _ (qH _)))) rfl),rfl⟩) rfl (fun _=>rfl) | exact ObK.pure (fun env R hR=>by exact ⟨_,uL rfl rfl (LoadV.ownAgg (te rfl) rfl (hR _ (qH _)) rfl rfl),rfl⟩) rfl (fun _=>rfl)|(exact ObK.pure (fun env S hS=>⟨_,uL rfl rfl (uO (te rfl) rfl (hS _ (qT _ (qH _))) hca),rfl⟩) rfl (fun _=>rfl))|(exact ObK.pure (fun env S hS=>⟨_,uL rfl rfl (uO (te rfl) rfl (hS _ (qT _ (qH _))) hcb),rfl⟩) rfl (fun _=>rfl))|((refine ObK.pure (fun env S hS=>⟨.pointer (some ⟨bl,0 + d.a * 1,none⟩),?_,rfl⟩) rfl (fun _=>rfl);exact EvF.indexSlice (i:=(d.a : Int)) (off:=0) (b:=bl) (T:=38) (e:=3) (len:=n) (ti:=⟨.int .i64,1,8⟩) rfl rfl rfl (te rfl) (te rfl) (by omega) (by omega)))|((refine ObK.pure (fun env S hS=>⟨.pointer (some ⟨bl,0 + d.b * 1,none⟩),?_,rfl⟩) rfl (fun _=>rfl);exact EvF.indexSlice (i:=(d.b : Int)) (off:=0) (b:=bl) (T:=38) (e:=3) (len:=n) (ti:=⟨.int .i64,1,8⟩) rfl rfl rfl (te rfl) (te rfl) (by omega) (by omega)))|(exact fun env S hS=>(StF.buildOne rfl el55 rfl rfl rfl (by decide) (by decide)).op.mono (fun v H' ⟨b,hv,hH⟩=>⟨(b,1),fun _=>hv,by rw [hH];exact List.Perm.refl _⟩))|(exact fun env S hS=>OpF.callV (uT rfl (Args.cons rfl (Args.cons rfl Args.nil))) (withinL_spec d.s [gt0 l' d.a - gt0 l' d.b] _ _ _ (SlE.ofRow (l:=[gt0 l' d.a - gt0 l' d.b]) (qH _) (fun _ _=>rfl)) (by simp)) (congrArg Value.bool hwv) rfl)|(exact ObK.pure (fun env S hS=>⟨_,EvF.sub64 rfl rfl rfl (by omega) (by omega),rfl⟩) rfl (fun _=>rfl)))))))
    ·intro env t4 ha4 hv
     refine ⟨_,ha4.cons (hv 15 86 (Nat.le_of_ble_eq_true rfl) rfl),?_⟩
     clear hv ha4
     cases w
     ·repeat' (first | (refine X.brk rfl ?_;repeat (first | refine blockX_hit rfl ?_ | refine blockX_miss (by decide) ?_)) | refine X.skip rfl ?_ | (refine X.ite rfl rfl (fun hc=>?_);(first | (with_reducible refine Xb.caseB hc (fun h=>?_) (fun h=>?_))) <;> clear hc))
      all_goals try (exfalso;contradiction)
      exact ⟨[⟨bl,0,l'.flatMap cI,some 3,n * 1⟩,⟨b6,0,[.slice (some ⟨bl,0,none⟩) n n],some 38,1⟩],qC _ (qR _),rfl,rfl,rfl⟩
     ·repeat' (first | (refine X.brk rfl ?_;repeat (first | refine blockX_hit rfl ?_ | refine blockX_miss (by decide) ?_)) | refine X.skip rfl ?_ | (refine X.ite rfl rfl (fun hc=>?_);(first | (with_reducible refine Xb.caseB hc (fun h=>?_) (fun h=>?_))) <;> clear hc))
      all_goals try (exfalso;contradiction)
      exact ⟨[⟨bl,0,l'.flatMap cI,some 3,n * 1⟩,⟨b6,0,[.slice (some ⟨bl,0,none⟩) n n],some 38,1⟩],qC _ (qR _),rfl,rfl⟩
   ·intro D3 hall
    have hfit : fitE (gt0 l') es:=by rw [hes];exact fitB_edges.2 (okB_all hall)
    rw [if_pos hfit] at hmr
    show XT _ _ _ _ (D3::D1::Ds) (⟨bl,0,l'.flatMap cI,some 3,n * 1⟩::⟨b6,0,[.slice (some ⟨bl,0,none⟩) n n],some 38,1⟩::⟨b9,0,cCt R p a c,some 79,6⟩::⟨b2,0,cCt R p a c,some 79,6⟩::H) _
    refine XT.seq rfl (XT.ofX ?_)
    obtain ⟨D4,hD4⟩ : ∃ D4,D4 = (D3::D1::Ds).map dRow:=⟨_,rfl⟩
    rw [← hD4]
    repeat' (first | (refine uP rfl ?_;(first | ((first | refine uN rfl ?_);(first | (refine uE (uL rfl rfl (uO (te rfl) rfl (qT _ (qH _)) rfl)) rfl rfl ?_)|(refine uE (uA rfl rfl) rfl rfl ?_)))))|(refine uD rfl ?_;refine hK _ _ ?_;clear hK K) | refine uR rfl (fun K hK=>?_))
    refine ⟨_,qR _,XT.ofX ?_⟩
    repeat' (first | refine X.ret rfl ?_)
    refine ⟨_,qR _,?_⟩
    exact retT_two (by simp) Tryz.results83 rfl rfl (H' := ⟨bl,0,l'.flatMap cI,some 3,n * 1⟩::H) (qK _ (qC _ (qC _ (qC _ (qR _))))) (.inr ⟨l',bl,n,hml.trans hmr,rfl,rfl⟩)
   ·intro D3 id pre hid hpre hno
    cases hid
    have hfit : ¬ fitE (gt0 l') es:=fun q=>by rw [hes] at q;exact okB_no hpre hno (fitB_edges.1 q)
    rw [if_neg hfit] at hmr
    show XT _ _ _ _ (D3::D1::Ds) (⟨bl,0,l'.flatMap cI,some 3,n * 1⟩::⟨b6,0,[.slice (some ⟨bl,0,none⟩) n n],some 38,1⟩::⟨b9,0,cCt R p a c,some 79,6⟩::⟨b2,0,cCt R p a c,some 79,6⟩::H) _
    refine XT.ofX ?_
    repeat' (first | (refine uP rfl ?_;(first | ((first | refine uN rfl ?_);(first | (refine uE (uM rfl rfl) rfl rfl ?_)|(refine uE (EvF.add64 rfl rfl rfl (by omega) (by omega)) rfl rfl ?_)))))|(refine uD rfl ?_;refine hK _ _ ?_;clear hK K) | refine uR rfl (fun K hK=>?_))
    refine ⟨_,qR _,?_⟩
    refine ⟨_,[(2,.pointer (some ⟨b2,0,none⟩)),(6,.pointer (some ⟨b6,0,none⟩)),(24,.int .i64 n),(25,.int .i64 (r + 1 : Nat))],⟨bl,0,l'.flatMap cI,some 3,n * 1⟩::⟨b6,0,[.slice (some ⟨bl,0,none⟩) n n],some 38,1⟩::⟨b2,0,cCt R p a c,some 79,6⟩::H,(by repeat (first | exact uU _ | refine uV rfl ?_)),(by repeat (first | exact qR _ | apply qK | apply qC)),⟨r + 1,l',rfl,by omega,hl',hb'.mono (by omega),hml.trans hmr,rfl,rfl⟩,by omega⟩
 ·have hr2 : r = n:=by omega
  subst hr2
  rw [Nat.sub_self] at hml
  refine ⟨⟨bl,0,l.flatMap cI,some 3,r * 1⟩::⟨b6,0,[.slice (some ⟨bl,0,none⟩) r r],some 38,1⟩::⟨b2,0,cCt R p a c,some 79,6⟩::H,qR _,?_⟩
  show XT _ _ _ _ Ds (⟨bl,0,l.flatMap cI,some 3,r * 1⟩::⟨b6,0,[.slice (some ⟨bl,0,none⟩) r r],some 38,1⟩::⟨b2,0,cCt R p a c,some 79,6⟩::H) _
  refine XT.seq rfl (XT.ofX ?_)
  rw [← hD]
  repeat' (first | (refine uP rfl ?_;(first | ((first | refine uN rfl ?_);(first | (refine uE (uA rfl rfl) rfl rfl ?_)))))|(refine uD rfl ?_;refine hK _ _ ?_;clear hK K) | refine uR rfl (fun K hK=>?_))
  refine ⟨⟨bl,0,l.flatMap cI,some 3,r * 1⟩::⟨b6,0,[.slice (some ⟨bl,0,none⟩) r r],some 38,1⟩::⟨b2,0,cCt R p a c,some 79,6⟩::H,qR _,XT.ofX ?_⟩
  repeat' (first | refine X.ret rfl ?_)
  refine ⟨_,qR _,?_⟩
  exact retT_two (by simp) Tryz.results83 rfl rfl (H' := H) (qC _ (qC _ (qC _ (qR _)))) (.inl ⟨hml,rfl,rfl⟩)
end Go.Proofs.YtmfppdpkalelhaaGreat
end
section
set_option linter.unusedVariables false
set_option linter.unusedSimpArgs false
namespace Go.Proofs.YtmfppdpkalelhaaGreat
open Go Go.Fw
set_option maxRecDepth 10000
theorem bxAt_mem {R : Rm} {id : Int} (h : 0 ≤ index R.boxes id) : bxAt R.boxes id ∈ R.boxes:=List.mem_of_getElem? (index_get h)
theorem bxAt_id : ∀ (l : List Bx) (id : Int),0 ≤ index l id → (bxAt l id).id = id:=by
 intro l id h
 exact index_id l id _ h (index_get h)
theorem okMats_mem (R : Rm) : ∀ (l : List Mt) (p : Int),okMats R p l → ∀ x ∈ l,matchOk R x
 | [],_,_,_,h=>absurd h List.not_mem_nil
 | c::l,p,h,x,hx=>by
  rcases List.mem_cons.1 hx with rfl | hx
  ·exact h.2.2.1
  ·exact okMats_mem R l c.number h.2.2.2 x hx
theorem matchOk.there {R : Rm} {x : Mt} (h : matchOk R x) : (∃ b,there R b x.month∧b.id = x.a)∧(∃ b,there R b x.month∧b.id = x.b) ∧ -60 ≤ x.lo∧x.lo ≤ x.hi∧x.hi ≤ 60:=by
 obtain ⟨h1,h2,_,h4,h5,h6,h7,h8,h9,h10⟩:=h
 exact ⟨⟨_,⟨bxAt_mem h1,h6,h5⟩,bxAt_id _ _ h1⟩,⟨_,⟨bxAt_mem h2,h7,h5⟩,bxAt_id _ _ h2⟩,h8,h9,h10⟩
theorem roomOk.mats {R : Rm} (h : roomOk R) : matsThere R R.mats:=fun x hx=>(okMats_mem R R.mats 0 h.2.2.2 x hx).there
theorem hasT_iff {R : Rm} {k : Nat} (hr : okRm R) (hm : matsThere R R.mats) (hk : k < (plcs R).length) : hasT R R.mats ↔ ∃ t,mostR R R.mats k = some t:=by
 constructor
 ·intro h
  cases q : mostR R R.mats k with
  | none=>exact absurd h (most_none hr hm hk q)
  | some t=>exact ⟨t,rfl⟩
 ·rintro ⟨t,ht⟩
  exact ⟨_,(most_some hr hm hk ht).tru hr⟩
noncomputable instance (R : Rm) (M : List Mt) : Decidable (hasT R M):=Classical.propDecidable _
theorem zp_mem (R : Rm) : zp ∈ plcs R:=List.mem_cons_self
theorem mostS_spec (R : Rm) (p : Pl) (a : Option Addr) (c : Nat) (f : Pk) (t : List Int) (H : List Row) (hr : okRm R) (hm : matsThere R R.mats) (hC : CtOk H R p a) (hla : R.ages.length ≤ 1000) (hlm : R.mats.length ≤ 1000) (hpc : (plcs R).length ≤ c) (hf : f ∈ plcs R) (ht : mostR R R.mats (pidx R f)=some t) :
  Fc Tryz.prog 83 [.agg (cCt R p a c).toArray,.agg (cPk f).toArray] H (fun v H' => ∃ b k,v = .tuple #[.slice (some ⟨b,0,none⟩) (plcs R).length k,.bool true]∧H' = ⟨b,0,t.flatMap cI,some 3,k * 1⟩::H):=by
 refine (most_spec R p a c f H hr hm hC hla hlm hpc hf).mono fun v H' h=>?_
 rcases h with ⟨h,_⟩ | ⟨t',b,k,h,h1,h2⟩
 ·rw [ht] at h;cases h
 ·rw [ht] at h;cases h
  exact ⟨b,k,h1,h2⟩
theorem can_spec (R : Rm) (p : Pl) (a : Option Addr) (c : Nat) (H : List Row) (hr : okRm R) (hm : matsThere R R.mats) (hC : CtOk H R p a) (hla : R.ages.length ≤ 1000) (hlm : R.mats.length ≤ 1000) (hpc : (plcs R).length ≤ c) :
  Fc Tryz.prog 73 [.agg (cCt R p a c).toArray] H (fun v H' => v = .bool (decide (hasT R R.mats))∧H' = H):=by
 have hz : pidx R zp < (plcs R).length:=pidx_lt (zp_mem R)
 cases q : mostR R R.mats (pidx R zp) with
 | none =>
  have hT : ¬ hasT R R.mats:=most_none hr hm hz q
  rw [decide_eq_false hT]
  have hms : ∀ H',CtOk H' R p a → Fc Tryz.prog 83 [.agg (cCt R p a c).toArray,.agg (cPk zp).toArray] H' (fun v H'' => v = .tuple #[.slice none 0 0,.bool false]∧H'' = H'):=fun H' hC' => (most_spec R p a c zp H' hr hm hC' hla hlm hpc (zp_mem R)).mono fun v H'' h=>by
   rcases h with ⟨_,h1,h2⟩ | ⟨t',b,k,h,h1,h2⟩
   ·exact ⟨h1,h2⟩
   ·rw [q] at h;cases h
  refine Fc.mk (callable Tryz.call73) Tryz.func73 rfl Tryz.ntmps73 rfl ?_;dsimp only [fr]
  repeat' (first | (refine uP rfl ?_;(first | ((first | refine uN rfl ?_);(first | (refine uE (uL rfl rfl (uW (te rfl) rfl (qH _) rfl)) rfl rfl ?_)|(refine uE (EvF.build (cs:=cPk zp) rfl ArgsP.nil (te rfl) (Places.cons (te rfl) (Places.cons (te rfl) Places.nil)) Tryz.zeroValue86 rfl) rfl rfl ?_)|(refine uC (uT rfl (Args.cons rfl (Args.cons rfl Args.nil))) rfl rfl (hms _ (hC.sub (fun _ h=>by repeat (first | exact h | apply qT)))) ?_;rintro _ H9 ⟨rfl,hH9⟩;subst H9)|(refine uE (uM rfl rfl) rfl rfl ?_)|(refine uE (uA rfl rfl) rfl rfl ?_)|(refine uE (uX rfl rfl rfl) rfl rfl ?_)|(refine Xg.st (StF.boxAgg rfl rfl) rfl rfl ?_;rintro _ _ ⟨bx,rfl,rfl⟩)))))|(refine uD rfl ?_;refine hK _ _ ?_;clear hK K) | refine uS rfl ?_ | refine uR rfl (fun K hK=>?_) | refine X.ret rfl ?_)
  refine ret_one (by simp) Tryz.results73 rfl (H' := H) (by (repeat (first | exact qR _ | apply qC));done) ?_;simp only [and_true,true_and]
 | some t =>
  have hT : hasT R R.mats:=(hasT_iff hr hm hz).2 ⟨t,q⟩
  rw [decide_eq_true hT]
  refine Fc.mk (callable Tryz.call73) Tryz.func73 rfl Tryz.ntmps73 rfl ?_;dsimp only [fr]
  repeat' (first | (refine uP rfl ?_;(first | ((first | refine uN rfl ?_);(first | (refine uE (uL rfl rfl (uW (te rfl) rfl (qH _) rfl)) rfl rfl ?_)|(refine uE (EvF.build (cs:=cPk zp) rfl ArgsP.nil (te rfl) (Places.cons (te rfl) (Places.cons (te rfl) Places.nil)) Tryz.zeroValue86 rfl) rfl rfl ?_)|(refine uC (uT rfl (by (repeat (first | exact Args.nil | refine Args.cons rfl ?_));done)) rfl rfl (mostS_spec R p a c zp t _ hr hm (hC.sub (fun _ h=>by repeat (first | exact h | apply qT))) hla hlm hpc (zp_mem R) q) ?_;rintro _ _ ⟨b,k,rfl,rfl⟩)|(refine uE (uM rfl rfl) rfl rfl ?_)|(refine uE (uA rfl rfl) rfl rfl ?_)|(refine uE (uX rfl rfl rfl) rfl rfl ?_)|(refine Xg.st (StF.boxAgg rfl rfl) rfl rfl ?_;rintro _ _ ⟨bx,rfl,rfl⟩)))))|(refine uD rfl ?_;refine hK _ _ ?_;clear hK K) | refine uS rfl ?_ | refine uR rfl (fun K hK=>?_) | refine X.ret rfl ?_)
  refine ret_one (by simp) Tryz.results73 rfl (H' := H) (by (repeat (first | exact qR _ | apply qC));done) ?_;simp only [and_true,true_and]
def tsDf : List TOp:=[⟨some 23,[],[],[]⟩,⟨some 24,[],[],[]⟩,⟨some 25,[],[],[]⟩,⟨some 26,[2],[2],[]⟩,⟨some 27,[],[],[]⟩,⟨some 28,[4],[4],[]⟩,⟨some 29,[1,2,3,4,5],[1,3,5],[]⟩,⟨some 30,[0,1,2,3,4,5,6],[0,6],[]⟩,⟨some 31,[0,1,2,3,4,5,6,7],[7],[]⟩,⟨some 32,[0,1,2,3,4,5,6,7,8],[8],[]⟩,⟨some 33,[],[],[]⟩,⟨some 34,[],[],[]⟩,⟨some 35,[],[],[]⟩,⟨some 36,[12],[12],[]⟩,⟨some 37,[],[],[]⟩,⟨some 38,[14],[14],[]⟩,⟨some 39,[1,2,3,4,5,6,11,12,13,14,15],[11,13,15],[]⟩,⟨some 40,[1,2,3,4,5,6,10,11,12,13,14,15,16],[10,16],[]⟩,⟨some 41,[1,2,3,4,5,6,10,11,12,13,14,15,16,17],[17],[]⟩,⟨some 42,[0,1,2,3,4,5,6,7,8,9,10,11,12,13,14,15,16,17,18],[9,18],[]⟩,⟨none,[0,1,2,3,4,5,6,7,8,9,10,11,12,13,14,15,16,17,18,19],[19],[21]⟩,⟨none,[],[],[]⟩]
def valDf (b3 b4 b5 b6 bu bd ku kd n ia ib : Nat) (R : Rm) (p : Pl) (a : Option Addr) (c : Nat) (x y : Pk) (u v : Int) (k : Nat) (env : Env) : Value :=
 match k with
 | 0 => .slice (some ⟨bd,0,none⟩) n kd
 | 1 => .agg (cCt R p a c).toArray
 | 2 => .pointer (some ⟨b5,0,none⟩)
 | 3 => .int .i64 y.box
 | 4 => .pointer (some ⟨b5,1,none⟩)
 | 5 => .int .i64 y.month
 | 6 => .int .i64 (ib : Nat)
 | 7 => .pointer (some ⟨bd,0 + ib * 1,none⟩)
 | 8 => .int .i64 v
 | 9 => .int .i64 (-v)
 | 10 => .slice (some ⟨bu,0,none⟩) n ku
 | 11 => .agg (cCt R p a c).toArray
 | 12 => .pointer (some ⟨b4,0,none⟩)
 | 13 => .int .i64 x.box
 | 14 => .pointer (some ⟨b4,1,none⟩)
 | 15 => .int .i64 x.month
 | 16 => .int .i64 (ia : Nat)
 | 17 => .pointer (some ⟨bu,0 + ia * 1,none⟩)
 | 18 => .int .i64 u
 | 19 => .agg (cSp ⟨-v,u⟩).toArray
 | 20=>undef
 | _=>undef
def rowsDf (b3 b4 b5 b6 bu bd ku kd n ia ib : Nat) (R : Rm) (p : Pl) (a : Option Addr) (c : Nat) (x y : Pk) (u v : Int) (k : Nat) (env : Env) : List Row :=
 match k with
 | 20=>[⟨b6,0,cSp ⟨-v,u⟩,some 24,2⟩]
 | 21=>[⟨b6,0,cSp ⟨0,0⟩,some 24,2⟩]
 | _=>[]
theorem locDf (b3 b4 b5 b6 bu bd ku kd n ia ib : Nat) (R : Rm) (p : Pl) (a : Option Addr) (c : Nat) (x y : Pk) (u v : Int) : ∀ k env i q9,i ≠ k → (tAt tsDf k).sup.contains i = false → valDf b3 b4 b5 b6 bu bd ku kd n ia ib R p a c x y u v k (upd env i q9)=valDf b3 b4 b5 b6 bu bd ku kd n ia ib R p a c x y u v k env∧rowsDf b3 b4 b5 b6 bu bd ku kd n ia ib R p a c x y u v k (upd env i q9)=rowsDf b3 b4 b5 b6 bu bd ku kd n ia ib R p a c x y u v k env:=by
 intro k env i q hk hs
 have hu : ∀ j,j ≠ i → upd env i q j = env j:=fun j hj=>by unfold upd;rw [if_neg hj]
 match k,hk,hs with
 | 0,_,_=>exact ⟨rfl,rfl⟩
 | 1,_,_=>exact ⟨rfl,rfl⟩
 | 2,_,_=>exact ⟨rfl,rfl⟩
 | 3,_,_=>exact ⟨rfl,rfl⟩
 | 4,_,_=>exact ⟨rfl,rfl⟩
 | 5,_,_=>exact ⟨rfl,rfl⟩
 | 6,_,_=>exact ⟨rfl,rfl⟩
 | 7,_,_=>exact ⟨rfl,rfl⟩
 | 8,_,_=>exact ⟨rfl,rfl⟩
 | 9,_,_=>exact ⟨rfl,rfl⟩
 | 10,_,_=>exact ⟨rfl,rfl⟩
 | 11,_,_=>exact ⟨rfl,rfl⟩
 | 12,_,_=>exact ⟨rfl,rfl⟩
 | 13,_,_=>exact ⟨rfl,rfl⟩
 | 14,_,_=>exact ⟨rfl,rfl⟩
 | 15,_,_=>exact ⟨rfl,rfl⟩
 | 16,_,_=>exact ⟨rfl,rfl⟩
 | 17,_,_=>exact ⟨rfl,rfl⟩
 | 18,_,_=>exact ⟨rfl,rfl⟩
 | 19,_,_=>exact ⟨rfl,rfl⟩
 | 20,_,_=>exact ⟨rfl,rfl⟩
 | 21,_,_=>exact ⟨rfl,rfl⟩
 | _ + 22,_,_=>exact ⟨rfl,rfl⟩
set_option maxHeartbeats 8000000 in
theorem differ_spec (R : Rm) (p : Pl) (a : Option Addr) (c : Nat) (x y : Pk) (H : List Row) (hr : okRm R) (hm : matsThere R R.mats) (hC : CtOk H R p a) (hla : R.ages.length ≤ 1000) (hlm : R.mats.length ≤ 1000) (hpc : (plcs R).length ≤ c) (hx : x ∈ plcs R) (hy : y ∈ plcs R) (hT : hasT R R.mats) :
  Fc Tryz.prog 44 [.agg (cCt R p a c).toArray,.agg (cPk x).toArray,.agg (cPk y).toArray] H (fun v H' => v = .agg (cSp (rng R R.mats x y)).toArray∧H' = H):=by
 obtain ⟨tx,htx⟩:=(hasT_iff hr hm (pidx_lt hx)).1 hT
 obtain ⟨ty,hty⟩:=(hasT_iff hr hm (pidx_lt hy)).1 hT
 have hpx:=most_some hr hm (pidx_lt hx) htx
 have hpy:=most_some hr hm (pidx_lt hy) hty
 have hrng:=rng_eq (most_rng hr hx hy hpy hpx)
 rw [hrng]
 have hbd : -60 ≤ gt0 tx (pidx R y)∧gt0 tx (pidx R y)≤60:=by
  have h1:=hpx.tru hr
  have h2:=h1.in60 hr hx
  have h3:=h1.in60 hr hy
  have h4:=hpx.at0
  omega
 have hlx:=hpx.len
 have hly:=hpy.len
 have hix:=pidx_lt hx
 have hiy:=pidx_lt hy
 have hpl:=plcs_len hr
 have hzx : atZ R ⟨x.box,x.month⟩ = (pidx R x : Nat):=by unfold atZ;rw [if_pos hx]
 have hzy : atZ R ⟨y.box,y.month⟩ = (pidx R y : Nat):=by unfold atZ;rw [if_pos hy]
 have hatx:=fun H' hH' => at_spec R p a c x.box x.month H' hr hH'
 have haty:=fun H' hH' => at_spec R p a c y.box y.month H' hr hH'
 rw [hzx] at hatx
 rw [hzy] at haty
 refine Fc.mk (callable Tryz.call44) Tryz.func44 rfl Tryz.ntmps44 rfl ?_;dsimp only [fr]
 refine uS rfl ?_;refine uR rfl (fun K hK=>?_);repeat' (first | (refine uP rfl ?_;(first | ((first | refine uN rfl ?_);(first | (refine Xg.st (StF.boxAgg rfl rfl) rfl rfl ?_;rintro _ _ ⟨bx,rfl,rfl⟩)|(refine Xg.st (StF.alloc rfl Tryz.zeroValue24 rfl) rfl rfl ?_;rintro _ _ ⟨bx,rfl,rfl⟩)))))|(refine uD rfl ?_;refine hK _ _ ?_;clear hK K))
 rename_i b3 b4 b5
 generalize bx = b6
 repeat' (first | (refine uP rfl ?_;(first | ((first | refine uN rfl ?_);(first | (refine uE (uL rfl rfl (uW (T:=79) (cs:=cCt R p a c) (te rfl) rfl (by repeat (first | exact qH _ | apply qT)) rfl)) rfl rfl ?_)|(refine uC (uT rfl (Args.cons rfl (Args.cons rfl Args.nil))) rfl rfl (mostS_spec R p a c y ty _ hr hm (hC.sub (fun _ h=>by repeat (first | exact h | apply qT))) hla hlm hpc hy hty) ?_;rintro _ _ ⟨bu,ku,rfl,rfl⟩)|(refine uC (uT rfl (Args.cons rfl (Args.cons rfl Args.nil))) rfl rfl (mostS_spec R p a c x tx _ hr hm (hC.sub (fun _ h=>by repeat (first | exact h | apply qT))) hla hlm hpc hx htx) ?_;rintro _ _ ⟨bd,kd,rfl,rfl⟩)|(refine uE (uM rfl rfl) rfl rfl ?_)|(refine uE (uA rfl rfl) rfl rfl ?_)|(refine uE (uL rfl rfl (uW (te rfl) rfl (qT _ (qH _)) rfl)) rfl rfl ?_)|(refine uE (uL rfl rfl (uW (te rfl) rfl (qT _ (qT _ (qT _ (qH _)))) rfl)) rfl rfl ?_)|(refine uE (uX rfl rfl rfl) rfl rfl ?_)))))|(refine uD rfl ?_;refine hK _ _ ?_;clear hK K) | refine uS rfl ?_ | refine uR rfl (fun K hK=>?_))
 refine X.permH (H' := ⟨b6,0,cSp ⟨0,0⟩,some 24,2⟩::⟨bd,0,tx.flatMap cI,some 3,kd * 1⟩::⟨bu,0,ty.flatMap cI,some 3,ku * 1⟩::⟨b5,0,cPk y,some 86,2⟩::⟨b4,0,cPk x,some 86,2⟩::⟨b3,0,cCt R p a c,some 79,6⟩::H) (List.perm_middle (l₁:=[_,_])).symm ?_
 refine X.regionOb tsDf [3,4,5,6,7,9] [(3,.pointer (some ⟨b3,0,none⟩)),(4,.pointer (some ⟨b4,0,none⟩)),(5,.pointer (some ⟨b5,0,none⟩)),(6,.pointer (some ⟨b6,0,none⟩)),(7,.slice (some ⟨bu,0,none⟩) (plcs R).length ku),(9,.slice (some ⟨bd,0,none⟩) (plcs R).length kd)] (valDf b3 b4 b5 b6 bu bd ku kd (plcs R).length (pidx R x) (pidx R y) R p a c x y (gt0 ty (pidx R x)) (gt0 tx (pidx R y))) (rowsDf b3 b4 b5 b6 bu bd ku kd (plcs R).length (pidx R x) (pidx R y) R p a c x y (gt0 ty (pidx R x)) (gt0 tx (pidx R y))) (fun _=>(0,0)) (⟨bd,0,tx.flatMap cI,some 3,kd * 1⟩::⟨bu,0,ty.flatMap cI,some 3,ku * 1⟩::⟨b5,0,cPk y,some 86,2⟩::⟨b4,0,cPk x,some 86,2⟩::⟨b3,0,cCt R p a c,some 79,6⟩::H) rfl mixed (by repeat (first | exact uU _ | refine uV rfl ?_)) rfl (by kernel_rfl) (locDf b3 b4 b5 b6 bu bd ku kd (plcs R).length (pidx R x) (pidx R y) R p a c x y (gt0 ty (pidx R x)) (gt0 tx (pidx R y))) (qR _) ?_ ?_
 ·have hCs : ∀ S : List Row,(∀ r ∈ ⟨bd,0,tx.flatMap cI,some 3,kd * 1⟩::⟨bu,0,ty.flatMap cI,some 3,ku * 1⟩::⟨b5,0,cPk y,some 86,2⟩::⟨b4,0,cPk x,some 86,2⟩::⟨b3,0,cCt R p a c,some 79,6⟩::H,r ∈ S) → CtOk S R p a:=fun S hS=>hC.sub (fun r h=>hS r (List.mem_append_right [_,_,_,_,_] h))
  have hcu : (ty.flatMap cI)[0 + pidx R x * 1]? = some (.int .i64 (gt0 ty (pidx R x))):=by rw [get_cell,show 0 + pidx R x * 1 = pidx R x by omega,gt0_get (by omega)];rfl
  have hcd : (tx.flatMap cI)[0 + pidx R y * 1]? = some (.int .i64 (gt0 tx (pidx R y))):=by rw [get_cell,show 0 + pidx R y * 1 = pidx R y by omega,gt0_get (by omega)];rfl
  repeat' (first | exact AllF.done rfl | (refine AllF.step rfl ?_ ?_;·(first | fail | ((first | refine Ob.ng rfl ?_);(first | exact ObK.pure (fun env R hR=>by exact ⟨_,uM rfl rfl,rfl⟩) rfl (fun _=>rfl) | exact ObK.pure (fun env R hR=>by exact ⟨_,uF rfl rfl (te rfl) rfl (te rfl) (by decide),rfl⟩) rfl (fun _=>rfl) | exact ObK.pure (fun env R hR=>by exact ⟨_,uL rfl rfl (uO (te rfl) rfl (hR _ (qT _ (qT _ (qH _)))) rfl),rfl⟩) rfl (fun _=>rfl) | exact ObK.pure (fun env R hR=>by exact ⟨_,uL rfl rfl (uO (te rfl) rfl (hR _ (qT _ (qT _ (qT _ (qH _))))) rfl),rfl⟩) rfl (fun _=>rfl)|(exact ObK.pure (fun env S hS=>⟨_,uL rfl rfl (uW (te rfl) rfl (hS _ (qT _ (qT _ (qT _ (qT _ (qH _)))))) rfl),rfl⟩) rfl (fun _=>rfl))|(exact fun env S hS=>OpF.callV (Z:=[]) (uT rfl (Args.cons rfl (Args.cons rfl (Args.cons rfl Args.nil)))) (hatx _ (hCs _ hS)) rfl rfl)|(exact fun env S hS=>OpF.callV (Z:=[]) (uT rfl (Args.cons rfl (Args.cons rfl (Args.cons rfl Args.nil)))) (haty _ (hCs _ hS)) rfl rfl)|(exact ObK.pure (fun env S hS=>⟨_,uL rfl rfl (uO (te rfl) rfl (hS _ (qH _)) hcd),rfl⟩) rfl (fun _=>rfl))|(exact ObK.pure (fun env S hS=>⟨_,uL rfl rfl (uO (te rfl) rfl (hS _ (qT _ (qH _))) hcu),rfl⟩) rfl (fun _=>rfl))|((refine ObK.pure (fun env S hS=>⟨.pointer (some ⟨bd,0 + pidx R y * 1,none⟩),?_,rfl⟩) rfl (fun _=>rfl);exact EvF.indexSlice (i:=(pidx R y : Int)) (off:=0) (b:=bd) (T:=38) (e:=3) (len:=(plcs R).length) (ti:=⟨.int .i64,1,8⟩) rfl rfl rfl (te rfl) (te rfl) (by omega) (by omega)))|((refine ObK.pure (fun env S hS=>⟨.pointer (some ⟨bu,0 + pidx R x * 1,none⟩),?_,rfl⟩) rfl (fun _=>rfl);exact EvF.indexSlice (i:=(pidx R x : Int)) (off:=0) (b:=bu) (T:=38) (e:=3) (len:=(plcs R).length) (ti:=⟨.int .i64,1,8⟩) rfl rfl rfl (te rfl) (te rfl) (by omega) (by omega)))|(exact ObK.pure (fun env S hS=>⟨_,EvF.neg64 rfl rfl (by omega) (by omega),rfl⟩) rfl (fun _=>rfl))|(exact ObK.pure (fun env S hS=>⟨_,EvF.build (cs:=cSp ⟨-(gt0 tx (pidx R y)),gt0 ty (pidx R x)⟩) rfl (ArgsP.cons rfl (ArgsP.cons rfl ArgsP.nil)) (te rfl) (Places.cons (te rfl) (Places.cons (te rfl) Places.nil)) Tryz.zeroValue24 rfl,rfl⟩) rfl (fun _=>rfl))|(exact fun env S hS=>(StF.storeAll (i:=0) (cs:=cSp ⟨0,0⟩) (vs:=cSp ⟨-(gt0 tx (pidx R y)),gt0 ty (pidx R x)⟩) rfl rfl rfl (te rfl) rfl rfl rfl rfl).op.mono (fun v H' ⟨hv,hH⟩=>⟨(0,0),fun h=>absurd rfl h,by rw [hH];exact List.Perm.refl _⟩)))))))
 intro env t ha2 hv
 refine ⟨_,ha2,?_⟩
 clear hv ha2
 show X _ _ _ _ (⟨b6,0,cSp ⟨-(gt0 tx (pidx R y)),gt0 ty (pidx R x)⟩,some 24,2⟩::⟨bd,0,tx.flatMap cI,some 3,kd * 1⟩::⟨bu,0,ty.flatMap cI,some 3,ku * 1⟩::⟨b5,0,cPk y,some 86,2⟩::⟨b4,0,cPk x,some 86,2⟩::⟨b3,0,cCt R p a c,some 79,6⟩::H) _
 clear env
 repeat' (first | refine X.ret rfl ?_)
 exact ret_one (by simp) Tryz.results44 ⟨_,rfl,uW (te rfl) rfl (qH _) rfl⟩ (H' := H) (by (repeat (first | exact qR _ | apply qC));done) ⟨rfl,rfl⟩
theorem yellow_spec (R : Rm) (p : Pl) (a : Option Addr) (c : Nat) (x : Pk) (H : List Row) (hr : okRm R) (hm : matsThere R R.mats) (hC : CtOk H R p a) (hla : R.ages.length ≤ 1000) (hlm : R.mats.length ≤ 1000) (hpc : (plcs R).length ≤ c) (hx : x ∈ plcs R) (hT : hasT R R.mats) :
  Fc Tryz.prog 43 [.agg (cCt R p a c).toArray,.agg (cPk x).toArray] H (fun v H' => v = .agg (cSp (rng R R.mats x zp)).toArray∧H' = H):=by
 refine Fc.mk (callable Tryz.call43) Tryz.func43 rfl Tryz.ntmps43 rfl ?_;dsimp only [fr]
 repeat' (first | (refine uP rfl ?_;(first | ((first | refine uN rfl ?_);(first | (refine uE (uL rfl rfl (uW (T:=79) (cs:=cCt R p a c) (te rfl) rfl (by repeat (first | exact qH _ | apply qT)) rfl)) rfl rfl ?_)|(refine uE (EvF.build (cs:=cPk zp) rfl ArgsP.nil (te rfl) (Places.cons (te rfl) (Places.cons (te rfl) Places.nil)) Tryz.zeroValue86 rfl) rfl rfl ?_)|(refine uC (uT rfl (Args.cons rfl (Args.cons rfl (Args.cons rfl Args.nil)))) rfl rfl (differ_spec R p a c x zp _ hr hm (hC.sub (fun _ h=>by repeat (first | exact h | apply qT))) hla hlm hpc hx (zp_mem R) hT) ?_;rintro _ H9 ⟨rfl,hH9⟩;subst H9)|(refine uE (uL rfl rfl (uW (te rfl) rfl (qT _ (qH _)) rfl)) rfl rfl ?_)|(refine Xg.st (StF.boxAgg rfl rfl) rfl rfl ?_;rintro _ _ ⟨bx,rfl,rfl⟩)|(refine Xg.st (StF.alloc rfl Tryz.zeroValue24 rfl) rfl rfl ?_;rintro _ _ ⟨bx,rfl,rfl⟩)|(refine Xg.st0 (StF.storeAll (i:=0) rfl rfl rfl (te rfl) rfl rfl rfl rfl) rfl ?_;rintro _ _ ⟨rfl,rfl⟩;dsimp only [List.set])))))|(refine uD rfl ?_;refine hK _ _ ?_;clear hK K) | refine uS rfl ?_ | refine uR rfl (fun K hK=>?_) | refine X.ret rfl ?_)
 exact ret_one (by simp) Tryz.results43 ⟨_,rfl,uW (te rfl) rfl (qH _) rfl⟩ (H' := H) (by (repeat (first | exact qR _ | apply qC));done) ⟨rfl,rfl⟩
end Go.Proofs.YtmfppdpkalelhaaGreat
end
section
set_option linter.unusedVariables false
set_option linter.unusedSimpArgs false
namespace Go.Proofs.YtmfppdpkalelhaaGreat
open Go Go.Fw
set_option maxRecDepth 10000
/-- a question: the function that is asked, and the error -/
structure Qn where
 f : Nat
 e : Int
def cQn (q : Qn) : List Value:=[.func (.func q.f) #[] #[],.int .i64 q.e]
def qs4 : List Qn:=[⟨112,10⟩,⟨107,6⟩,⟨108,11⟩,⟨113,8⟩]
def cQ4 : List Value:=qs4.flatMap cQn
theorem questions_spec (H : List Row) : Fc Tryz.prog 81 [] H (fun v H' => v = .agg cQ4.toArray∧H' = H):=by
 refine Fc.mk (callable Tryz.call81) Tryz.func81 rfl Tryz.ntmps81 rfl ?_;dsimp only [fr]
 repeat' (first | (refine uP rfl ?_;(first | ((first | refine uN rfl ?_);(first | (refine uE (EvF.build (cs:=cQn ⟨112,10⟩) rfl (ArgsP.cons rfl (ArgsP.cons rfl ArgsP.nil)) (te rfl) (Places.cons (te rfl) (Places.cons (te rfl) Places.nil)) Tryz.zeroValue122 rfl) rfl rfl ?_)|(refine uE (EvF.build (cs:=cQn ⟨107,6⟩) rfl (ArgsP.cons rfl (ArgsP.cons rfl ArgsP.nil)) (te rfl) (Places.cons (te rfl) (Places.cons (te rfl) Places.nil)) Tryz.zeroValue122 rfl) rfl rfl ?_)|(refine uE (EvF.build (cs:=cQn ⟨108,11⟩) rfl (ArgsP.cons rfl (ArgsP.cons rfl ArgsP.nil)) (te rfl) (Places.cons (te rfl) (Places.cons (te rfl) Places.nil)) Tryz.zeroValue122 rfl) rfl rfl ?_)|(refine uE (EvF.build (cs:=cQn ⟨113,8⟩) rfl (ArgsP.cons rfl (ArgsP.cons rfl ArgsP.nil)) (te rfl) (Places.cons (te rfl) (Places.cons (te rfl) Places.nil)) Tryz.zeroValue122 rfl) rfl rfl ?_)|(refine uE (EvF.buildArr (cs:=cQ4) rfl (ArgsP.cons rfl (ArgsP.cons rfl (ArgsP.cons rfl (ArgsP.cons rfl ArgsP.nil)))) (te rfl) (te rfl) Tryz.zeroValue123 rfl) rfl rfl ?_)|(refine Xg.st (StF.alloc rfl Tryz.zeroValue123 rfl) rfl rfl ?_;rintro _ _ ⟨bx,rfl,rfl⟩)|(refine Xg.st0 (StF.storeAll (i:=0) rfl rfl rfl (te rfl) rfl rfl rfl rfl) rfl ?_;rintro _ _ ⟨rfl,rfl⟩;dsimp only [List.set])))))|(refine uD rfl ?_;refine hK _ _ ?_;clear hK K) | refine uS rfl ?_ | refine uR rfl (fun K hK=>?_) | refine X.ret rfl ?_)
 exact ret_one (by simp) Tryz.results81 ⟨_,rfl,uW (te rfl) rfl (qH _) rfl⟩ (H' := H) (by (repeat (first | exact qR _ | apply qC));done) ⟨rfl,rfl⟩
/-- what a call is about: boxes and months -/
structure Bt where
 l : List Int
 a : Option Addr
 c : Nat
 t : List Int
 a' : Option Addr
 c' : Nat
def cBt (x : Bt) : List Value:=cAb x.a x.l.length x.c x.a' x.t.length x.c'
structure BtOk (H : List Row) (x : Bt) : Prop where
 l : SlE H x.a cI 1 x.l
 t : SlE H x.a' cI 1 x.t
 hl : x.l.length ≤ 1000
 ht : x.t.length ≤ 1000
theorem BtOk.sub {H H' : List Row} {x : Bt} (h : BtOk H x) (hs : ∀ r ∈ H,r ∈ H') : BtOk H' x:=⟨h.l.sub hs,h.t.sub hs,h.hl,h.ht⟩
theorem isValid_spec (R : Rm) (p : Pl) (x : Bt) (H : List Row) (hR : RmOk H R p) : Fc Tryz.prog 112 ([.agg (cRm R p).toArray,.agg (cBt x).toArray]++[]) H (fun v H' => v = .bool (decide (roomOk R))∧H' = H):=by
 show Fc Tryz.prog 112 [.agg (cRm R p).toArray,.agg (cBt x).toArray] H _
 obtain ⟨l,a,c,t,a',c'⟩:=x
 have hR2 : ∀ r1 r2,RmOk (r1::r2::H) R p:=fun r1 r2=>hR.sub (fun _ h=>qT _ (qT _ h))
 refine Fc.mk (callable Tryz.call112) Tryz.func112 rfl Tryz.ntmps112 rfl ?_;dsimp only [fr]
 repeat' (first | (refine uP rfl ?_;(first | ((first | refine uN rfl ?_);(first | (refine uC (uT rfl (Args.cons rfl Args.nil)) rfl rfl (check_spec R p _ (hR2 _ _)) ?_;rintro _ H9 ⟨⟨hr,rfl⟩ | ⟨hr,rfl⟩,hH9⟩ <;> subst H9)|(refine uE (uA rfl rfl) rfl rfl ?_)|(refine uE (uQ rfl rfl rfl rfl) rfl rfl ?_)|(refine uE (uL rfl rfl (uW (te rfl) rfl (qT _ (qH _)) rfl)) rfl rfl ?_)|(refine Xg.st (StF.boxAgg rfl rfl) rfl rfl ?_;rintro _ _ ⟨bx,rfl,rfl⟩)))))|(refine uD rfl ?_;refine hK _ _ ?_;clear hK K) | refine uS rfl ?_ | refine uR rfl (fun K hK=>?_) | refine X.ret rfl ?_)
 ·refine ret_one (by simp) Tryz.results112 rfl (H' := H) (by (repeat (first | exact qR _ | apply qC));done) ?_;simp only [and_true,true_and]
  rw [decide_eq_true hr];rfl
 ·refine ret_one (by simp) Tryz.results112 rfl (H' := H) (by (repeat (first | exact qR _ | apply qC));done) ?_;simp only [and_true,true_and]
  rw [decide_eq_false hr];rfl
theorem hasTruth_spec (R : Rm) (p : Pl) (x : Bt) (H : List Row) (hok : roomOk R) (hR : RmOk H R p) : Fc Tryz.prog 113 ([.agg (cRm R p).toArray,.agg (cBt x).toArray]++[]) H (fun v H' => v = .bool (decide (hasT R R.mats))∧H' = H):=by
 show Fc Tryz.prog 113 [.agg (cRm R p).toArray,.agg (cBt x).toArray] H _
 have hR2 : ∀ r1 r2,RmOk (r1::r2::H) R p:=fun r1 r2=>hR.sub (fun _ h=>qT _ (qT _ h))
 have hlen:=hok.ok.len
 have hm12:=hok.ok.m12
 have hm8:=hok.1.2.2.2.2.2.2
 obtain ⟨l,a,c,t,a',c'⟩:=x
 refine Fc.mk (callable Tryz.call113) Tryz.func113 rfl Tryz.ntmps113 rfl ?_;dsimp only [fr]
 repeat' (first | (refine uP rfl ?_;(first | ((first | refine uN rfl ?_);(first | (refine uC (uT rfl (by (repeat (first | exact Args.nil | refine Args.cons rfl ?_));done)) rfl rfl (draw_spec R p _ hok.ok (hR2 _ _)) ?_;rintro _ _ ⟨b,k,hbk,rfl,rfl⟩)|(refine uC (uT rfl (Args.cons rfl Args.nil)) rfl rfl (can_spec R p (some ⟨b,0,none⟩) k _ hok.ok hok.mats ⟨(hR2 _ _).sub (fun _ h=>qT _ h),SlE.ofRow (qH _) (fun _ _=>rfl)⟩ (by omega) (by omega) hbk) ?_;rintro _ H9 ⟨rfl,hH9⟩;subst H9)|(refine uE (uA rfl rfl) rfl rfl ?_)|(refine uE (uL rfl rfl (uW (te rfl) rfl (qT _ (qH _)) rfl)) rfl rfl ?_)|(refine Xg.st (StF.boxAgg rfl rfl) rfl rfl ?_;rintro _ _ ⟨bx,rfl,rfl⟩)))))|(refine uD rfl ?_;refine hK _ _ ?_;clear hK K) | refine uS rfl ?_ | refine uR rfl (fun K hK=>?_) | refine X.ret rfl ?_)
 refine ret_one (by simp) Tryz.results113 rfl (H' := H) (by (repeat (first | exact qR _ | apply qC));done) ?_;simp only [and_true,true_and]
set_option maxHeartbeats 4000000 in
theorem lasked_spec (R : Rm) (p : Pl) (x : Bt) (qs : List Qn) (a : Option Addr) (c : Nat) (ok : Nat → Bool) (H : List Row) (hq : SlE H a cQn 2 qs) (hb : qs.length ≤ 1000)
  (hf : ∀ k y,qs[k]? = some y → (∀ j,j < k → ok j = true) → ∀ Z : List Row,Fc Tryz.prog y.f ([.agg (cRm R p).toArray,.agg (cBt x).toArray]++[]) (Z++H) (fun v H' => v = .bool (ok k)∧H' = Z++H)) :
  Fc Tryz.prog 82 [.agg (cRm R p).toArray,.agg (cBt x).toArray,.slice a qs.length c] H (fun v H' => ((v = .int .i64 0 ∧ ∀ j,j < qs.length → ok j = true) ∨ ∃ k y,qs[k]? = some y∧ok k = false∧(∀ j,j < k → ok j = true)∧v = .int .i64 y.e)∧H' = H):=by
 refine Fc.mk (callable Tryz.call82) Tryz.func82 rfl Tryz.ntmps82 rfl ?_;dsimp only [fr]
 repeat' (first | (refine uP rfl ?_;(first | ((first | refine uN rfl ?_);(first | (refine uE (uM rfl rfl) rfl rfl ?_)|(refine uE (uA rfl rfl) rfl rfl ?_)|(refine uE (uQ rfl rfl rfl rfl) rfl rfl ?_)|(refine uE (EvF.lenSlice rfl rfl (te rfl)) rfl rfl ?_)|(refine Xg.st (StF.boxAgg rfl rfl) rfl rfl ?_;rintro _ _ ⟨bx,rfl,rfl⟩)))))|(refine uD rfl ?_;refine hK _ _ ?_;clear hK K) | refine uS rfl ?_ | refine uR rfl (fun K hK=>?_) | refine X.block rfl ?_ | (refine X.brk rfl ?_;repeat (first | refine blockX_hit rfl ?_ | refine blockX_miss (by decide) ?_)) | refine X.skip rfl ?_ | refine X.ret rfl ?_ | (refine X.ite rfl rfl (fun hc=>?_);(first | (with_reducible refine Xb.case hc (fun h=>?_) (fun h=>?_))) <;> clear hc))
 rename_i b1;rename Nat=>b2
 refine X.lp rfl (fun m F' H' => ∃ k : Nat,m = qs.length - k∧k ≤ qs.length∧(∀ j,j < k → ok j = true)∧⟨b2,0,cBt x,some 83,2⟩::⟨b1,0,cRm R p,some 32,5⟩::H = H' ∧
   F' = [(3,.pointer (some ⟨b1,0,none⟩)),(4,.pointer (some ⟨b2,0,none⟩)),(9,.slice a qs.length c),(10,.int .i64 qs.length),(11,.int .i64 k)])
  qs.length [(3,.pointer (some ⟨b1,0,none⟩)),(4,.pointer (some ⟨b2,0,none⟩)),(9,.slice a qs.length c),(10,.int .i64 qs.length),(11,.int .i64 (0 : Nat))] _ (by repeat (first | exact uU _ | refine uV rfl ?_)) (by repeat (first | exact qR _ | apply qK | apply qC)) ⟨0,by omega,by omega,(fun j hj=>absurd hj (by omega)),rfl,rfl⟩ ?_
 rintro _ _ H2 ⟨k,rfl,hk,hn,hH,rfl⟩
 subst hH
 repeat' (first | (refine uP rfl ?_;(first | ((first | refine uN rfl ?_);(first | (refine uE (uM rfl rfl) rfl rfl ?_)|(refine uE (uA rfl rfl) rfl rfl ?_)|(refine uE (uQ rfl rfl rfl rfl) rfl rfl ?_)|(refine uE (EvF.lenSlice rfl rfl (te rfl)) rfl rfl ?_)|(refine Xg.st (StF.boxAgg rfl rfl) rfl rfl ?_;rintro _ _ ⟨bx,rfl,rfl⟩)))))|(refine uD rfl ?_;refine hK _ _ ?_;clear hK K) | refine uS rfl ?_ | refine uR rfl (fun K hK=>?_) | refine X.block rfl ?_ | (refine X.brk rfl ?_;repeat (first | refine blockX_hit rfl ?_ | refine blockX_miss (by decide) ?_)) | refine X.skip rfl ?_ | refine X.ret rfl ?_ | (refine X.ite rfl rfl (fun hc=>?_);(first | (with_reducible refine Xb.case hc (fun h=>?_) (fun h=>?_))) <;> clear hc))
 ·obtain ⟨b,off,e,rfl,he⟩:=hq.elem (i:=k) (by omega)
  have hq2 : ∀ r1 r2,SlE (r1::r2::H) (some ⟨b,off,none⟩) cQn 2 qs:=fun r1 r2=>hq.sub (fun _ h=>qT _ (qT _ h))
  obtain ⟨f,er⟩:=e
  repeat' (first | (refine uP rfl ?_;(first | ((first | refine uN rfl ?_);(first | (refine uE (uL rfl rfl (LoadV.elA0 (hq2 _ _) he (te rfl) rfl (fun _ hm=>hm) rfl)) rfl rfl ?_)|(refine Xg.st (StF.alloc rfl Tryz.zeroValue122 rfl) rfl rfl ?_;rintro _ _ ⟨bx,rfl,rfl⟩)|(refine uC (EnF.dyn0 rfl rfl (by (repeat (first | exact Args.nil | refine Args.cons rfl ?_));done)) rfl rfl (hf k ⟨f,er⟩ he hn [_,_,_]) ?_;rintro _ H9 ⟨rfl,hH9⟩;subst H9)|(refine uE (uM rfl rfl) rfl rfl ?_)|(refine uE (uA rfl rfl) rfl rfl ?_)|(refine uE (EvF.add64 rfl rfl rfl (by omega) (by omega)) rfl rfl ?_)|(refine uE (EvF.not rfl rfl) rfl rfl ?_)|(refine uE (uF rfl rfl (te rfl) rfl (te rfl) (by decide)) rfl rfl ?_)|(refine uE (EvF.indexSlice rfl rfl rfl (te rfl) (te rfl) (by omega) (by omega)) rfl rfl ?_)|(refine uE (uL rfl rfl (uO (te rfl) rfl (qH _) rfl)) rfl rfl ?_)|(refine uE (uL rfl rfl (uW (te rfl) rfl (qT _ (qH _)) rfl)) rfl rfl ?_)|(refine uE (uL rfl rfl (uW (te rfl) rfl (qT _ (qT _ (qH _))) rfl)) rfl rfl ?_)|(refine Xg.st0 (StF.storeAll (i:=0) rfl rfl rfl (te rfl) rfl rfl rfl rfl) rfl ?_;rintro _ _ ⟨rfl,rfl⟩;dsimp only [List.set])))))|(refine uD rfl ?_;refine hK _ _ ?_;clear hK K) | refine uS rfl ?_ | refine uR rfl (fun K hK=>?_) | refine X.skip rfl ?_ | refine X.ret rfl ?_ | (refine X.ite rfl rfl (fun hc=>?_);(first | (with_reducible refine Xb.caseB hc (fun h=>?_) (fun h=>?_))) <;> clear hc))
  ·refine ret_one (by simp) Tryz.results82 rfl (H' := H) (by simp only [List.cons_append,List.nil_append];exact (by (repeat (first | exact qR _ | apply qC));done)) ⟨.inr ⟨k,_,he,?_,hn,rfl⟩,rfl⟩
   simpa using (by assumption : (!ok k)=true)
  ·refine ⟨_,_,_,(by repeat (first | exact uU _ | refine uV rfl ?_)),(by simp only [List.cons_append,List.nil_append];exact (by repeat (first | exact qR _ | apply qK | apply qC))),⟨k + 1,rfl,by omega,(fun j hj=>?_),rfl,rfl⟩,by omega⟩
   rcases Nat.lt_or_ge j k with h1 | h1
   ·exact hn j h1
   ·obtain rfl : j = k:=by omega
    simpa using (by assumption : (!ok j)=false)
 ·refine ret_one (by simp) Tryz.results82 rfl (H' := H) (by (repeat (first | exact qR _ | apply qC));done) ⟨.inl ⟨rfl,fun j hj=>hn j (by omega)⟩,rfl⟩
open Classical in
noncomputable def openE (R : Rm) (l t : List Int) : Int:=if roomOk R then (if allThere R l then (if inTime R l t then (if hasT R R.mats then 0 else 8) else 11) else 6) else 10
open Classical in
noncomputable def okQ (R : Rm) (l t : List Int) : Nat → Bool
 | 0=>decide (roomOk R)
 | 1=>decide (allThere R l)
 | 2=>decide (inTime R l t)
 | 3=>decide (hasT R R.mats)
 | _=>true
set_option maxHeartbeats 4000000 in
theorem asked4_spec (R : Rm) (p : Pl) (x : Bt) (b cap : Nat) (ow : Option Kd) (H : List Row) (hR : RmOk H R p) (hx : BtOk H x) (h2 : R.boxes.length ≤ 1000000) (hm : ⟨b,0,cQ4,ow,cap⟩ ∈ H) :
  Fc Tryz.prog 82 [.agg (cRm R p).toArray,.agg (cBt x).toArray,.slice (some ⟨b,0,none⟩) 4 4] H (fun v H' => v = .int .i64 (openE R x.l x.t)∧H' = H):=by
 have hll:=hx.hl
 have htl:=hx.ht
 refine (lasked_spec R p x qs4 (some ⟨b,0,none⟩) 4 (okQ R x.l x.t) H (SlE.ofRow (cap:=cap) (ow:=ow) hm (fun _ _=>rfl)) (by decide) ?_).mono ?_
 ·intro k y hy hok Z
  have hR' : RmOk (Z++H) R p:=hR.sub (fun _ h=>List.mem_append_right _ h)
  have hx' : BtOk (Z++H) x:=hx.sub (fun _ h=>List.mem_append_right _ h)
  rcases (show k = 0∨k = 1∨k = 2∨k = 3 by have:=(List.getElem?_eq_some_iff.1 hy).1;simp [qs4] at this;omega) with rfl | rfl | rfl | rfl
  all_goals (simp [qs4] at hy;subst hy)
  ·exact (isValid_spec R p x _ hR').mono (fun v H' h=>by (have e : okQ R x.l x.t 0 = decide (roomOk R):=decide_eq_decide.2 Iff.rfl);rw [e];exact h)
  ·exact (hasBoxes_spec R p x.l x.a x.c x.a' x.t.length x.c' _ hR' hx'.l (by omega) h2).mono (fun v H' h=>by (have e : okQ R x.l x.t 1 = decide (allThere R x.l):=decide_eq_decide.2 Iff.rfl);rw [e];exact h)
  ·have hok0 : roomOk R:=of_decide_eq_true (hok 0 (by decide))
   exact (areThere_spec R p x.l x.t x.a x.c x.a' x.c' _ hR' ⟨hok0.ok.m1,hok0.ok.m12⟩ hx'.l (by omega) hx'.t (by omega)).mono (fun v H' h=>by (have e : okQ R x.l x.t 2 = decide (inTime R x.l x.t):=decide_eq_decide.2 Iff.rfl);rw [e];exact h)
  ·have hok0 : roomOk R:=of_decide_eq_true (hok 0 (by decide))
   exact (hasTruth_spec R p x _ hok0 hR').mono (fun v H' h=>by (have e : okQ R x.l x.t 3 = decide (hasT R R.mats):=decide_eq_decide.2 Iff.rfl);rw [e];exact h)
 ·rintro v H' ⟨⟨rfl,hok⟩ | ⟨k,y,hy,hno,hok,rfl⟩,rfl⟩
  ·refine ⟨?_,rfl⟩
   have h0:=of_decide_eq_true (hok 0 (by decide));have h1:=of_decide_eq_true (hok 1 (by decide));have h2:=of_decide_eq_true (hok 2 (by decide));have h3:=of_decide_eq_true (hok 3 (by decide))
   unfold openE
   rw [if_pos h0,if_pos h1,if_pos h2,if_pos h3]
  ·refine ⟨?_,rfl⟩
   have hk : ∀ j,j < k → okQ R x.l x.t j = true:=hok
   rcases (show k = 0∨k = 1∨k = 2∨k = 3 by have:=(List.getElem?_eq_some_iff.1 hy).1;simp [qs4] at this;omega) with rfl | rfl | rfl | rfl
   all_goals (simp [qs4] at hy;subst hy;unfold openE)
   ·rw [if_neg (of_decide_eq_false hno)]
   ·rw [if_pos (of_decide_eq_true (hk 0 (by decide))),if_neg (of_decide_eq_false hno)]
   ·rw [if_pos (of_decide_eq_true (hk 0 (by decide))),if_pos (of_decide_eq_true (hk 1 (by decide))),if_neg (of_decide_eq_false hno)]
   ·rw [if_pos (of_decide_eq_true (hk 0 (by decide))),if_pos (of_decide_eq_true (hk 1 (by decide))),if_pos (of_decide_eq_true (hk 2 (by decide))),if_neg (of_decide_eq_false hno)]
end Go.Proofs.YtmfppdpkalelhaaGreat
end
section
set_option linter.unusedVariables false
set_option linter.unusedSimpArgs false
namespace Go.Proofs.YtmfppdpkalelhaaGreat
open Go Go.Fw
set_option maxRecDepth 10000
def tsOp : List TOp:=[⟨some 9,[],[],[]⟩,⟨some 10,[],[],[]⟩,⟨some 11,[],[],[]⟩,⟨some 12,[0,1,2],[0,1,2],[]⟩,⟨some 7,[0,1,2,3],[3],[]⟩]
def valOp (b2 b3 b4 b6 : Nat) (R : Rm) (p : Pl) (x : Bt) (e : Int) (k : Nat) (env : Env) : Value :=
 match k with
 | 0 => .agg (cRm R p).toArray
 | 1 => .agg (cBt x).toArray
 | 2 => .slice (some ⟨b6,0,none⟩) 4 4
 | 3 => .int .i64 e
 | 4 => .int .i64 e
 | _=>undef
def rowsOp (b2 b3 b4 b6 : Nat) (R : Rm) (p : Pl) (x : Bt) (e : Int) (k : Nat) (env : Env) : List Row :=
 match k with
 | _=>[]
theorem locOp (b2 b3 b4 b6 : Nat) (R : Rm) (p : Pl) (x : Bt) (e : Int) : ∀ k env i q9,i ≠ k → (tAt tsOp k).sup.contains i = false → valOp b2 b3 b4 b6 R p x e k (upd env i q9)=valOp b2 b3 b4 b6 R p x e k env∧rowsOp b2 b3 b4 b6 R p x e k (upd env i q9)=rowsOp b2 b3 b4 b6 R p x e k env:=by
 intro k env i q hk hs
 have hu : ∀ j,j ≠ i → upd env i q j = env j:=fun j hj=>by unfold upd;rw [if_neg hj]
 match k,hk,hs with
 | 0,_,_=>exact ⟨rfl,rfl⟩
 | 1,_,_=>exact ⟨rfl,rfl⟩
 | 2,_,_=>exact ⟨rfl,rfl⟩
 | 3,_,_=>exact ⟨rfl,rfl⟩
 | 4,_,_=>exact ⟨rfl,rfl⟩
 | _ + 5,_,_=>exact ⟨rfl,rfl⟩
def OpenR (R : Rm) (p : Pl) (x : Bt) (H : List Row) (v : Value) (H' : List Row) : Prop :=
 (openE R x.l x.t = 0 ∧ ∃ b k,(plcs R).length ≤ k∧v = .tuple #[.agg (cCt R p (some ⟨b,0,none⟩) k).toArray,.int .i64 0]∧H' = ⟨b,0,(plcs R).flatMap cPk,some 86,k * 2⟩::H) ∨
  (openE R x.l x.t ≠ 0∧v = .tuple #[.agg zCt.toArray,.int .i64 (openE R x.l x.t)]∧H' = H)
theorem openE_ok {R : Rm} {l t : List Int} (h : openE R l t = 0) : roomOk R∧allThere R l∧inTime R l t∧hasT R R.mats:=by
 unfold openE at h
 by_cases h1 : roomOk R
 ·by_cases h2 : allThere R l
  ·by_cases h3 : inTime R l t
   ·by_cases h4 : hasT R R.mats
    ·exact ⟨h1,h2,h3,h4⟩
    ·simp [h1,h2,h3,h4] at h
   ·simp [h1,h2,h3] at h
  ·simp [h1,h2] at h
 ·simp [h1] at h
set_option maxHeartbeats 8000000 in
theorem open_spec (R : Rm) (p : Pl) (x : Bt) (H : List Row) (hR : RmOk H R p) (hx : BtOk H x) (h2 : R.boxes.length ≤ 1000000) : Fc Tryz.prog 42 [.agg (cRm R p).toArray,.agg (cBt x).toArray] H (OpenR R p x H):=by
 obtain ⟨e,he⟩ : ∃ e,openE R x.l x.t = e:=⟨_,rfl⟩
 have hA : ∀ H' b cap ow,RmOk H' R p → BtOk H' x → ⟨b,0,cQ4,ow,cap⟩ ∈ H' → Fc Tryz.prog 82 [.agg (cRm R p).toArray,.agg (cBt x).toArray,.slice (some ⟨b,0,none⟩) 4 4] H' (fun v H'' => v = .int .i64 e∧H'' = H'):=fun H' b cap ow h1 h2' h3=>by
  have:=asked4_spec R p x b cap ow H' h1 h2' h2 h3
  rwa [he] at this
 have hok : e = 0 → roomOk R:=fun h0=>(openE_ok (he.trans h0)).1
 unfold OpenR
 rw [he]
 clear he
 refine Fc.mk (callable Tryz.call42) Tryz.func42 rfl Tryz.ntmps42 rfl ?_;dsimp only [fr]
 repeat' (first | (refine uP rfl ?_;(first | ((first | refine uN rfl ?_);(first | (refine uC (uT rfl (by (repeat (first | exact Args.nil | refine Args.cons rfl ?_));done)) rfl rfl (questions_spec _) ?_;rintro _ H9 ⟨rfl,hH9⟩;subst H9)|(refine Xg.st (StF.alloc rfl Tryz.zeroValue123 rfl) rfl rfl ?_;rintro _ _ ⟨bx,rfl,rfl⟩)|(refine Xg.st0 (StF.storeAll (i:=0) (vs:=cQ4) rfl rfl rfl (te rfl) rfl rfl rfl rfl) rfl ?_;rintro _ _ ⟨rfl,rfl⟩;dsimp only [List.set])|(refine uE (uA rfl rfl) rfl rfl ?_)|(refine Xg.st (StF.boxAgg rfl rfl) rfl rfl ?_;rintro _ _ ⟨bx,rfl,rfl⟩)|(refine Xg.st (StF.alloc rfl Tryz.zeroValue79 rfl) rfl rfl ?_;rintro _ _ ⟨bx,rfl,rfl⟩)))))|(refine uD rfl ?_;refine hK _ _ ?_;clear hK K) | refine uS rfl ?_ | refine uR rfl (fun K hK=>?_))
 rename_i b2 b3 b4
 generalize bx = b6
 refine X.weak (F' := [(2,.pointer (some ⟨b2,0,none⟩)),(3,.pointer (some ⟨b3,0,none⟩)),(4,.pointer (some ⟨b4,0,none⟩)),(6,.pointer (some ⟨b6,0,none⟩))]) (H' := ⟨b6,0,cQ4,some 123,8⟩::⟨b4,0,zCt,some 79,6⟩::⟨b3,0,cBt x,some 83,2⟩::⟨b2,0,cRm R p,some 32,5⟩::H) (by repeat (first | exact uU _ | refine uV rfl ?_)) (by repeat (first | exact qR _ | apply qK | apply qC)) ?_
 refine X.regionOb tsOp [2,3,4,6] [(2,.pointer (some ⟨b2,0,none⟩)),(3,.pointer (some ⟨b3,0,none⟩)),(4,.pointer (some ⟨b4,0,none⟩)),(6,.pointer (some ⟨b6,0,none⟩))] (valOp b2 b3 b4 b6 R p x e) (rowsOp b2 b3 b4 b6 R p x e) (fun _=>(0,0)) (⟨b6,0,cQ4,some 123,8⟩::⟨b4,0,zCt,some 79,6⟩::⟨b3,0,cBt x,some 83,2⟩::⟨b2,0,cRm R p,some 32,5⟩::H) rfl mixed (by repeat (first | exact uU _ | refine uV rfl ?_)) rfl (by kernel_rfl) (locOp b2 b3 b4 b6 R p x e) (qR _) ?_ ?_
 ·repeat' (first | exact AllF.done rfl | (refine AllF.step rfl ?_ ?_;·(first | fail | ((first | refine Ob.ng rfl ?_);(first | exact ObK.pure (fun env R hR=>by exact ⟨_,uA rfl rfl,rfl⟩) rfl (fun _=>rfl) | exact ObK.pure (fun env R hR=>by exact ⟨_,uL rfl rfl (uW (te rfl) rfl (hR _ (qT _ (qT _ (qH _)))) rfl),rfl⟩) rfl (fun _=>rfl) | exact ObK.pure (fun env R hR=>by exact ⟨_,uL rfl rfl (uW (te rfl) rfl (hR _ (qT _ (qT _ (qT _ (qH _))))) rfl),rfl⟩) rfl (fun _=>rfl)|(exact fun env S hS=>OpF.callV (Z:=[]) (uT rfl (Args.cons rfl (Args.cons rfl (Args.cons rfl Args.nil)))) (hA _ _ _ _ (hR.sub (fun _ h=>hS _ (List.mem_append_right [_,_,_,_] h))) (hx.sub (fun _ h=>hS _ (List.mem_append_right [_,_,_,_] h))) (hS _ (qH _))) rfl rfl)|((refine ObK.pure (fun env S hS=>⟨.slice (some ⟨b6,0,none⟩) 4 4,?_,rfl⟩) rfl (fun _=>rfl);exact EvF.sliceArrOf (b:=b6) (off:=0) (len:=4) rfl rfl (te rfl) (te rfl))))))))
 intro env t ha hv
 refine ⟨_,ha.cons (hv 4 7 (Nat.le_of_ble_eq_true rfl) rfl),?_⟩
 refine X.weak (F' := [(2,.pointer (some ⟨b2,0,none⟩)),(4,.pointer (some ⟨b4,0,none⟩)),(7,.int .i64 e)]) (H' := ⟨b4,0,zCt,some 79,6⟩::⟨b2,0,cRm R p,some 32,5⟩::H) (by repeat (first | exact uU _ | refine uV rfl ?_)) (by repeat (first | exact qR _ | apply qK | apply qC)) ?_
 by_cases h0 : e = 0
 ·have hbo:=hok h0
  repeat' (first | (refine uP rfl ?_;(first | ((first | refine uN rfl ?_);(first | (refine uE (uQ (b:=false) rfl rfl rfl (congrArg some (nd_f (by omega)))) rfl rfl ?_)|(refine uC (uT rfl (by (repeat (first | exact Args.nil | refine Args.cons rfl ?_));done)) rfl rfl (draw_spec R p _ hbo.ok (hR.sub (fun _ h=>by repeat (first | exact h | apply qT)))) ?_;rintro _ _ ⟨b,k,hbk,rfl,rfl⟩)|(refine Xg.st0 (StF.storeAll (i:=1) (vs:=cCt R p (some ⟨b,0,none⟩) k) rfl rfl rfl (te rfl) rfl rfl rfl rfl) rfl ?_;rintro _ _ ⟨rfl,rfl⟩;dsimp only [List.set])|(refine uE (uM rfl rfl) rfl rfl ?_)|(refine uE (uA rfl rfl) rfl rfl ?_)|(refine uE (uL rfl rfl (uW (te rfl) rfl (qT _ (qH _)) rfl)) rfl rfl ?_)))))|(refine uD rfl ?_;refine hK _ _ ?_;clear hK K) | refine uS rfl ?_ | refine uR rfl (fun K hK=>?_) | refine X.skip rfl ?_ | refine X.ret rfl ?_ | (refine X.ite rfl rfl (fun hc=>?_);(first | (with_reducible refine Xb.f hc ?_)) <;> clear hc))
  all_goals try (exfalso;contradiction)
  exact ret_two (by simp) Tryz.results42 ⟨_,rfl,uW (te rfl) rfl (qT _ (qH _)) rfl⟩ rfl (H' := ⟨b,0,(plcs R).flatMap cPk,some 86,k * 2⟩::H) (qK _ (qC _ (qC _ (qR _)))) (.inl ⟨h0,b,k,hbk,rfl,rfl⟩)
 ·repeat' (first | (refine uP rfl ?_;(first | ((first | refine uN rfl ?_);(first | (refine uE (uQ (b:=true) rfl rfl rfl (congrArg some (nd_t (by omega)))) rfl rfl ?_)|(refine uE (EvF.build (cs:=zCt) rfl ArgsP.nil (te rfl) (Places.cons (te rfl) (Places.cons (te rfl) Places.nil)) Tryz.zeroValue79 rfl) rfl rfl ?_)|(refine Xg.st0 (StF.storeAll (i:=0) (vs:=zCt) rfl rfl rfl (te rfl) rfl rfl rfl rfl) rfl ?_;rintro _ _ ⟨rfl,rfl⟩;dsimp only [List.set])|(refine uE (uM rfl rfl) rfl rfl ?_)|(refine uE (uA rfl rfl) rfl rfl ?_)))))|(refine uD rfl ?_;refine hK _ _ ?_;clear hK K) | refine uS rfl ?_ | refine uR rfl (fun K hK=>?_) | refine X.ret rfl ?_ | (refine X.ite rfl rfl (fun hc=>?_);(first | (with_reducible refine Xb.t hc ?_)) <;> clear hc))
  all_goals try (exfalso;contradiction)
  exact ret_two (by simp) Tryz.results42 ⟨_,rfl,uW (te rfl) rfl (qH _) rfl⟩ rfl (H' := H) (by (repeat (first | exact qR _ | apply qC));done) (.inr ⟨h0,rfl,rfl⟩)
open Classical in
noncomputable def canF (R : Rm) : Value:=if roomOk R then .tuple #[.bool (decide (hasT R R.mats)),.int .i64 0] else .tuple #[.bool false,.int .i64 10]
theorem kCan_spec (R : Rm) (p : Pl) (H : List Row) (hR : RmOk H R p) : Fc Tryz.prog 31 [.agg (cRm R p).toArray] H (fun v H' => v = canF R∧H' = H):=by
 have hR2 : ∀ r1,RmOk (r1::H) R p:=fun r1=>hR.sub (fun _ h=>qT _ h)
 unfold canF
 by_cases hok : roomOk R
 ·rw [if_pos hok]
  have hlen:=hok.ok.len
  have hm12:=hok.ok.m12
  have hm8:=hok.1.2.2.2.2.2.2
  have hck : ∀ H',RmOk H' R p → Fc Tryz.prog 27 [.agg (cRm R p).toArray] H' (fun v H'' => v = .int .i64 0∧H'' = H'):=fun H' h=>(check_spec R p H' h).mono fun v H'' ⟨q,e⟩=>⟨by rcases q with ⟨_,q⟩ | ⟨q,_⟩;exact q;exact absurd hok q,e⟩
  refine Fc.mk (callable Tryz.call31) Tryz.func31 rfl Tryz.ntmps31 rfl ?_;dsimp only [fr]
  repeat' (first | (refine uP rfl ?_;(first | ((first | refine uN rfl ?_);(first | (refine uC (uT rfl (Args.cons rfl Args.nil)) rfl rfl (hck _ (hR2 _)) ?_;rintro _ H9 ⟨rfl,hH9⟩;subst H9)|(refine uC (uT rfl (by (repeat (first | exact Args.nil | refine Args.cons rfl ?_));done)) rfl rfl (draw_spec R p _ hok.ok (hR2 _)) ?_;rintro _ _ ⟨b,k,hbk,rfl,rfl⟩)|(refine uC (uT rfl (Args.cons rfl Args.nil)) rfl rfl (can_spec R p (some ⟨b,0,none⟩) k _ hok.ok hok.mats ⟨(hR2 _).sub (fun _ h=>qT _ h),SlE.ofRow (qH _) (fun _ _=>rfl)⟩ (by omega) (by omega) hbk) ?_;rintro _ H9 ⟨rfl,hH9⟩;subst H9)|(refine uE (uM rfl rfl) rfl rfl ?_)|(refine uE (uA rfl rfl) rfl rfl ?_)|(refine uE (uQ rfl rfl rfl rfl) rfl rfl ?_)|(refine uE (uL rfl rfl (uW (te rfl) rfl (qH _) rfl)) rfl rfl ?_)|(refine Xg.st (StF.boxAgg rfl rfl) rfl rfl ?_;rintro _ _ ⟨bx,rfl,rfl⟩)))))|(refine uD rfl ?_;refine hK _ _ ?_;clear hK K) | refine uS rfl ?_ | refine uR rfl (fun K hK=>?_) | refine X.skip rfl ?_ | refine X.ret rfl ?_ | (refine X.ite rfl rfl (fun hc=>?_);(first | (with_reducible refine Xb.caseN hc (fun h=>?_) (fun h=>?_))) <;> clear hc))
  all_goals try (exfalso;omega)
  exact ret_two (by simp) Tryz.results31 rfl rfl (H' := H) (by (repeat (first | exact qR _ | apply qC));done) ⟨rfl,rfl⟩
 ·rw [if_neg hok]
  have hck : ∀ H',RmOk H' R p → Fc Tryz.prog 27 [.agg (cRm R p).toArray] H' (fun v H'' => v = .int .i64 10∧H'' = H'):=fun H' h=>(check_spec R p H' h).mono fun v H'' ⟨q,e⟩=>⟨by rcases q with ⟨q,_⟩ | ⟨_,q⟩;exact absurd q hok;exact q,e⟩
  refine Fc.mk (callable Tryz.call31) Tryz.func31 rfl Tryz.ntmps31 rfl ?_;dsimp only [fr]
  repeat' (first | (refine uP rfl ?_;(first | ((first | refine uN rfl ?_);(first | (refine uC (uT rfl (Args.cons rfl Args.nil)) rfl rfl (hck _ (hR2 _)) ?_;rintro _ H9 ⟨rfl,hH9⟩;subst H9)|(refine uE (uM rfl rfl) rfl rfl ?_)|(refine uE (uA rfl rfl) rfl rfl ?_)|(refine uE (uQ rfl rfl rfl rfl) rfl rfl ?_)|(refine uE (uL rfl rfl (uW (te rfl) rfl (qH _) rfl)) rfl rfl ?_)|(refine Xg.st (StF.boxAgg rfl rfl) rfl rfl ?_;rintro _ _ ⟨bx,rfl,rfl⟩)))))|(refine uD rfl ?_;refine hK _ _ ?_;clear hK K) | refine uS rfl ?_ | refine uR rfl (fun K hK=>?_) | refine X.skip rfl ?_ | refine X.ret rfl ?_ | (refine X.ite rfl rfl (fun hc=>?_);(first | (with_reducible refine Xb.caseN hc (fun h=>?_) (fun h=>?_))) <;> clear hc))
  all_goals try (exfalso;omega)
  exact ret_two (by simp) Tryz.results31 rfl rfl (H' := H) (by (repeat (first | exact qR _ | apply qC));done) ⟨rfl,rfl⟩
end Go.Proofs.YtmfppdpkalelhaaGreat
end
section
set_option linter.unusedVariables false
set_option linter.unusedSimpArgs false
namespace Go.Proofs.YtmfppdpkalelhaaGreat
open Go Go.Fw
set_option maxRecDepth 10000
theorem there_of {R : Rm} {l t : List Int} {a m : Int} (h : openE R l t = 0) (ha : a ∈ l) (hm : m ∈ t) : ∃ b,there R b m∧b.id = a:=by
 obtain ⟨_,h2,h3,_⟩:=openE_ok h
 obtain ⟨b,hb,e⟩:=h2 a ha
 obtain ⟨⟨h4,h5⟩,h6⟩:=h3 m hm
 refine ⟨b,⟨hb,?_,h5⟩,e⟩
 refine Classical.byContradiction fun q=>h6 ⟨b,hb,by omega,by rw [e];exact ha⟩
theorem plcs_of {R : Rm} {l t : List Int} {a m : Int} (h : openE R l t = 0) (ha : a ∈ l) (hm : m ∈ t) : (⟨a,m⟩ : Pk) ∈ plcs R:=by
 obtain ⟨b,hb,e⟩:=there_of h ha hm
 rw [← e];exact plcs_mem hb
theorem openY {R : Rm} {p : Pl} {x : Bt} {H : List Row} (hR : RmOk H R p) (hx : BtOk H x) (h2 : R.boxes.length ≤ 1000000) (h : openE R x.l x.t = 0) :
  Fc Tryz.prog 42 [.agg (cRm R p).toArray,.agg (cBt x).toArray] H (fun v H' => ∃ b k,(plcs R).length ≤ k∧v = .tuple #[.agg (cCt R p (some ⟨b,0,none⟩) k).toArray,.int .i64 0]∧H' = ⟨b,0,(plcs R).flatMap cPk,some 86,k * 2⟩::H):=by
 refine (open_spec R p x H hR hx h2).mono fun v H' q=>?_
 rcases q with ⟨_,q⟩ | ⟨q,_⟩
 ·exact q
 ·exact absurd h q
theorem openN {R : Rm} {p : Pl} {x : Bt} {H : List Row} {e : Int} (hR : RmOk H R p) (hx : BtOk H x) (h2 : R.boxes.length ≤ 1000000) (h : openE R x.l x.t = e) (h0 : e ≠ 0) :
  Fc Tryz.prog 42 [.agg (cRm R p).toArray,.agg (cBt x).toArray] H (fun v H' => v = .tuple #[.agg zCt.toArray,.int .i64 e]∧H' = H):=by
 refine (open_spec R p x H hR hx h2).mono fun v H' q=>?_
 rcases q with ⟨q,_⟩ | ⟨_,q⟩
 ·exact absurd (h.symm.trans q) h0
 ·rw [h] at q;exact q
structure okLen (R : Rm) : Prop where
 ages : R.ages.length ≤ 1000
 mats : R.mats.length ≤ 1000
theorem roomOk.lens {R : Rm} (h : roomOk R) : okLen R:=⟨by have:=h.ok.len;have:=h.ok.m12;omega,by have:=h.1.2.2.2.2.2.2;omega⟩
noncomputable def yelF (R : Rm) (a m : Int) : Sp × Int:=if openE R [a] [m] = 0 then (rng R R.mats ⟨a,m⟩ zp,0) else (⟨0,0⟩,openE R [a] [m])
set_option maxHeartbeats 4000000 in
theorem kYellow_spec (R : Rm) (p : Pl) (a m : Int) (H : List Row) (hR : RmOk H R p) (h2 : R.boxes.length ≤ 1000000) : Fc Tryz.prog 9 [.agg (cRm R p).toArray,.int .i64 a,.int .i64 m] H (fun v H' => v = .tuple #[.agg (cSp (yelF R a m).1).toArray,.int .i64 (yelF R a m).2]∧H' = H):=by
 obtain ⟨e,he⟩ : ∃ e,openE R [a] [m] = e:=⟨_,rfl⟩
 have hbt : ∀ (H' : List Row) (b1 b2 : Nat),⟨b1,0,[.int .i64 a],some 3,1 * 1⟩ ∈ H' → ⟨b2,0,[.int .i64 m],some 3,1 * 1⟩ ∈ H' → BtOk H' ⟨[a],some ⟨b1,0,none⟩,1,[m],some ⟨b2,0,none⟩,1⟩:=fun H' b1 b2 q1 q2=>⟨SlE.ofRow (l:=[a]) q1 (fun _ _=>rfl),SlE.ofRow (l:=[m]) q2 (fun _ _=>rfl),Nat.le_of_ble_eq_true rfl,Nat.le_of_ble_eq_true rfl⟩
 by_cases h0 : e = 0
 ·subst h0
  obtain ⟨hok,_,_,hT⟩:=openE_ok he
  have hp:=plcs_of he (List.mem_singleton.2 rfl) (List.mem_singleton.2 rfl)
  have hy : yelF R a m = (rng R R.mats ⟨a,m⟩ zp,0):=by unfold yelF;rw [if_pos he]
  rw [hy]
  obtain ⟨s,hs⟩ : ∃ s,s = rng R R.mats ⟨a,m⟩ zp:=⟨_,rfl⟩
  have hye:=fun H' b k hC hk=>yellow_spec R p (some ⟨b,0,none⟩) k ⟨a,m⟩ H' hok.ok hok.mats hC hok.lens.ages hok.lens.mats hk hp hT
  rw [← hs] at hye ⊢
  refine Fc.mk (callable Tryz.call9) Tryz.func9 rfl Tryz.ntmps9 rfl ?_;dsimp only [fr]
  repeat' (first | (refine uP rfl ?_;(first | ((first | refine uN rfl ?_);(first | (refine Xg.st (StF.buildOne (v0 := .int .i64 a) rfl el55 rfl rfl rfl (by decide) (by decide)) rfl rfl ?_;rintro _ _ ⟨b1,rfl,rfl⟩)|(refine Xg.st (StF.buildOne (v0 := .int .i64 m) rfl el55 rfl rfl rfl (by decide) (by decide)) rfl rfl ?_;rintro _ _ ⟨b2,rfl,rfl⟩)|(refine uE (EvF.build (cs:=cBt ⟨[a],some ⟨b1,0,none⟩,1,[m],some ⟨b2,0,none⟩,1⟩) rfl (ArgsP.cons rfl (ArgsP.cons rfl ArgsP.nil)) (te rfl) (Places.cons (te rfl) (Places.cons (te rfl) Places.nil)) Tryz.zeroValue83 rfl) rfl rfl ?_)|(refine uC (uT rfl (by (repeat (first | exact Args.nil | refine Args.cons rfl ?_));done)) rfl rfl (openY (hR.sub (fun _ h=>by repeat (first | exact h | apply qT))) (hbt _ b1 b2 (qT _ (qH _)) (qH _)) h2 he) ?_;rintro _ _ ⟨b,k,hbk,rfl,rfl⟩)|(refine Xg.st (StF.alloc rfl Tryz.zeroValue79 rfl) rfl rfl ?_;rintro _ _ ⟨b8,rfl,rfl⟩)|(refine Xg.st0 (StF.storeAll (i:=0) (vs:=cCt R p (some ⟨b,0,none⟩) k) rfl rfl rfl (te rfl) rfl rfl rfl rfl) rfl ?_;rintro _ _ ⟨rfl,rfl⟩;dsimp only [List.set])|(refine uE (uL rfl rfl (uW (T:=79) (cs:=cCt R p (some ⟨b,0,none⟩) k) (te rfl) rfl (qH _) rfl)) rfl rfl ?_)|(refine uE (EvF.build (cs:=cPk ⟨a,m⟩) rfl (ArgsP.cons rfl (ArgsP.cons rfl ArgsP.nil)) (te rfl) (Places.cons (te rfl) (Places.cons (te rfl) Places.nil)) Tryz.zeroValue86 rfl) rfl rfl ?_)|(refine uC (uT rfl (Args.cons rfl (Args.cons rfl Args.nil))) rfl rfl (hye _ b k ⟨hR.sub (fun _ h=>by repeat (first | exact h | apply qT)),SlE.ofRow (qT _ (qH _)) (fun _ _=>rfl)⟩ hbk) ?_;rintro _ H9 ⟨rfl,hH9⟩;subst H9)|(refine uE (uM rfl rfl) rfl rfl ?_)|(refine uE (uA rfl rfl) rfl rfl ?_)|(refine uE (uQ rfl rfl rfl rfl) rfl rfl ?_)|(refine uE (uL rfl rfl (uW (te rfl) rfl (qT _ (qH _)) rfl)) rfl rfl ?_)|(refine uE (uX rfl rfl rfl) rfl rfl ?_)|(refine Xg.st (StF.boxAgg rfl rfl) rfl rfl ?_;rintro _ _ ⟨bx,rfl,rfl⟩)|(refine Xg.st (StF.alloc rfl Tryz.zeroValue24 rfl) rfl rfl ?_;rintro _ _ ⟨bx,rfl,rfl⟩)|(refine Xg.st0 (StF.storeAll (i:=4) rfl rfl rfl (te rfl) rfl rfl rfl rfl) rfl ?_;rintro _ _ ⟨rfl,rfl⟩;dsimp only [List.set])))))|(refine uD rfl ?_;refine hK _ _ ?_;clear hK K) | refine uS rfl ?_ | refine uR rfl (fun K hK=>?_) | refine X.skip rfl ?_ | refine X.ret rfl ?_ | (refine X.ite rfl rfl (fun hc=>?_);(first | (with_reducible refine Xb.caseN hc (fun h=>?_) (fun h=>?_))) <;> clear hc))
  all_goals try (exfalso;omega)
  exact ret_two (v := .agg (cSp s).toArray) (by simp) Tryz.results9 ⟨_,rfl,uW (te rfl) rfl (by repeat (first | exact qH _ | apply qT)) rfl⟩ rfl (H' := H) (by (repeat (first | exact qR _ | apply qC));done) ⟨rfl,rfl⟩
 ·have hy : yelF R a m = (⟨0,0⟩,e):=by unfold yelF;rw [if_neg (by rw [he];exact h0),he]
  rw [hy]
  refine Fc.mk (callable Tryz.call9) Tryz.func9 rfl Tryz.ntmps9 rfl ?_;dsimp only [fr]
  repeat' (first | (refine uP rfl ?_;(first | ((first | refine uN rfl ?_);(first | (refine uE (uQ (b:=true) rfl rfl rfl (congrArg some (nd_t (by omega)))) rfl rfl ?_)|(refine Xg.st (StF.buildOne (v0 := .int .i64 a) rfl el55 rfl rfl rfl (by decide) (by decide)) rfl rfl ?_;rintro _ _ ⟨b1,rfl,rfl⟩)|(refine Xg.st (StF.buildOne (v0 := .int .i64 m) rfl el55 rfl rfl rfl (by decide) (by decide)) rfl rfl ?_;rintro _ _ ⟨b2,rfl,rfl⟩)|(refine uE (EvF.build (cs:=cBt ⟨[a],some ⟨b1,0,none⟩,1,[m],some ⟨b2,0,none⟩,1⟩) rfl (ArgsP.cons rfl (ArgsP.cons rfl ArgsP.nil)) (te rfl) (Places.cons (te rfl) (Places.cons (te rfl) Places.nil)) Tryz.zeroValue83 rfl) rfl rfl ?_)|(refine uC (uT rfl (Args.cons rfl (Args.cons rfl Args.nil))) rfl rfl (openN (hR.sub (fun _ h=>by repeat (first | exact h | apply qT))) (hbt _ b1 b2 (qT _ (qH _)) (qH _)) h2 he h0) ?_;rintro _ H9 ⟨rfl,hH9⟩;subst H9)|(refine Xg.st (StF.alloc rfl Tryz.zeroValue79 rfl) rfl rfl ?_;rintro _ _ ⟨b8,rfl,rfl⟩)|(refine Xg.st0 (StF.storeAll (i:=0) (vs:=zCt) rfl rfl rfl (te rfl) rfl rfl rfl rfl) rfl ?_;rintro _ _ ⟨rfl,rfl⟩;dsimp only [List.set])|(refine uE (EvF.build (cs:=cSp ⟨0,0⟩) rfl ArgsP.nil (te rfl) (Places.cons (te rfl) (Places.cons (te rfl) Places.nil)) Tryz.zeroValue24 rfl) rfl rfl ?_)|(refine uE (uM rfl rfl) rfl rfl ?_)|(refine uE (uA rfl rfl) rfl rfl ?_)|(refine uE (uL rfl rfl (uW (te rfl) rfl (qT _ (qH _)) rfl)) rfl rfl ?_)|(refine uE (uX rfl rfl rfl) rfl rfl ?_)|(refine Xg.st (StF.boxAgg rfl rfl) rfl rfl ?_;rintro _ _ ⟨bx,rfl,rfl⟩)|(refine Xg.st (StF.alloc rfl Tryz.zeroValue24 rfl) rfl rfl ?_;rintro _ _ ⟨bx,rfl,rfl⟩)|(refine Xg.st0 (StF.storeAll (i:=3) rfl rfl rfl (te rfl) rfl rfl rfl rfl) rfl ?_;rintro _ _ ⟨rfl,rfl⟩;dsimp only [List.set])))))|(refine uD rfl ?_;refine hK _ _ ?_;clear hK K) | refine uS rfl ?_ | refine uR rfl (fun K hK=>?_) | refine X.ret rfl ?_ | (refine X.ite rfl rfl (fun hc=>?_);(first | (with_reducible refine Xb.t hc ?_)) <;> clear hc))
  all_goals try (exfalso;omega)
  exact ret_two (v := .agg (cSp ⟨0,0⟩).toArray) (by simp) Tryz.results9 ⟨_,rfl,uW (te rfl) rfl (by repeat (first | exact qH _ | apply qT)) rfl⟩ rfl (H' := H) (by (repeat (first | exact qR _ | apply qC));done) ⟨rfl,rfl⟩
noncomputable def difF (R : Rm) (a b m : Int) : Sp × Int:=if openE R [a,b] [m] = 0 then (if a = b then (⟨0,0⟩,2) else (rng R R.mats ⟨a,m⟩ ⟨b,m⟩,0)) else (⟨0,0⟩,openE R [a,b] [m])
set_option maxHeartbeats 4000000 in
theorem kDiffer_spec (R : Rm) (p : Pl) (a b m : Int) (H : List Row) (hR : RmOk H R p) (h2 : R.boxes.length ≤ 1000000) : Fc Tryz.prog 11 [.agg (cRm R p).toArray,.int .i64 a,.int .i64 b,.int .i64 m] H (fun v H' => v = .tuple #[.agg (cSp (difF R a b m).1).toArray,.int .i64 (difF R a b m).2]∧H' = H):=by
 obtain ⟨e,he⟩ : ∃ e,openE R [a,b] [m] = e:=⟨_,rfl⟩
 have hbt : ∀ (H' : List Row) (b1 b2 : Nat),⟨b1,0,[.int .i64 a,.int .i64 b],some 3,2 * 1⟩ ∈ H' → ⟨b2,0,[.int .i64 m],some 3,1 * 1⟩ ∈ H' → BtOk H' ⟨[a,b],some ⟨b1,0,none⟩,2,[m],some ⟨b2,0,none⟩,1⟩:=fun H' b1 b2 q1 q2=>⟨SlE.ofRow (l:=[a,b]) q1 (fun _ _=>rfl),SlE.ofRow (l:=[m]) q2 (fun _ _=>rfl),Nat.le_of_ble_eq_true rfl,Nat.le_of_ble_eq_true rfl⟩
 by_cases h0 : e = 0
 ·subst h0
  obtain ⟨hok,_,_,hT⟩:=openE_ok he
  have hpa:=plcs_of he (show a ∈ [a,b] from List.mem_cons_self) (List.mem_singleton.2 rfl)
  have hpb:=plcs_of he (show b ∈ [a,b] from List.mem_cons_of_mem _ List.mem_cons_self) (List.mem_singleton.2 rfl)
  obtain ⟨r,hr⟩ : ∃ r,r = difF R a b m:=⟨_,rfl⟩
  rw [← hr]
  unfold difF at hr
  rw [if_pos he] at hr
  obtain ⟨s,hs⟩ : ∃ s,s = rng R R.mats ⟨a,m⟩ ⟨b,m⟩:=⟨_,rfl⟩
  have hye:=fun H' b' k hC hk=>differ_spec R p (some ⟨b',0,none⟩) k ⟨a,m⟩ ⟨b,m⟩ H' hok.ok hok.mats hC hok.lens.ages hok.lens.mats hk hpa hpb hT
  rw [← hs] at hye hr
  refine Fc.mk (callable Tryz.call11) Tryz.func11 rfl Tryz.ntmps11 rfl ?_;dsimp only [fr]
  repeat' (first | (refine uP rfl ?_;(first | ((first | refine uN rfl ?_);(first | (refine Xg.st (StF.buildTwo rfl el55 rfl rfl rfl rfl rfl rfl (by decide) (by decide)) rfl rfl ?_;rintro _ _ ⟨b1,rfl,rfl⟩)|(refine Xg.st (StF.buildOne (v0 := .int .i64 m) rfl el55 rfl rfl rfl (by decide) (by decide)) rfl rfl ?_;rintro _ _ ⟨b2,rfl,rfl⟩)|(refine uE (EvF.build (cs:=cBt ⟨[a,b],some ⟨b1,0,none⟩,2,[m],some ⟨b2,0,none⟩,1⟩) rfl (ArgsP.cons rfl (ArgsP.cons rfl ArgsP.nil)) (te rfl) (Places.cons (te rfl) (Places.cons (te rfl) Places.nil)) Tryz.zeroValue83 rfl) rfl rfl ?_)|(refine uC (uT rfl (by (repeat (first | exact Args.nil | refine Args.cons rfl ?_));done)) rfl rfl (openY (hR.sub (fun _ h=>by repeat (first | exact h | apply qT))) (hbt _ b1 b2 (qT _ (qH _)) (qH _)) h2 he) ?_;rintro _ _ ⟨b9,k,hbk,rfl,rfl⟩)|(refine Xg.st (StF.alloc rfl Tryz.zeroValue79 rfl) rfl rfl ?_;rintro _ _ ⟨b8,rfl,rfl⟩)|(refine Xg.st0 (StF.storeAll (i:=0) (vs:=cCt R p (some ⟨b9,0,none⟩) k) rfl rfl rfl (te rfl) rfl rfl rfl rfl) rfl ?_;rintro _ _ ⟨rfl,rfl⟩;dsimp only [List.set])|(refine uE (uL rfl rfl (uW (T:=79) (cs:=cCt R p (some ⟨b9,0,none⟩) k) (te rfl) rfl (qH _) rfl)) rfl rfl ?_)|(refine uE (EvF.build (cs:=cSp ⟨0,0⟩) rfl ArgsP.nil (te rfl) (Places.cons (te rfl) (Places.cons (te rfl) Places.nil)) Tryz.zeroValue24 rfl) rfl rfl ?_)|(refine uE (EvF.build (cs:=cPk ⟨a,m⟩) rfl (ArgsP.cons rfl (ArgsP.cons rfl ArgsP.nil)) (te rfl) (Places.cons (te rfl) (Places.cons (te rfl) Places.nil)) Tryz.zeroValue86 rfl) rfl rfl ?_)|(refine uE (EvF.build (cs:=cPk ⟨b,m⟩) rfl (ArgsP.cons rfl (ArgsP.cons rfl ArgsP.nil)) (te rfl) (Places.cons (te rfl) (Places.cons (te rfl) Places.nil)) Tryz.zeroValue86 rfl) rfl rfl ?_)|(refine uC (uT rfl (Args.cons rfl (Args.cons rfl (Args.cons rfl Args.nil)))) rfl rfl (hye _ b9 k ⟨hR.sub (fun _ h=>by repeat (first | exact h | apply qT)),SlE.ofRow (qT _ (qH _)) (fun _ _=>rfl)⟩ hbk) ?_;rintro _ H9 ⟨rfl,hH9⟩;subst H9)|(refine uE (uM rfl rfl) rfl rfl ?_)|(refine uE (uA rfl rfl) rfl rfl ?_)|(refine uE (uQ rfl rfl rfl rfl) rfl rfl ?_)|(refine uE (uL rfl rfl (uW (te rfl) rfl (qT _ (qH _)) rfl)) rfl rfl ?_)|(refine uE (uX rfl rfl rfl) rfl rfl ?_)|(refine Xg.st (StF.boxAgg rfl rfl) rfl rfl ?_;rintro _ _ ⟨bx,rfl,rfl⟩)|(refine Xg.st (StF.alloc rfl Tryz.zeroValue24 rfl) rfl rfl ?_;rintro _ _ ⟨bx,rfl,rfl⟩)|(refine Xg.st0 (StF.storeAll (i:=4) rfl rfl rfl (te rfl) rfl rfl rfl rfl) rfl ?_;rintro _ _ ⟨rfl,rfl⟩;dsimp only [List.set])))))|(refine uD rfl ?_;refine hK _ _ ?_;clear hK K) | refine uS rfl ?_ | refine uR rfl (fun K hK=>?_) | refine X.skip rfl ?_ | refine X.ret rfl ?_ | (refine X.ite rfl rfl (fun hc=>?_);(first | (with_reducible refine Xb.case hc (fun h=>?_) (fun h=>?_))|(with_reducible refine Xb.caseN hc (fun h=>?_) (fun h=>?_))) <;> clear hc))
  all_goals try (exfalso;omega)
  ·rw [if_pos (by assumption)] at hr
   subst hr
   exact ret_two (v := .agg (cSp ⟨0,0⟩).toArray) (by simp) Tryz.results11 ⟨_,rfl,uW (te rfl) rfl (by repeat (first | exact qH _ | apply qT)) rfl⟩ rfl (H' := H) (by (repeat (first | exact qR _ | apply qC));done) ⟨rfl,rfl⟩
  ·rw [if_neg (by assumption)] at hr
   subst hr
   exact ret_two (v := .agg (cSp s).toArray) (by simp) Tryz.results11 ⟨_,rfl,uW (te rfl) rfl (by repeat (first | exact qH _ | apply qT)) rfl⟩ rfl (H' := H) (by (repeat (first | exact qR _ | apply qC));done) ⟨rfl,rfl⟩
 ·have hy : difF R a b m = (⟨0,0⟩,e):=by unfold difF;rw [if_neg (by rw [he];exact h0),he]
  rw [hy]
  refine Fc.mk (callable Tryz.call11) Tryz.func11 rfl Tryz.ntmps11 rfl ?_;dsimp only [fr]
  repeat' (first | (refine uP rfl ?_;(first | ((first | refine uN rfl ?_);(first | (refine uE (uQ (b:=true) rfl rfl rfl (congrArg some (nd_t (by omega)))) rfl rfl ?_)|(refine Xg.st (StF.buildTwo rfl el55 rfl rfl rfl rfl rfl rfl (by decide) (by decide)) rfl rfl ?_;rintro _ _ ⟨b1,rfl,rfl⟩)|(refine Xg.st (StF.buildOne (v0 := .int .i64 m) rfl el55 rfl rfl rfl (by decide) (by decide)) rfl rfl ?_;rintro _ _ ⟨b2,rfl,rfl⟩)|(refine uE (EvF.build (cs:=cBt ⟨[a,b],some ⟨b1,0,none⟩,2,[m],some ⟨b2,0,none⟩,1⟩) rfl (ArgsP.cons rfl (ArgsP.cons rfl ArgsP.nil)) (te rfl) (Places.cons (te rfl) (Places.cons (te rfl) Places.nil)) Tryz.zeroValue83 rfl) rfl rfl ?_)|(refine uC (uT rfl (Args.cons rfl (Args.cons rfl Args.nil))) rfl rfl (openN (hR.sub (fun _ h=>by repeat (first | exact h | apply qT))) (hbt _ b1 b2 (qT _ (qH _)) (qH _)) h2 he h0) ?_;rintro _ H9 ⟨rfl,hH9⟩;subst H9)|(refine Xg.st (StF.alloc rfl Tryz.zeroValue79 rfl) rfl rfl ?_;rintro _ _ ⟨b8,rfl,rfl⟩)|(refine Xg.st0 (StF.storeAll (i:=0) (vs:=zCt) rfl rfl rfl (te rfl) rfl rfl rfl rfl) rfl ?_;rintro _ _ ⟨rfl,rfl⟩;dsimp only [List.set])|(refine uE (EvF.build (cs:=cSp ⟨0,0⟩) rfl ArgsP.nil (te rfl) (Places.cons (te rfl) (Places.cons (te rfl) Places.nil)) Tryz.zeroValue24 rfl) rfl rfl ?_)|(refine uE (uM rfl rfl) rfl rfl ?_)|(refine uE (uA rfl rfl) rfl rfl ?_)|(refine uE (uL rfl rfl (uW (te rfl) rfl (qT _ (qH _)) rfl)) rfl rfl ?_)|(refine uE (uX rfl rfl rfl) rfl rfl ?_)|(refine Xg.st (StF.boxAgg rfl rfl) rfl rfl ?_;rintro _ _ ⟨bx,rfl,rfl⟩)|(refine Xg.st (StF.alloc rfl Tryz.zeroValue24 rfl) rfl rfl ?_;rintro _ _ ⟨bx,rfl,rfl⟩)|(refine Xg.st0 (StF.storeAll (i:=3) rfl rfl rfl (te rfl) rfl rfl rfl rfl) rfl ?_;rintro _ _ ⟨rfl,rfl⟩;dsimp only [List.set])))))|(refine uD rfl ?_;refine hK _ _ ?_;clear hK K) | refine uS rfl ?_ | refine uR rfl (fun K hK=>?_) | refine X.ret rfl ?_ | (refine X.ite rfl rfl (fun hc=>?_);(first | (with_reducible refine Xb.t hc ?_)) <;> clear hc))
  all_goals try (exfalso;omega)
  exact ret_two (v := .agg (cSp ⟨0,0⟩).toArray) (by simp) Tryz.results11 ⟨_,rfl,uW (te rfl) rfl (by repeat (first | exact qH _ | apply qT)) rfl⟩ rfl (H' := H) (by (repeat (first | exact qR _ | apply qC));done) ⟨rfl,rfl⟩
end Go.Proofs.YtmfppdpkalelhaaGreat
end
