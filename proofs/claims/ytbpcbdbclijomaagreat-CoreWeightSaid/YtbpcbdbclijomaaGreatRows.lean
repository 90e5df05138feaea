/-
  No cell of these rows narrows 'for every input' (looked for: loops, veiled, ifaces, maps, wideKeys, modest, calm, conditions, laid).
  DERIVED. THE GIVEN ROWS OF THIS SEAT. 8 by the template 'for every input the law returns true; each argument reads behind the call as it read before'; 0 by the template 'total and deterministic' (their statements: YtbpcbdbclijomaaGreatTotals.lean).
  GIVEN WITH THE SEED: the statements are not yours to turn. If you find one false, say at which input.
  Laid BY PROGRAM, IN A SANDBOX (cutbox-rows.mjs): the forced cells as the released guide's own fill.sh prints them over the translation b97ef14f9a2b8b26… (all of the seat's roots in one cut). By AI agents, Wed Nov 11 2026. No macro, syntax, notation, axiom, sorry.
-/
import Derived.Test.YtbpcbdbclijomaaGreatChecked
import GoSem.Claim
import GoSem.ClaimJoined
import GoSem.ClaimMapViews
import Derived.JoinedTies
import Derived.KernelRfl
namespace Go.Proofs.YtbpcbdbclijomaaGreat
/- THE CELL 'sum', in the pinned program and in every row, IS THE sha256 OF THE DUMP (.gsa) THAT YtbpcbdbclijomaaGreatProg.lean LOADS. Nothing in Lean hashes anything: it is a label: what it is worth is what the hold of that sum in a sandbox is worth. -/
noncomputable def Tryz.pinned : Pinned := { name := "ytbpcbdbclijomaagreat", sum := "b97ef14f9a2b8b260149af844d453c08a290a64ad779a78ba7eb619b5a1c2200", checked := Tryz.checked }
namespace Rows
def none {H : Type} : Left H := { results := [], args := [] }

/-- 'middlinglaw03.CoreExamples': WHATEVER THE INPUT: true; the input reads as it did. -/
def coreExamplesSpec : ChangeSpec := { name := "coreExamples", fn := fun _ => fun
  | [] => { results := [.lit (.bool true)], args := [] }
  | _ => none }
def coreExamplesRow : OpenClaim := { program := "ytbpcbdbclijomaagreat", sum := "b97ef14f9a2b8b260149af844d453c08a290a64ad779a78ba7eb619b5a1c2200", func := "middling/middlinglaw03.CoreExamples", spec := "coreExamples", inPlace := ["slices.overlaps[middling/api.Draw]", "slices.overlaps[middling/api.Weigh]"], unfollowed := true, recurses := true, plainKeys := false, apart := false }
def CoreExamplesSaid : Prop := coreExamplesRow.holds Tryz.pinned (OpenSpec.ofChange coreExamplesSpec)

/-- ITS FALSE NEIGHBOUR: 'it returns false'. Refute it at one input. -/
def coreExamplesWrong : ChangeSpec := { name := "coreExamples", fn := fun _ => fun
  | [] => { results := [.lit (.bool false)], args := [] }
  | _ => none }
def CoreExamplesWrongFalsely : Prop := coreExamplesRow.holds Tryz.pinned (OpenSpec.ofChange coreExamplesWrong)

/-- 'middlinglaw03.CoreTruth': WHATEVER THE INPUT: true; the input reads as it did. -/
def coreTruthSpec : ChangeSpec := { name := "coreTruth", fn := fun _ => fun
  | [d1, d2] => { results := [.lit (.bool true)], args := [d1, d2] }
  | _ => none }
def coreTruthRow : OpenClaim := { program := "ytbpcbdbclijomaagreat", sum := "b97ef14f9a2b8b260149af844d453c08a290a64ad779a78ba7eb619b5a1c2200", func := "middling/middlinglaw03.CoreTruth", spec := "coreTruth", unfollowed := true, recurses := true, plainKeys := false, apart := false }
def CoreTruthSaid : Prop := coreTruthRow.holds Tryz.pinned (OpenSpec.ofChange coreTruthSpec)

/-- ITS FALSE NEIGHBOUR: 'it returns false'. Refute it at one input. -/
def coreTruthWrong : ChangeSpec := { name := "coreTruth", fn := fun _ => fun
  | [d1, d2] => { results := [.lit (.bool false)], args := [d1, d2] }
  | _ => none }
def CoreTruthWrongFalsely : Prop := coreTruthRow.holds Tryz.pinned (OpenSpec.ofChange coreTruthWrong)

/-- 'middlinglaw03.CoreWeight': WHATEVER THE INPUT: true; the input reads as it did. -/
def coreWeightSpec : ChangeSpec := { name := "coreWeight", fn := fun _ => fun
  | [d1, d2, d3] => { results := [.lit (.bool true)], args := [d1, d2, d3] }
  | _ => none }
def coreWeightRow : OpenClaim := { program := "ytbpcbdbclijomaagreat", sum := "b97ef14f9a2b8b260149af844d453c08a290a64ad779a78ba7eb619b5a1c2200", func := "middling/middlinglaw03.CoreWeight", spec := "coreWeight", unfollowed := true, recurses := true, plainKeys := false, apart := false }
def CoreWeightSaid : Prop := coreWeightRow.holds Tryz.pinned (OpenSpec.ofChange coreWeightSpec)

/-- ITS FALSE NEIGHBOUR: 'it returns false'. Refute it at one input. -/
def coreWeightWrong : ChangeSpec := { name := "coreWeight", fn := fun _ => fun
  | [d1, d2, d3] => { results := [.lit (.bool false)], args := [d1, d2, d3] }
  | _ => none }
def CoreWeightWrongFalsely : Prop := coreWeightRow.holds Tryz.pinned (OpenSpec.ofChange coreWeightWrong)

/-- 'middlinglaw03.CoreMore': WHATEVER THE INPUT: true; the input reads as it did. -/
def coreMoreSpec : ChangeSpec := { name := "coreMore", fn := fun _ => fun
  | [d1, d2, d3, d4, d5, d6, d7, d8] => { results := [.lit (.bool true)], args := [d1, d2, d3, d4, d5, d6, d7, d8] }
  | _ => none }
def coreMoreRow : OpenClaim := { program := "ytbpcbdbclijomaagreat", sum := "b97ef14f9a2b8b260149af844d453c08a290a64ad779a78ba7eb619b5a1c2200", func := "middling/middlinglaw03.CoreMore", spec := "coreMore", inPlace := ["slices.overlaps[middling/api.Draw]", "slices.overlaps[middling/api.Weigh]"], unfollowed := true, recurses := true, plainKeys := false, apart := false }
def CoreMoreSaid : Prop := coreMoreRow.holds Tryz.pinned (OpenSpec.ofChange coreMoreSpec)

/-- ITS FALSE NEIGHBOUR: 'it returns false'. Refute it at one input. -/
def coreMoreWrong : ChangeSpec := { name := "coreMore", fn := fun _ => fun
  | [d1, d2, d3, d4, d5, d6, d7, d8] => { results := [.lit (.bool false)], args := [d1, d2, d3, d4, d5, d6, d7, d8] }
  | _ => none }
def CoreMoreWrongFalsely : Prop := coreMoreRow.holds Tryz.pinned (OpenSpec.ofChange coreMoreWrong)

/-- 'middlinglaw03.CoreDecide': WHATEVER THE INPUT: true; the input reads as it did. -/
def coreDecideSpec : ChangeSpec := { name := "coreDecide", fn := fun _ => fun
  | [d1, d2, d3, d4] => { results := [.lit (.bool true)], args := [d1, d2, d3, d4] }
  | _ => none }
def coreDecideRow : OpenClaim := { program := "ytbpcbdbclijomaagreat", sum := "b97ef14f9a2b8b260149af844d453c08a290a64ad779a78ba7eb619b5a1c2200", func := "middling/middlinglaw03.CoreDecide", spec := "coreDecide", unfollowed := true, recurses := true, plainKeys := false, apart := false }
def CoreDecideSaid : Prop := coreDecideRow.holds Tryz.pinned (OpenSpec.ofChange coreDecideSpec)

/-- ITS FALSE NEIGHBOUR: 'it returns false'. Refute it at one input. -/
def coreDecideWrong : ChangeSpec := { name := "coreDecide", fn := fun _ => fun
  | [d1, d2, d3, d4] => { results := [.lit (.bool false)], args := [d1, d2, d3, d4] }
  | _ => none }
def CoreDecideWrongFalsely : Prop := coreDecideRow.holds Tryz.pinned (OpenSpec.ofChange coreDecideWrong)

/-- 'middlinglaw03.CoreAsk': WHATEVER THE INPUT: true; the input reads as it did. -/
def coreAskSpec : ChangeSpec := { name := "coreAsk", fn := fun _ => fun
  | [d1, d2, d3] => { results := [.lit (.bool true)], args := [d1, d2, d3] }
  | _ => none }
def coreAskRow : OpenClaim := { program := "ytbpcbdbclijomaagreat", sum := "b97ef14f9a2b8b260149af844d453c08a290a64ad779a78ba7eb619b5a1c2200", func := "middling/middlinglaw03.CoreAsk", spec := "coreAsk", unfollowed := true, recurses := true, plainKeys := false, apart := false }
def CoreAskSaid : Prop := coreAskRow.holds Tryz.pinned (OpenSpec.ofChange coreAskSpec)

/-- ITS FALSE NEIGHBOUR: 'it returns false'. Refute it at one input. -/
def coreAskWrong : ChangeSpec := { name := "coreAsk", fn := fun _ => fun
  | [d1, d2, d3] => { results := [.lit (.bool false)], args := [d1, d2, d3] }
  | _ => none }
def CoreAskWrongFalsely : Prop := coreAskRow.holds Tryz.pinned (OpenSpec.ofChange coreAskWrong)

/-- 'middlinglaw03.CoreWrong': WHATEVER THE INPUT: true; the input reads as it did. -/
def coreWrongSpec : ChangeSpec := { name := "coreWrong", fn := fun _ => fun
  | [d1, d2, d3] => { results := [.lit (.bool true)], args := [d1, d2, d3] }
  | _ => none }
def coreWrongRow : OpenClaim := { program := "ytbpcbdbclijomaagreat", sum := "b97ef14f9a2b8b260149af844d453c08a290a64ad779a78ba7eb619b5a1c2200", func := "middling/middlinglaw03.CoreWrong", spec := "coreWrong", unfollowed := true, recurses := true, plainKeys := false, apart := false }
def CoreWrongSaid : Prop := coreWrongRow.holds Tryz.pinned (OpenSpec.ofChange coreWrongSpec)

/-- ITS FALSE NEIGHBOUR: 'it returns false'. Refute it at one input. -/
def coreWrongWrong : ChangeSpec := { name := "coreWrong", fn := fun _ => fun
  | [d1, d2, d3] => { results := [.lit (.bool false)], args := [d1, d2, d3] }
  | _ => none }
def CoreWrongWrongFalsely : Prop := coreWrongRow.holds Tryz.pinned (OpenSpec.ofChange coreWrongWrong)

/-- 'middlinglaw03.CoreKind': WHATEVER THE INPUT: true; the input reads as it did. -/
def coreKindSpec : ChangeSpec := { name := "coreKind", fn := fun _ => fun
  | [d] => { results := [.lit (.bool true)], args := [d] }
  | _ => none }
def coreKindRow : OpenClaim := { program := "ytbpcbdbclijomaagreat", sum := "b97ef14f9a2b8b260149af844d453c08a290a64ad779a78ba7eb619b5a1c2200", func := "middling/middlinglaw03.CoreKind", spec := "coreKind", unfollowed := true, recurses := true, plainKeys := false, apart := false }
def CoreKindSaid : Prop := coreKindRow.holds Tryz.pinned (OpenSpec.ofChange coreKindSpec)

/-- ITS FALSE NEIGHBOUR: 'it returns false'. Refute it at one input. -/
def coreKindWrong : ChangeSpec := { name := "coreKind", fn := fun _ => fun
  | [d] => { results := [.lit (.bool false)], args := [d] }
  | _ => none }
def CoreKindWrongFalsely : Prop := coreKindRow.holds Tryz.pinned (OpenSpec.ofChange coreKindWrong)

/- THE SECOND FORM. 'bulk': how many values and letters a reading holds, each counted each time it is reached (what is shared counts as often as it is met; a slice's spare places count too). A statement '..UptoSaid' is the law's where the arguments, and the package variables that the reading takes, are together of bulk at most 1048576: NARROWER than '..Said'. Prove '..Said' where nothing that the law and all that it calls make is longer than what came in: it says more and counts as full. Else prove '..UptoSaid'. A law counts once. -/
mutual
def uptoBulk {H : Type} : DataW H → Nat
  | .lit (.string bytes) => bytes.length + 1
  | .lit _ => 1
  | .nil => 1
  | .ptr d => uptoBulk d + 1
  | .slice elems spare => uptoBulkAll elems + uptoBulkAll spare + 1
  | .agg parts => uptoBulkAll parts + 1
  | .iface _ d => uptoBulk d + 1
  | .map entries => uptoBulkEntries entries + 1
  | .held _ => 1
def uptoBulkAll {H : Type} : List (DataW H) → Nat
  | [] => 0
  | d :: r => uptoBulk d + uptoBulkAll r
def uptoBulkEntries {H : Type} : List (Lit × DataW H) → Nat
  | [] => 0
  | x :: r => uptoBulkEntry x + uptoBulkEntries r
def uptoBulkEntry {H : Type} : Lit × DataW H → Nat
  | (.string bytes, d) => bytes.length + uptoBulk d + 1
  | (_, d) => uptoBulk d + 1
 end
def uptoSmall : (H : Type) → List (DataW H) → Bool := fun _ ds => decide (uptoBulkAll ds ≤ 1048576)
def OpenSpec.upto (s : _root_.Go.ChangeSpec) : _root_.Go.OpenSpec := { _root_.Go.OpenSpec.ofChange s with cond := some uptoSmall }

/-- 'middlinglaw03.CoreExamples', WHERE WHAT IT READS IS OF BULK AT MOST 1048576: true; the input reads as it did. -/
def coreExamplesUptoRow : OpenClaim := { program := "ytbpcbdbclijomaagreat", sum := "b97ef14f9a2b8b260149af844d453c08a290a64ad779a78ba7eb619b5a1c2200", func := "middling/middlinglaw03.CoreExamples", spec := "coreExamples", inPlace := ["slices.overlaps[middling/api.Draw]", "slices.overlaps[middling/api.Weigh]"], unfollowed := true, recurses := true, plainKeys := false, apart := false, narrowed := true }
def CoreExamplesUptoSaid : Prop := coreExamplesUptoRow.holds Tryz.pinned (OpenSpec.upto coreExamplesSpec)

/-- 'middlinglaw03.CoreTruth', WHERE WHAT IT READS IS OF BULK AT MOST 1048576: true; the input reads as it did. -/
def coreTruthUptoRow : OpenClaim := { program := "ytbpcbdbclijomaagreat", sum := "b97ef14f9a2b8b260149af844d453c08a290a64ad779a78ba7eb619b5a1c2200", func := "middling/middlinglaw03.CoreTruth", spec := "coreTruth", unfollowed := true, recurses := true, plainKeys := false, apart := false, narrowed := true }
def CoreTruthUptoSaid : Prop := coreTruthUptoRow.holds Tryz.pinned (OpenSpec.upto coreTruthSpec)

/-- 'middlinglaw03.CoreWeight', WHERE WHAT IT READS IS OF BULK AT MOST 1048576: true; the input reads as it did. -/
def coreWeightUptoRow : OpenClaim := { program := "ytbpcbdbclijomaagreat", sum := "b97ef14f9a2b8b260149af844d453c08a290a64ad779a78ba7eb619b5a1c2200", func := "middling/middlinglaw03.CoreWeight", spec := "coreWeight", unfollowed := true, recurses := true, plainKeys := false, apart := false, narrowed := true }
def CoreWeightUptoSaid : Prop := coreWeightUptoRow.holds Tryz.pinned (OpenSpec.upto coreWeightSpec)

/-- 'middlinglaw03.CoreMore', WHERE WHAT IT READS IS OF BULK AT MOST 1048576: true; the input reads as it did. -/
def coreMoreUptoRow : OpenClaim := { program := "ytbpcbdbclijomaagreat", sum := "b97ef14f9a2b8b260149af844d453c08a290a64ad779a78ba7eb619b5a1c2200", func := "middling/middlinglaw03.CoreMore", spec := "coreMore", inPlace := ["slices.overlaps[middling/api.Draw]", "slices.overlaps[middling/api.Weigh]"], unfollowed := true, recurses := true, plainKeys := false, apart := false, narrowed := true }
def CoreMoreUptoSaid : Prop := coreMoreUptoRow.holds Tryz.pinned (OpenSpec.upto coreMoreSpec)

/-- 'middlinglaw03.CoreDecide', WHERE WHAT IT READS IS OF BULK AT MOST 1048576: true; the input reads as it did. -/
def coreDecideUptoRow : OpenClaim := { program := "ytbpcbdbclijomaagreat", sum := "b97ef14f9a2b8b260149af844d453c08a290a64ad779a78ba7eb619b5a1c2200", func := "middling/middlinglaw03.CoreDecide", spec := "coreDecide", unfollowed := true, recurses := true, plainKeys := false, apart := false, narrowed := true }
def CoreDecideUptoSaid : Prop := coreDecideUptoRow.holds Tryz.pinned (OpenSpec.upto coreDecideSpec)

/-- 'middlinglaw03.CoreAsk', WHERE WHAT IT READS IS OF BULK AT MOST 1048576: true; the input reads as it did. -/
def coreAskUptoRow : OpenClaim := { program := "ytbpcbdbclijomaagreat", sum := "b97ef14f9a2b8b260149af844d453c08a290a64ad779a78ba7eb619b5a1c2200", func := "middling/middlinglaw03.CoreAsk", spec := "coreAsk", unfollowed := true, recurses := true, plainKeys := false, apart := false, narrowed := true }
def CoreAskUptoSaid : Prop := coreAskUptoRow.holds Tryz.pinned (OpenSpec.upto coreAskSpec)

/-- 'middlinglaw03.CoreWrong', WHERE WHAT IT READS IS OF BULK AT MOST 1048576: true; the input reads as it did. -/
def coreWrongUptoRow : OpenClaim := { program := "ytbpcbdbclijomaagreat", sum := "b97ef14f9a2b8b260149af844d453c08a290a64ad779a78ba7eb619b5a1c2200", func := "middling/middlinglaw03.CoreWrong", spec := "coreWrong", unfollowed := true, recurses := true, plainKeys := false, apart := false, narrowed := true }
def CoreWrongUptoSaid : Prop := coreWrongUptoRow.holds Tryz.pinned (OpenSpec.upto coreWrongSpec)

/-- 'middlinglaw03.CoreKind', WHERE WHAT IT READS IS OF BULK AT MOST 1048576: true; the input reads as it did. -/
def coreKindUptoRow : OpenClaim := { program := "ytbpcbdbclijomaagreat", sum := "b97ef14f9a2b8b260149af844d453c08a290a64ad779a78ba7eb619b5a1c2200", func := "middling/middlinglaw03.CoreKind", spec := "coreKind", unfollowed := true, recurses := true, plainKeys := false, apart := false, narrowed := true }
def CoreKindUptoSaid : Prop := coreKindUptoRow.holds Tryz.pinned (OpenSpec.upto coreKindSpec)

end Rows
end Go.Proofs.YtbpcbdbclijomaaGreat
