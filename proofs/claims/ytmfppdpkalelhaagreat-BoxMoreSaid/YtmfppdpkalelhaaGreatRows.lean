/-
  No cell of these rows narrows 'for every input' (looked for: loops, veiled, ifaces, maps, wideKeys, modest, calm, conditions, laid).
  DERIVED. THE GIVEN ROWS OF THIS SEAT. 5 by the template 'for every input the law returns true; each argument reads behind the call as it read before'; 0 by the template 'total and deterministic' (their statements: YtmfppdpkalelhaaGreatTotals.lean).
  GIVEN WITH THE SEED: the statements are not yours to turn. If you find one false, say at which input.
  Laid BY PROGRAM, IN A SANDBOX (cutbox-rows.mjs): the forced cells as the released guide's own fill.sh prints them over the translation 8b9f308332915778… (all of the seat's roots in one cut). By AI agents, Wed Nov 11 2026. No macro, syntax, notation, axiom, sorry.
-/
import Derived.Test.YtmfppdpkalelhaaGreatChecked
import GoSem.Claim
import GoSem.ClaimJoined
import GoSem.ClaimMapViews
import Derived.JoinedTies
import Derived.KernelRfl
namespace Go.Proofs.YtmfppdpkalelhaaGreat
/- THE CELL 'sum', in the pinned program and in every row, IS THE sha256 OF THE DUMP (.gsa) THAT YtmfppdpkalelhaaGreatProg.lean LOADS. Nothing in Lean hashes anything: it is a label: what it is worth is what the hold of that sum in a sandbox is worth. -/
noncomputable def Tryz.pinned : Pinned := { name := "ytmfppdpkalelhaagreat", sum := "8b9f3083329157781b7628808eb3c7577085fc30818f32943e99af9c29ef1a14", checked := Tryz.checked }
namespace Rows
def none {H : Type} : Left H := { results := [], args := [] }

/-- 'middlinglaw01.BoxExamples': WHATEVER THE INPUT: true; the input reads as it did. -/
def boxExamplesSpec : ChangeSpec := { name := "boxExamples", fn := fun _ => fun
  | [] => { results := [.lit (.bool true)], args := [] }
  | _ => none }
def boxExamplesRow : OpenClaim := { program := "ytmfppdpkalelhaagreat", sum := "8b9f3083329157781b7628808eb3c7577085fc30818f32943e99af9c29ef1a14", func := "middling/middlinglaw01.BoxExamples", spec := "boxExamples", inPlace := ["slices.overlaps[middling/api.Match]", "slices.overlaps[middling/api.Box]"], unfollowed := true, recurses := true, apart := false }
def BoxExamplesSaid : Prop := boxExamplesRow.holds Tryz.pinned (OpenSpec.ofChange boxExamplesSpec)

/-- ITS FALSE NEIGHBOUR: 'it returns false'. Refute it at one input. -/
def boxExamplesWrong : ChangeSpec := { name := "boxExamples", fn := fun _ => fun
  | [] => { results := [.lit (.bool false)], args := [] }
  | _ => none }
def BoxExamplesWrongFalsely : Prop := boxExamplesRow.holds Tryz.pinned (OpenSpec.ofChange boxExamplesWrong)

/-- 'middlinglaw01.BoxExact': WHATEVER THE INPUT: true; the input reads as it did. -/
def boxExactSpec : ChangeSpec := { name := "boxExact", fn := fun _ => fun
  | [d1, d2, d3, d4, d5] => { results := [.lit (.bool true)], args := [d1, d2, d3, d4, d5] }
  | _ => none }
def boxExactRow : OpenClaim := { program := "ytmfppdpkalelhaagreat", sum := "8b9f3083329157781b7628808eb3c7577085fc30818f32943e99af9c29ef1a14", func := "middling/middlinglaw01.BoxExact", spec := "boxExact", inPlace := ["slices.overlaps[middling/api.Match]"], unfollowed := true, recurses := true, apart := false }
def BoxExactSaid : Prop := boxExactRow.holds Tryz.pinned (OpenSpec.ofChange boxExactSpec)

/-- ITS FALSE NEIGHBOUR: 'it returns false'. Refute it at one input. -/
def boxExactWrong : ChangeSpec := { name := "boxExact", fn := fun _ => fun
  | [d1, d2, d3, d4, d5] => { results := [.lit (.bool false)], args := [d1, d2, d3, d4, d5] }
  | _ => none }
def BoxExactWrongFalsely : Prop := boxExactRow.holds Tryz.pinned (OpenSpec.ofChange boxExactWrong)

/-- 'middlinglaw01.BoxMore': WHATEVER THE INPUT: true; the input reads as it did. -/
def boxMoreSpec : ChangeSpec := { name := "boxMore", fn := fun _ => fun
  | [d1, d2, d3, d4, d5, d6, d7, d8] => { results := [.lit (.bool true)], args := [d1, d2, d3, d4, d5, d6, d7, d8] }
  | _ => none }
def boxMoreRow : OpenClaim := { program := "ytmfppdpkalelhaagreat", sum := "8b9f3083329157781b7628808eb3c7577085fc30818f32943e99af9c29ef1a14", func := "middling/middlinglaw01.BoxMore", spec := "boxMore", inPlace := ["slices.overlaps[middling/api.Match]"], unfollowed := true, recurses := true, apart := false }
def BoxMoreSaid : Prop := boxMoreRow.holds Tryz.pinned (OpenSpec.ofChange boxMoreSpec)

/-- ITS FALSE NEIGHBOUR: 'it returns false'. Refute it at one input. -/
def boxMoreWrong : ChangeSpec := { name := "boxMore", fn := fun _ => fun
  | [d1, d2, d3, d4, d5, d6, d7, d8] => { results := [.lit (.bool false)], args := [d1, d2, d3, d4, d5, d6, d7, d8] }
  | _ => none }
def BoxMoreWrongFalsely : Prop := boxMoreRow.holds Tryz.pinned (OpenSpec.ofChange boxMoreWrong)

/-- 'middlinglaw01.BoxWhy': WHATEVER THE INPUT: true; the input reads as it did. -/
def boxWhySpec : ChangeSpec := { name := "boxWhy", fn := fun _ => fun
  | [d1, d2, d3, d4] => { results := [.lit (.bool true)], args := [d1, d2, d3, d4] }
  | _ => none }
def boxWhyRow : OpenClaim := { program := "ytmfppdpkalelhaagreat", sum := "8b9f3083329157781b7628808eb3c7577085fc30818f32943e99af9c29ef1a14", func := "middling/middlinglaw01.BoxWhy", spec := "boxWhy", unfollowed := true, recurses := true, apart := false }
def BoxWhySaid : Prop := boxWhyRow.holds Tryz.pinned (OpenSpec.ofChange boxWhySpec)

/-- ITS FALSE NEIGHBOUR: 'it returns false'. Refute it at one input. -/
def boxWhyWrong : ChangeSpec := { name := "boxWhy", fn := fun _ => fun
  | [d1, d2, d3, d4] => { results := [.lit (.bool false)], args := [d1, d2, d3, d4] }
  | _ => none }
def BoxWhyWrongFalsely : Prop := boxWhyRow.holds Tryz.pinned (OpenSpec.ofChange boxWhyWrong)

/-- 'middlinglaw01.BoxWrong': WHATEVER THE INPUT: true; the input reads as it did. -/
def boxWrongSpec : ChangeSpec := { name := "boxWrong", fn := fun _ => fun
  | [d1, d2] => { results := [.lit (.bool true)], args := [d1, d2] }
  | _ => none }
def boxWrongRow : OpenClaim := { program := "ytmfppdpkalelhaagreat", sum := "8b9f3083329157781b7628808eb3c7577085fc30818f32943e99af9c29ef1a14", func := "middling/middlinglaw01.BoxWrong", spec := "boxWrong", unfollowed := true, recurses := true, apart := false }
def BoxWrongSaid : Prop := boxWrongRow.holds Tryz.pinned (OpenSpec.ofChange boxWrongSpec)

/-- ITS FALSE NEIGHBOUR: 'it returns false'. Refute it at one input. -/
def boxWrongWrong : ChangeSpec := { name := "boxWrong", fn := fun _ => fun
  | [d1, d2] => { results := [.lit (.bool false)], args := [d1, d2] }
  | _ => none }
def BoxWrongWrongFalsely : Prop := boxWrongRow.holds Tryz.pinned (OpenSpec.ofChange boxWrongWrong)

/- THE SECOND FORM. 'bulk': how many values and letters a reading holds, each counted each time it is reached (what is shared counts as often as it is met; a slice's spare places count too). A statement '..UptoSaid' is the law's where the arguments, and the package variables that the reading takes, are together of bulk at most 1048576: NARROWER than '..Said'. Prove '..Said' where nothing that the law and all that it calls make is longer than what came in: it says more and counts as full. Else prove '..UptoSaid'. A law counts once. -/
mutual
def uptoBulk {H : Type} : DataW H → Nat
  | .lit (.string bytes) => bytes.length + 1
  | .lit _ => 1
  | .nil => 1
  | .ptr d => uptoBulk d + 1
  | .slice elems spare => uptoBulkAll elems + uptoBulkAll spare + 1
  | .agg parts => uptoBulkAll parts + 1
  | .iface _ d => uptoBulk d + 1
  | .map entries => uptoBulkEntries entries + 1
  | .held _ => 1
def uptoBulkAll {H : Type} : List (DataW H) → Nat
  | [] => 0
  | d :: r => uptoBulk d + uptoBulkAll r
def uptoBulkEntries {H : Type} : List (Lit × DataW H) → Nat
  | [] => 0
  | x :: r => uptoBulkEntry x + uptoBulkEntries r
def uptoBulkEntry {H : Type} : Lit × DataW H → Nat
  | (.string bytes, d) => bytes.length + uptoBulk d + 1
  | (_, d) => uptoBulk d + 1
 end
def uptoSmall : (H : Type) → List (DataW H) → Bool := fun _ ds => decide (uptoBulkAll ds ≤ 1048576)
def OpenSpec.upto (s : _root_.Go.ChangeSpec) : _root_.Go.OpenSpec := { _root_.Go.OpenSpec.ofChange s with cond := some uptoSmall }

/-- 'middlinglaw01.BoxExamples', WHERE WHAT IT READS IS OF BULK AT MOST 1048576: true; the input reads as it did. -/
def boxExamplesUptoRow : OpenClaim := { program := "ytmfppdpkalelhaagreat", sum := "8b9f3083329157781b7628808eb3c7577085fc30818f32943e99af9c29ef1a14", func := "middling/middlinglaw01.BoxExamples", spec := "boxExamples", inPlace := ["slices.overlaps[middling/api.Match]", "slices.overlaps[middling/api.Box]"], unfollowed := true, recurses := true, apart := false, narrowed := true }
def BoxExamplesUptoSaid : Prop := boxExamplesUptoRow.holds Tryz.pinned (OpenSpec.upto boxExamplesSpec)

/-- 'middlinglaw01.BoxExact', WHERE WHAT IT READS IS OF BULK AT MOST 1048576: true; the input reads as it did. -/
def boxExactUptoRow : OpenClaim := { program := "ytmfppdpkalelhaagreat", sum := "8b9f3083329157781b7628808eb3c7577085fc30818f32943e99af9c29ef1a14", func := "middling/middlinglaw01.BoxExact", spec := "boxExact", inPlace := ["slices.overlaps[middling/api.Match]"], unfollowed := true, recurses := true, apart := false, narrowed := true }
def BoxExactUptoSaid : Prop := boxExactUptoRow.holds Tryz.pinned (OpenSpec.upto boxExactSpec)

/-- 'middlinglaw01.BoxMore', WHERE WHAT IT READS IS OF BULK AT MOST 1048576: true; the input reads as it did. -/
def boxMoreUptoRow : OpenClaim := { program := "ytmfppdpkalelhaagreat", sum := "8b9f3083329157781b7628808eb3c7577085fc30818f32943e99af9c29ef1a14", func := "middling/middlinglaw01.BoxMore", spec := "boxMore", inPlace := ["slices.overlaps[middling/api.Match]"], unfollowed := true, recurses := true, apart := false, narrowed := true }
def BoxMoreUptoSaid : Prop := boxMoreUptoRow.holds Tryz.pinned (OpenSpec.upto boxMoreSpec)

/-- 'middlinglaw01.BoxWhy', WHERE WHAT IT READS IS OF BULK AT MOST 1048576: true; the input reads as it did. -/
def boxWhyUptoRow : OpenClaim := { program := "ytmfppdpkalelhaagreat", sum := "8b9f3083329157781b7628808eb3c7577085fc30818f32943e99af9c29ef1a14", func := "middling/middlinglaw01.BoxWhy", spec := "boxWhy", unfollowed := true, recurses := true, apart := false, narrowed := true }
def BoxWhyUptoSaid : Prop := boxWhyUptoRow.holds Tryz.pinned (OpenSpec.upto boxWhySpec)

/-- 'middlinglaw01.BoxWrong', WHERE WHAT IT READS IS OF BULK AT MOST 1048576: true; the input reads as it did. -/
def boxWrongUptoRow : OpenClaim := { program := "ytmfppdpkalelhaagreat", sum := "8b9f3083329157781b7628808eb3c7577085fc30818f32943e99af9c29ef1a14", func := "middling/middlinglaw01.BoxWrong", spec := "boxWrong", unfollowed := true, recurses := true, apart := false, narrowed := true }
def BoxWrongUptoSaid : Prop := boxWrongUptoRow.holds Tryz.pinned (OpenSpec.upto boxWrongSpec)

end Rows
end Go.Proofs.YtmfppdpkalelhaaGreat
