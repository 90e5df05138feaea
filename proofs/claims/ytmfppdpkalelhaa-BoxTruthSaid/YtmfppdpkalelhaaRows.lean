/-
  No cell of these rows narrows 'for every input' (looked for: loops, veiled, ifaces, maps, wideKeys, modest, calm, conditions, laid).
  DERIVED. THE GIVEN ROWS OF THIS SEAT. 10 by the template 'for every input the law returns true; each argument reads behind the call as it read before'; 0 by the template 'total and deterministic' (their statements: YtmfppdpkalelhaaTotals.lean).
  GIVEN WITH THE SEED: the statements are not yours to turn. If you find one false, say at which input.
  Laid BY PROGRAM, IN A SANDBOX (cutbox-rows.mjs): the forced cells as the released guide's own fill.sh prints them over the translation 24d0938f397f6835… (all of the seat's roots in one cut). By AI agents, Wed Nov 11 2026. No macro, syntax, notation, axiom, sorry.
-/
import Derived.Test.YtmfppdpkalelhaaChecked
import GoSem.Claim
import GoSem.ClaimJoined
import GoSem.ClaimMapViews
import Derived.JoinedTies
import Derived.KernelRfl
namespace Go.Proofs.Ytmfppdpkalelhaa
/- THE CELL 'sum', in the pinned program and in every row, IS THE sha256 OF THE DUMP (.gsa) THAT YtmfppdpkalelhaaProg.lean LOADS. Nothing in Lean hashes anything: it is a label: what it is worth is what the hold of that sum in a sandbox is worth. -/
noncomputable def Try.pinned : Pinned := { name := "ytmfppdpkalelhaa", sum := "24d0938f397f6835e924be5456088049636a2228cb04099cbc524e9026355c5b", checked := Try.checked }
namespace Rows
def none {H : Type} : Left H := { results := [], args := [] }

/-- 'middlinglaw01.BoxTells': WHATEVER THE INPUT: true; the input reads as it did. -/
def boxTellsSpec : ChangeSpec := { name := "boxTells", fn := fun _ => fun
  | [d1, d2, d3, d4] => { results := [.lit (.bool true)], args := [d1, d2, d3, d4] }
  | _ => none }
def boxTellsRow : OpenClaim := { program := "ytmfppdpkalelhaa", sum := "24d0938f397f6835e924be5456088049636a2228cb04099cbc524e9026355c5b", func := "middling/middlinglaw01.BoxTells", spec := "boxTells", unfollowed := true, recurses := true, apart := false }
def BoxTellsSaid : Prop := boxTellsRow.holds Try.pinned (OpenSpec.ofChange boxTellsSpec)

/-- ITS FALSE NEIGHBOUR: 'it returns false'. Refute it at one input. -/
def boxTellsWrong : ChangeSpec := { name := "boxTells", fn := fun _ => fun
  | [d1, d2, d3, d4] => { results := [.lit (.bool false)], args := [d1, d2, d3, d4] }
  | _ => none }
def BoxTellsWrongFalsely : Prop := boxTellsRow.holds Try.pinned (OpenSpec.ofChange boxTellsWrong)

/-- 'middlinglaw01.BoxJudges': WHATEVER THE INPUT: true; the input reads as it did. -/
def boxJudgesSpec : ChangeSpec := { name := "boxJudges", fn := fun _ => fun
  | [d1, d2, d3, d4, d5] => { results := [.lit (.bool true)], args := [d1, d2, d3, d4, d5] }
  | _ => none }
def boxJudgesRow : OpenClaim := { program := "ytmfppdpkalelhaa", sum := "24d0938f397f6835e924be5456088049636a2228cb04099cbc524e9026355c5b", func := "middling/middlinglaw01.BoxJudges", spec := "boxJudges", unfollowed := true, recurses := true, apart := false }
def BoxJudgesSaid : Prop := boxJudgesRow.holds Try.pinned (OpenSpec.ofChange boxJudgesSpec)

/-- ITS FALSE NEIGHBOUR: 'it returns false'. Refute it at one input. -/
def boxJudgesWrong : ChangeSpec := { name := "boxJudges", fn := fun _ => fun
  | [d1, d2, d3, d4, d5] => { results := [.lit (.bool false)], args := [d1, d2, d3, d4, d5] }
  | _ => none }
def BoxJudgesWrongFalsely : Prop := boxJudgesRow.holds Try.pinned (OpenSpec.ofChange boxJudgesWrong)

/-- 'middlinglaw01.BoxFinds': WHATEVER THE INPUT: true; the input reads as it did. -/
def boxFindsSpec : ChangeSpec := { name := "boxFinds", fn := fun _ => fun
  | [d1, d2, d3] => { results := [.lit (.bool true)], args := [d1, d2, d3] }
  | _ => none }
def boxFindsRow : OpenClaim := { program := "ytmfppdpkalelhaa", sum := "24d0938f397f6835e924be5456088049636a2228cb04099cbc524e9026355c5b", func := "middling/middlinglaw01.BoxFinds", spec := "boxFinds", unfollowed := true, recurses := true, apart := false }
def BoxFindsSaid : Prop := boxFindsRow.holds Try.pinned (OpenSpec.ofChange boxFindsSpec)

/-- ITS FALSE NEIGHBOUR: 'it returns false'. Refute it at one input. -/
def boxFindsWrong : ChangeSpec := { name := "boxFinds", fn := fun _ => fun
  | [d1, d2, d3] => { results := [.lit (.bool false)], args := [d1, d2, d3] }
  | _ => none }
def BoxFindsWrongFalsely : Prop := boxFindsRow.holds Try.pinned (OpenSpec.ofChange boxFindsWrong)

/-- 'middlinglaw01.BoxProves': WHATEVER THE INPUT: true; the input reads as it did. -/
def boxProvesSpec : ChangeSpec := { name := "boxProves", fn := fun _ => fun
  | [d1, d2, d3] => { results := [.lit (.bool true)], args := [d1, d2, d3] }
  | _ => none }
def boxProvesRow : OpenClaim := { program := "ytmfppdpkalelhaa", sum := "24d0938f397f6835e924be5456088049636a2228cb04099cbc524e9026355c5b", func := "middling/middlinglaw01.BoxProves", spec := "boxProves", unfollowed := true, recurses := true, apart := false }
def BoxProvesSaid : Prop := boxProvesRow.holds Try.pinned (OpenSpec.ofChange boxProvesSpec)

/-- ITS FALSE NEIGHBOUR: 'it returns false'. Refute it at one input. -/
def boxProvesWrong : ChangeSpec := { name := "boxProves", fn := fun _ => fun
  | [d1, d2, d3] => { results := [.lit (.bool false)], args := [d1, d2, d3] }
  | _ => none }
def BoxProvesWrongFalsely : Prop := boxProvesRow.holds Try.pinned (OpenSpec.ofChange boxProvesWrong)

/-- 'middlinglaw01.BoxTruth': WHATEVER THE INPUT: true; the input reads as it did. -/
def boxTruthSpec : ChangeSpec := { name := "boxTruth", fn := fun _ => fun
  | [d1, d2, d3] => { results := [.lit (.bool true)], args := [d1, d2, d3] }
  | _ => none }
def boxTruthRow : OpenClaim := { program := "ytmfppdpkalelhaa", sum := "24d0938f397f6835e924be5456088049636a2228cb04099cbc524e9026355c5b", func := "middling/middlinglaw01.BoxTruth", spec := "boxTruth", unfollowed := true, recurses := true, apart := false }
def BoxTruthSaid : Prop := boxTruthRow.holds Try.pinned (OpenSpec.ofChange boxTruthSpec)

/-- ITS FALSE NEIGHBOUR: 'it returns false'. Refute it at one input. -/
def boxTruthWrong : ChangeSpec := { name := "boxTruth", fn := fun _ => fun
  | [d1, d2, d3] => { results := [.lit (.bool false)], args := [d1, d2, d3] }
  | _ => none }
def BoxTruthWrongFalsely : Prop := boxTruthRow.holds Try.pinned (OpenSpec.ofChange boxTruthWrong)

/-- 'middlinglaw01.BoxWay': WHATEVER THE INPUT: true; the input reads as it did. -/
def boxWaySpec : ChangeSpec := { name := "boxWay", fn := fun _ => fun
  | [d1, d2, d3, d4, d5] => { results := [.lit (.bool true)], args := [d1, d2, d3, d4, d5] }
  | _ => none }
def boxWayRow : OpenClaim := { program := "ytmfppdpkalelhaa", sum := "24d0938f397f6835e924be5456088049636a2228cb04099cbc524e9026355c5b", func := "middling/middlinglaw01.BoxWay", spec := "boxWay", unfollowed := true, recurses := true, apart := false }
def BoxWaySaid : Prop := boxWayRow.holds Try.pinned (OpenSpec.ofChange boxWaySpec)

/-- ITS FALSE NEIGHBOUR: 'it returns false'. Refute it at one input. -/
def boxWayWrong : ChangeSpec := { name := "boxWay", fn := fun _ => fun
  | [d1, d2, d3, d4, d5] => { results := [.lit (.bool false)], args := [d1, d2, d3, d4, d5] }
  | _ => none }
def BoxWayWrongFalsely : Prop := boxWayRow.holds Try.pinned (OpenSpec.ofChange boxWayWrong)

/-- 'middlinglaw01.BoxMonths': WHATEVER THE INPUT: true; the input reads as it did. -/
def boxMonthsSpec : ChangeSpec := { name := "boxMonths", fn := fun _ => fun
  | [d1, d2, d3] => { results := [.lit (.bool true)], args := [d1, d2, d3] }
  | _ => none }
def boxMonthsRow : OpenClaim := { program := "ytmfppdpkalelhaa", sum := "24d0938f397f6835e924be5456088049636a2228cb04099cbc524e9026355c5b", func := "middling/middlinglaw01.BoxMonths", spec := "boxMonths", unfollowed := true, recurses := true, apart := false }
def BoxMonthsSaid : Prop := boxMonthsRow.holds Try.pinned (OpenSpec.ofChange boxMonthsSpec)

/-- ITS FALSE NEIGHBOUR: 'it returns false'. Refute it at one input. -/
def boxMonthsWrong : ChangeSpec := { name := "boxMonths", fn := fun _ => fun
  | [d1, d2, d3] => { results := [.lit (.bool false)], args := [d1, d2, d3] }
  | _ => none }
def BoxMonthsWrongFalsely : Prop := boxMonthsRow.holds Try.pinned (OpenSpec.ofChange boxMonthsWrong)

/-- 'middlinglaw01.BoxFresh': WHATEVER THE INPUT: true; the input reads as it did. -/
def boxFreshSpec : ChangeSpec := { name := "boxFresh", fn := fun _ => fun
  | [d1, d2] => { results := [.lit (.bool true)], args := [d1, d2] }
  | _ => none }
def boxFreshRow : OpenClaim := { program := "ytmfppdpkalelhaa", sum := "24d0938f397f6835e924be5456088049636a2228cb04099cbc524e9026355c5b", func := "middling/middlinglaw01.BoxFresh", spec := "boxFresh", unfollowed := true, recurses := true, apart := false }
def BoxFreshSaid : Prop := boxFreshRow.holds Try.pinned (OpenSpec.ofChange boxFreshSpec)

/-- ITS FALSE NEIGHBOUR: 'it returns false'. Refute it at one input. -/
def boxFreshWrong : ChangeSpec := { name := "boxFresh", fn := fun _ => fun
  | [d1, d2] => { results := [.lit (.bool false)], args := [d1, d2] }
  | _ => none }
def BoxFreshWrongFalsely : Prop := boxFreshRow.holds Try.pinned (OpenSpec.ofChange boxFreshWrong)

/-- 'middlinglaw01.BoxDue': WHATEVER THE INPUT: true; the input reads as it did. -/
def boxDueSpec : ChangeSpec := { name := "boxDue", fn := fun _ => fun
  | [d1, d2, d3] => { results := [.lit (.bool true)], args := [d1, d2, d3] }
  | _ => none }
def boxDueRow : OpenClaim := { program := "ytmfppdpkalelhaa", sum := "24d0938f397f6835e924be5456088049636a2228cb04099cbc524e9026355c5b", func := "middling/middlinglaw01.BoxDue", spec := "boxDue", unfollowed := true, recurses := true, apart := false }
def BoxDueSaid : Prop := boxDueRow.holds Try.pinned (OpenSpec.ofChange boxDueSpec)

/-- ITS FALSE NEIGHBOUR: 'it returns false'. Refute it at one input. -/
def boxDueWrong : ChangeSpec := { name := "boxDue", fn := fun _ => fun
  | [d1, d2, d3] => { results := [.lit (.bool false)], args := [d1, d2, d3] }
  | _ => none }
def BoxDueWrongFalsely : Prop := boxDueRow.holds Try.pinned (OpenSpec.ofChange boxDueWrong)

/-- 'middlinglaw01.BoxAsk': WHATEVER THE INPUT: true; the input reads as it did. -/
def boxAskSpec : ChangeSpec := { name := "boxAsk", fn := fun _ => fun
  | [d1, d2, d3, d4] => { results := [.lit (.bool true)], args := [d1, d2, d3, d4] }
  | _ => none }
def boxAskRow : OpenClaim := { program := "ytmfppdpkalelhaa", sum := "24d0938f397f6835e924be5456088049636a2228cb04099cbc524e9026355c5b", func := "middling/middlinglaw01.BoxAsk", spec := "boxAsk", unfollowed := true, recurses := true, apart := false }
def BoxAskSaid : Prop := boxAskRow.holds Try.pinned (OpenSpec.ofChange boxAskSpec)

/-- ITS FALSE NEIGHBOUR: 'it returns false'. Refute it at one input. -/
def boxAskWrong : ChangeSpec := { name := "boxAsk", fn := fun _ => fun
  | [d1, d2, d3, d4] => { results := [.lit (.bool false)], args := [d1, d2, d3, d4] }
  | _ => none }
def BoxAskWrongFalsely : Prop := boxAskRow.holds Try.pinned (OpenSpec.ofChange boxAskWrong)

/- THE SECOND FORM. 'bulk': how many values and letters a reading holds, each counted each time it is reached (what is shared counts as often as it is met; a slice's spare places count too). A statement '..UptoSaid' is the law's where the arguments, and the package variables that the reading takes, are together of bulk at most 1048576: NARROWER than '..Said'. Prove '..Said' where nothing that the law and all that it calls make is longer than what came in: it says more and counts as full. Else prove '..UptoSaid'. A law counts once. -/
mutual
def uptoBulk {H : Type} : DataW H → Nat
  | .lit (.string bytes) => bytes.length + 1
  | .lit _ => 1
  | .nil => 1
  | .ptr d => uptoBulk d + 1
  | .slice elems spare => uptoBulkAll elems + uptoBulkAll spare + 1
  | .agg parts => uptoBulkAll parts + 1
  | .iface _ d => uptoBulk d + 1
  | .map entries => uptoBulkEntries entries + 1
  | .held _ => 1
def uptoBulkAll {H : Type} : List (DataW H) → Nat
  | [] => 0
  | d :: r => uptoBulk d + uptoBulkAll r
def uptoBulkEntries {H : Type} : List (Lit × DataW H) → Nat
  | [] => 0
  | x :: r => uptoBulkEntry x + uptoBulkEntries r
def uptoBulkEntry {H : Type} : Lit × DataW H → Nat
  | (.string bytes, d) => bytes.length + uptoBulk d + 1
  | (_, d) => uptoBulk d + 1
 end
def uptoSmall : (H : Type) → List (DataW H) → Bool := fun _ ds => decide (uptoBulkAll ds ≤ 1048576)
def OpenSpec.upto (s : _root_.Go.ChangeSpec) : _root_.Go.OpenSpec := { _root_.Go.OpenSpec.ofChange s with cond := some uptoSmall }

/-- 'middlinglaw01.BoxTells', WHERE WHAT IT READS IS OF BULK AT MOST 1048576: true; the input reads as it did. -/
def boxTellsUptoRow : OpenClaim := { program := "ytmfppdpkalelhaa", sum := "24d0938f397f6835e924be5456088049636a2228cb04099cbc524e9026355c5b", func := "middling/middlinglaw01.BoxTells", spec := "boxTells", unfollowed := true, recurses := true, apart := false, narrowed := true }
def BoxTellsUptoSaid : Prop := boxTellsUptoRow.holds Try.pinned (OpenSpec.upto boxTellsSpec)

/-- 'middlinglaw01.BoxJudges', WHERE WHAT IT READS IS OF BULK AT MOST 1048576: true; the input reads as it did. -/
def boxJudgesUptoRow : OpenClaim := { program := "ytmfppdpkalelhaa", sum := "24d0938f397f6835e924be5456088049636a2228cb04099cbc524e9026355c5b", func := "middling/middlinglaw01.BoxJudges", spec := "boxJudges", unfollowed := true, recurses := true, apart := false, narrowed := true }
def BoxJudgesUptoSaid : Prop := boxJudgesUptoRow.holds Try.pinned (OpenSpec.upto boxJudgesSpec)

/-- 'middlinglaw01.BoxFinds', WHERE WHAT IT READS IS OF BULK AT MOST 1048576: true; the input reads as it did. -/
def boxFindsUptoRow : OpenClaim := { program := "ytmfppdpkalelhaa", sum := "24d0938f397f6835e924be5456088049636a2228cb04099cbc524e9026355c5b", func := "middling/middlinglaw01.BoxFinds", spec := "boxFinds", unfollowed := true, recurses := true, apart := false, narrowed := true }
def BoxFindsUptoSaid : Prop := boxFindsUptoRow.holds Try.pinned (OpenSpec.upto boxFindsSpec)

/-- 'middlinglaw01.BoxProves', WHERE WHAT IT READS IS OF BULK AT MOST 1048576: true; the input reads as it did. -/
def boxProvesUptoRow : OpenClaim := { program := "ytmfppdpkalelhaa", sum := "24d0938f397f6835e924be5456088049636a2228cb04099cbc524e9026355c5b", func := "middling/middlinglaw01.BoxProves", spec := "boxProves", unfollowed := true, recurses := true, apart := false, narrowed := true }
def BoxProvesUptoSaid : Prop := boxProvesUptoRow.holds Try.pinned (OpenSpec.upto boxProvesSpec)

/-- 'middlinglaw01.BoxTruth', WHERE WHAT IT READS IS OF BULK AT MOST 1048576: true; the input reads as it did. -/
def boxTruthUptoRow : OpenClaim := { program := "ytmfppdpkalelhaa", sum := "24d0938f397f6835e924be5456088049636a2228cb04099cbc524e9026355c5b", func := "middling/middlinglaw01.BoxTruth", spec := "boxTruth", unfollowed := true, recurses := true, apart := false, narrowed := true }
def BoxTruthUptoSaid : Prop := boxTruthUptoRow.holds Try.pinned (OpenSpec.upto boxTruthSpec)

/-- 'middlinglaw01.BoxWay', WHERE WHAT IT READS IS OF BULK AT MOST 1048576: true; the input reads as it did. -/
def boxWayUptoRow : OpenClaim := { program := "ytmfppdpkalelhaa", sum := "24d0938f397f6835e924be5456088049636a2228cb04099cbc524e9026355c5b", func := "middling/middlinglaw01.BoxWay", spec := "boxWay", unfollowed := true, recurses := true, apart := false, narrowed := true }
def BoxWayUptoSaid : Prop := boxWayUptoRow.holds Try.pinned (OpenSpec.upto boxWaySpec)

/-- 'middlinglaw01.BoxMonths', WHERE WHAT IT READS IS OF BULK AT MOST 1048576: true; the input reads as it did. -/
def boxMonthsUptoRow : OpenClaim := { program := "ytmfppdpkalelhaa", sum := "24d0938f397f6835e924be5456088049636a2228cb04099cbc524e9026355c5b", func := "middling/middlinglaw01.BoxMonths", spec := "boxMonths", unfollowed := true, recurses := true, apart := false, narrowed := true }
def BoxMonthsUptoSaid : Prop := boxMonthsUptoRow.holds Try.pinned (OpenSpec.upto boxMonthsSpec)

/-- 'middlinglaw01.BoxFresh', WHERE WHAT IT READS IS OF BULK AT MOST 1048576: true; the input reads as it did. -/
def boxFreshUptoRow : OpenClaim := { program := "ytmfppdpkalelhaa", sum := "24d0938f397f6835e924be5456088049636a2228cb04099cbc524e9026355c5b", func := "middling/middlinglaw01.BoxFresh", spec := "boxFresh", unfollowed := true, recurses := true, apart := false, narrowed := true }
def BoxFreshUptoSaid : Prop := boxFreshUptoRow.holds Try.pinned (OpenSpec.upto boxFreshSpec)

/-- 'middlinglaw01.BoxDue', WHERE WHAT IT READS IS OF BULK AT MOST 1048576: true; the input reads as it did. -/
def boxDueUptoRow : OpenClaim := { program := "ytmfppdpkalelhaa", sum := "24d0938f397f6835e924be5456088049636a2228cb04099cbc524e9026355c5b", func := "middling/middlinglaw01.BoxDue", spec := "boxDue", unfollowed := true, recurses := true, apart := false, narrowed := true }
def BoxDueUptoSaid : Prop := boxDueUptoRow.holds Try.pinned (OpenSpec.upto boxDueSpec)

/-- 'middlinglaw01.BoxAsk', WHERE WHAT IT READS IS OF BULK AT MOST 1048576: true; the input reads as it did. -/
def boxAskUptoRow : OpenClaim := { program := "ytmfppdpkalelhaa", sum := "24d0938f397f6835e924be5456088049636a2228cb04099cbc524e9026355c5b", func := "middling/middlinglaw01.BoxAsk", spec := "boxAsk", unfollowed := true, recurses := true, apart := false, narrowed := true }
def BoxAskUptoSaid : Prop := boxAskUptoRow.holds Try.pinned (OpenSpec.upto boxAskSpec)

end Rows
end Go.Proofs.Ytmfppdpkalelhaa
