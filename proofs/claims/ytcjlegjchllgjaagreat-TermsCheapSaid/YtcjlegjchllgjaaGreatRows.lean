/-
  No cell of these rows narrows 'for every input' (looked for: loops, veiled, ifaces, maps, wideKeys, modest, calm, conditions, laid).
  DERIVED. THE GIVEN ROWS OF THIS SEAT. 10 by the template 'for every input the law returns true; each argument reads behind the call as it read before'; 0 by the template 'total and deterministic' (their statements: YtcjlegjchllgjaaGreatTotals.lean).
  GIVEN WITH THE SEED: the statements are not yours to turn. If you find one false, say at which input.
  Laid BY PROGRAM, IN A SANDBOX (cutbox-rows.mjs): the forced cells as the released guide's own fill.sh prints them over the translation 3e417974a8f007fc… (all of the seat's roots in one cut). By AI agents, Wed Nov 11 2026. No macro, syntax, notation, axiom, sorry.
-/
import Derived.Test.YtcjlegjchllgjaaGreatChecked
import GoSem.Claim
import GoSem.ClaimJoined
import GoSem.ClaimMapViews
import Derived.JoinedTies
import Derived.KernelRfl
namespace Go.Proofs.YtcjlegjchllgjaaGreat
/- THE CELL 'sum', in the pinned program and in every row, IS THE sha256 OF THE DUMP (.gsa) THAT YtcjlegjchllgjaaGreatProg.lean LOADS. Nothing in Lean hashes anything: it is a label: what it is worth is what the hold of that sum in a sandbox is worth. -/
noncomputable def Tryz.pinned : Pinned := { name := "ytcjlegjchllgjaagreat", sum := "3e417974a8f007fcac68169c93c444b21b1b382d598fe96422a7cce5941afb0e", checked := Tryz.checked }
namespace Rows
def none {H : Type} : Left H := { results := [], args := [] }

/-- 'middlinglaw04.TermsExamples': WHATEVER THE INPUT: true; the input reads as it did. -/
def termsExamplesSpec : ChangeSpec := { name := "termsExamples", fn := fun _ => fun
  | [] => { results := [.lit (.bool true)], args := [] }
  | _ => none }
def termsExamplesRow : OpenClaim := { program := "ytcjlegjchllgjaagreat", sum := "3e417974a8f007fcac68169c93c444b21b1b382d598fe96422a7cce5941afb0e", func := "middling/middlinglaw04.TermsExamples", spec := "termsExamples", unfollowed := true, recurses := true, apart := false }
def TermsExamplesSaid : Prop := termsExamplesRow.holds Tryz.pinned (OpenSpec.ofChange termsExamplesSpec)

/-- ITS FALSE NEIGHBOUR: 'it returns false'. Refute it at one input. -/
def termsExamplesWrong : ChangeSpec := { name := "termsExamples", fn := fun _ => fun
  | [] => { results := [.lit (.bool false)], args := [] }
  | _ => none }
def TermsExamplesWrongFalsely : Prop := termsExamplesRow.holds Tryz.pinned (OpenSpec.ofChange termsExamplesWrong)

/-- 'middlinglaw04.TermsBetween': WHATEVER THE INPUT: true; the input reads as it did. -/
def termsBetweenSpec : ChangeSpec := { name := "termsBetween", fn := fun _ => fun
  | [d1, d2, d3] => { results := [.lit (.bool true)], args := [d1, d2, d3] }
  | _ => none }
def termsBetweenRow : OpenClaim := { program := "ytcjlegjchllgjaagreat", sum := "3e417974a8f007fcac68169c93c444b21b1b382d598fe96422a7cce5941afb0e", func := "middling/middlinglaw04.TermsBetween", spec := "termsBetween", unfollowed := true, recurses := true, apart := false }
def TermsBetweenSaid : Prop := termsBetweenRow.holds Tryz.pinned (OpenSpec.ofChange termsBetweenSpec)

/-- ITS FALSE NEIGHBOUR: 'it returns false'. Refute it at one input. -/
def termsBetweenWrong : ChangeSpec := { name := "termsBetween", fn := fun _ => fun
  | [d1, d2, d3] => { results := [.lit (.bool false)], args := [d1, d2, d3] }
  | _ => none }
def TermsBetweenWrongFalsely : Prop := termsBetweenRow.holds Tryz.pinned (OpenSpec.ofChange termsBetweenWrong)

/-- 'middlinglaw04.TermsPaid': WHATEVER THE INPUT: true; the input reads as it did. -/
def termsPaidSpec : ChangeSpec := { name := "termsPaid", fn := fun _ => fun
  | [d1, d2, d3, d4, d5] => { results := [.lit (.bool true)], args := [d1, d2, d3, d4, d5] }
  | _ => none }
def termsPaidRow : OpenClaim := { program := "ytcjlegjchllgjaagreat", sum := "3e417974a8f007fcac68169c93c444b21b1b382d598fe96422a7cce5941afb0e", func := "middling/middlinglaw04.TermsPaid", spec := "termsPaid", unfollowed := true, recurses := true, apart := false }
def TermsPaidSaid : Prop := termsPaidRow.holds Tryz.pinned (OpenSpec.ofChange termsPaidSpec)

/-- ITS FALSE NEIGHBOUR: 'it returns false'. Refute it at one input. -/
def termsPaidWrong : ChangeSpec := { name := "termsPaid", fn := fun _ => fun
  | [d1, d2, d3, d4, d5] => { results := [.lit (.bool false)], args := [d1, d2, d3, d4, d5] }
  | _ => none }
def TermsPaidWrongFalsely : Prop := termsPaidRow.holds Tryz.pinned (OpenSpec.ofChange termsPaidWrong)

/-- 'middlinglaw04.TermsAsk': WHATEVER THE INPUT: true; the input reads as it did. -/
def termsAskSpec : ChangeSpec := { name := "termsAsk", fn := fun _ => fun
  | [d1, d2, d3, d4] => { results := [.lit (.bool true)], args := [d1, d2, d3, d4] }
  | _ => none }
def termsAskRow : OpenClaim := { program := "ytcjlegjchllgjaagreat", sum := "3e417974a8f007fcac68169c93c444b21b1b382d598fe96422a7cce5941afb0e", func := "middling/middlinglaw04.TermsAsk", spec := "termsAsk", unfollowed := true, recurses := true, apart := false }
def TermsAskSaid : Prop := termsAskRow.holds Tryz.pinned (OpenSpec.ofChange termsAskSpec)

/-- ITS FALSE NEIGHBOUR: 'it returns false'. Refute it at one input. -/
def termsAskWrong : ChangeSpec := { name := "termsAsk", fn := fun _ => fun
  | [d1, d2, d3, d4] => { results := [.lit (.bool false)], args := [d1, d2, d3, d4] }
  | _ => none }
def TermsAskWrongFalsely : Prop := termsAskRow.holds Tryz.pinned (OpenSpec.ofChange termsAskWrong)

/-- 'middlinglaw04.TermsSay': WHATEVER THE INPUT: true; the input reads as it did. -/
def termsSaySpec : ChangeSpec := { name := "termsSay", fn := fun _ => fun
  | [d1, d2, d3, d4, d5] => { results := [.lit (.bool true)], args := [d1, d2, d3, d4, d5] }
  | _ => none }
def termsSayRow : OpenClaim := { program := "ytcjlegjchllgjaagreat", sum := "3e417974a8f007fcac68169c93c444b21b1b382d598fe96422a7cce5941afb0e", func := "middling/middlinglaw04.TermsSay", spec := "termsSay", unfollowed := true, recurses := true, apart := false }
def TermsSaySaid : Prop := termsSayRow.holds Tryz.pinned (OpenSpec.ofChange termsSaySpec)

/-- ITS FALSE NEIGHBOUR: 'it returns false'. Refute it at one input. -/
def termsSayWrong : ChangeSpec := { name := "termsSay", fn := fun _ => fun
  | [d1, d2, d3, d4, d5] => { results := [.lit (.bool false)], args := [d1, d2, d3, d4, d5] }
  | _ => none }
def TermsSayWrongFalsely : Prop := termsSayRow.holds Tryz.pinned (OpenSpec.ofChange termsSayWrong)

/-- 'middlinglaw04.TermsCheap': WHATEVER THE INPUT: true; the input reads as it did. -/
def termsCheapSpec : ChangeSpec := { name := "termsCheap", fn := fun _ => fun
  | [d1, d2, d3, d4, d5] => { results := [.lit (.bool true)], args := [d1, d2, d3, d4, d5] }
  | _ => none }
def termsCheapRow : OpenClaim := { program := "ytcjlegjchllgjaagreat", sum := "3e417974a8f007fcac68169c93c444b21b1b382d598fe96422a7cce5941afb0e", func := "middling/middlinglaw04.TermsCheap", spec := "termsCheap", unfollowed := true, recurses := true, apart := false }
def TermsCheapSaid : Prop := termsCheapRow.holds Tryz.pinned (OpenSpec.ofChange termsCheapSpec)

/-- ITS FALSE NEIGHBOUR: 'it returns false'. Refute it at one input. -/
def termsCheapWrong : ChangeSpec := { name := "termsCheap", fn := fun _ => fun
  | [d1, d2, d3, d4, d5] => { results := [.lit (.bool false)], args := [d1, d2, d3, d4, d5] }
  | _ => none }
def TermsCheapWrongFalsely : Prop := termsCheapRow.holds Tryz.pinned (OpenSpec.ofChange termsCheapWrong)

/-- 'middlinglaw04.TermsBetter': WHATEVER THE INPUT: true; the input reads as it did. -/
def termsBetterSpec : ChangeSpec := { name := "termsBetter", fn := fun _ => fun
  | [d1, d2, d3] => { results := [.lit (.bool true)], args := [d1, d2, d3] }
  | _ => none }
def termsBetterRow : OpenClaim := { program := "ytcjlegjchllgjaagreat", sum := "3e417974a8f007fcac68169c93c444b21b1b382d598fe96422a7cce5941afb0e", func := "middling/middlinglaw04.TermsBetter", spec := "termsBetter", unfollowed := true, recurses := true, apart := false }
def TermsBetterSaid : Prop := termsBetterRow.holds Tryz.pinned (OpenSpec.ofChange termsBetterSpec)

/-- ITS FALSE NEIGHBOUR: 'it returns false'. Refute it at one input. -/
def termsBetterWrong : ChangeSpec := { name := "termsBetter", fn := fun _ => fun
  | [d1, d2, d3] => { results := [.lit (.bool false)], args := [d1, d2, d3] }
  | _ => none }
def TermsBetterWrongFalsely : Prop := termsBetterRow.holds Tryz.pinned (OpenSpec.ofChange termsBetterWrong)

/-- 'middlinglaw04.TermsRebased': WHATEVER THE INPUT: true; the input reads as it did. -/
def termsRebasedSpec : ChangeSpec := { name := "termsRebased", fn := fun _ => fun
  | [d1, d2] => { results := [.lit (.bool true)], args := [d1, d2] }
  | _ => none }
def termsRebasedRow : OpenClaim := { program := "ytcjlegjchllgjaagreat", sum := "3e417974a8f007fcac68169c93c444b21b1b382d598fe96422a7cce5941afb0e", func := "middling/middlinglaw04.TermsRebased", spec := "termsRebased", unfollowed := true, recurses := true, apart := false }
def TermsRebasedSaid : Prop := termsRebasedRow.holds Tryz.pinned (OpenSpec.ofChange termsRebasedSpec)

/-- ITS FALSE NEIGHBOUR: 'it returns false'. Refute it at one input. -/
def termsRebasedWrong : ChangeSpec := { name := "termsRebased", fn := fun _ => fun
  | [d1, d2] => { results := [.lit (.bool false)], args := [d1, d2] }
  | _ => none }
def TermsRebasedWrongFalsely : Prop := termsRebasedRow.holds Tryz.pinned (OpenSpec.ofChange termsRebasedWrong)

/-- 'middlinglaw04.TermsJoined': WHATEVER THE INPUT: true; the input reads as it did. -/
def termsJoinedSpec : ChangeSpec := { name := "termsJoined", fn := fun _ => fun
  | [d1, d2, d3, d4, d5] => { results := [.lit (.bool true)], args := [d1, d2, d3, d4, d5] }
  | _ => none }
def termsJoinedRow : OpenClaim := { program := "ytcjlegjchllgjaagreat", sum := "3e417974a8f007fcac68169c93c444b21b1b382d598fe96422a7cce5941afb0e", func := "middling/middlinglaw04.TermsJoined", spec := "termsJoined", unfollowed := true, recurses := true, apart := false }
def TermsJoinedSaid : Prop := termsJoinedRow.holds Tryz.pinned (OpenSpec.ofChange termsJoinedSpec)

/-- ITS FALSE NEIGHBOUR: 'it returns false'. Refute it at one input. -/
def termsJoinedWrong : ChangeSpec := { name := "termsJoined", fn := fun _ => fun
  | [d1, d2, d3, d4, d5] => { results := [.lit (.bool false)], args := [d1, d2, d3, d4, d5] }
  | _ => none }
def TermsJoinedWrongFalsely : Prop := termsJoinedRow.holds Tryz.pinned (OpenSpec.ofChange termsJoinedWrong)

/-- 'middlinglaw04.TermsSums': WHATEVER THE INPUT: true; the input reads as it did. -/
def termsSumsSpec : ChangeSpec := { name := "termsSums", fn := fun _ => fun
  | [d1, d2, d3] => { results := [.lit (.bool true)], args := [d1, d2, d3] }
  | _ => none }
def termsSumsRow : OpenClaim := { program := "ytcjlegjchllgjaagreat", sum := "3e417974a8f007fcac68169c93c444b21b1b382d598fe96422a7cce5941afb0e", func := "middling/middlinglaw04.TermsSums", spec := "termsSums", unfollowed := true, recurses := true, apart := false }
def TermsSumsSaid : Prop := termsSumsRow.holds Tryz.pinned (OpenSpec.ofChange termsSumsSpec)

/-- ITS FALSE NEIGHBOUR: 'it returns false'. Refute it at one input. -/
def termsSumsWrong : ChangeSpec := { name := "termsSums", fn := fun _ => fun
  | [d1, d2, d3] => { results := [.lit (.bool false)], args := [d1, d2, d3] }
  | _ => none }
def TermsSumsWrongFalsely : Prop := termsSumsRow.holds Tryz.pinned (OpenSpec.ofChange termsSumsWrong)

/- THE SECOND FORM. 'bulk': how many values and letters a reading holds, each counted each time it is reached (what is shared counts as often as it is met; a slice's spare places count too). A statement '..UptoSaid' is the law's where the arguments, and the package variables that the reading takes, are together of bulk at most 1048576: NARROWER than '..Said'. Prove '..Said' where nothing that the law and all that it calls make is longer than what came in: it says more and counts as full. Else prove '..UptoSaid'. A law counts once. -/
mutual
def uptoBulk {H : Type} : DataW H → Nat
  | .lit (.string bytes) => bytes.length + 1
  | .lit _ => 1
  | .nil => 1
  | .ptr d => uptoBulk d + 1
  | .slice elems spare => uptoBulkAll elems + uptoBulkAll spare + 1
  | .agg parts => uptoBulkAll parts + 1
  | .iface _ d => uptoBulk d + 1
  | .map entries => uptoBulkEntries entries + 1
  | .held _ => 1
def uptoBulkAll {H : Type} : List (DataW H) → Nat
  | [] => 0
  | d :: r => uptoBulk d + uptoBulkAll r
def uptoBulkEntries {H : Type} : List (Lit × DataW H) → Nat
  | [] => 0
  | x :: r => uptoBulkEntry x + uptoBulkEntries r
def uptoBulkEntry {H : Type} : Lit × DataW H → Nat
  | (.string bytes, d) => bytes.length + uptoBulk d + 1
  | (_, d) => uptoBulk d + 1
 end
def uptoSmall : (H : Type) → List (DataW H) → Bool := fun _ ds => decide (uptoBulkAll ds ≤ 1048576)
def OpenSpec.upto (s : _root_.Go.ChangeSpec) : _root_.Go.OpenSpec := { _root_.Go.OpenSpec.ofChange s with cond := some uptoSmall }

/-- 'middlinglaw04.TermsExamples', WHERE WHAT IT READS IS OF BULK AT MOST 1048576: true; the input reads as it did. -/
def termsExamplesUptoRow : OpenClaim := { program := "ytcjlegjchllgjaagreat", sum := "3e417974a8f007fcac68169c93c444b21b1b382d598fe96422a7cce5941afb0e", func := "middling/middlinglaw04.TermsExamples", spec := "termsExamples", unfollowed := true, recurses := true, apart := false, narrowed := true }
def TermsExamplesUptoSaid : Prop := termsExamplesUptoRow.holds Tryz.pinned (OpenSpec.upto termsExamplesSpec)

/-- 'middlinglaw04.TermsBetween', WHERE WHAT IT READS IS OF BULK AT MOST 1048576: true; the input reads as it did. -/
def termsBetweenUptoRow : OpenClaim := { program := "ytcjlegjchllgjaagreat", sum := "3e417974a8f007fcac68169c93c444b21b1b382d598fe96422a7cce5941afb0e", func := "middling/middlinglaw04.TermsBetween", spec := "termsBetween", unfollowed := true, recurses := true, apart := false, narrowed := true }
def TermsBetweenUptoSaid : Prop := termsBetweenUptoRow.holds Tryz.pinned (OpenSpec.upto termsBetweenSpec)

/-- 'middlinglaw04.TermsPaid', WHERE WHAT IT READS IS OF BULK AT MOST 1048576: true; the input reads as it did. -/
def termsPaidUptoRow : OpenClaim := { program := "ytcjlegjchllgjaagreat", sum := "3e417974a8f007fcac68169c93c444b21b1b382d598fe96422a7cce5941afb0e", func := "middling/middlinglaw04.TermsPaid", spec := "termsPaid", unfollowed := true, recurses := true, apart := false, narrowed := true }
def TermsPaidUptoSaid : Prop := termsPaidUptoRow.holds Tryz.pinned (OpenSpec.upto termsPaidSpec)

/-- 'middlinglaw04.TermsAsk', WHERE WHAT IT READS IS OF BULK AT MOST 1048576: true; the input reads as it did. -/
def termsAskUptoRow : OpenClaim := { program := "ytcjlegjchllgjaagreat", sum := "3e417974a8f007fcac68169c93c444b21b1b382d598fe96422a7cce5941afb0e", func := "middling/middlinglaw04.TermsAsk", spec := "termsAsk", unfollowed := true, recurses := true, apart := false, narrowed := true }
def TermsAskUptoSaid : Prop := termsAskUptoRow.holds Tryz.pinned (OpenSpec.upto termsAskSpec)

/-- 'middlinglaw04.TermsSay', WHERE WHAT IT READS IS OF BULK AT MOST 1048576: true; the input reads as it did. -/
def termsSayUptoRow : OpenClaim := { program := "ytcjlegjchllgjaagreat", sum := "3e417974a8f007fcac68169c93c444b21b1b382d598fe96422a7cce5941afb0e", func := "middling/middlinglaw04.TermsSay", spec := "termsSay", unfollowed := true, recurses := true, apart := false, narrowed := true }
def TermsSayUptoSaid : Prop := termsSayUptoRow.holds Tryz.pinned (OpenSpec.upto termsSaySpec)

/-- 'middlinglaw04.TermsCheap', WHERE WHAT IT READS IS OF BULK AT MOST 1048576: true; the input reads as it did. -/
def termsCheapUptoRow : OpenClaim := { program := "ytcjlegjchllgjaagreat", sum := "3e417974a8f007fcac68169c93c444b21b1b382d598fe96422a7cce5941afb0e", func := "middling/middlinglaw04.TermsCheap", spec := "termsCheap", unfollowed := true, recurses := true, apart := false, narrowed := true }
def TermsCheapUptoSaid : Prop := termsCheapUptoRow.holds Tryz.pinned (OpenSpec.upto termsCheapSpec)

/-- 'middlinglaw04.TermsBetter', WHERE WHAT IT READS IS OF BULK AT MOST 1048576: true; the input reads as it did. -/
def termsBetterUptoRow : OpenClaim := { program := "ytcjlegjchllgjaagreat", sum := "3e417974a8f007fcac68169c93c444b21b1b382d598fe96422a7cce5941afb0e", func := "middling/middlinglaw04.TermsBetter", spec := "termsBetter", unfollowed := true, recurses := true, apart := false, narrowed := true }
def TermsBetterUptoSaid : Prop := termsBetterUptoRow.holds Tryz.pinned (OpenSpec.upto termsBetterSpec)

/-- 'middlinglaw04.TermsRebased', WHERE WHAT IT READS IS OF BULK AT MOST 1048576: true; the input reads as it did. -/
def termsRebasedUptoRow : OpenClaim := { program := "ytcjlegjchllgjaagreat", sum := "3e417974a8f007fcac68169c93c444b21b1b382d598fe96422a7cce5941afb0e", func := "middling/middlinglaw04.TermsRebased", spec := "termsRebased", unfollowed := true, recurses := true, apart := false, narrowed := true }
def TermsRebasedUptoSaid : Prop := termsRebasedUptoRow.holds Tryz.pinned (OpenSpec.upto termsRebasedSpec)

/-- 'middlinglaw04.TermsJoined', WHERE WHAT IT READS IS OF BULK AT MOST 1048576: true; the input reads as it did. -/
def termsJoinedUptoRow : OpenClaim := { program := "ytcjlegjchllgjaagreat", sum := "3e417974a8f007fcac68169c93c444b21b1b382d598fe96422a7cce5941afb0e", func := "middling/middlinglaw04.TermsJoined", spec := "termsJoined", unfollowed := true, recurses := true, apart := false, narrowed := true }
def TermsJoinedUptoSaid : Prop := termsJoinedUptoRow.holds Tryz.pinned (OpenSpec.upto termsJoinedSpec)

/-- 'middlinglaw04.TermsSums', WHERE WHAT IT READS IS OF BULK AT MOST 1048576: true; the input reads as it did. -/
def termsSumsUptoRow : OpenClaim := { program := "ytcjlegjchllgjaagreat", sum := "3e417974a8f007fcac68169c93c444b21b1b382d598fe96422a7cce5941afb0e", func := "middling/middlinglaw04.TermsSums", spec := "termsSums", unfollowed := true, recurses := true, apart := false, narrowed := true }
def TermsSumsUptoSaid : Prop := termsSumsUptoRow.holds Tryz.pinned (OpenSpec.upto termsSumsSpec)

end Rows
end Go.Proofs.YtcjlegjchllgjaaGreat
