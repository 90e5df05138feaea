/-
  No cell of these rows narrows 'for every input' (looked for: loops, veiled, ifaces, maps, wideKeys, modest, calm, conditions, laid).
  DERIVED. THE GIVEN ROWS OF THIS SEAT. 7 by the template 'for every input the law returns true; each argument reads behind the call as it read before'; 0 by the template 'total and deterministic' (their statements: YtcjlegjchllgjaaTotals.lean).
  GIVEN WITH THE SEED: the statements are not yours to turn. If you find one false, say at which input.
  Laid BY PROGRAM, IN A SANDBOX (cutbox-rows.mjs): the forced cells as the released guide's own fill.sh prints them over the translation db33147f4ceda567… (all of the seat's roots in one cut). By AI agents, Wed Nov 11 2026. No macro, syntax, notation, axiom, sorry.
-/
import Derived.Test.YtcjlegjchllgjaaChecked
import GoSem.Claim
import GoSem.ClaimJoined
import GoSem.ClaimMapViews
import Derived.JoinedTies
import Derived.KernelRfl
namespace Go.Proofs.Ytcjlegjchllgjaa
/- THE CELL 'sum', in the pinned program and in every row, IS THE sha256 OF THE DUMP (.gsa) THAT YtcjlegjchllgjaaProg.lean LOADS. Nothing in Lean hashes anything: it is a label: what it is worth is what the hold of that sum in a sandbox is worth. -/
noncomputable def Try.pinned : Pinned := { name := "ytcjlegjchllgjaa", sum := "db33147f4ceda56735a9bec8af39eb8a689a3116840c234aff2dbcbbb1967d82", checked := Try.checked }
namespace Rows
def none {H : Type} : Left H := { results := [], args := [] }

/-- 'middlinglaw04.TermsTells': WHATEVER THE INPUT: true; the input reads as it did. -/
def termsTellsSpec : ChangeSpec := { name := "termsTells", fn := fun _ => fun
  | [d1, d2, d3] => { results := [.lit (.bool true)], args := [d1, d2, d3] }
  | _ => none }
def termsTellsRow : OpenClaim := { program := "ytcjlegjchllgjaa", sum := "db33147f4ceda56735a9bec8af39eb8a689a3116840c234aff2dbcbbb1967d82", func := "middling/middlinglaw04.TermsTells", spec := "termsTells", unfollowed := true, recurses := true, apart := false }
def TermsTellsSaid : Prop := termsTellsRow.holds Try.pinned (OpenSpec.ofChange termsTellsSpec)

/-- ITS FALSE NEIGHBOUR: 'it returns false'. Refute it at one input. -/
def termsTellsWrong : ChangeSpec := { name := "termsTells", fn := fun _ => fun
  | [d1, d2, d3] => { results := [.lit (.bool false)], args := [d1, d2, d3] }
  | _ => none }
def TermsTellsWrongFalsely : Prop := termsTellsRow.holds Try.pinned (OpenSpec.ofChange termsTellsWrong)

/-- 'middlinglaw04.TermsKnown': WHATEVER THE INPUT: true; the input reads as it did. -/
def termsKnownSpec : ChangeSpec := { name := "termsKnown", fn := fun _ => fun
  | [d1, d2, d3, d4] => { results := [.lit (.bool true)], args := [d1, d2, d3, d4] }
  | _ => none }
def termsKnownRow : OpenClaim := { program := "ytcjlegjchllgjaa", sum := "db33147f4ceda56735a9bec8af39eb8a689a3116840c234aff2dbcbbb1967d82", func := "middling/middlinglaw04.TermsKnown", spec := "termsKnown", unfollowed := true, recurses := true, apart := false }
def TermsKnownSaid : Prop := termsKnownRow.holds Try.pinned (OpenSpec.ofChange termsKnownSpec)

/-- ITS FALSE NEIGHBOUR: 'it returns false'. Refute it at one input. -/
def termsKnownWrong : ChangeSpec := { name := "termsKnown", fn := fun _ => fun
  | [d1, d2, d3, d4] => { results := [.lit (.bool false)], args := [d1, d2, d3, d4] }
  | _ => none }
def TermsKnownWrongFalsely : Prop := termsKnownRow.holds Try.pinned (OpenSpec.ofChange termsKnownWrong)

/-- 'middlinglaw04.TermsLooks': WHATEVER THE INPUT: true; the input reads as it did. -/
def termsLooksSpec : ChangeSpec := { name := "termsLooks", fn := fun _ => fun
  | [d1, d2, d3, d4, d5, d6] => { results := [.lit (.bool true)], args := [d1, d2, d3, d4, d5, d6] }
  | _ => none }
def termsLooksRow : OpenClaim := { program := "ytcjlegjchllgjaa", sum := "db33147f4ceda56735a9bec8af39eb8a689a3116840c234aff2dbcbbb1967d82", func := "middling/middlinglaw04.TermsLooks", spec := "termsLooks", unfollowed := true, recurses := true, apart := false }
def TermsLooksSaid : Prop := termsLooksRow.holds Try.pinned (OpenSpec.ofChange termsLooksSpec)

/-- ITS FALSE NEIGHBOUR: 'it returns false'. Refute it at one input. -/
def termsLooksWrong : ChangeSpec := { name := "termsLooks", fn := fun _ => fun
  | [d1, d2, d3, d4, d5, d6] => { results := [.lit (.bool false)], args := [d1, d2, d3, d4, d5, d6] }
  | _ => none }
def TermsLooksWrongFalsely : Prop := termsLooksRow.holds Try.pinned (OpenSpec.ofChange termsLooksWrong)

/-- 'middlinglaw04.TermsCosts': WHATEVER THE INPUT: true; the input reads as it did. -/
def termsCostsSpec : ChangeSpec := { name := "termsCosts", fn := fun _ => fun
  | [d1, d2, d3] => { results := [.lit (.bool true)], args := [d1, d2, d3] }
  | _ => none }
def termsCostsRow : OpenClaim := { program := "ytcjlegjchllgjaa", sum := "db33147f4ceda56735a9bec8af39eb8a689a3116840c234aff2dbcbbb1967d82", func := "middling/middlinglaw04.TermsCosts", spec := "termsCosts", unfollowed := true, recurses := true, apart := false }
def TermsCostsSaid : Prop := termsCostsRow.holds Try.pinned (OpenSpec.ofChange termsCostsSpec)

/-- ITS FALSE NEIGHBOUR: 'it returns false'. Refute it at one input. -/
def termsCostsWrong : ChangeSpec := { name := "termsCosts", fn := fun _ => fun
  | [d1, d2, d3] => { results := [.lit (.bool false)], args := [d1, d2, d3] }
  | _ => none }
def TermsCostsWrongFalsely : Prop := termsCostsRow.holds Try.pinned (OpenSpec.ofChange termsCostsWrong)

/-- 'middlinglaw04.TermsMonths': WHATEVER THE INPUT: true; the input reads as it did. -/
def termsMonthsSpec : ChangeSpec := { name := "termsMonths", fn := fun _ => fun
  | [d1, d2] => { results := [.lit (.bool true)], args := [d1, d2] }
  | _ => none }
def termsMonthsRow : OpenClaim := { program := "ytcjlegjchllgjaa", sum := "db33147f4ceda56735a9bec8af39eb8a689a3116840c234aff2dbcbbb1967d82", func := "middling/middlinglaw04.TermsMonths", spec := "termsMonths", unfollowed := true, recurses := true, apart := false }
def TermsMonthsSaid : Prop := termsMonthsRow.holds Try.pinned (OpenSpec.ofChange termsMonthsSpec)

/-- ITS FALSE NEIGHBOUR: 'it returns false'. Refute it at one input. -/
def termsMonthsWrong : ChangeSpec := { name := "termsMonths", fn := fun _ => fun
  | [d1, d2] => { results := [.lit (.bool false)], args := [d1, d2] }
  | _ => none }
def TermsMonthsWrongFalsely : Prop := termsMonthsRow.holds Try.pinned (OpenSpec.ofChange termsMonthsWrong)

/-- 'middlinglaw04.TermsTotals': WHATEVER THE INPUT: true; the input reads as it did. -/
def termsTotalsSpec : ChangeSpec := { name := "termsTotals", fn := fun _ => fun
  | [d1, d2, d3] => { results := [.lit (.bool true)], args := [d1, d2, d3] }
  | _ => none }
def termsTotalsRow : OpenClaim := { program := "ytcjlegjchllgjaa", sum := "db33147f4ceda56735a9bec8af39eb8a689a3116840c234aff2dbcbbb1967d82", func := "middling/middlinglaw04.TermsTotals", spec := "termsTotals", unfollowed := true, recurses := true, apart := false }
def TermsTotalsSaid : Prop := termsTotalsRow.holds Try.pinned (OpenSpec.ofChange termsTotalsSpec)

/-- ITS FALSE NEIGHBOUR: 'it returns false'. Refute it at one input. -/
def termsTotalsWrong : ChangeSpec := { name := "termsTotals", fn := fun _ => fun
  | [d1, d2, d3] => { results := [.lit (.bool false)], args := [d1, d2, d3] }
  | _ => none }
def TermsTotalsWrongFalsely : Prop := termsTotalsRow.holds Try.pinned (OpenSpec.ofChange termsTotalsWrong)

/-- 'middlinglaw04.TermsChanges': WHATEVER THE INPUT: true; the input reads as it did. -/
def termsChangesSpec : ChangeSpec := { name := "termsChanges", fn := fun _ => fun
  | [d1, d2, d3, d4, d5, d6] => { results := [.lit (.bool true)], args := [d1, d2, d3, d4, d5, d6] }
  | _ => none }
def termsChangesRow : OpenClaim := { program := "ytcjlegjchllgjaa", sum := "db33147f4ceda56735a9bec8af39eb8a689a3116840c234aff2dbcbbb1967d82", func := "middling/middlinglaw04.TermsChanges", spec := "termsChanges", unfollowed := true, recurses := true, apart := false }
def TermsChangesSaid : Prop := termsChangesRow.holds Try.pinned (OpenSpec.ofChange termsChangesSpec)

/-- ITS FALSE NEIGHBOUR: 'it returns false'. Refute it at one input. -/
def termsChangesWrong : ChangeSpec := { name := "termsChanges", fn := fun _ => fun
  | [d1, d2, d3, d4, d5, d6] => { results := [.lit (.bool false)], args := [d1, d2, d3, d4, d5, d6] }
  | _ => none }
def TermsChangesWrongFalsely : Prop := termsChangesRow.holds Try.pinned (OpenSpec.ofChange termsChangesWrong)

/- THE SECOND FORM. 'bulk': how many values and letters a reading holds, each counted each time it is reached (what is shared counts as often as it is met; a slice's spare places count too). A statement '..UptoSaid' is the law's where the arguments, and the package variables that the reading takes, are together of bulk at most 1048576: NARROWER than '..Said'. Prove '..Said' where nothing that the law and all that it calls make is longer than what came in: it says more and counts as full. Else prove '..UptoSaid'. A law counts once. -/
mutual
def uptoBulk {H : Type} : DataW H → Nat
  | .lit (.string bytes) => bytes.length + 1
  | .lit _ => 1
  | .nil => 1
  | .ptr d => uptoBulk d + 1
  | .slice elems spare => uptoBulkAll elems + uptoBulkAll spare + 1
  | .agg parts => uptoBulkAll parts + 1
  | .iface _ d => uptoBulk d + 1
  | .map entries => uptoBulkEntries entries + 1
  | .held _ => 1
def uptoBulkAll {H : Type} : List (DataW H) → Nat
  | [] => 0
  | d :: r => uptoBulk d + uptoBulkAll r
def uptoBulkEntries {H : Type} : List (Lit × DataW H) → Nat
  | [] => 0
  | x :: r => uptoBulkEntry x + uptoBulkEntries r
def uptoBulkEntry {H : Type} : Lit × DataW H → Nat
  | (.string bytes, d) => bytes.length + uptoBulk d + 1
  | (_, d) => uptoBulk d + 1
 end
def uptoSmall : (H : Type) → List (DataW H) → Bool := fun _ ds => decide (uptoBulkAll ds ≤ 1048576)
def OpenSpec.upto (s : _root_.Go.ChangeSpec) : _root_.Go.OpenSpec := { _root_.Go.OpenSpec.ofChange s with cond := some uptoSmall }

/-- 'middlinglaw04.TermsTells', WHERE WHAT IT READS IS OF BULK AT MOST 1048576: true; the input reads as it did. -/
def termsTellsUptoRow : OpenClaim := { program := "ytcjlegjchllgjaa", sum := "db33147f4ceda56735a9bec8af39eb8a689a3116840c234aff2dbcbbb1967d82", func := "middling/middlinglaw04.TermsTells", spec := "termsTells", unfollowed := true, recurses := true, apart := false, narrowed := true }
def TermsTellsUptoSaid : Prop := termsTellsUptoRow.holds Try.pinned (OpenSpec.upto termsTellsSpec)

/-- 'middlinglaw04.TermsKnown', WHERE WHAT IT READS IS OF BULK AT MOST 1048576: true; the input reads as it did. -/
def termsKnownUptoRow : OpenClaim := { program := "ytcjlegjchllgjaa", sum := "db33147f4ceda56735a9bec8af39eb8a689a3116840c234aff2dbcbbb1967d82", func := "middling/middlinglaw04.TermsKnown", spec := "termsKnown", unfollowed := true, recurses := true, apart := false, narrowed := true }
def TermsKnownUptoSaid : Prop := termsKnownUptoRow.holds Try.pinned (OpenSpec.upto termsKnownSpec)

/-- 'middlinglaw04.TermsLooks', WHERE WHAT IT READS IS OF BULK AT MOST 1048576: true; the input reads as it did. -/
def termsLooksUptoRow : OpenClaim := { program := "ytcjlegjchllgjaa", sum := "db33147f4ceda56735a9bec8af39eb8a689a3116840c234aff2dbcbbb1967d82", func := "middling/middlinglaw04.TermsLooks", spec := "termsLooks", unfollowed := true, recurses := true, apart := false, narrowed := true }
def TermsLooksUptoSaid : Prop := termsLooksUptoRow.holds Try.pinned (OpenSpec.upto termsLooksSpec)

/-- 'middlinglaw04.TermsCosts', WHERE WHAT IT READS IS OF BULK AT MOST 1048576: true; the input reads as it did. -/
def termsCostsUptoRow : OpenClaim := { program := "ytcjlegjchllgjaa", sum := "db33147f4ceda56735a9bec8af39eb8a689a3116840c234aff2dbcbbb1967d82", func := "middling/middlinglaw04.TermsCosts", spec := "termsCosts", unfollowed := true, recurses := true, apart := false, narrowed := true }
def TermsCostsUptoSaid : Prop := termsCostsUptoRow.holds Try.pinned (OpenSpec.upto termsCostsSpec)

/-- 'middlinglaw04.TermsMonths', WHERE WHAT IT READS IS OF BULK AT MOST 1048576: true; the input reads as it did. -/
def termsMonthsUptoRow : OpenClaim := { program := "ytcjlegjchllgjaa", sum := "db33147f4ceda56735a9bec8af39eb8a689a3116840c234aff2dbcbbb1967d82", func := "middling/middlinglaw04.TermsMonths", spec := "termsMonths", unfollowed := true, recurses := true, apart := false, narrowed := true }
def TermsMonthsUptoSaid : Prop := termsMonthsUptoRow.holds Try.pinned (OpenSpec.upto termsMonthsSpec)

/-- 'middlinglaw04.TermsTotals', WHERE WHAT IT READS IS OF BULK AT MOST 1048576: true; the input reads as it did. -/
def termsTotalsUptoRow : OpenClaim := { program := "ytcjlegjchllgjaa", sum := "db33147f4ceda56735a9bec8af39eb8a689a3116840c234aff2dbcbbb1967d82", func := "middling/middlinglaw04.TermsTotals", spec := "termsTotals", unfollowed := true, recurses := true, apart := false, narrowed := true }
def TermsTotalsUptoSaid : Prop := termsTotalsUptoRow.holds Try.pinned (OpenSpec.upto termsTotalsSpec)

/-- 'middlinglaw04.TermsChanges', WHERE WHAT IT READS IS OF BULK AT MOST 1048576: true; the input reads as it did. -/
def termsChangesUptoRow : OpenClaim := { program := "ytcjlegjchllgjaa", sum := "db33147f4ceda56735a9bec8af39eb8a689a3116840c234aff2dbcbbb1967d82", func := "middling/middlinglaw04.TermsChanges", spec := "termsChanges", unfollowed := true, recurses := true, apart := false, narrowed := true }
def TermsChangesUptoSaid : Prop := termsChangesUptoRow.holds Try.pinned (OpenSpec.upto termsChangesSpec)

end Rows
end Go.Proofs.Ytcjlegjchllgjaa
