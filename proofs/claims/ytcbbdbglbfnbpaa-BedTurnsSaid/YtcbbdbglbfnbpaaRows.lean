/-
  No cell of these rows narrows 'for every input' (looked for: loops, veiled, ifaces, maps, wideKeys, modest, calm, conditions, laid).
  DERIVED. THE GIVEN ROWS OF THIS SEAT. 9 by the template 'for every input the law returns true; each argument reads behind the call as it read before'; 0 by the template 'total and deterministic' (their statements: YtcbbdbglbfnbpaaTotals.lean).
  GIVEN WITH THE SEED: the statements are not yours to turn. If you find one false, say at which input.
  Laid BY PROGRAM, IN A SANDBOX (cutbox-rows.mjs): the forced cells as the released guide's own fill.sh prints them over the translation b9d703471ead66cf… (all of the seat's roots in one cut). By AI agents, Wed Nov 11 2026. No macro, syntax, notation, axiom, sorry.
-/
import Derived.Test.YtcbbdbglbfnbpaaChecked
import GoSem.Claim
import GoSem.ClaimJoined
import GoSem.ClaimMapViews
import Derived.JoinedTies
import Derived.KernelRfl
namespace Go.Proofs.Ytcbbdbglbfnbpaa
/- THE CELL 'sum', in the pinned program and in every row, IS THE sha256 OF THE DUMP (.gsa) THAT YtcbbdbglbfnbpaaProg.lean LOADS. Nothing in Lean hashes anything: it is a label: what it is worth is what the hold of that sum in a sandbox is worth. -/
noncomputable def Try.pinned : Pinned := { name := "ytcbbdbglbfnbpaa", sum := "b9d703471ead66cf0cfaf36038ed73b245ce30c611aaa89756419b55a51fa663", checked := Try.checked }
namespace Rows
def none {H : Type} : Left H := { results := [], args := [] }

/-- 'acrospirelaw06.BedTicks': WHATEVER THE INPUT: true; the input reads as it did. -/
def bedTicksSpec : ChangeSpec := { name := "bedTicks", fn := fun _ => fun
  | [d1, d2] => { results := [.lit (.bool true)], args := [d1, d2] }
  | _ => none }
def bedTicksRow : OpenClaim := { program := "ytcbbdbglbfnbpaa", sum := "b9d703471ead66cf0cfaf36038ed73b245ce30c611aaa89756419b55a51fa663", func := "acrospire/acrospirelaw06.BedTicks", spec := "bedTicks", unfollowed := true, recurses := true, apart := false }
def BedTicksSaid : Prop := bedTicksRow.holds Try.pinned (OpenSpec.ofChange bedTicksSpec)

/-- ITS FALSE NEIGHBOUR: 'it returns false'. Refute it at one input. -/
def bedTicksWrong : ChangeSpec := { name := "bedTicks", fn := fun _ => fun
  | [d1, d2] => { results := [.lit (.bool false)], args := [d1, d2] }
  | _ => none }
def BedTicksWrongFalsely : Prop := bedTicksRow.holds Try.pinned (OpenSpec.ofChange bedTicksWrong)

/-- 'acrospirelaw06.BedRuns': WHATEVER THE INPUT: true; the input reads as it did. -/
def bedRunsSpec : ChangeSpec := { name := "bedRuns", fn := fun _ => fun
  | [d1, d2, d3] => { results := [.lit (.bool true)], args := [d1, d2, d3] }
  | _ => none }
def bedRunsRow : OpenClaim := { program := "ytcbbdbglbfnbpaa", sum := "b9d703471ead66cf0cfaf36038ed73b245ce30c611aaa89756419b55a51fa663", func := "acrospire/acrospirelaw06.BedRuns", spec := "bedRuns", unfollowed := true, recurses := true, apart := false }
def BedRunsSaid : Prop := bedRunsRow.holds Try.pinned (OpenSpec.ofChange bedRunsSpec)

/-- ITS FALSE NEIGHBOUR: 'it returns false'. Refute it at one input. -/
def bedRunsWrong : ChangeSpec := { name := "bedRuns", fn := fun _ => fun
  | [d1, d2, d3] => { results := [.lit (.bool false)], args := [d1, d2, d3] }
  | _ => none }
def BedRunsWrongFalsely : Prop := bedRunsRow.holds Try.pinned (OpenSpec.ofChange bedRunsWrong)

/-- 'acrospirelaw06.BedUntils': WHATEVER THE INPUT: true; the input reads as it did. -/
def bedUntilsSpec : ChangeSpec := { name := "bedUntils", fn := fun _ => fun
  | [d1, d2, d3, d4, d5] => { results := [.lit (.bool true)], args := [d1, d2, d3, d4, d5] }
  | _ => none }
def bedUntilsRow : OpenClaim := { program := "ytcbbdbglbfnbpaa", sum := "b9d703471ead66cf0cfaf36038ed73b245ce30c611aaa89756419b55a51fa663", func := "acrospire/acrospirelaw06.BedUntils", spec := "bedUntils", unfollowed := true, recurses := true, apart := false }
def BedUntilsSaid : Prop := bedUntilsRow.holds Try.pinned (OpenSpec.ofChange bedUntilsSpec)

/-- ITS FALSE NEIGHBOUR: 'it returns false'. Refute it at one input. -/
def bedUntilsWrong : ChangeSpec := { name := "bedUntils", fn := fun _ => fun
  | [d1, d2, d3, d4, d5] => { results := [.lit (.bool false)], args := [d1, d2, d3, d4, d5] }
  | _ => none }
def BedUntilsWrongFalsely : Prop := bedUntilsRow.holds Try.pinned (OpenSpec.ofChange bedUntilsWrong)

/-- 'acrospirelaw06.BedSteeps': WHATEVER THE INPUT: true; the input reads as it did. -/
def bedSteepsSpec : ChangeSpec := { name := "bedSteeps", fn := fun _ => fun
  | [d1, d2, d3] => { results := [.lit (.bool true)], args := [d1, d2, d3] }
  | _ => none }
def bedSteepsRow : OpenClaim := { program := "ytcbbdbglbfnbpaa", sum := "b9d703471ead66cf0cfaf36038ed73b245ce30c611aaa89756419b55a51fa663", func := "acrospire/acrospirelaw06.BedSteeps", spec := "bedSteeps", unfollowed := true, recurses := true, apart := false }
def BedSteepsSaid : Prop := bedSteepsRow.holds Try.pinned (OpenSpec.ofChange bedSteepsSpec)

/-- ITS FALSE NEIGHBOUR: 'it returns false'. Refute it at one input. -/
def bedSteepsWrong : ChangeSpec := { name := "bedSteeps", fn := fun _ => fun
  | [d1, d2, d3] => { results := [.lit (.bool false)], args := [d1, d2, d3] }
  | _ => none }
def BedSteepsWrongFalsely : Prop := bedSteepsRow.holds Try.pinned (OpenSpec.ofChange bedSteepsWrong)

/-- 'acrospirelaw06.BedConserves': WHATEVER THE INPUT: true; the input reads as it did. -/
def bedConservesSpec : ChangeSpec := { name := "bedConserves", fn := fun _ => fun
  | [d1, d2, d3, d4, d5] => { results := [.lit (.bool true)], args := [d1, d2, d3, d4, d5] }
  | _ => none }
def bedConservesRow : OpenClaim := { program := "ytcbbdbglbfnbpaa", sum := "b9d703471ead66cf0cfaf36038ed73b245ce30c611aaa89756419b55a51fa663", func := "acrospire/acrospirelaw06.BedConserves", spec := "bedConserves", unfollowed := true, recurses := true, apart := false }
def BedConservesSaid : Prop := bedConservesRow.holds Try.pinned (OpenSpec.ofChange bedConservesSpec)

/-- ITS FALSE NEIGHBOUR: 'it returns false'. Refute it at one input. -/
def bedConservesWrong : ChangeSpec := { name := "bedConserves", fn := fun _ => fun
  | [d1, d2, d3, d4, d5] => { results := [.lit (.bool false)], args := [d1, d2, d3, d4, d5] }
  | _ => none }
def BedConservesWrongFalsely : Prop := bedConservesRow.holds Try.pinned (OpenSpec.ofChange bedConservesWrong)

/-- 'acrospirelaw06.BedSmooths': WHATEVER THE INPUT: true; the input reads as it did. -/
def bedSmoothsSpec : ChangeSpec := { name := "bedSmooths", fn := fun _ => fun
  | [d1, d2, d3] => { results := [.lit (.bool true)], args := [d1, d2, d3] }
  | _ => none }
def bedSmoothsRow : OpenClaim := { program := "ytcbbdbglbfnbpaa", sum := "b9d703471ead66cf0cfaf36038ed73b245ce30c611aaa89756419b55a51fa663", func := "acrospire/acrospirelaw06.BedSmooths", spec := "bedSmooths", unfollowed := true, recurses := true, apart := false }
def BedSmoothsSaid : Prop := bedSmoothsRow.holds Try.pinned (OpenSpec.ofChange bedSmoothsSpec)

/-- ITS FALSE NEIGHBOUR: 'it returns false'. Refute it at one input. -/
def bedSmoothsWrong : ChangeSpec := { name := "bedSmooths", fn := fun _ => fun
  | [d1, d2, d3] => { results := [.lit (.bool false)], args := [d1, d2, d3] }
  | _ => none }
def BedSmoothsWrongFalsely : Prop := bedSmoothsRow.holds Try.pinned (OpenSpec.ofChange bedSmoothsWrong)

/-- 'acrospirelaw06.BedTurns': WHATEVER THE INPUT: true; the input reads as it did. -/
def bedTurnsSpec : ChangeSpec := { name := "bedTurns", fn := fun _ => fun
  | [d1, d2, d3] => { results := [.lit (.bool true)], args := [d1, d2, d3] }
  | _ => none }
def bedTurnsRow : OpenClaim := { program := "ytcbbdbglbfnbpaa", sum := "b9d703471ead66cf0cfaf36038ed73b245ce30c611aaa89756419b55a51fa663", func := "acrospire/acrospirelaw06.BedTurns", spec := "bedTurns", unfollowed := true, recurses := true, apart := false }
def BedTurnsSaid : Prop := bedTurnsRow.holds Try.pinned (OpenSpec.ofChange bedTurnsSpec)

/-- ITS FALSE NEIGHBOUR: 'it returns false'. Refute it at one input. -/
def bedTurnsWrong : ChangeSpec := { name := "bedTurns", fn := fun _ => fun
  | [d1, d2, d3] => { results := [.lit (.bool false)], args := [d1, d2, d3] }
  | _ => none }
def BedTurnsWrongFalsely : Prop := bedTurnsRow.holds Try.pinned (OpenSpec.ofChange bedTurnsWrong)

/-- 'acrospirelaw06.BedAdds': WHATEVER THE INPUT: true; the input reads as it did. -/
def bedAddsSpec : ChangeSpec := { name := "bedAdds", fn := fun _ => fun
  | [d1, d2, d3, d4] => { results := [.lit (.bool true)], args := [d1, d2, d3, d4] }
  | _ => none }
def bedAddsRow : OpenClaim := { program := "ytcbbdbglbfnbpaa", sum := "b9d703471ead66cf0cfaf36038ed73b245ce30c611aaa89756419b55a51fa663", func := "acrospire/acrospirelaw06.BedAdds", spec := "bedAdds", unfollowed := true, recurses := true, apart := false }
def BedAddsSaid : Prop := bedAddsRow.holds Try.pinned (OpenSpec.ofChange bedAddsSpec)

/-- ITS FALSE NEIGHBOUR: 'it returns false'. Refute it at one input. -/
def bedAddsWrong : ChangeSpec := { name := "bedAdds", fn := fun _ => fun
  | [d1, d2, d3, d4] => { results := [.lit (.bool false)], args := [d1, d2, d3, d4] }
  | _ => none }
def BedAddsWrongFalsely : Prop := bedAddsRow.holds Try.pinned (OpenSpec.ofChange bedAddsWrong)

/-- 'acrospirelaw06.BedLeast': WHATEVER THE INPUT: true; the input reads as it did. -/
def bedLeastSpec : ChangeSpec := { name := "bedLeast", fn := fun _ => fun
  | [d1, d2, d3, d4, d5, d6] => { results := [.lit (.bool true)], args := [d1, d2, d3, d4, d5, d6] }
  | _ => none }
def bedLeastRow : OpenClaim := { program := "ytcbbdbglbfnbpaa", sum := "b9d703471ead66cf0cfaf36038ed73b245ce30c611aaa89756419b55a51fa663", func := "acrospire/acrospirelaw06.BedLeast", spec := "bedLeast", unfollowed := true, recurses := true, apart := false }
def BedLeastSaid : Prop := bedLeastRow.holds Try.pinned (OpenSpec.ofChange bedLeastSpec)

/-- ITS FALSE NEIGHBOUR: 'it returns false'. Refute it at one input. -/
def bedLeastWrong : ChangeSpec := { name := "bedLeast", fn := fun _ => fun
  | [d1, d2, d3, d4, d5, d6] => { results := [.lit (.bool false)], args := [d1, d2, d3, d4, d5, d6] }
  | _ => none }
def BedLeastWrongFalsely : Prop := bedLeastRow.holds Try.pinned (OpenSpec.ofChange bedLeastWrong)

/- THE SECOND FORM. 'bulk': how many values and letters a reading holds, each counted each time it is reached (what is shared counts as often as it is met; a slice's spare places count too). A statement '..UptoSaid' is the law's where the arguments, and the package variables that the reading takes, are together of bulk at most 1048576: NARROWER than '..Said'. Prove '..Said' where nothing that the law and all that it calls make is longer than what came in: it says more and counts as full. Else prove '..UptoSaid'. A law counts once. -/
mutual
def uptoBulk {H : Type} : DataW H → Nat
  | .lit (.string bytes) => bytes.length + 1
  | .lit _ => 1
  | .nil => 1
  | .ptr d => uptoBulk d + 1
  | .slice elems spare => uptoBulkAll elems + uptoBulkAll spare + 1
  | .agg parts => uptoBulkAll parts + 1
  | .iface _ d => uptoBulk d + 1
  | .map entries => uptoBulkEntries entries + 1
  | .held _ => 1
def uptoBulkAll {H : Type} : List (DataW H) → Nat
  | [] => 0
  | d :: r => uptoBulk d + uptoBulkAll r
def uptoBulkEntries {H : Type} : List (Lit × DataW H) → Nat
  | [] => 0
  | x :: r => uptoBulkEntry x + uptoBulkEntries r
def uptoBulkEntry {H : Type} : Lit × DataW H → Nat
  | (.string bytes, d) => bytes.length + uptoBulk d + 1
  | (_, d) => uptoBulk d + 1
 end
def uptoSmall : (H : Type) → List (DataW H) → Bool := fun _ ds => decide (uptoBulkAll ds ≤ 1048576)
def OpenSpec.upto (s : _root_.Go.ChangeSpec) : _root_.Go.OpenSpec := { _root_.Go.OpenSpec.ofChange s with cond := some uptoSmall }

/-- 'acrospirelaw06.BedTicks', WHERE WHAT IT READS IS OF BULK AT MOST 1048576: true; the input reads as it did. -/
def bedTicksUptoRow : OpenClaim := { program := "ytcbbdbglbfnbpaa", sum := "b9d703471ead66cf0cfaf36038ed73b245ce30c611aaa89756419b55a51fa663", func := "acrospire/acrospirelaw06.BedTicks", spec := "bedTicks", unfollowed := true, recurses := true, apart := false, narrowed := true }
def BedTicksUptoSaid : Prop := bedTicksUptoRow.holds Try.pinned (OpenSpec.upto bedTicksSpec)

/-- 'acrospirelaw06.BedRuns', WHERE WHAT IT READS IS OF BULK AT MOST 1048576: true; the input reads as it did. -/
def bedRunsUptoRow : OpenClaim := { program := "ytcbbdbglbfnbpaa", sum := "b9d703471ead66cf0cfaf36038ed73b245ce30c611aaa89756419b55a51fa663", func := "acrospire/acrospirelaw06.BedRuns", spec := "bedRuns", unfollowed := true, recurses := true, apart := false, narrowed := true }
def BedRunsUptoSaid : Prop := bedRunsUptoRow.holds Try.pinned (OpenSpec.upto bedRunsSpec)

/-- 'acrospirelaw06.BedUntils', WHERE WHAT IT READS IS OF BULK AT MOST 1048576: true; the input reads as it did. -/
def bedUntilsUptoRow : OpenClaim := { program := "ytcbbdbglbfnbpaa", sum := "b9d703471ead66cf0cfaf36038ed73b245ce30c611aaa89756419b55a51fa663", func := "acrospire/acrospirelaw06.BedUntils", spec := "bedUntils", unfollowed := true, recurses := true, apart := false, narrowed := true }
def BedUntilsUptoSaid : Prop := bedUntilsUptoRow.holds Try.pinned (OpenSpec.upto bedUntilsSpec)

/-- 'acrospirelaw06.BedSteeps', WHERE WHAT IT READS IS OF BULK AT MOST 1048576: true; the input reads as it did. -/
def bedSteepsUptoRow : OpenClaim := { program := "ytcbbdbglbfnbpaa", sum := "b9d703471ead66cf0cfaf36038ed73b245ce30c611aaa89756419b55a51fa663", func := "acrospire/acrospirelaw06.BedSteeps", spec := "bedSteeps", unfollowed := true, recurses := true, apart := false, narrowed := true }
def BedSteepsUptoSaid : Prop := bedSteepsUptoRow.holds Try.pinned (OpenSpec.upto bedSteepsSpec)

/-- 'acrospirelaw06.BedConserves', WHERE WHAT IT READS IS OF BULK AT MOST 1048576: true; the input reads as it did. -/
def bedConservesUptoRow : OpenClaim := { program := "ytcbbdbglbfnbpaa", sum := "b9d703471ead66cf0cfaf36038ed73b245ce30c611aaa89756419b55a51fa663", func := "acrospire/acrospirelaw06.BedConserves", spec := "bedConserves", unfollowed := true, recurses := true, apart := false, narrowed := true }
def BedConservesUptoSaid : Prop := bedConservesUptoRow.holds Try.pinned (OpenSpec.upto bedConservesSpec)

/-- 'acrospirelaw06.BedSmooths', WHERE WHAT IT READS IS OF BULK AT MOST 1048576: true; the input reads as it did. -/
def bedSmoothsUptoRow : OpenClaim := { program := "ytcbbdbglbfnbpaa", sum := "b9d703471ead66cf0cfaf36038ed73b245ce30c611aaa89756419b55a51fa663", func := "acrospire/acrospirelaw06.BedSmooths", spec := "bedSmooths", unfollowed := true, recurses := true, apart := false, narrowed := true }
def BedSmoothsUptoSaid : Prop := bedSmoothsUptoRow.holds Try.pinned (OpenSpec.upto bedSmoothsSpec)

/-- 'acrospirelaw06.BedTurns', WHERE WHAT IT READS IS OF BULK AT MOST 1048576: true; the input reads as it did. -/
def bedTurnsUptoRow : OpenClaim := { program := "ytcbbdbglbfnbpaa", sum := "b9d703471ead66cf0cfaf36038ed73b245ce30c611aaa89756419b55a51fa663", func := "acrospire/acrospirelaw06.BedTurns", spec := "bedTurns", unfollowed := true, recurses := true, apart := false, narrowed := true }
def BedTurnsUptoSaid : Prop := bedTurnsUptoRow.holds Try.pinned (OpenSpec.upto bedTurnsSpec)

/-- 'acrospirelaw06.BedAdds', WHERE WHAT IT READS IS OF BULK AT MOST 1048576: true; the input reads as it did. -/
def bedAddsUptoRow : OpenClaim := { program := "ytcbbdbglbfnbpaa", sum := "b9d703471ead66cf0cfaf36038ed73b245ce30c611aaa89756419b55a51fa663", func := "acrospire/acrospirelaw06.BedAdds", spec := "bedAdds", unfollowed := true, recurses := true, apart := false, narrowed := true }
def BedAddsUptoSaid : Prop := bedAddsUptoRow.holds Try.pinned (OpenSpec.upto bedAddsSpec)

/-- 'acrospirelaw06.BedLeast', WHERE WHAT IT READS IS OF BULK AT MOST 1048576: true; the input reads as it did. -/
def bedLeastUptoRow : OpenClaim := { program := "ytcbbdbglbfnbpaa", sum := "b9d703471ead66cf0cfaf36038ed73b245ce30c611aaa89756419b55a51fa663", func := "acrospire/acrospirelaw06.BedLeast", spec := "bedLeast", unfollowed := true, recurses := true, apart := false, narrowed := true }
def BedLeastUptoSaid : Prop := bedLeastUptoRow.holds Try.pinned (OpenSpec.upto bedLeastSpec)

end Rows
end Go.Proofs.Ytcbbdbglbfnbpaa
