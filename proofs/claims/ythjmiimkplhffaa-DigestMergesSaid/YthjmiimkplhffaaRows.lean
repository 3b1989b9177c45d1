/-
  No cell of these rows narrows 'for every input' (looked for: loops, veiled, ifaces, maps, wideKeys, modest, calm, conditions, laid).
  DERIVED. THE GIVEN ROWS OF THIS SEAT. 9 by the template 'for every input the law returns true; each argument reads behind the call as it read before'; 0 by the template 'total and deterministic' (their statements: YthjmiimkplhffaaTotals.lean).
  GIVEN WITH THE SEED: the statements are not yours to turn. If you find one false, say at which input.
  Laid BY PROGRAM, IN A SANDBOX (cutbox-rows.mjs): the forced cells as the released guide's own fill.sh prints them over the translation 6e19bb91de5ad43c… (all of the seat's roots in one cut). By AI agents, Wed Nov 11 2026. No macro, syntax, notation, axiom, sorry.
-/
import Derived.Test.YthjmiimkplhffaaChecked
import GoSem.Claim
import GoSem.ClaimJoined
import GoSem.ClaimMapViews
import Derived.JoinedTies
import Derived.KernelRfl
namespace Go.Proofs.Ythjmiimkplhffaa
/- THE CELL 'sum', in the pinned program and in every row, IS THE sha256 OF THE DUMP (.gsa) THAT YthjmiimkplhffaaProg.lean LOADS. Nothing in Lean hashes anything: it is a label: what it is worth is what the hold of that sum in a sandbox is worth. -/
noncomputable def Try.pinned : Pinned := { name := "ythjmiimkplhffaa", sum := "6e19bb91de5ad43cdb9d10a2ce6794f40bdaa0971028bba5b6207cdb3608aa57", checked := Try.checked }
namespace Rows
def none {H : Type} : Left H := { results := [], args := [] }

/-- 'acrospirelaw07.DigestPlays': WHATEVER THE INPUT: true; the input reads as it did. -/
def digestPlaysSpec : ChangeSpec := { name := "digestPlays", fn := fun _ => fun
  | [d1, d2, d3] => { results := [.lit (.bool true)], args := [d1, d2, d3] }
  | _ => none }
def digestPlaysRow : OpenClaim := { program := "ythjmiimkplhffaa", sum := "6e19bb91de5ad43cdb9d10a2ce6794f40bdaa0971028bba5b6207cdb3608aa57", func := "acrospire/acrospirelaw07.DigestPlays", spec := "digestPlays", inPlace := ["maps.clone"], unfollowed := true, recurses := true, apart := false }
def DigestPlaysSaid : Prop := digestPlaysRow.holds Try.pinned (OpenSpec.ofChange digestPlaysSpec)

/-- ITS FALSE NEIGHBOUR: 'it returns false'. Refute it at one input. -/
def digestPlaysWrong : ChangeSpec := { name := "digestPlays", fn := fun _ => fun
  | [d1, d2, d3] => { results := [.lit (.bool false)], args := [d1, d2, d3] }
  | _ => none }
def DigestPlaysWrongFalsely : Prop := digestPlaysRow.holds Try.pinned (OpenSpec.ofChange digestPlaysWrong)

/-- 'acrospirelaw07.DigestLooks': WHATEVER THE INPUT: true; the input reads as it did. -/
def digestLooksSpec : ChangeSpec := { name := "digestLooks", fn := fun _ => fun
  | [d1, d2, d3, d4, d5] => { results := [.lit (.bool true)], args := [d1, d2, d3, d4, d5] }
  | _ => none }
def digestLooksRow : OpenClaim := { program := "ythjmiimkplhffaa", sum := "6e19bb91de5ad43cdb9d10a2ce6794f40bdaa0971028bba5b6207cdb3608aa57", func := "acrospire/acrospirelaw07.DigestLooks", spec := "digestLooks", inPlace := ["maps.clone"], unfollowed := true, recurses := true, apart := false }
def DigestLooksSaid : Prop := digestLooksRow.holds Try.pinned (OpenSpec.ofChange digestLooksSpec)

/-- ITS FALSE NEIGHBOUR: 'it returns false'. Refute it at one input. -/
def digestLooksWrong : ChangeSpec := { name := "digestLooks", fn := fun _ => fun
  | [d1, d2, d3, d4, d5] => { results := [.lit (.bool false)], args := [d1, d2, d3, d4, d5] }
  | _ => none }
def DigestLooksWrongFalsely : Prop := digestLooksRow.holds Try.pinned (OpenSpec.ofChange digestLooksWrong)

/-- 'acrospirelaw07.DigestMerges': WHATEVER THE INPUT: true; the input reads as it did. -/
def digestMergesSpec : ChangeSpec := { name := "digestMerges", fn := fun _ => fun
  | [d1, d2, d3, d4] => { results := [.lit (.bool true)], args := [d1, d2, d3, d4] }
  | _ => none }
def digestMergesRow : OpenClaim := { program := "ythjmiimkplhffaa", sum := "6e19bb91de5ad43cdb9d10a2ce6794f40bdaa0971028bba5b6207cdb3608aa57", func := "acrospire/acrospirelaw07.DigestMerges", spec := "digestMerges", inPlace := ["maps.clone"], unfollowed := true, recurses := true, apart := false }
def DigestMergesSaid : Prop := digestMergesRow.holds Try.pinned (OpenSpec.ofChange digestMergesSpec)

/-- ITS FALSE NEIGHBOUR: 'it returns false'. Refute it at one input. -/
def digestMergesWrong : ChangeSpec := { name := "digestMerges", fn := fun _ => fun
  | [d1, d2, d3, d4] => { results := [.lit (.bool false)], args := [d1, d2, d3, d4] }
  | _ => none }
def DigestMergesWrongFalsely : Prop := digestMergesRow.holds Try.pinned (OpenSpec.ofChange digestMergesWrong)

/-- 'acrospirelaw07.DigestUnusable': WHATEVER THE INPUT: true; the input reads as it did. -/
def digestUnusableSpec : ChangeSpec := { name := "digestUnusable", fn := fun _ => fun
  | [d1, d2] => { results := [.lit (.bool true)], args := [d1, d2] }
  | _ => none }
def digestUnusableRow : OpenClaim := { program := "ythjmiimkplhffaa", sum := "6e19bb91de5ad43cdb9d10a2ce6794f40bdaa0971028bba5b6207cdb3608aa57", func := "acrospire/acrospirelaw07.DigestUnusable", spec := "digestUnusable", inPlace := ["maps.clone"], unfollowed := true, recurses := true, apart := false }
def DigestUnusableSaid : Prop := digestUnusableRow.holds Try.pinned (OpenSpec.ofChange digestUnusableSpec)

/-- ITS FALSE NEIGHBOUR: 'it returns false'. Refute it at one input. -/
def digestUnusableWrong : ChangeSpec := { name := "digestUnusable", fn := fun _ => fun
  | [d1, d2] => { results := [.lit (.bool false)], args := [d1, d2] }
  | _ => none }
def DigestUnusableWrongFalsely : Prop := digestUnusableRow.holds Try.pinned (OpenSpec.ofChange digestUnusableWrong)

/-- 'acrospirelaw07.DigestNear': WHATEVER THE INPUT: true; the input reads as it did. -/
def digestNearSpec : ChangeSpec := { name := "digestNear", fn := fun _ => fun
  | [d1, d2, d3, d4, d5] => { results := [.lit (.bool true)], args := [d1, d2, d3, d4, d5] }
  | _ => none }
def digestNearRow : OpenClaim := { program := "ythjmiimkplhffaa", sum := "6e19bb91de5ad43cdb9d10a2ce6794f40bdaa0971028bba5b6207cdb3608aa57", func := "acrospire/acrospirelaw07.DigestNear", spec := "digestNear", inPlace := ["maps.clone"], unfollowed := true, recurses := true, apart := false }
def DigestNearSaid : Prop := digestNearRow.holds Try.pinned (OpenSpec.ofChange digestNearSpec)

/-- ITS FALSE NEIGHBOUR: 'it returns false'. Refute it at one input. -/
def digestNearWrong : ChangeSpec := { name := "digestNear", fn := fun _ => fun
  | [d1, d2, d3, d4, d5] => { results := [.lit (.bool false)], args := [d1, d2, d3, d4, d5] }
  | _ => none }
def DigestNearWrongFalsely : Prop := digestNearRow.holds Try.pinned (OpenSpec.ofChange digestNearWrong)

/-- 'acrospirelaw07.DigestJoined': WHATEVER THE INPUT: true; the input reads as it did. -/
def digestJoinedSpec : ChangeSpec := { name := "digestJoined", fn := fun _ => fun
  | [d1, d2, d3, d4, d5, d6, d7] => { results := [.lit (.bool true)], args := [d1, d2, d3, d4, d5, d6, d7] }
  | _ => none }
def digestJoinedRow : OpenClaim := { program := "ythjmiimkplhffaa", sum := "6e19bb91de5ad43cdb9d10a2ce6794f40bdaa0971028bba5b6207cdb3608aa57", func := "acrospire/acrospirelaw07.DigestJoined", spec := "digestJoined", inPlace := ["maps.clone"], unfollowed := true, recurses := true, apart := false }
def DigestJoinedSaid : Prop := digestJoinedRow.holds Try.pinned (OpenSpec.ofChange digestJoinedSpec)

/-- ITS FALSE NEIGHBOUR: 'it returns false'. Refute it at one input. -/
def digestJoinedWrong : ChangeSpec := { name := "digestJoined", fn := fun _ => fun
  | [d1, d2, d3, d4, d5, d6, d7] => { results := [.lit (.bool false)], args := [d1, d2, d3, d4, d5, d6, d7] }
  | _ => none }
def DigestJoinedWrongFalsely : Prop := digestJoinedRow.holds Try.pinned (OpenSpec.ofChange digestJoinedWrong)

/-- 'acrospirelaw07.DigestSmall': WHATEVER THE INPUT: true; the input reads as it did. -/
def digestSmallSpec : ChangeSpec := { name := "digestSmall", fn := fun _ => fun
  | [d1, d2, d3] => { results := [.lit (.bool true)], args := [d1, d2, d3] }
  | _ => none }
def digestSmallRow : OpenClaim := { program := "ythjmiimkplhffaa", sum := "6e19bb91de5ad43cdb9d10a2ce6794f40bdaa0971028bba5b6207cdb3608aa57", func := "acrospire/acrospirelaw07.DigestSmall", spec := "digestSmall", inPlace := ["maps.clone"], unfollowed := true, recurses := true, apart := false }
def DigestSmallSaid : Prop := digestSmallRow.holds Try.pinned (OpenSpec.ofChange digestSmallSpec)

/-- ITS FALSE NEIGHBOUR: 'it returns false'. Refute it at one input. -/
def digestSmallWrong : ChangeSpec := { name := "digestSmall", fn := fun _ => fun
  | [d1, d2, d3] => { results := [.lit (.bool false)], args := [d1, d2, d3] }
  | _ => none }
def DigestSmallWrongFalsely : Prop := digestSmallRow.holds Try.pinned (OpenSpec.ofChange digestSmallWrong)

/-- 'acrospirelaw07.DigestCommutes': WHATEVER THE INPUT: true; the input reads as it did. -/
def digestCommutesSpec : ChangeSpec := { name := "digestCommutes", fn := fun _ => fun
  | [d1, d2, d3, d4] => { results := [.lit (.bool true)], args := [d1, d2, d3, d4] }
  | _ => none }
def digestCommutesRow : OpenClaim := { program := "ythjmiimkplhffaa", sum := "6e19bb91de5ad43cdb9d10a2ce6794f40bdaa0971028bba5b6207cdb3608aa57", func := "acrospire/acrospirelaw07.DigestCommutes", spec := "digestCommutes", inPlace := ["maps.clone"], unfollowed := true, recurses := true, apart := false }
def DigestCommutesSaid : Prop := digestCommutesRow.holds Try.pinned (OpenSpec.ofChange digestCommutesSpec)

/-- ITS FALSE NEIGHBOUR: 'it returns false'. Refute it at one input. -/
def digestCommutesWrong : ChangeSpec := { name := "digestCommutes", fn := fun _ => fun
  | [d1, d2, d3, d4] => { results := [.lit (.bool false)], args := [d1, d2, d3, d4] }
  | _ => none }
def DigestCommutesWrongFalsely : Prop := digestCommutesRow.holds Try.pinned (OpenSpec.ofChange digestCommutesWrong)

/-- 'acrospirelaw07.DigestExact': WHATEVER THE INPUT: true; the input reads as it did. -/
def digestExactSpec : ChangeSpec := { name := "digestExact", fn := fun _ => fun
  | [d1, d2, d3, d4, d5] => { results := [.lit (.bool true)], args := [d1, d2, d3, d4, d5] }
  | _ => none }
def digestExactRow : OpenClaim := { program := "ythjmiimkplhffaa", sum := "6e19bb91de5ad43cdb9d10a2ce6794f40bdaa0971028bba5b6207cdb3608aa57", func := "acrospire/acrospirelaw07.DigestExact", spec := "digestExact", inPlace := ["maps.clone"], unfollowed := true, recurses := true, apart := false }
def DigestExactSaid : Prop := digestExactRow.holds Try.pinned (OpenSpec.ofChange digestExactSpec)

/-- ITS FALSE NEIGHBOUR: 'it returns false'. Refute it at one input. -/
def digestExactWrong : ChangeSpec := { name := "digestExact", fn := fun _ => fun
  | [d1, d2, d3, d4, d5] => { results := [.lit (.bool false)], args := [d1, d2, d3, d4, d5] }
  | _ => none }
def DigestExactWrongFalsely : Prop := digestExactRow.holds Try.pinned (OpenSpec.ofChange digestExactWrong)

/- THE SECOND FORM. 'bulk': how many values and letters a reading holds, each counted each time it is reached (what is shared counts as often as it is met; a slice's spare places count too). A statement '..UptoSaid' is the law's where the arguments, and the package variables that the reading takes, are together of bulk at most 1048576: NARROWER than '..Said'. Prove '..Said' where nothing that the law and all that it calls make is longer than what came in: it says more and counts as full. Else prove '..UptoSaid'. A law counts once. -/
mutual
def uptoBulk {H : Type} : DataW H → Nat
  | .lit (.string bytes) => bytes.length + 1
  | .lit _ => 1
  | .nil => 1
  | .ptr d => uptoBulk d + 1
  | .slice elems spare => uptoBulkAll elems + uptoBulkAll spare + 1
  | .agg parts => uptoBulkAll parts + 1
  | .iface _ d => uptoBulk d + 1
  | .map entries => uptoBulkEntries entries + 1
  | .held _ => 1
def uptoBulkAll {H : Type} : List (DataW H) → Nat
  | [] => 0
  | d :: r => uptoBulk d + uptoBulkAll r
def uptoBulkEntries {H : Type} : List (Lit × DataW H) → Nat
  | [] => 0
  | x :: r => uptoBulkEntry x + uptoBulkEntries r
def uptoBulkEntry {H : Type} : Lit × DataW H → Nat
  | (.string bytes, d) => bytes.length + uptoBulk d + 1
  | (_, d) => uptoBulk d + 1
 end
def uptoSmall : (H : Type) → List (DataW H) → Bool := fun _ ds => decide (uptoBulkAll ds ≤ 1048576)
def OpenSpec.upto (s : _root_.Go.ChangeSpec) : _root_.Go.OpenSpec := { _root_.Go.OpenSpec.ofChange s with cond := some uptoSmall }

/-- 'acrospirelaw07.DigestPlays', WHERE WHAT IT READS IS OF BULK AT MOST 1048576: true; the input reads as it did. -/
def digestPlaysUptoRow : OpenClaim := { program := "ythjmiimkplhffaa", sum := "6e19bb91de5ad43cdb9d10a2ce6794f40bdaa0971028bba5b6207cdb3608aa57", func := "acrospire/acrospirelaw07.DigestPlays", spec := "digestPlays", inPlace := ["maps.clone"], unfollowed := true, recurses := true, apart := false, narrowed := true }
def DigestPlaysUptoSaid : Prop := digestPlaysUptoRow.holds Try.pinned (OpenSpec.upto digestPlaysSpec)

/-- 'acrospirelaw07.DigestLooks', WHERE WHAT IT READS IS OF BULK AT MOST 1048576: true; the input reads as it did. -/
def digestLooksUptoRow : OpenClaim := { program := "ythjmiimkplhffaa", sum := "6e19bb91de5ad43cdb9d10a2ce6794f40bdaa0971028bba5b6207cdb3608aa57", func := "acrospire/acrospirelaw07.DigestLooks", spec := "digestLooks", inPlace := ["maps.clone"], unfollowed := true, recurses := true, apart := false, narrowed := true }
def DigestLooksUptoSaid : Prop := digestLooksUptoRow.holds Try.pinned (OpenSpec.upto digestLooksSpec)

/-- 'acrospirelaw07.DigestMerges', WHERE WHAT IT READS IS OF BULK AT MOST 1048576: true; the input reads as it did. -/
def digestMergesUptoRow : OpenClaim := { program := "ythjmiimkplhffaa", sum := "6e19bb91de5ad43cdb9d10a2ce6794f40bdaa0971028bba5b6207cdb3608aa57", func := "acrospire/acrospirelaw07.DigestMerges", spec := "digestMerges", inPlace := ["maps.clone"], unfollowed := true, recurses := true, apart := false, narrowed := true }
def DigestMergesUptoSaid : Prop := digestMergesUptoRow.holds Try.pinned (OpenSpec.upto digestMergesSpec)

/-- 'acrospirelaw07.DigestUnusable', WHERE WHAT IT READS IS OF BULK AT MOST 1048576: true; the input reads as it did. -/
def digestUnusableUptoRow : OpenClaim := { program := "ythjmiimkplhffaa", sum := "6e19bb91de5ad43cdb9d10a2ce6794f40bdaa0971028bba5b6207cdb3608aa57", func := "acrospire/acrospirelaw07.DigestUnusable", spec := "digestUnusable", inPlace := ["maps.clone"], unfollowed := true, recurses := true, apart := false, narrowed := true }
def DigestUnusableUptoSaid : Prop := digestUnusableUptoRow.holds Try.pinned (OpenSpec.upto digestUnusableSpec)

/-- 'acrospirelaw07.DigestNear', WHERE WHAT IT READS IS OF BULK AT MOST 1048576: true; the input reads as it did. -/
def digestNearUptoRow : OpenClaim := { program := "ythjmiimkplhffaa", sum := "6e19bb91de5ad43cdb9d10a2ce6794f40bdaa0971028bba5b6207cdb3608aa57", func := "acrospire/acrospirelaw07.DigestNear", spec := "digestNear", inPlace := ["maps.clone"], unfollowed := true, recurses := true, apart := false, narrowed := true }
def DigestNearUptoSaid : Prop := digestNearUptoRow.holds Try.pinned (OpenSpec.upto digestNearSpec)

/-- 'acrospirelaw07.DigestJoined', WHERE WHAT IT READS IS OF BULK AT MOST 1048576: true; the input reads as it did. -/
def digestJoinedUptoRow : OpenClaim := { program := "ythjmiimkplhffaa", sum := "6e19bb91de5ad43cdb9d10a2ce6794f40bdaa0971028bba5b6207cdb3608aa57", func := "acrospire/acrospirelaw07.DigestJoined", spec := "digestJoined", inPlace := ["maps.clone"], unfollowed := true, recurses := true, apart := false, narrowed := true }
def DigestJoinedUptoSaid : Prop := digestJoinedUptoRow.holds Try.pinned (OpenSpec.upto digestJoinedSpec)

/-- 'acrospirelaw07.DigestSmall', WHERE WHAT IT READS IS OF BULK AT MOST 1048576: true; the input reads as it did. -/
def digestSmallUptoRow : OpenClaim := { program := "ythjmiimkplhffaa", sum := "6e19bb91de5ad43cdb9d10a2ce6794f40bdaa0971028bba5b6207cdb3608aa57", func := "acrospire/acrospirelaw07.DigestSmall", spec := "digestSmall", inPlace := ["maps.clone"], unfollowed := true, recurses := true, apart := false, narrowed := true }
def DigestSmallUptoSaid : Prop := digestSmallUptoRow.holds Try.pinned (OpenSpec.upto digestSmallSpec)

/-- 'acrospirelaw07.DigestCommutes', WHERE WHAT IT READS IS OF BULK AT MOST 1048576: true; the input reads as it did. -/
def digestCommutesUptoRow : OpenClaim := { program := "ythjmiimkplhffaa", sum := "6e19bb91de5ad43cdb9d10a2ce6794f40bdaa0971028bba5b6207cdb3608aa57", func := "acrospire/acrospirelaw07.DigestCommutes", spec := "digestCommutes", inPlace := ["maps.clone"], unfollowed := true, recurses := true, apart := false, narrowed := true }
def DigestCommutesUptoSaid : Prop := digestCommutesUptoRow.holds Try.pinned (OpenSpec.upto digestCommutesSpec)

/-- 'acrospirelaw07.DigestExact', WHERE WHAT IT READS IS OF BULK AT MOST 1048576: true; the input reads as it did. -/
def digestExactUptoRow : OpenClaim := { program := "ythjmiimkplhffaa", sum := "6e19bb91de5ad43cdb9d10a2ce6794f40bdaa0971028bba5b6207cdb3608aa57", func := "acrospire/acrospirelaw07.DigestExact", spec := "digestExact", inPlace := ["maps.clone"], unfollowed := true, recurses := true, apart := false, narrowed := true }
def DigestExactUptoSaid : Prop := digestExactUptoRow.holds Try.pinned (OpenSpec.upto digestExactSpec)

end Rows
end Go.Proofs.Ythjmiimkplhffaa
