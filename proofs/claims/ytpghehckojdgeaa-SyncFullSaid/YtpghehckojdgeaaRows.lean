/-
  No cell of these rows narrows 'for every input' (looked for: loops, veiled, ifaces, maps, wideKeys, modest, calm, conditions, laid).
  DERIVED. THE GIVEN ROWS OF THIS SEAT. 4 by the template 'for every input the law returns true; each argument reads behind the call as it read before'; 0 by the template 'total and deterministic' (their statements: YtpghehckojdgeaaTotals.lean).
  GIVEN WITH THE SEED: the statements are not yours to turn. If you find one false, say at which input.
  Laid BY PROGRAM, IN A SANDBOX (cutbox-rows.mjs): the forced cells as the released guide's own fill.sh prints them over the translation a03ade8cf7dfdbe8… (all of the seat's roots in one cut). By AI agents, Wed Nov 11 2026. No macro, syntax, notation, axiom, sorry.
-/
import Derived.Test.YtpghehckojdgeaaChecked
import GoSem.Claim
import GoSem.ClaimJoined
import GoSem.ClaimMapViews
import Derived.JoinedTies
import Derived.KernelRfl
namespace Go.Proofs.Ytpghehckojdgeaa
/- THE CELL 'sum', in the pinned program and in every row, IS THE sha256 OF THE DUMP (.gsa) THAT YtpghehckojdgeaaProg.lean LOADS. Nothing in Lean hashes anything: it is a label: what it is worth is what the hold of that sum in a sandbox is worth. -/
noncomputable def Try.pinned : Pinned := { name := "ytpghehckojdgeaa", sum := "a03ade8cf7dfdbe83871d96445a51978f3765c9be230a8f661ee1522c249cf32", checked := Try.checked }
namespace Rows
def none {H : Type} : Left H := { results := [], args := [] }

/-- 'acrospirelaw08.SyncTables': WHATEVER THE INPUT: true; the input reads as it did. -/
def syncTablesSpec : ChangeSpec := { name := "syncTables", fn := fun _ => fun
  | [d1, d2] => { results := [.lit (.bool true)], args := [d1, d2] }
  | _ => none }
def syncTablesRow : OpenClaim := { program := "ytpghehckojdgeaa", sum := "a03ade8cf7dfdbe83871d96445a51978f3765c9be230a8f661ee1522c249cf32", func := "acrospire/acrospirelaw08.SyncTables", spec := "syncTables", inPlace := ["internal/bytealg.abigen_runtime_cmpstring"], unfollowed := true, recurses := true, apart := false }
def SyncTablesSaid : Prop := syncTablesRow.holds Try.pinned (OpenSpec.ofChange syncTablesSpec)

/-- ITS FALSE NEIGHBOUR: 'it returns false'. Refute it at one input. -/
def syncTablesWrong : ChangeSpec := { name := "syncTables", fn := fun _ => fun
  | [d1, d2] => { results := [.lit (.bool false)], args := [d1, d2] }
  | _ => none }
def SyncTablesWrongFalsely : Prop := syncTablesRow.holds Try.pinned (OpenSpec.ofChange syncTablesWrong)

/-- 'acrospirelaw08.SyncCompares': WHATEVER THE INPUT: true; the input reads as it did. -/
def syncComparesSpec : ChangeSpec := { name := "syncCompares", fn := fun _ => fun
  | [d1, d2, d3] => { results := [.lit (.bool true)], args := [d1, d2, d3] }
  | _ => none }
def syncComparesRow : OpenClaim := { program := "ytpghehckojdgeaa", sum := "a03ade8cf7dfdbe83871d96445a51978f3765c9be230a8f661ee1522c249cf32", func := "acrospire/acrospirelaw08.SyncCompares", spec := "syncCompares", inPlace := ["internal/bytealg.abigen_runtime_cmpstring"], unfollowed := true, recurses := true, apart := false }
def SyncComparesSaid : Prop := syncComparesRow.holds Try.pinned (OpenSpec.ofChange syncComparesSpec)

/-- ITS FALSE NEIGHBOUR: 'it returns false'. Refute it at one input. -/
def syncComparesWrong : ChangeSpec := { name := "syncCompares", fn := fun _ => fun
  | [d1, d2, d3] => { results := [.lit (.bool false)], args := [d1, d2, d3] }
  | _ => none }
def SyncComparesWrongFalsely : Prop := syncComparesRow.holds Try.pinned (OpenSpec.ofChange syncComparesWrong)

/-- 'acrospirelaw08.SyncNets': WHATEVER THE INPUT: true; the input reads as it did. -/
def syncNetsSpec : ChangeSpec := { name := "syncNets", fn := fun _ => fun
  | [d1, d2] => { results := [.lit (.bool true)], args := [d1, d2] }
  | _ => none }
def syncNetsRow : OpenClaim := { program := "ytpghehckojdgeaa", sum := "a03ade8cf7dfdbe83871d96445a51978f3765c9be230a8f661ee1522c249cf32", func := "acrospire/acrospirelaw08.SyncNets", spec := "syncNets", inPlace := ["internal/bytealg.abigen_runtime_cmpstring"], unfollowed := true, recurses := true, apart := false }
def SyncNetsSaid : Prop := syncNetsRow.holds Try.pinned (OpenSpec.ofChange syncNetsSpec)

/-- ITS FALSE NEIGHBOUR: 'it returns false'. Refute it at one input. -/
def syncNetsWrong : ChangeSpec := { name := "syncNets", fn := fun _ => fun
  | [d1, d2] => { results := [.lit (.bool false)], args := [d1, d2] }
  | _ => none }
def SyncNetsWrongFalsely : Prop := syncNetsRow.holds Try.pinned (OpenSpec.ofChange syncNetsWrong)

/-- 'acrospirelaw08.SyncFull': WHATEVER THE INPUT: true; the input reads as it did. -/
def syncFullSpec : ChangeSpec := { name := "syncFull", fn := fun _ => fun
  | [d1, d2, d3] => { results := [.lit (.bool true)], args := [d1, d2, d3] }
  | _ => none }
def syncFullRow : OpenClaim := { program := "ytpghehckojdgeaa", sum := "a03ade8cf7dfdbe83871d96445a51978f3765c9be230a8f661ee1522c249cf32", func := "acrospire/acrospirelaw08.SyncFull", spec := "syncFull", inPlace := ["internal/bytealg.abigen_runtime_cmpstring"], unfollowed := true, recurses := true, apart := false }
def SyncFullSaid : Prop := syncFullRow.holds Try.pinned (OpenSpec.ofChange syncFullSpec)

/-- ITS FALSE NEIGHBOUR: 'it returns false'. Refute it at one input. -/
def syncFullWrong : ChangeSpec := { name := "syncFull", fn := fun _ => fun
  | [d1, d2, d3] => { results := [.lit (.bool false)], args := [d1, d2, d3] }
  | _ => none }
def SyncFullWrongFalsely : Prop := syncFullRow.holds Try.pinned (OpenSpec.ofChange syncFullWrong)

/- THE SECOND FORM. 'bulk': how many values and letters a reading holds, each counted each time it is reached (what is shared counts as often as it is met; a slice's spare places count too). A statement '..UptoSaid' is the law's where the arguments, and the package variables that the reading takes, are together of bulk at most 1048576: NARROWER than '..Said'. Prove '..Said' where nothing that the law and all that it calls make is longer than what came in: it says more and counts as full. Else prove '..UptoSaid'. A law counts once. -/
mutual
def uptoBulk {H : Type} : DataW H → Nat
  | .lit (.string bytes) => bytes.length + 1
  | .lit _ => 1
  | .nil => 1
  | .ptr d => uptoBulk d + 1
  | .slice elems spare => uptoBulkAll elems + uptoBulkAll spare + 1
  | .agg parts => uptoBulkAll parts + 1
  | .iface _ d => uptoBulk d + 1
  | .map entries => uptoBulkEntries entries + 1
  | .held _ => 1
def uptoBulkAll {H : Type} : List (DataW H) → Nat
  | [] => 0
  | d :: r => uptoBulk d + uptoBulkAll r
def uptoBulkEntries {H : Type} : List (Lit × DataW H) → Nat
  | [] => 0
  | x :: r => uptoBulkEntry x + uptoBulkEntries r
def uptoBulkEntry {H : Type} : Lit × DataW H → Nat
  | (.string bytes, d) => bytes.length + uptoBulk d + 1
  | (_, d) => uptoBulk d + 1
 end
def uptoSmall : (H : Type) → List (DataW H) → Bool := fun _ ds => decide (uptoBulkAll ds ≤ 1048576)
def OpenSpec.upto (s : _root_.Go.ChangeSpec) : _root_.Go.OpenSpec := { _root_.Go.OpenSpec.ofChange s with cond := some uptoSmall }

/-- 'acrospirelaw08.SyncTables', WHERE WHAT IT READS IS OF BULK AT MOST 1048576: true; the input reads as it did. -/
def syncTablesUptoRow : OpenClaim := { program := "ytpghehckojdgeaa", sum := "a03ade8cf7dfdbe83871d96445a51978f3765c9be230a8f661ee1522c249cf32", func := "acrospire/acrospirelaw08.SyncTables", spec := "syncTables", inPlace := ["internal/bytealg.abigen_runtime_cmpstring"], unfollowed := true, recurses := true, apart := false, narrowed := true }
def SyncTablesUptoSaid : Prop := syncTablesUptoRow.holds Try.pinned (OpenSpec.upto syncTablesSpec)

/-- 'acrospirelaw08.SyncCompares', WHERE WHAT IT READS IS OF BULK AT MOST 1048576: true; the input reads as it did. -/
def syncComparesUptoRow : OpenClaim := { program := "ytpghehckojdgeaa", sum := "a03ade8cf7dfdbe83871d96445a51978f3765c9be230a8f661ee1522c249cf32", func := "acrospire/acrospirelaw08.SyncCompares", spec := "syncCompares", inPlace := ["internal/bytealg.abigen_runtime_cmpstring"], unfollowed := true, recurses := true, apart := false, narrowed := true }
def SyncComparesUptoSaid : Prop := syncComparesUptoRow.holds Try.pinned (OpenSpec.upto syncComparesSpec)

/-- 'acrospirelaw08.SyncNets', WHERE WHAT IT READS IS OF BULK AT MOST 1048576: true; the input reads as it did. -/
def syncNetsUptoRow : OpenClaim := { program := "ytpghehckojdgeaa", sum := "a03ade8cf7dfdbe83871d96445a51978f3765c9be230a8f661ee1522c249cf32", func := "acrospire/acrospirelaw08.SyncNets", spec := "syncNets", inPlace := ["internal/bytealg.abigen_runtime_cmpstring"], unfollowed := true, recurses := true, apart := false, narrowed := true }
def SyncNetsUptoSaid : Prop := syncNetsUptoRow.holds Try.pinned (OpenSpec.upto syncNetsSpec)

/-- 'acrospirelaw08.SyncFull', WHERE WHAT IT READS IS OF BULK AT MOST 1048576: true; the input reads as it did. -/
def syncFullUptoRow : OpenClaim := { program := "ytpghehckojdgeaa", sum := "a03ade8cf7dfdbe83871d96445a51978f3765c9be230a8f661ee1522c249cf32", func := "acrospire/acrospirelaw08.SyncFull", spec := "syncFull", inPlace := ["internal/bytealg.abigen_runtime_cmpstring"], unfollowed := true, recurses := true, apart := false, narrowed := true }
def SyncFullUptoSaid : Prop := syncFullUptoRow.holds Try.pinned (OpenSpec.upto syncFullSpec)

end Rows
end Go.Proofs.Ytpghehckojdgeaa
