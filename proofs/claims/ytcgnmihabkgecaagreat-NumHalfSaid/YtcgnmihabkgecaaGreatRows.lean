/-
  No cell of these rows narrows 'for every input' (looked for: loops, veiled, ifaces, maps, wideKeys, modest, calm, conditions, laid).
  DERIVED. THE GIVEN ROWS OF THIS SEAT. 4 by the template 'for every input the law returns true; each argument reads behind the call as it read before'; 0 by the template 'total and deterministic' (their statements: YtcgnmihabkgecaaGreatTotals.lean).
  GIVEN WITH THE SEED: the statements are not yours to turn. If you find one false, say at which input.
  Laid BY PROGRAM, IN A SANDBOX (cutbox-rows.mjs): the forced cells as the released guide's own fill.sh prints them over the translation 8e1b792273038cfb… (all of the seat's roots in one cut). By AI agents, Wed Nov 11 2026. No macro, syntax, notation, axiom, sorry.
-/
import Derived.Test.YtcgnmihabkgecaaGreatChecked
import GoSem.Claim
import GoSem.ClaimJoined
import GoSem.ClaimMapViews
import Derived.JoinedTies
import Derived.KernelRfl
namespace Go.Proofs.YtcgnmihabkgecaaGreat
/- THE CELL 'sum', in the pinned program and in every row, IS THE sha256 OF THE DUMP (.gsa) THAT YtcgnmihabkgecaaGreatProg.lean LOADS. Nothing in Lean hashes anything: it is a label: what it is worth is what the hold of that sum in a sandbox is worth. -/
noncomputable def Tryz.pinned : Pinned := { name := "ytcgnmihabkgecaagreat", sum := "8e1b792273038cfb13e513be3d1ad94177503c2a2d5d65f43c1490b9dc641467", checked := Tryz.checked }
namespace Rows
def none {H : Type} : Left H := { results := [], args := [] }

/-- 'acrospirelaw01.NumRatTexts': WHATEVER THE INPUT: true; the input reads as it did. -/
def numRatTextsSpec : ChangeSpec := { name := "numRatTexts", fn := fun _ => fun
  | [d] => { results := [.lit (.bool true)], args := [d] }
  | _ => none }
def numRatTextsRow : OpenClaim := { program := "ytcgnmihabkgecaagreat", sum := "8e1b792273038cfb13e513be3d1ad94177503c2a2d5d65f43c1490b9dc641467", func := "acrospire/acrospirelaw01.NumRatTexts", spec := "numRatTexts", inPlace := ["internal/abi.NoEscape", "internal/bytealg.MakeNoZero", "internal/bytealg.IndexByteString", "internal/bytealg.IndexString"], named := ["internal/bytealg.MaxLen"], apart := false }
def NumRatTextsSaid : Prop := numRatTextsRow.holds Tryz.pinned (OpenSpec.ofChange numRatTextsSpec)

/-- ITS FALSE NEIGHBOUR: 'it returns false'. Refute it at one input. -/
def numRatTextsWrong : ChangeSpec := { name := "numRatTexts", fn := fun _ => fun
  | [d] => { results := [.lit (.bool false)], args := [d] }
  | _ => none }
def NumRatTextsWrongFalsely : Prop := numRatTextsRow.holds Tryz.pinned (OpenSpec.ofChange numRatTextsWrong)

/-- 'acrospirelaw01.NumDecimals': WHATEVER THE INPUT: true; the input reads as it did. -/
def numDecimalsSpec : ChangeSpec := { name := "numDecimals", fn := fun _ => fun
  | [d] => { results := [.lit (.bool true)], args := [d] }
  | _ => none }
def numDecimalsRow : OpenClaim := { program := "ytcgnmihabkgecaagreat", sum := "8e1b792273038cfb13e513be3d1ad94177503c2a2d5d65f43c1490b9dc641467", func := "acrospire/acrospirelaw01.NumDecimals", spec := "numDecimals", inPlace := ["internal/abi.NoEscape", "internal/bytealg.MakeNoZero", "internal/bytealg.IndexByteString", "internal/bytealg.IndexString"], named := ["internal/bytealg.MaxLen"], apart := false }
def NumDecimalsSaid : Prop := numDecimalsRow.holds Tryz.pinned (OpenSpec.ofChange numDecimalsSpec)

/-- ITS FALSE NEIGHBOUR: 'it returns false'. Refute it at one input. -/
def numDecimalsWrong : ChangeSpec := { name := "numDecimals", fn := fun _ => fun
  | [d] => { results := [.lit (.bool false)], args := [d] }
  | _ => none }
def NumDecimalsWrongFalsely : Prop := numDecimalsRow.holds Tryz.pinned (OpenSpec.ofChange numDecimalsWrong)

/-- 'acrospirelaw01.NumField': WHATEVER THE INPUT: true; the input reads as it did. -/
def numFieldSpec : ChangeSpec := { name := "numField", fn := fun _ => fun
  | [d1, d2, d3, d4, d5, d6] => { results := [.lit (.bool true)], args := [d1, d2, d3, d4, d5, d6] }
  | _ => none }
def numFieldRow : OpenClaim := { program := "ytcgnmihabkgecaagreat", sum := "8e1b792273038cfb13e513be3d1ad94177503c2a2d5d65f43c1490b9dc641467", func := "acrospire/acrospirelaw01.NumField", spec := "numField", inPlace := ["internal/abi.NoEscape", "internal/bytealg.MakeNoZero", "internal/bytealg.IndexByteString", "internal/bytealg.IndexString"], named := ["internal/bytealg.MaxLen"], apart := false }
def NumFieldSaid : Prop := numFieldRow.holds Tryz.pinned (OpenSpec.ofChange numFieldSpec)

/-- ITS FALSE NEIGHBOUR: 'it returns false'. Refute it at one input. -/
def numFieldWrong : ChangeSpec := { name := "numField", fn := fun _ => fun
  | [d1, d2, d3, d4, d5, d6] => { results := [.lit (.bool false)], args := [d1, d2, d3, d4, d5, d6] }
  | _ => none }
def NumFieldWrongFalsely : Prop := numFieldRow.holds Tryz.pinned (OpenSpec.ofChange numFieldWrong)

/-- 'acrospirelaw01.NumHalf': WHATEVER THE INPUT: true; the input reads as it did. -/
def numHalfSpec : ChangeSpec := { name := "numHalf", fn := fun _ => fun
  | [d1, d2, d3] => { results := [.lit (.bool true)], args := [d1, d2, d3] }
  | _ => none }
def numHalfRow : OpenClaim := { program := "ytcgnmihabkgecaagreat", sum := "8e1b792273038cfb13e513be3d1ad94177503c2a2d5d65f43c1490b9dc641467", func := "acrospire/acrospirelaw01.NumHalf", spec := "numHalf", inPlace := ["internal/abi.NoEscape", "internal/bytealg.MakeNoZero", "internal/bytealg.IndexByteString", "internal/bytealg.IndexString"], named := ["internal/bytealg.MaxLen"], apart := false }
def NumHalfSaid : Prop := numHalfRow.holds Tryz.pinned (OpenSpec.ofChange numHalfSpec)

/-- ITS FALSE NEIGHBOUR: 'it returns false'. Refute it at one input. -/
def numHalfWrong : ChangeSpec := { name := "numHalf", fn := fun _ => fun
  | [d1, d2, d3] => { results := [.lit (.bool false)], args := [d1, d2, d3] }
  | _ => none }
def NumHalfWrongFalsely : Prop := numHalfRow.holds Tryz.pinned (OpenSpec.ofChange numHalfWrong)

/- THE SECOND FORM. 'bulk': how many values and letters a reading holds, each counted each time it is reached (what is shared counts as often as it is met; a slice's spare places count too). A statement '..UptoSaid' is the law's where the arguments, and the package variables that the reading takes, are together of bulk at most 1048576: NARROWER than '..Said'. Prove '..Said' where nothing that the law and all that it calls make is longer than what came in: it says more and counts as full. Else prove '..UptoSaid'. A law counts once. -/
mutual
def uptoBulk {H : Type} : DataW H → Nat
  | .lit (.string bytes) => bytes.length + 1
  | .lit _ => 1
  | .nil => 1
  | .ptr d => uptoBulk d + 1
  | .slice elems spare => uptoBulkAll elems + uptoBulkAll spare + 1
  | .agg parts => uptoBulkAll parts + 1
  | .iface _ d => uptoBulk d + 1
  | .map entries => uptoBulkEntries entries + 1
  | .held _ => 1
def uptoBulkAll {H : Type} : List (DataW H) → Nat
  | [] => 0
  | d :: r => uptoBulk d + uptoBulkAll r
def uptoBulkEntries {H : Type} : List (Lit × DataW H) → Nat
  | [] => 0
  | x :: r => uptoBulkEntry x + uptoBulkEntries r
def uptoBulkEntry {H : Type} : Lit × DataW H → Nat
  | (.string bytes, d) => bytes.length + uptoBulk d + 1
  | (_, d) => uptoBulk d + 1
 end
def uptoSmall : (H : Type) → List (DataW H) → Bool := fun _ ds => decide (uptoBulkAll ds ≤ 1048576)
def OpenSpec.upto (s : _root_.Go.ChangeSpec) : _root_.Go.OpenSpec := { _root_.Go.OpenSpec.ofChange s with cond := some uptoSmall }

/-- 'acrospirelaw01.NumRatTexts', WHERE WHAT IT READS IS OF BULK AT MOST 1048576: true; the input reads as it did. -/
def numRatTextsUptoRow : OpenClaim := { program := "ytcgnmihabkgecaagreat", sum := "8e1b792273038cfb13e513be3d1ad94177503c2a2d5d65f43c1490b9dc641467", func := "acrospire/acrospirelaw01.NumRatTexts", spec := "numRatTexts", inPlace := ["internal/abi.NoEscape", "internal/bytealg.MakeNoZero", "internal/bytealg.IndexByteString", "internal/bytealg.IndexString"], named := ["internal/bytealg.MaxLen"], apart := false, narrowed := true }
def NumRatTextsUptoSaid : Prop := numRatTextsUptoRow.holds Tryz.pinned (OpenSpec.upto numRatTextsSpec)

/-- 'acrospirelaw01.NumDecimals', WHERE WHAT IT READS IS OF BULK AT MOST 1048576: true; the input reads as it did. -/
def numDecimalsUptoRow : OpenClaim := { program := "ytcgnmihabkgecaagreat", sum := "8e1b792273038cfb13e513be3d1ad94177503c2a2d5d65f43c1490b9dc641467", func := "acrospire/acrospirelaw01.NumDecimals", spec := "numDecimals", inPlace := ["internal/abi.NoEscape", "internal/bytealg.MakeNoZero", "internal/bytealg.IndexByteString", "internal/bytealg.IndexString"], named := ["internal/bytealg.MaxLen"], apart := false, narrowed := true }
def NumDecimalsUptoSaid : Prop := numDecimalsUptoRow.holds Tryz.pinned (OpenSpec.upto numDecimalsSpec)

/-- 'acrospirelaw01.NumField', WHERE WHAT IT READS IS OF BULK AT MOST 1048576: true; the input reads as it did. -/
def numFieldUptoRow : OpenClaim := { program := "ytcgnmihabkgecaagreat", sum := "8e1b792273038cfb13e513be3d1ad94177503c2a2d5d65f43c1490b9dc641467", func := "acrospire/acrospirelaw01.NumField", spec := "numField", inPlace := ["internal/abi.NoEscape", "internal/bytealg.MakeNoZero", "internal/bytealg.IndexByteString", "internal/bytealg.IndexString"], named := ["internal/bytealg.MaxLen"], apart := false, narrowed := true }
def NumFieldUptoSaid : Prop := numFieldUptoRow.holds Tryz.pinned (OpenSpec.upto numFieldSpec)

/-- 'acrospirelaw01.NumHalf', WHERE WHAT IT READS IS OF BULK AT MOST 1048576: true; the input reads as it did. -/
def numHalfUptoRow : OpenClaim := { program := "ytcgnmihabkgecaagreat", sum := "8e1b792273038cfb13e513be3d1ad94177503c2a2d5d65f43c1490b9dc641467", func := "acrospire/acrospirelaw01.NumHalf", spec := "numHalf", inPlace := ["internal/abi.NoEscape", "internal/bytealg.MakeNoZero", "internal/bytealg.IndexByteString", "internal/bytealg.IndexString"], named := ["internal/bytealg.MaxLen"], apart := false, narrowed := true }
def NumHalfUptoSaid : Prop := numHalfUptoRow.holds Tryz.pinned (OpenSpec.upto numHalfSpec)

end Rows
end Go.Proofs.YtcgnmihabkgecaaGreat
