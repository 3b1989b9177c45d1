/-
  NARROWER THAN 'FOR EVERY INPUT', by the rows' own cells (each row's printed sentence says how): PlanBests: laid · PlanChecks: laid · PlanLeast: laid · PlanMore: laid · PlanLater: laid.
  DERIVED. THE GIVEN ROWS OF THIS SEAT. 5 by the template 'for every input the law returns true; each argument reads behind the call as it read before'; 0 by the template 'total and deterministic' (their statements: YtbidadkcdchomaaDoorTotals.lean).
  GIVEN WITH THE SEED: the statements are not yours to turn. If you find one false, say at which input.
  Laid BY PROGRAM, IN A SANDBOX (cutbox-rows.mjs): the forced cells as the released guide's own fill.sh prints them over the translation 94d3a40a4674a069… (all of the seat's roots in one cut). By AI agents, Wed Nov 11 2026. No macro, syntax, notation, axiom, sorry.
-/
import Derived.Test.YtbidadkcdchomaaDoorChecked
import GoSem.Claim
import GoSem.ClaimJoined
import GoSem.ClaimMapViews
import Derived.JoinedTies
import Derived.KernelRfl
namespace Go.Proofs.YtbidadkcdchomaaDoor
/- THE CELL 'sum', in the pinned program and in every row, IS THE sha256 OF THE DUMP (.gsa) THAT YtbidadkcdchomaaDoorProg.lean LOADS. Nothing in Lean hashes anything: it is a label: what it is worth is what the hold of that sum in a sandbox is worth. -/
noncomputable def Tryd.pinned : Pinned := { name := "ytbidadkcdchomaadoor", sum := "94d3a40a4674a069e4ffd94d1cd7578bc203e107a07911621a0fe43341fc25be", checked := Tryd.checked }
namespace Rows
def none {H : Type} : Left H := { results := [], args := [] }

/- WHAT THE LISTED PACKAGE-LEVEL VARIABLES READ AS WHEN THE CALL BEGINS. Each datum BY PROGRAM (the guide's laid-datum.mjs) off the statement by which the dump's own 'gosem.cut.vars' lays the variable. In a bare row this is a premise. The card (YtbidadkcdchomaaDoorCards.lean) ties it to the program's text. -/
def laid_acrospire_plan_nowhere {H : Type} : DataW H := .agg [.lit (.int .i64 (-1)), .lit (.int .i64 0), .lit (.int .i64 0), .lit (.int .i64 0), .lit (.int .i64 0)]

/-- 'acrospirelaw04.PlanBests': WHATEVER THE INPUT: true; the input reads as it did. -/
def planBestsSpec : ChangeSpec := { name := "planBests", fn := fun _ => fun
  | [d1, d2] => { results := [.lit (.bool true)], args := [d1, d2] }
  | _ => none }
def planBestsRow : OpenClaim := { program := "ytbidadkcdchomaadoor", sum := "94d3a40a4674a069e4ffd94d1cd7578bc203e107a07911621a0fe43341fc25be", func := "acrospire/acrospirelaw04.PlanBests", spec := "planBests", unfollowed := true, recurses := true, named := ["acrospire/plan.nowhere"], apart := false, laid := [("acrospire/plan.nowhere", laid_acrospire_plan_nowhere)] }
def PlanBestsSaid : Prop := planBestsRow.holds Tryd.pinned (OpenSpec.ofChange planBestsSpec)

/-- ITS FALSE NEIGHBOUR: 'it returns false'. Refute it at one input. -/
def planBestsWrong : ChangeSpec := { name := "planBests", fn := fun _ => fun
  | [d1, d2] => { results := [.lit (.bool false)], args := [d1, d2] }
  | _ => none }
def PlanBestsWrongFalsely : Prop := planBestsRow.holds Tryd.pinned (OpenSpec.ofChange planBestsWrong)

/-- 'acrospirelaw04.PlanChecks': WHATEVER THE INPUT: true; the input reads as it did. -/
def planChecksSpec : ChangeSpec := { name := "planChecks", fn := fun _ => fun
  | [d1, d2, d3] => { results := [.lit (.bool true)], args := [d1, d2, d3] }
  | _ => none }
def planChecksRow : OpenClaim := { program := "ytbidadkcdchomaadoor", sum := "94d3a40a4674a069e4ffd94d1cd7578bc203e107a07911621a0fe43341fc25be", func := "acrospire/acrospirelaw04.PlanChecks", spec := "planChecks", unfollowed := true, recurses := true, named := ["acrospire/plan.nowhere"], apart := false, laid := [("acrospire/plan.nowhere", laid_acrospire_plan_nowhere)] }
def PlanChecksSaid : Prop := planChecksRow.holds Tryd.pinned (OpenSpec.ofChange planChecksSpec)

/-- ITS FALSE NEIGHBOUR: 'it returns false'. Refute it at one input. -/
def planChecksWrong : ChangeSpec := { name := "planChecks", fn := fun _ => fun
  | [d1, d2, d3] => { results := [.lit (.bool false)], args := [d1, d2, d3] }
  | _ => none }
def PlanChecksWrongFalsely : Prop := planChecksRow.holds Tryd.pinned (OpenSpec.ofChange planChecksWrong)

/-- 'acrospirelaw04.PlanLeast': WHATEVER THE INPUT: true; the input reads as it did. -/
def planLeastSpec : ChangeSpec := { name := "planLeast", fn := fun _ => fun
  | [d1, d2, d3] => { results := [.lit (.bool true)], args := [d1, d2, d3] }
  | _ => none }
def planLeastRow : OpenClaim := { program := "ytbidadkcdchomaadoor", sum := "94d3a40a4674a069e4ffd94d1cd7578bc203e107a07911621a0fe43341fc25be", func := "acrospire/acrospirelaw04.PlanLeast", spec := "planLeast", unfollowed := true, recurses := true, named := ["acrospire/plan.nowhere"], apart := false, laid := [("acrospire/plan.nowhere", laid_acrospire_plan_nowhere)] }
def PlanLeastSaid : Prop := planLeastRow.holds Tryd.pinned (OpenSpec.ofChange planLeastSpec)

/-- ITS FALSE NEIGHBOUR: 'it returns false'. Refute it at one input. -/
def planLeastWrong : ChangeSpec := { name := "planLeast", fn := fun _ => fun
  | [d1, d2, d3] => { results := [.lit (.bool false)], args := [d1, d2, d3] }
  | _ => none }
def PlanLeastWrongFalsely : Prop := planLeastRow.holds Tryd.pinned (OpenSpec.ofChange planLeastWrong)

/-- 'acrospirelaw04.PlanMore': WHATEVER THE INPUT: true; the input reads as it did. -/
def planMoreSpec : ChangeSpec := { name := "planMore", fn := fun _ => fun
  | [d1, d2, d3] => { results := [.lit (.bool true)], args := [d1, d2, d3] }
  | _ => none }
def planMoreRow : OpenClaim := { program := "ytbidadkcdchomaadoor", sum := "94d3a40a4674a069e4ffd94d1cd7578bc203e107a07911621a0fe43341fc25be", func := "acrospire/acrospirelaw04.PlanMore", spec := "planMore", unfollowed := true, recurses := true, named := ["acrospire/plan.nowhere"], apart := false, laid := [("acrospire/plan.nowhere", laid_acrospire_plan_nowhere)] }
def PlanMoreSaid : Prop := planMoreRow.holds Tryd.pinned (OpenSpec.ofChange planMoreSpec)

/-- ITS FALSE NEIGHBOUR: 'it returns false'. Refute it at one input. -/
def planMoreWrong : ChangeSpec := { name := "planMore", fn := fun _ => fun
  | [d1, d2, d3] => { results := [.lit (.bool false)], args := [d1, d2, d3] }
  | _ => none }
def PlanMoreWrongFalsely : Prop := planMoreRow.holds Tryd.pinned (OpenSpec.ofChange planMoreWrong)

/-- 'acrospirelaw04.PlanLater': WHATEVER THE INPUT: true; the input reads as it did. -/
def planLaterSpec : ChangeSpec := { name := "planLater", fn := fun _ => fun
  | [d1, d2, d3] => { results := [.lit (.bool true)], args := [d1, d2, d3] }
  | _ => none }
def planLaterRow : OpenClaim := { program := "ytbidadkcdchomaadoor", sum := "94d3a40a4674a069e4ffd94d1cd7578bc203e107a07911621a0fe43341fc25be", func := "acrospire/acrospirelaw04.PlanLater", spec := "planLater", unfollowed := true, recurses := true, named := ["acrospire/plan.nowhere"], apart := false, laid := [("acrospire/plan.nowhere", laid_acrospire_plan_nowhere)] }
def PlanLaterSaid : Prop := planLaterRow.holds Tryd.pinned (OpenSpec.ofChange planLaterSpec)

/-- ITS FALSE NEIGHBOUR: 'it returns false'. Refute it at one input. -/
def planLaterWrong : ChangeSpec := { name := "planLater", fn := fun _ => fun
  | [d1, d2, d3] => { results := [.lit (.bool false)], args := [d1, d2, d3] }
  | _ => none }
def PlanLaterWrongFalsely : Prop := planLaterRow.holds Tryd.pinned (OpenSpec.ofChange planLaterWrong)

/- THE SECOND FORM. 'bulk': how many values and letters a reading holds, each counted each time it is reached (what is shared counts as often as it is met; a slice's spare places count too). A statement '..UptoSaid' is the law's where the arguments, and the package variables that the reading takes, are together of bulk at most 1048576: NARROWER than '..Said'. Prove '..Said' where nothing that the law and all that it calls make is longer than what came in: it says more and counts as full. Else prove '..UptoSaid'. A law counts once. -/
mutual
def uptoBulk {H : Type} : DataW H → Nat
  | .lit (.string bytes) => bytes.length + 1
  | .lit _ => 1
  | .nil => 1
  | .ptr d => uptoBulk d + 1
  | .slice elems spare => uptoBulkAll elems + uptoBulkAll spare + 1
  | .agg parts => uptoBulkAll parts + 1
  | .iface _ d => uptoBulk d + 1
  | .map entries => uptoBulkEntries entries + 1
  | .held _ => 1
def uptoBulkAll {H : Type} : List (DataW H) → Nat
  | [] => 0
  | d :: r => uptoBulk d + uptoBulkAll r
def uptoBulkEntries {H : Type} : List (Lit × DataW H) → Nat
  | [] => 0
  | x :: r => uptoBulkEntry x + uptoBulkEntries r
def uptoBulkEntry {H : Type} : Lit × DataW H → Nat
  | (.string bytes, d) => bytes.length + uptoBulk d + 1
  | (_, d) => uptoBulk d + 1
 end
def uptoSmall : (H : Type) → List (DataW H) → Bool := fun _ ds => decide (uptoBulkAll ds ≤ 1048576)
def OpenSpec.upto (s : _root_.Go.ChangeSpec) : _root_.Go.OpenSpec := { _root_.Go.OpenSpec.ofChange s with cond := some uptoSmall }

/-- 'acrospirelaw04.PlanBests', WHERE WHAT IT READS IS OF BULK AT MOST 1048576: true; the input reads as it did. -/
def planBestsUptoRow : OpenClaim := { program := "ytbidadkcdchomaadoor", sum := "94d3a40a4674a069e4ffd94d1cd7578bc203e107a07911621a0fe43341fc25be", func := "acrospire/acrospirelaw04.PlanBests", spec := "planBests", unfollowed := true, recurses := true, named := ["acrospire/plan.nowhere"], apart := false, laid := [("acrospire/plan.nowhere", laid_acrospire_plan_nowhere)], narrowed := true }
def PlanBestsUptoSaid : Prop := planBestsUptoRow.holds Tryd.pinned (OpenSpec.upto planBestsSpec)

/-- 'acrospirelaw04.PlanChecks', WHERE WHAT IT READS IS OF BULK AT MOST 1048576: true; the input reads as it did. -/
def planChecksUptoRow : OpenClaim := { program := "ytbidadkcdchomaadoor", sum := "94d3a40a4674a069e4ffd94d1cd7578bc203e107a07911621a0fe43341fc25be", func := "acrospire/acrospirelaw04.PlanChecks", spec := "planChecks", unfollowed := true, recurses := true, named := ["acrospire/plan.nowhere"], apart := false, laid := [("acrospire/plan.nowhere", laid_acrospire_plan_nowhere)], narrowed := true }
def PlanChecksUptoSaid : Prop := planChecksUptoRow.holds Tryd.pinned (OpenSpec.upto planChecksSpec)

/-- 'acrospirelaw04.PlanLeast', WHERE WHAT IT READS IS OF BULK AT MOST 1048576: true; the input reads as it did. -/
def planLeastUptoRow : OpenClaim := { program := "ytbidadkcdchomaadoor", sum := "94d3a40a4674a069e4ffd94d1cd7578bc203e107a07911621a0fe43341fc25be", func := "acrospire/acrospirelaw04.PlanLeast", spec := "planLeast", unfollowed := true, recurses := true, named := ["acrospire/plan.nowhere"], apart := false, laid := [("acrospire/plan.nowhere", laid_acrospire_plan_nowhere)], narrowed := true }
def PlanLeastUptoSaid : Prop := planLeastUptoRow.holds Tryd.pinned (OpenSpec.upto planLeastSpec)

/-- 'acrospirelaw04.PlanMore', WHERE WHAT IT READS IS OF BULK AT MOST 1048576: true; the input reads as it did. -/
def planMoreUptoRow : OpenClaim := { program := "ytbidadkcdchomaadoor", sum := "94d3a40a4674a069e4ffd94d1cd7578bc203e107a07911621a0fe43341fc25be", func := "acrospire/acrospirelaw04.PlanMore", spec := "planMore", unfollowed := true, recurses := true, named := ["acrospire/plan.nowhere"], apart := false, laid := [("acrospire/plan.nowhere", laid_acrospire_plan_nowhere)], narrowed := true }
def PlanMoreUptoSaid : Prop := planMoreUptoRow.holds Tryd.pinned (OpenSpec.upto planMoreSpec)

/-- 'acrospirelaw04.PlanLater', WHERE WHAT IT READS IS OF BULK AT MOST 1048576: true; the input reads as it did. -/
def planLaterUptoRow : OpenClaim := { program := "ytbidadkcdchomaadoor", sum := "94d3a40a4674a069e4ffd94d1cd7578bc203e107a07911621a0fe43341fc25be", func := "acrospire/acrospirelaw04.PlanLater", spec := "planLater", unfollowed := true, recurses := true, named := ["acrospire/plan.nowhere"], apart := false, laid := [("acrospire/plan.nowhere", laid_acrospire_plan_nowhere)], narrowed := true }
def PlanLaterUptoSaid : Prop := planLaterUptoRow.holds Tryd.pinned (OpenSpec.upto planLaterSpec)

end Rows
end Go.Proofs.YtbidadkcdchomaaDoor
