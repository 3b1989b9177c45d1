/-
  DERIVED. GIVEN WITH THE SEED: THE CARDS: each row of YtbidadkcdchomaaDoorRows.lean that lists a variable, with what it lists TIED to the program's text (the seventh form; the later family's looks); each row that meets fmt, with fmt's text TOLD by the authors' own Lean function (tested against real Go, not proved from fmt's source: count such statements apart). THE CARD IS WHAT COUNTS. Prove the row's statement (the work); the ties are given (YtbidadkcdchomaaDoorTie.lean); close each card by the builder's one call (the guide's Derived/Test/ToyasCard.lean, 'card_holds'). Laid BY PROGRAM, IN A SANDBOX (cutbox-door.mjs). By AI agents, Wed Nov 11 2026. No macro, syntax, notation, axiom, sorry.
-/
import Derived.Test.YtbidadkcdchomaaDoorRows
import GoSem.ClaimSeven
namespace Go.Proofs.YtbidadkcdchomaaDoor
namespace Rows

/-- THE TIED CARD OF 'acrospirelaw04.PlanBests'. -/
def planBestsCard : Claim7 := { stood := { row := planBestsRow, standIns := [], harness := (true, "d2efd69196c67b4957136f63e6457a8355ef966aa3d00919432ea0178553ca6f"), looks := false }, kinds := [], alts := [], laidByText := true, laidKinds := [.data], laidTests := true, laidLooks := .later }
def PlanBestsCardSaid : Prop := Claim7.holds Tryd.pinned (.plain (OpenSpec.ofChange planBestsSpec)) planBestsCard

/-- THE TIED CARD OF 'acrospirelaw04.PlanChecks'. -/
def planChecksCard : Claim7 := { stood := { row := planChecksRow, standIns := [], harness := (true, "d2efd69196c67b4957136f63e6457a8355ef966aa3d00919432ea0178553ca6f"), looks := false }, kinds := [], alts := [], laidByText := true, laidKinds := [.data], laidTests := true, laidLooks := .later }
def PlanChecksCardSaid : Prop := Claim7.holds Tryd.pinned (.plain (OpenSpec.ofChange planChecksSpec)) planChecksCard

/-- THE TIED CARD OF 'acrospirelaw04.PlanLeast'. -/
def planLeastCard : Claim7 := { stood := { row := planLeastRow, standIns := [], harness := (true, "d2efd69196c67b4957136f63e6457a8355ef966aa3d00919432ea0178553ca6f"), looks := false }, kinds := [], alts := [], laidByText := true, laidKinds := [.data], laidTests := true, laidLooks := .later }
def PlanLeastCardSaid : Prop := Claim7.holds Tryd.pinned (.plain (OpenSpec.ofChange planLeastSpec)) planLeastCard

/-- THE TIED CARD OF 'acrospirelaw04.PlanMore'. -/
def planMoreCard : Claim7 := { stood := { row := planMoreRow, standIns := [], harness := (true, "d2efd69196c67b4957136f63e6457a8355ef966aa3d00919432ea0178553ca6f"), looks := false }, kinds := [], alts := [], laidByText := true, laidKinds := [.data], laidTests := true, laidLooks := .later }
def PlanMoreCardSaid : Prop := Claim7.holds Tryd.pinned (.plain (OpenSpec.ofChange planMoreSpec)) planMoreCard

/-- THE TIED CARD OF 'acrospirelaw04.PlanLater'. -/
def planLaterCard : Claim7 := { stood := { row := planLaterRow, standIns := [], harness := (true, "d2efd69196c67b4957136f63e6457a8355ef966aa3d00919432ea0178553ca6f"), looks := false }, kinds := [], alts := [], laidByText := true, laidKinds := [.data], laidTests := true, laidLooks := .later }
def PlanLaterCardSaid : Prop := Claim7.holds Tryd.pinned (.plain (OpenSpec.ofChange planLaterSpec)) planLaterCard

/-- THE SECOND FORM's CARD OF 'acrospirelaw04.PlanBests'. -/
def planBestsUptoCard : Claim7 := { stood := { row := planBestsUptoRow, standIns := [], harness := (true, "d2efd69196c67b4957136f63e6457a8355ef966aa3d00919432ea0178553ca6f"), looks := false }, kinds := [], alts := [], laidByText := true, laidKinds := [.data], laidTests := true, laidLooks := .later }
def PlanBestsUptoCardSaid : Prop := Claim7.holds Tryd.pinned (.plain (OpenSpec.upto planBestsSpec)) planBestsUptoCard

/-- THE SECOND FORM's CARD OF 'acrospirelaw04.PlanChecks'. -/
def planChecksUptoCard : Claim7 := { stood := { row := planChecksUptoRow, standIns := [], harness := (true, "d2efd69196c67b4957136f63e6457a8355ef966aa3d00919432ea0178553ca6f"), looks := false }, kinds := [], alts := [], laidByText := true, laidKinds := [.data], laidTests := true, laidLooks := .later }
def PlanChecksUptoCardSaid : Prop := Claim7.holds Tryd.pinned (.plain (OpenSpec.upto planChecksSpec)) planChecksUptoCard

/-- THE SECOND FORM's CARD OF 'acrospirelaw04.PlanLeast'. -/
def planLeastUptoCard : Claim7 := { stood := { row := planLeastUptoRow, standIns := [], harness := (true, "d2efd69196c67b4957136f63e6457a8355ef966aa3d00919432ea0178553ca6f"), looks := false }, kinds := [], alts := [], laidByText := true, laidKinds := [.data], laidTests := true, laidLooks := .later }
def PlanLeastUptoCardSaid : Prop := Claim7.holds Tryd.pinned (.plain (OpenSpec.upto planLeastSpec)) planLeastUptoCard

/-- THE SECOND FORM's CARD OF 'acrospirelaw04.PlanMore'. -/
def planMoreUptoCard : Claim7 := { stood := { row := planMoreUptoRow, standIns := [], harness := (true, "d2efd69196c67b4957136f63e6457a8355ef966aa3d00919432ea0178553ca6f"), looks := false }, kinds := [], alts := [], laidByText := true, laidKinds := [.data], laidTests := true, laidLooks := .later }
def PlanMoreUptoCardSaid : Prop := Claim7.holds Tryd.pinned (.plain (OpenSpec.upto planMoreSpec)) planMoreUptoCard

/-- THE SECOND FORM's CARD OF 'acrospirelaw04.PlanLater'. -/
def planLaterUptoCard : Claim7 := { stood := { row := planLaterUptoRow, standIns := [], harness := (true, "d2efd69196c67b4957136f63e6457a8355ef966aa3d00919432ea0178553ca6f"), looks := false }, kinds := [], alts := [], laidByText := true, laidKinds := [.data], laidTests := true, laidLooks := .later }
def PlanLaterUptoCardSaid : Prop := Claim7.holds Tryd.pinned (.plain (OpenSpec.upto planLaterSpec)) planLaterUptoCard
end Rows
end Go.Proofs.YtbidadkcdchomaaDoor
