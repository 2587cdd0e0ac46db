/-
  DERIVED. GIVEN WITH THE SEED: THE CARDS: each row of YtpkieiahhkgjoaaDoorRows.lean that lists a variable, with what it lists TIED to the program's text (the seventh form; the later family's looks); each row that meets fmt, with fmt's text TOLD by the authors' own Lean function (tested against real Go, not proved from fmt's source: count such statements apart). THE CARD IS WHAT COUNTS. Prove the row's statement (the work); the ties are given (YtpkieiahhkgjoaaDoorTie.lean); close each card by the builder's one call (the guide's Derived/Test/ToyasCard.lean, 'card_holds'). Laid BY PROGRAM, IN A SANDBOX (cutbox-door.mjs). By AI agents, Wed Nov 11 2026. No macro, syntax, notation, axiom, sorry.
-/
import Derived.Test.YtpkieiahhkgjoaaDoorRows
import GoSem.ClaimSeven
namespace Go.Proofs.YtpkieiahhkgjoaaDoor
namespace Rows

/-- THE TIED CARD OF 'watershedlaw07.WindowSessions'. -/
def windowSessionsCard : Claim7 := { stood := { row := windowSessionsRow, standIns := [], harness := (true, "3effd058215e066cc2443378b630d120576bb6819d54ae37235d5b8aa3a4d104"), looks := false }, kinds := [], alts := [], laidByText := true, laidKinds := [.data, .data, .data], laidTests := true, laidLooks := .later }
def WindowSessionsCardSaid : Prop := Claim7.holds Tryd.pinned (.plain (OpenSpec.ofChange windowSessionsSpec)) windowSessionsCard

/-- THE SECOND FORM's CARD OF 'watershedlaw07.WindowSessions'. -/
def windowSessionsUptoCard : Claim7 := { stood := { row := windowSessionsUptoRow, standIns := [], harness := (true, "3effd058215e066cc2443378b630d120576bb6819d54ae37235d5b8aa3a4d104"), looks := false }, kinds := [], alts := [], laidByText := true, laidKinds := [.data, .data, .data], laidTests := true, laidLooks := .later }
def WindowSessionsUptoCardSaid : Prop := Claim7.holds Tryd.pinned (.plain (OpenSpec.upto windowSessionsSpec)) windowSessionsUptoCard
end Rows
end Go.Proofs.YtpkieiahhkgjoaaDoor
