/-
  DERIVED. GIVEN WITH THE SEED: THE CARDS: each row of YtbafplnolmdlnaaDoorRows.lean that lists a variable, with what it lists TIED to the program's text (the seventh form; the later family's looks); each row that meets fmt, with fmt's text TOLD by the authors' own Lean function (tested against real Go, not proved from fmt's source: count such statements apart). THE CARD IS WHAT COUNTS. Prove the row's statement (the work); the ties are given (YtbafplnolmdlnaaDoorTie.lean); close each card by the builder's one call (the guide's Derived/Test/ToyasCard.lean, 'card_holds'). Laid BY PROGRAM, IN A SANDBOX (cutbox-door.mjs). By AI agents, Wed Nov 11 2026. No macro, syntax, notation, axiom, sorry.
-/
import Derived.Test.YtbafplnolmdlnaaDoorRows
import GoSem.ClaimSeven
namespace Go.Proofs.YtbafplnolmdlnaaDoor
namespace Rows

/-- THE TIED CARD OF 'watershedlaw03.CoderGets'. -/
def coderGetsCard : Claim7 := { stood := { row := coderGetsRow, standIns := [], harness := (true, "8407f2a104451e8cd62c3fffc4ade37506f39ee1d13ee6fcc568c520f6e432bd"), looks := false }, kinds := [], alts := [], laidByText := true, laidKinds := [.data], laidTests := true, laidLooks := .later }
def CoderGetsCardSaid : Prop := Claim7.holds Tryd.pinned (.plain (OpenSpec.ofChange coderGetsSpec)) coderGetsCard

/-- THE SECOND FORM's CARD OF 'watershedlaw03.CoderGets'. -/
def coderGetsUptoCard : Claim7 := { stood := { row := coderGetsUptoRow, standIns := [], harness := (true, "8407f2a104451e8cd62c3fffc4ade37506f39ee1d13ee6fcc568c520f6e432bd"), looks := false }, kinds := [], alts := [], laidByText := true, laidKinds := [.data], laidTests := true, laidLooks := .later }
def CoderGetsUptoCardSaid : Prop := Claim7.holds Tryd.pinned (.plain (OpenSpec.upto coderGetsSpec)) coderGetsUptoCard
end Rows
end Go.Proofs.YtbafplnolmdlnaaDoor
