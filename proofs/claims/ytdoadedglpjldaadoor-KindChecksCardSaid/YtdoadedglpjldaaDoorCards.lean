/-
  DERIVED. GIVEN WITH THE SEED: THE CARDS: each row of YtdoadedglpjldaaDoorRows.lean that lists a variable, with what it lists TIED to the program's text (the seventh form; the later family's looks); each row that meets fmt, with fmt's text TOLD by the authors' own Lean function (tested against real Go, not proved from fmt's source: count such statements apart). THE CARD IS WHAT COUNTS. Prove the row's statement (the work); the ties are given (YtdoadedglpjldaaDoorTie.lean); close each card by the builder's one call (the guide's Derived/Test/ToyasCard.lean, 'card_holds'). Laid BY PROGRAM, IN A SANDBOX (cutbox-door.mjs). By AI agents, Wed Nov 11 2026. No macro, syntax, notation, axiom, sorry.
-/
import Derived.Test.YtdoadedglpjldaaDoorRows
import GoSem.ClaimSeven
namespace Go.Proofs.YtdoadedglpjldaaDoor
namespace Rows

/-- THE TIED CARD OF 'watershedlaw02.KindChecks'. -/
def kindChecksCard : Claim7 := { stood := { row := kindChecksRow, standIns := [], harness := (true, "efd5c750904e8a011d17d4f1319e0b40ea0ad9fbf18976f940126450e81f0b69"), looks := false }, kinds := [], alts := [], laidByText := true, laidKinds := [.data], laidTests := true, laidLooks := .later }
def KindChecksCardSaid : Prop := Claim7.holds Tryd.pinned (.plain (OpenSpec.ofChange kindChecksSpec)) kindChecksCard

/-- THE TIED CARD OF 'watershedlaw02.KindParses'. -/
def kindParsesCard : Claim7 := { stood := { row := kindParsesRow, standIns := [], harness := (true, "efd5c750904e8a011d17d4f1319e0b40ea0ad9fbf18976f940126450e81f0b69"), looks := false }, kinds := [], alts := [], laidByText := true, laidKinds := [.data], laidTests := true, laidLooks := .later }
def KindParsesCardSaid : Prop := Claim7.holds Tryd.pinned (.plain (OpenSpec.ofChange kindParsesSpec)) kindParsesCard

/-- THE TIED CARD OF 'watershedlaw02.KindBack'. -/
def kindBackCard : Claim7 := { stood := { row := kindBackRow, standIns := [], harness := (true, "efd5c750904e8a011d17d4f1319e0b40ea0ad9fbf18976f940126450e81f0b69"), looks := false }, kinds := [], alts := [], laidByText := true, laidKinds := [.data], laidTests := true, laidLooks := .later }
def KindBackCardSaid : Prop := Claim7.holds Tryd.pinned (.plain (OpenSpec.ofChange kindBackSpec)) kindBackCard

/-- THE TIED CARD OF 'watershedlaw02.KindPrefix'. -/
def kindPrefixCard : Claim7 := { stood := { row := kindPrefixRow, standIns := [], harness := (true, "efd5c750904e8a011d17d4f1319e0b40ea0ad9fbf18976f940126450e81f0b69"), looks := false }, kinds := [], alts := [], laidByText := true, laidKinds := [.data], laidTests := true, laidLooks := .later }
def KindPrefixCardSaid : Prop := Claim7.holds Tryd.pinned (.plain (OpenSpec.ofChange kindPrefixSpec)) kindPrefixCard

/-- THE TIED CARD OF 'watershedlaw02.KindMakes'. -/
def kindMakesCard : Claim7 := { stood := { row := kindMakesRow, standIns := [], harness := (true, "efd5c750904e8a011d17d4f1319e0b40ea0ad9fbf18976f940126450e81f0b69"), looks := false }, kinds := [], alts := [], laidByText := true, laidKinds := [.data], laidTests := true, laidLooks := .later }
def KindMakesCardSaid : Prop := Claim7.holds Tryd.pinned (.plain (OpenSpec.ofChange kindMakesSpec)) kindMakesCard

/-- THE SECOND FORM's CARD OF 'watershedlaw02.KindChecks'. -/
def kindChecksUptoCard : Claim7 := { stood := { row := kindChecksUptoRow, standIns := [], harness := (true, "efd5c750904e8a011d17d4f1319e0b40ea0ad9fbf18976f940126450e81f0b69"), looks := false }, kinds := [], alts := [], laidByText := true, laidKinds := [.data], laidTests := true, laidLooks := .later }
def KindChecksUptoCardSaid : Prop := Claim7.holds Tryd.pinned (.plain (OpenSpec.upto kindChecksSpec)) kindChecksUptoCard

/-- THE SECOND FORM's CARD OF 'watershedlaw02.KindParses'. -/
def kindParsesUptoCard : Claim7 := { stood := { row := kindParsesUptoRow, standIns := [], harness := (true, "efd5c750904e8a011d17d4f1319e0b40ea0ad9fbf18976f940126450e81f0b69"), looks := false }, kinds := [], alts := [], laidByText := true, laidKinds := [.data], laidTests := true, laidLooks := .later }
def KindParsesUptoCardSaid : Prop := Claim7.holds Tryd.pinned (.plain (OpenSpec.upto kindParsesSpec)) kindParsesUptoCard

/-- THE SECOND FORM's CARD OF 'watershedlaw02.KindBack'. -/
def kindBackUptoCard : Claim7 := { stood := { row := kindBackUptoRow, standIns := [], harness := (true, "efd5c750904e8a011d17d4f1319e0b40ea0ad9fbf18976f940126450e81f0b69"), looks := false }, kinds := [], alts := [], laidByText := true, laidKinds := [.data], laidTests := true, laidLooks := .later }
def KindBackUptoCardSaid : Prop := Claim7.holds Tryd.pinned (.plain (OpenSpec.upto kindBackSpec)) kindBackUptoCard

/-- THE SECOND FORM's CARD OF 'watershedlaw02.KindPrefix'. -/
def kindPrefixUptoCard : Claim7 := { stood := { row := kindPrefixUptoRow, standIns := [], harness := (true, "efd5c750904e8a011d17d4f1319e0b40ea0ad9fbf18976f940126450e81f0b69"), looks := false }, kinds := [], alts := [], laidByText := true, laidKinds := [.data], laidTests := true, laidLooks := .later }
def KindPrefixUptoCardSaid : Prop := Claim7.holds Tryd.pinned (.plain (OpenSpec.upto kindPrefixSpec)) kindPrefixUptoCard

/-- THE SECOND FORM's CARD OF 'watershedlaw02.KindMakes'. -/
def kindMakesUptoCard : Claim7 := { stood := { row := kindMakesUptoRow, standIns := [], harness := (true, "efd5c750904e8a011d17d4f1319e0b40ea0ad9fbf18976f940126450e81f0b69"), looks := false }, kinds := [], alts := [], laidByText := true, laidKinds := [.data], laidTests := true, laidLooks := .later }
def KindMakesUptoCardSaid : Prop := Claim7.holds Tryd.pinned (.plain (OpenSpec.upto kindMakesSpec)) kindMakesUptoCard
end Rows
end Go.Proofs.YtdoadedglpjldaaDoor
