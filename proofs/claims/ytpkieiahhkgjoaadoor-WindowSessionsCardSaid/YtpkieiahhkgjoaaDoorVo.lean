/-
of and Same, and the document's Assign.
-/
import Derived.Test.YtpkieiahhkgjoaaDoorVh
set_option linter.unusedVariables false
namespace Go.Proofs.YtpkieiahhkgjoaaDoor
open Go.RowKit

theorem ws_cells {w : World} {b o : Nat} {l : List Wn} (hc : ∀ j x, l[j]? = some x → w.cell? ⟨b, o + j * 2, none⟩ = some (.int .i64 x.1) ∧ w.cell? ⟨b, o + j * 2 + 1, none⟩ = some (.int .i64 x.2)) {j : Nat} (h : j < l.length) :
    w.cell? ⟨b, o + j * 2, none⟩ = some (.int .i64 (l[j]).1) ∧ w.cell? ⟨b, o + j * 2 + 1, none⟩ = some (.int .i64 (l[j]).2) := hc j _ (List.getElem?_eq_getElem h)

end Go.Proofs.YtpkieiahhkgjoaaDoor
