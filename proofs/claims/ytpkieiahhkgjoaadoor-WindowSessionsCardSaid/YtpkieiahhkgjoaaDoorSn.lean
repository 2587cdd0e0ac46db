/-
SortFunc of nothing.
-/
import Derived.Test.YtpkieiahhkgjoaaDoorSo
import Derived.Shelf.SlSortCmp.NoneTotal
set_option linter.unusedVariables false
namespace Go.Proofs.YtpkieiahhkgjoaaDoor
open Go.RowKit
theorem sortFunc_nil (w : World) : Calls Tryd.prog 16 #[.slice none 0 0, .func (.func 17) #[] #[]] w fun e w' => e = .returned (.tuple #[]) ∧ w = w' :=
  (show Calls Tryd.prog 16 _ w _ from AnyF.slices_SortFunc_none Tryd.sortW none 0 (.func (.func 17) #[] #[]) w).mono fun _ _ ⟨h1, h2⟩ => ⟨h1, h2.symm⟩
end Go.Proofs.YtpkieiahhkgjoaaDoor
