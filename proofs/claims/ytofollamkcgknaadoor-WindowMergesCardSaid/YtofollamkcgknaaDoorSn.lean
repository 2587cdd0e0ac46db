/-
SortFunc of nothing.
-/
import Derived.Test.YtofollamkcgknaaDoorSo
import Derived.Shelf.SlSortCmp.NoneTotal
set_option linter.unusedVariables false
namespace Go.Proofs.YtofollamkcgknaaDoor
open Go.RowKit
theorem sortFunc_nil (w : World) : Calls Tryd.prog 40 #[.slice none 0 0, .func (.func 41) #[] #[]] w fun e w' => e = .returned (.tuple #[]) ∧ w = w' :=
  (show Calls Tryd.prog 40 _ w _ from AnyF.slices_SortFunc_none Tryd.sortW none 0 (.func (.func 41) #[] #[]) w).mono fun _ _ ⟨h1, h2⟩ => ⟨h1, h2.symm⟩
end Go.Proofs.YtofollamkcgknaaDoor
