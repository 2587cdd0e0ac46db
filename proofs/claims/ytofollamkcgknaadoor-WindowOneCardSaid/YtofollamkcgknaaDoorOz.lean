/-
WindowOne, whatever it is called with.
-/
import Derived.Test.YtofollamkcgknaaDoorOn
set_option linter.unusedVariables false
namespace Go.Proofs.YtofollamkcgknaaDoor
open Go.RowKit

theorem one_true (v : Value) (l : List Wn) (t : Int) (w : World) (h : WsAt w 0 v l) (hp : Prp v) (hl : l.length ≤ maxLen) :
    Calls Tryd.prog 7 #[v, .int .i64 t] w fun e w' => e = .returned (.bool true) ∧ Below w.heap.size w w' := by
  by_cases h60 : 60 < l.length
  · exact one_long v l t w h hp h60 (by unfold maxLen at hl; omega)
  · by_cases hg : ∀ x ∈ l, GdW x
    · exact one_ok v l t w h hp (by omega) hg
    · exact one_bad v l t w h hp (by omega) (by
        refine Classical.byContradiction fun hc => hg fun x hx => Classical.byContradiction fun hn => hc ⟨x, hx, hn⟩)

end Go.Proofs.YtofollamkcgknaaDoor
