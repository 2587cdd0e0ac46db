/-
appendValue and isOf at the text 'a'.
-/
import Derived.Test.YtbafplnolmdlnaaDoorApt
import Derived.Lib.SmallJoins
namespace Go.Proofs.YtbafplnolmdlnaaDoor
open Go.RowKit

set_option maxRecDepth 100000 in
set_option maxHeartbeats 1000000 in
theorem appendValue_a (w : World) : Calls Tryd.prog 27 #[.slice none 0 0, .agg #[.int .i64 3, .int .i64 0, .string ⟨#[97]⟩, .complex .f64 0 0, .slice none 0 0]] w fun e w' => ApOut w w' [97, 0, 0] e ∧ Below w.heap.size w w' := by
  have hba := (Below.refl w.heap.size w).alloc (Nat.le_refl _) (.cells #[.int .i64 3, .int .i64 0, .string ⟨#[97]⟩, .complex .f64 0 0, .slice none 0 0] 32)
  go_enter Tryd.func27, Tryd.ntmps27
  go_wp2_with (fail)
  refine (appendText_a _).mono ?_
  rintro e w2 ⟨⟨A', c', rfl, ho⟩, hb⟩
  have HO := Lib.hid ho
  clear ho
  go_wp2_with (fail)
  go_ret
  exact ⟨⟨A', c', rfl, Joins.ownsRow_le HO.out (by simp)⟩, hba.trans (hb.mono (by simp))⟩

end Go.Proofs.YtbafplnolmdlnaaDoor
