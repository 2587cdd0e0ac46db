/-
Stage 11: what the document reads: plain.
-/
import Derived.Test.YtllnamhgnbdkmaaGreatDoorGc
import Derived.Test.YtllnamhgnbdkmaaGreatDoorYh
set_option linter.unusedVariables false
set_option linter.unusedSimpArgs false
namespace Go.Proofs.YtllnamhgnbdkmaaGreatDoor
open Go.RowKit Go.Shelf
theorem chk_take (l : List Gn) : chkAll (l.take 33) = chkAll l := by
  rcases Nat.lt_or_ge 32 l.length with h | h
  · unfold chkAll
    rw [if_pos (.inr (by rw [List.length_take]; omega)), if_pos (.inr h)]
  · rw [List.take_of_length_le (by omega)]
theorem chk_few {l : List Gn} (h : (chkAll l).2 = 0) : l.length ≤ 32 := by
  refine Decidable.byContradiction fun hn => ?_
  unfold chkAll at h
  rw [if_pos (.inr (by omega))] at h
  cases h
end Go.Proofs.YtllnamhgnbdkmaaGreatDoor
