/-
The document's Follows and Stage; awake.
-/
import Derived.Test.YtoplkinlgneidaaPh
set_option linter.unusedVariables false
namespace Go.Proofs.Ytoplkinlgneidaa
open Go.RowKit

/-- Does y keep p from standing behind it? -/
def blk (t : Int) (y : Inf) : Prop := y.2.2 = true ∨ (t ≠ 2 ∧ y.2.1 ≠ 0)

/-- The document's answer. -/
def FolR (l : List Inf) (x : Inf) : Prop := x.1 = l.length ∧ 0 ≤ x.2.1 ∧ x.2.1 ≤ 2 ∧ ∀ y ∈ l, ¬ blk x.2.1 y

instance (t : Int) (y : Inf) : Decidable (blk t y) := by unfold blk; infer_instance
instance (l : List Inf) (x : Inf) : Decidable (FolR l x) := by unfold FolR; infer_instance

def FolOut (l : List Inf) (x : Inf) (e : Ending) : Prop := ∃ q : Bool, e = .returned (.bool q) ∧ (q = true ↔ FolR l x)

theorem mem_take_succ {l : List Inf} {j : Nat} {x y : Inf} (h : l[j]? = some x) (hy : y ∈ l.take (j + 1)) : y ∈ l.take j ∨ y = x := by
  rw [take_snoc h] at hy
  simpa using hy

end Go.Proofs.Ytoplkinlgneidaa
