/-
New, Next, Stage, stage, Fire of the program.
-/
import Derived.Test.YtkgomnegeacceaaPb
set_option linter.unusedVariables false
namespace Go.Proofs.Ytkgomnegeacceaa
open Go.RowKit

theorem new_any (w : World) : Calls Try.prog 7 #[] w fun e w' => e = .returned (.pointer (some ⟨w.heap.size, 0, none⟩)) ∧ w' = w.alloc (.cells #[.int .i64 0, .int .i64 0] 45) := by
  go_enter Try.func7, Try.ntmps7
  go_wp2
  go_ret
  exact ⟨rfl, rfl⟩

theorem next_any (g : Nat) (n s : Int) (w : World) (h : Ln w g n s) : Calls Try.prog 11 #[.pointer (some ⟨g, 0, none⟩)] w fun e w' => e = .returned (.int .i64 n) ∧ w' = w := by
  have c0 := cell2_0 h
  go_enter Try.func11, Try.ntmps11
  go_wp2
  go_ret
  exact ⟨rfl, rfl⟩

theorem stage_any (g : Nat) (n s : Int) (w : World) (h : Ln w g n s) : Calls Try.prog 12 #[.pointer (some ⟨g, 0, none⟩)] w fun e w' => e = .returned (.int .i64 s) ∧ w' = w := by
  have c1 := cell2_1 h
  go_enter Try.func12, Try.ntmps12
  go_wp2
  go_ret
  exact ⟨rfl, rfl⟩

/-- The stage behind a pane. -/
def stF (t : Int) (l : Bool) : Int := if l = true then 3 else if t = 2 then 2 else if t = 1 then 1 else 0

theorem istage_any (n t : Int) (l : Bool) (w : World) : Calls Try.prog 15 #[.agg #[.int .i64 n, .int .i64 t, .bool l]] w fun e w' => e = .returned (.int .i64 (stF t l)) ∧ w' = w.alloc (.cells #[.int .i64 n, .int .i64 t, .bool l] 31) := by
  cases l with
  | true =>
    go_enter Try.func15, Try.ntmps15
    go_wp2
    go_ret
    exact ⟨rfl, rfl⟩
  | false =>
    rcases Decidable.em (t = 2) with rfl | h2
    · go_enter Try.func15, Try.ntmps15
      go_wp2
      go_ret
      exact ⟨rfl, rfl⟩
    rcases Decidable.em (t = 1) with rfl | h1
    · go_enter Try.func15, Try.ntmps15
      go_wp2
      go_ret
      exact ⟨rfl, rfl⟩
    have e2 : (t == 2) = false := by simp [h2]
    have e1 : (t == 1) = false := by simp [h1]
    go_enter Try.func15, Try.ntmps15
    go_wp2
    go_ret
    exact ⟨by simp [stF, h1, h2], rfl⟩

end Go.Proofs.Ytkgomnegeacceaa
