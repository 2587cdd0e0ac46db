/-
New, Next, Stage, stage, Fire of the program.
-/
import Derived.Test.YtoplkinlgneidaaPb
set_option linter.unusedVariables false
namespace Go.Proofs.Ytoplkinlgneidaa
open Go.RowKit

theorem new_any (w : World) : Calls Try.prog 30 #[] w fun e w' => e = .returned (.pointer (some ⟨w.heap.size, 0, none⟩)) ∧ w' = w.alloc (.cells #[.int .i64 0, .int .i64 0] 78) := by
  go_enter Try.func30, Try.ntmps30
  go_wp2
  go_ret
  exact ⟨rfl, rfl⟩

theorem next_any (g : Nat) (n s : Int) (w : World) (h : Ln w g n s) : Calls Try.prog 32 #[.pointer (some ⟨g, 0, none⟩)] w fun e w' => e = .returned (.int .i64 n) ∧ w' = w := by
  have c0 := cell2_0 h
  go_enter Try.func32, Try.ntmps32
  go_wp2
  go_ret
  exact ⟨rfl, rfl⟩

theorem stage_any (g : Nat) (n s : Int) (w : World) (h : Ln w g n s) : Calls Try.prog 33 #[.pointer (some ⟨g, 0, none⟩)] w fun e w' => e = .returned (.int .i64 s) ∧ w' = w := by
  have c1 := cell2_1 h
  go_enter Try.func33, Try.ntmps33
  go_wp2
  go_ret
  exact ⟨rfl, rfl⟩

/-- The stage behind a pane. -/
def stF (t : Int) (l : Bool) : Int := if l = true then 3 else if t = 2 then 2 else if t = 1 then 1 else 0

theorem istage_any (n t : Int) (l : Bool) (w : World) : Calls Try.prog 37 #[.agg #[.int .i64 n, .int .i64 t, .bool l]] w fun e w' => e = .returned (.int .i64 (stF t l)) ∧ w' = w.alloc (.cells #[.int .i64 n, .int .i64 t, .bool l] 49) := by
  cases l with
  | true =>
    go_enter Try.func37, Try.ntmps37
    go_wp2
    go_ret
    exact ⟨rfl, rfl⟩
  | false =>
    rcases Decidable.em (t = 2) with rfl | h2
    · go_enter Try.func37, Try.ntmps37
      go_wp2
      go_ret
      exact ⟨rfl, rfl⟩
    rcases Decidable.em (t = 1) with rfl | h1
    · go_enter Try.func37, Try.ntmps37
      go_wp2
      go_ret
      exact ⟨rfl, rfl⟩
    have e2 : (t == 2) = false := by simp [h2]
    have e1 : (t == 1) = false := by simp [h1]
    go_enter Try.func37, Try.ntmps37
    go_wp2
    go_ret
    exact ⟨by simp [stF, h1, h2], rfl⟩

end Go.Proofs.Ytoplkinlgneidaa
