/-
The fixed answer that the statement asks for: awake.
-/
import Derived.Test.YtbafplnolmdlnaaDoorFit
import Derived.Test.YtbafplnolmdlnaaDoorVal
import Derived.Deep.DeepFit
namespace Go.Proofs.YtbafplnolmdlnaaDoor
open Go.RowKit

theorem bcell {W w1 : World} (hb : Below W.heap.size W w1) : (∀ b o, b < W.heap.size → w1.cell? ⟨b, o, none⟩ = W.cell? ⟨b, o, none⟩) ∧ (∀ b o, b < W.heap.size → w1.frozen? ⟨b, o, none⟩ = W.frozen? ⟨b, o, none⟩) :=
  ⟨fun b o h => hb.cell (p := ⟨b, o, none⟩) h, fun b o h => hb.frozen (p := ⟨b, o, none⟩) h⟩

theorem zero_order : FloatKind.f64.format.order 0 0 = some .eq := by decide

set_option maxRecDepth 100000 in
set_option maxHeartbeats 400000 in
theorem fits_a (w : World) : Calls Tryd.prog 54 #[.agg #[.int .i64 3, .int .i64 0, .string ⟨#[97]⟩, .complex .f64 0 0, .slice none 0 0]] w fun e w' => e = .returned (.bool true) ∧ Below w.heap.size w w' := by
  have o := zero_order
  have hs : (⟨#[97]⟩ : ByteArray).size = 1 := rfl
  go_enter Tryd.func54, Tryd.ntmps54
  go_wp2_with (fail)
  go_ret
  exact ⟨rfl, (Below.refl _ _).alloc (Nat.le_refl _) _⟩

set_option maxRecDepth 100000 in
set_option maxHeartbeats 400000 in
theorem measure_a (w : World) : Calls Tryd.prog 51 #[.agg #[.int .i64 3, .int .i64 0, .string ⟨#[97]⟩, .complex .f64 0 0, .slice none 0 0]] w fun e w' => e = .returned (.tuple #[.int .i64 1, .int .i64 1, .int .i64 0]) ∧ Below w.heap.size w w' := by
  go_enter Tryd.func51, Tryd.ntmps51
  go_wp2
  go_step3
  go_wp2
  go_step3
  go_wp2
  refine wp_loop_rounds 2 ?_
  rw [rounds_succ]
  go_wp2_with fail
  refine (fits_a _).mono ?_
  rintro e w1 ⟨rfl, hb⟩
  obtain ⟨hc, hf⟩ := bcell hb
  have hz := hb.size
  go_wp2
  rw [rounds_succ]
  go_wp2
  try rw [Exit.noGoto_ret]
  go_ret3
  exact ⟨rfl, (((Below.refl _ _).alloc (Nat.le_refl _) _).alloc (by simp) _).alloc (by simp; omega) _ |>.trans (hb.mono (by simp; omega))⟩

set_option maxHeartbeats 400000 in
theorem vcheck_a (w : World) : Calls Tryd.prog 40 #[.agg #[.int .i64 3, .int .i64 0, .string ⟨#[97]⟩, .complex .f64 0 0, .slice none 0 0]] w fun e w' => e = .returned (.int .i64 0) ∧ Below w.heap.size w w' := by
  go_enter Tryd.func40, Tryd.ntmps40
  go_wp2_with fail
  refine (measure_a _).mono ?_
  rintro e w1 ⟨rfl, hb⟩
  go_wp2
  go_ret
  exact ⟨rfl, ((Below.refl _ _).alloc (Nat.le_refl _) _).trans (hb.mono (by simp))⟩

set_option maxRecDepth 100000 in
set_option maxHeartbeats 400000 in
theorem isOf_a (w : World) : Calls Tryd.prog 41 #[.agg #[.int .i64 3, .int .i64 0, .string ⟨#[97]⟩, .complex .f64 0 0, .slice none 0 0], .agg #[.int .i64 3, .slice none 0 0]] w fun e w' => e = .returned (.bool true) ∧ Below w.heap.size w w' := by
  go_enter Tryd.func41, Tryd.ntmps41
  go_wp2_with (fail)
  refine wp_loop_rounds 2 ?_
  rw [rounds_succ]
  go_wp2_with (fail)
  go_ret
  exact ⟨rfl, ((Below.refl _ _).alloc (Nat.le_refl _) _).alloc (by simp) _⟩
end Go.Proofs.YtbafplnolmdlnaaDoor
