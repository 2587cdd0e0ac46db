/-
awake.
-/
import Derived.Test.YtpkieiahhkgjoaaDoorVm
set_option linter.unusedVariables false
namespace Go.Proofs.YtpkieiahhkgjoaaDoor
open Go.RowKit

theorem dec3 : Lib.decDigits 3 = [51] := by decide +kernel
theorem dec13 : Lib.decDigits 13 = [49, 51] := by decide +kernel

theorem text_3_13 (w : World) : Calls Tryd.prog 9 #[.agg #[.int .i64 3, .int .i64 13]] w fun e w' => e = .returned (.string ⟨#[51, 46, 46, 49, 51]⟩) ∧ Below w.heap.size w w' := by
  have h3 := fun w => Tryd.strconv_Itoa_small 3 (by omega) w
  have h13 := fun w => Tryd.strconv_Itoa_small 13 (by omega) w
  rw [dec3] at h3
  rw [dec13] at h13
  go_enter Tryd.func9, Tryd.ntmps9
  go_wp2
  go_quiet ((first | (go_at_call 13; exact Calls.quiet_of_same (h3 _)) | (go_at_call 13; exact Calls.quiet_of_same (h13 _))))
  go_wp2
  go_ret
  exact ⟨rfl, below_drewN ((Below.refl _ _).alloc (Nat.le_refl _) _) _⟩

theorem asg3 : asg 1 10 0 3 3 = [(3, 13)] := by decide +kernel

set_option maxHeartbeats 400000 in
theorem awake_any (w : World) : Calls Tryd.prog 5 #[] w fun e w' => e = .returned (.bool true) ∧ Below w.heap.size w w' := by
  have hA : ∀ w, Calls Tryd.prog 6 #[.agg #[.int .i64 1, .int .i64 10, .int .i64 0, .int .i64 3], .int .i64 3] w fun e w' => ∃ b o c, e = .returned (.tuple #[.slice (some ⟨b, o, none⟩) 1 c, .int .i64 0]) ∧ w'.cell? ⟨b, o, none⟩ = some (.int .i64 3) ∧ w'.cell? ⟨b, o + 1, none⟩ = some (.int .i64 13) ∧ b < w'.heap.size ∧ Below w.heap.size w w' := fun w =>
    (assign_any 1 10 0 3 3 w).mono fun e w' ⟨h, hb⟩ => by
      rcases h with ⟨h, _⟩ | ⟨_, h, _⟩ | ⟨_, _, _, v, rfl, a, c, rfl, hc, hv⟩
      · exact absurd h (by decide)
      · exact absurd ⟨by omega, by omega⟩ h
      · rw [asg3] at hv hc ⊢
        obtain ⟨b, o, rfl, h1, h2, h3⟩ := hv (by simp)
        have h4 := h3 0 (3, 13) rfl
        exact ⟨b, o, c, rfl, by simpa using h4.1, by simpa using h4.2, h2, hb⟩
  have HA := Lib.hid hA
  clear hA
  go_enter Tryd.func5, Tryd.ntmps5
  go_wp2_with (first
    | (go_at_call 6; refine (HA.out _).mono ?_; rintro e w1 ⟨b, o, c, rfl, hc0, hc1, hlt, hb⟩)
    | (go_at_call 9; refine (text_3_13 _).mono ?_; rintro e w2 ⟨rfl, hb2⟩))
  go_ret
  exact ⟨rfl, hb.trans (hb2.mono hb.size)⟩

end Go.Proofs.YtpkieiahhkgjoaaDoor
