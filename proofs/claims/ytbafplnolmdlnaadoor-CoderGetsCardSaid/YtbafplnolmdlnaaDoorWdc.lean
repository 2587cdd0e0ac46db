/-
Ported from the texts of layer 2: Wdc.
-/
import Derived.Test.YtbafplnolmdlnaaDoorFit
namespace Go.Proofs.YtbafplnolmdlnaaDoor
open Go.RowKit

def wordStr (k : Int) : ByteArray := ((wordK k).map (·.name)).getD ⟨#[]⟩

def countK (k : Int) : Int := if k = 6 then 2 else if k = 7 then 1 else if k = 9 then 1 else 0

theorem word_cases (k : Int) : (k = 1 ∨ k = 2 ∨ k = 3 ∨ k = 4 ∨ k = 5 ∨ k = 6 ∨ k = 7 ∨ k = 9) ∨ (k ≠ 1 ∧ k ≠ 2 ∧ k ≠ 3 ∧ k ≠ 4 ∧ k ≠ 5 ∧ k ≠ 6 ∧ k ≠ 7 ∧ k ≠ 9) := by omega

theorem wordStr_other {k : Int} (h : k ≠ 1 ∧ k ≠ 2 ∧ k ≠ 3 ∧ k ≠ 4 ∧ k ≠ 5 ∧ k ≠ 6 ∧ k ≠ 7 ∧ k ≠ 9) : wordK k = none := by
  unfold wordK
  rw [List.find?_eq_none]
  intro x hx
  simp only [words, List.mem_cons, List.not_mem_nil, or_false] at hx
  rcases hx with rfl | rfl | rfl | rfl | rfl | rfl | rfl | rfl <;> simp [w1, w2, w3, w4, w5, w6, w7, w9] <;> omega

set_option maxRecDepth 100000 in
set_option maxHeartbeats 400000 in
theorem word_any (k : Int) (w : World) : Calls Tryd.prog 21 #[.int .i64 k] w fun e w' => e = .returned (.string (wordStr k)) ∧ w = w' := by
  rcases word_cases k with (rfl | rfl | rfl | rfl | rfl | rfl | rfl | rfl) | h
  · go_enter Tryd.func21, Tryd.ntmps21; go_wp2_with (fail); go_ret; exact ⟨rfl, rfl⟩
  · go_enter Tryd.func21, Tryd.ntmps21; go_wp2_with (fail); go_ret; exact ⟨rfl, rfl⟩
  · go_enter Tryd.func21, Tryd.ntmps21; go_wp2_with (fail); go_ret; exact ⟨rfl, rfl⟩
  · go_enter Tryd.func21, Tryd.ntmps21; go_wp2_with (fail); go_ret; exact ⟨rfl, rfl⟩
  · go_enter Tryd.func21, Tryd.ntmps21; go_wp2_with (fail); go_ret; exact ⟨rfl, rfl⟩
  · go_enter Tryd.func21, Tryd.ntmps21; go_wp2_with (fail); go_ret; exact ⟨rfl, rfl⟩
  · go_enter Tryd.func21, Tryd.ntmps21; go_wp2_with (fail); go_ret; exact ⟨rfl, rfl⟩
  · go_enter Tryd.func21, Tryd.ntmps21; go_wp2_with (fail); go_ret; exact ⟨rfl, rfl⟩
  · have HW : Hid (wordStr k = ⟨#[]⟩) := by show _ = _; simp only [wordStr, wordStr_other h]; rfl
    obtain ⟨h1, h2, h3, h4, h5, h6, h7, h9⟩ := h
    have g1 : (k == 1) = false := by simp [h1]
    have g2 : (k == 2) = false := by simp [h2]
    have g3 : (k == 3) = false := by simp [h3]
    have g4 : (k == 4) = false := by simp [h4]
    have g5 : (k == 5) = false := by simp [h5]
    have g6 : (k == 6) = false := by simp [h6]
    have g7 : (k == 7) = false := by simp [h7]
    have g9 : (k == 9) = false := by simp [h9]
    clear h1 h2 h3 h4 h5 h6 h7 h9
    go_enter Tryd.func21, Tryd.ntmps21
    go_wp2_with (fail)
    go_ret
    rw [HW.out]
    exact ⟨rfl, rfl⟩

set_option maxRecDepth 100000 in
theorem count_any (k : Int) (w : World) : Calls Tryd.prog 22 #[.int .i64 k] w fun e w' => e = .returned (.int .i64 (countK k)) ∧ w = w' := by
  by_cases h6 : k = 6
  · subst h6
    go_enter Tryd.func22, Tryd.ntmps22; go_wp2_with (fail); go_ret; exact ⟨rfl, rfl⟩
  · by_cases h7 : k = 7
    · subst h7
      go_enter Tryd.func22, Tryd.ntmps22; go_wp2_with (fail); go_ret; exact ⟨rfl, rfl⟩
    · by_cases h9 : k = 9
      · subst h9
        go_enter Tryd.func22, Tryd.ntmps22; go_wp2_with (fail); go_ret; exact ⟨rfl, rfl⟩
      · have HC : Hid (countK k = 0) := by show _ = _; simp only [countK, if_neg h6, if_neg h7, if_neg h9]
        have g6 : (k == 6) = false := by simp [h6]
        have g7 : (k == 7) = false := by simp [h7]
        have g9 : (k == 9) = false := by simp [h9]
        clear h6 h7 h9
        go_enter Tryd.func22, Tryd.ntmps22
        go_wp2_with (fail)
        go_ret
        rw [HC.out]
        exact ⟨rfl, rfl⟩

theorem words_count : ∀ x ∈ words, x.args = countK x.kind := by decide
end Go.Proofs.YtbafplnolmdlnaaDoor
