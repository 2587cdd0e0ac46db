/-
Which windowings are right: the program's right and Check, the document's Right.
-/
import Derived.Test.YtpkieiahhkgjoaaDoorVa
set_option linter.unusedVariables false
namespace Go.Proofs.YtpkieiahhkgjoaaDoor
open Go.RowKit

theorem rgt_yes {k s p o : Int} (h : Rgt k s p o) : rgtB k s p o = true := decide_eq_true h
theorem rgt_no {k s p o : Int} (h : ¬ Rgt k s p o) : rgtB k s p o = false := decide_eq_false h

theorem right_0 (s p o : Int) (w : World) : Calls Tryd.prog 8 #[.agg #[.int .i64 0, .int .i64 s, .int .i64 p, .int .i64 o]] w fun e w' => e = .returned (.bool (rgtB 0 s p o)) ∧ Below w.heap.size w w' := by
  generalize hr : rgtB 0 s p o = r
  have HR := Lib.hid hr
  clear hr
  go_enter Tryd.func8, Tryd.ntmps8
  go_wp2
  all_goals (go_ret; refine ⟨ret_bool ?_, (Below.refl _ _).alloc (Nat.le_refl _) _⟩; rw [← HR.out]; first | rw [rgt_yes (by unfold Rgt; omega)] | rw [rgt_no (by unfold Rgt; omega)] | (rw [Bool.eq_iff_iff]; simp only [rgtB, decide_eq_true_eq, beq_iff_eq]; unfold Rgt; omega))

theorem right_1 (s p o : Int) (w : World) : Calls Tryd.prog 8 #[.agg #[.int .i64 1, .int .i64 s, .int .i64 p, .int .i64 o]] w fun e w' => e = .returned (.bool (rgtB 1 s p o)) ∧ Below w.heap.size w w' := by
  generalize hr : rgtB 1 s p o = r
  have HR := Lib.hid hr
  clear hr
  by_cases hp : p = 0
  · subst hp
    by_cases hs : 1 ≤ s ∧ s ≤ 1048576
    · obtain ⟨hs1, hs2⟩ := hs
      by_cases ho : 0 ≤ o ∧ o ≤ s - 1
      · obtain ⟨ho1, ho2⟩ := ho
        go_enter Tryd.func8, Tryd.ntmps8
        go_wp2_with (go_at_call 10; refine (within_yes _ _ _ _ (by omega) (by omega)).mono ?_; rintro e w1 ⟨rfl, rfl⟩)
        all_goals (go_ret; refine ⟨ret_bool ?_, (Below.refl _ _).alloc (Nat.le_refl _) _⟩; rw [← HR.out]; first | rw [rgt_yes (by unfold Rgt; omega)] | rw [rgt_no (by unfold Rgt; omega)] | (rw [Bool.eq_iff_iff]; simp only [rgtB, decide_eq_true_eq, beq_iff_eq]; unfold Rgt; omega))
      · have HO := Lib.hid ho
        clear ho
        go_enter Tryd.func8, Tryd.ntmps8
        go_wp2_with (go_at_call 10; first | ((with_reducible refine (within_yes _ _ _ _ (by omega) (by omega)).mono ?_); rintro e w1 ⟨rfl, rfl⟩) | ((with_reducible refine (within_no _ _ _ _ (by have := HO.out; omega)).mono ?_); rintro e w1 ⟨rfl, rfl⟩))
        all_goals (go_ret; refine ⟨ret_bool ?_, (Below.refl _ _).alloc (Nat.le_refl _) _⟩; rw [← HR.out]; have := HO.out; first | rw [rgt_yes (by unfold Rgt; omega)] | rw [rgt_no (by unfold Rgt; omega)] | (rw [Bool.eq_iff_iff]; simp only [rgtB, decide_eq_true_eq, beq_iff_eq]; unfold Rgt; omega))
    · have HO := Lib.hid hs
      clear hs
      go_enter Tryd.func8, Tryd.ntmps8
      go_wp2_with (go_at_call 10; refine (within_no _ _ _ _ (by have := HO.out; omega)).mono ?_; rintro e w1 ⟨rfl, rfl⟩)
      all_goals (go_ret; refine ⟨ret_bool ?_, (Below.refl _ _).alloc (Nat.le_refl _) _⟩; rw [← HR.out]; have := HO.out; first | rw [rgt_yes (by unfold Rgt; omega)] | rw [rgt_no (by unfold Rgt; omega)] | (rw [Bool.eq_iff_iff]; simp only [rgtB, decide_eq_true_eq, beq_iff_eq]; unfold Rgt; omega))
  · go_enter Tryd.func8, Tryd.ntmps8
    go_wp2
    all_goals (go_ret; refine ⟨ret_bool ?_, (Below.refl _ _).alloc (Nat.le_refl _) _⟩; rw [← HR.out]; first | rw [rgt_yes (by unfold Rgt; omega)] | rw [rgt_no (by unfold Rgt; omega)] | (rw [Bool.eq_iff_iff]; simp only [rgtB, decide_eq_true_eq, beq_iff_eq]; unfold Rgt; omega))

theorem right_3 (s p o : Int) (w : World) : Calls Tryd.prog 8 #[.agg #[.int .i64 3, .int .i64 s, .int .i64 p, .int .i64 o]] w fun e w' => e = .returned (.bool (rgtB 3 s p o)) ∧ Below w.heap.size w w' := by
  generalize hr : rgtB 3 s p o = r
  have HR := Lib.hid hr
  clear hr
  by_cases hs : 1 ≤ s ∧ s ≤ 1048576
  · obtain ⟨hs1, hs2⟩ := hs
    go_enter Tryd.func8, Tryd.ntmps8
    go_wp2_with (go_at_call 10; refine (within_yes _ _ _ _ (by omega) (by omega)).mono ?_; rintro e w1 ⟨rfl, rfl⟩)
    all_goals (go_ret; refine ⟨ret_bool ?_, (Below.refl _ _).alloc (Nat.le_refl _) _⟩; rw [← HR.out]; first | rw [rgt_yes (by unfold Rgt; omega)] | rw [rgt_no (by unfold Rgt; omega)] | (rw [Bool.eq_iff_iff]; simp only [rgtB, decide_eq_true_eq, beq_iff_eq]; unfold Rgt; omega))
  · have HO := Lib.hid hs
    clear hs
    go_enter Tryd.func8, Tryd.ntmps8
    go_wp2_with (go_at_call 10; refine (within_no _ _ _ _ (by have := HO.out; omega)).mono ?_; rintro e w1 ⟨rfl, rfl⟩)
    all_goals (go_ret; refine ⟨ret_bool ?_, (Below.refl _ _).alloc (Nat.le_refl _) _⟩; rw [← HR.out]; have := HO.out; first | rw [rgt_yes (by unfold Rgt; omega)] | rw [rgt_no (by unfold Rgt; omega)] | (rw [Bool.eq_iff_iff]; simp only [rgtB, decide_eq_true_eq, beq_iff_eq]; unfold Rgt; omega))

theorem right_n (k s p o : Int) (w : World) (h0 : ¬ k = 0) (h1 : ¬ k = 1) (h2 : ¬ k = 2) (h3 : ¬ k = 3) : Calls Tryd.prog 8 #[.agg #[.int .i64 k, .int .i64 s, .int .i64 p, .int .i64 o]] w fun e w' => e = .returned (.bool (rgtB k s p o)) ∧ Below w.heap.size w w' := by
  rw [rgt_no (by unfold Rgt; omega)]
  go_enter Tryd.func8, Tryd.ntmps8
  go_wp2
  go_ret
  exact ⟨rfl, (Below.refl _ _).alloc (Nat.le_refl _) _⟩

set_option maxHeartbeats 1000000 in
theorem right_2a (s p o : Int) (w : World) (hm : 16 * p ≤ 1048576) : Calls Tryd.prog 8 #[.agg #[.int .i64 2, .int .i64 s, .int .i64 p, .int .i64 o]] w fun e w' => e = .returned (.bool (rgtB 2 s p o)) ∧ Below w.heap.size w w' := by
  generalize hr : rgtB 2 s p o = r
  have HR := Lib.hid hr
  clear hr
  by_cases hc : 1 ≤ p ∧ p ≤ 1048576
  · obtain ⟨hc1_3, hc2_3⟩ := hc
    by_cases hc : p ≤ s ∧ s ≤ 16 * p
    · obtain ⟨hc1_2, hc2_2⟩ := hc
      by_cases hc : 0 ≤ o ∧ o ≤ p - 1
      · obtain ⟨hc1_1, hc2_1⟩ := hc
        go_enter Tryd.func8, Tryd.ntmps8
        go_wp2_with (go_at_call 10; ((with_reducible refine (within_yes _ _ _ _ (by omega) (by omega)).mono ?_); rintro e w1 ⟨rfl, rfl⟩))
        all_goals (go_ret; refine ⟨ret_bool ?_, (Below.refl _ _).alloc (Nat.le_refl _) _⟩; rw [← HR.out]; first | rw [rgt_yes (by unfold Rgt; omega)] | rw [rgt_no (by unfold Rgt; omega)] | (rw [Bool.eq_iff_iff]; simp only [rgtB, decide_eq_true_eq, beq_iff_eq]; unfold Rgt; omega))
      · have HO := Lib.hid hc
        clear hc
        go_enter Tryd.func8, Tryd.ntmps8
        go_wp2_with (go_at_call 10; first | ((with_reducible refine (within_yes _ _ _ _ (by omega) (by omega)).mono ?_); rintro e w1 ⟨rfl, rfl⟩) | ((with_reducible refine (within_no _ _ _ _ (by have := HO.out; omega)).mono ?_); rintro e w1 ⟨rfl, rfl⟩))
        all_goals (go_ret; refine ⟨ret_bool ?_, (Below.refl _ _).alloc (Nat.le_refl _) _⟩; rw [← HR.out]; have := HO.out; first | rw [rgt_yes (by unfold Rgt; omega)] | rw [rgt_no (by unfold Rgt; omega)] | (rw [Bool.eq_iff_iff]; simp only [rgtB, decide_eq_true_eq, beq_iff_eq]; unfold Rgt; omega))
    · have HO := Lib.hid hc
      clear hc
      go_enter Tryd.func8, Tryd.ntmps8
      go_wp2_with (go_at_call 10; first | ((with_reducible refine (within_yes _ _ _ _ (by omega) (by omega)).mono ?_); rintro e w1 ⟨rfl, rfl⟩) | ((with_reducible refine (within_no _ _ _ _ (by have := HO.out; omega)).mono ?_); rintro e w1 ⟨rfl, rfl⟩))
      all_goals (go_ret; refine ⟨ret_bool ?_, (Below.refl _ _).alloc (Nat.le_refl _) _⟩; rw [← HR.out]; have := HO.out; first | rw [rgt_yes (by unfold Rgt; omega)] | rw [rgt_no (by unfold Rgt; omega)] | (rw [Bool.eq_iff_iff]; simp only [rgtB, decide_eq_true_eq, beq_iff_eq]; unfold Rgt; omega))
  · have HO := Lib.hid hc
    clear hc
    go_enter Tryd.func8, Tryd.ntmps8
    go_wp2_with (go_at_call 10; first | ((with_reducible refine (within_yes _ _ _ _ (by omega) (by omega)).mono ?_); rintro e w1 ⟨rfl, rfl⟩) | ((with_reducible refine (within_no _ _ _ _ (by have := HO.out; omega)).mono ?_); rintro e w1 ⟨rfl, rfl⟩))
    all_goals (go_ret; refine ⟨ret_bool ?_, (Below.refl _ _).alloc (Nat.le_refl _) _⟩; rw [← HR.out]; have := HO.out; first | rw [rgt_yes (by unfold Rgt; omega)] | rw [rgt_no (by unfold Rgt; omega)] | (rw [Bool.eq_iff_iff]; simp only [rgtB, decide_eq_true_eq, beq_iff_eq]; unfold Rgt; omega))

set_option maxHeartbeats 1000000 in
theorem right_2b (s p o : Int) (w : World) (hm : 1048576 < 16 * p) : Calls Tryd.prog 8 #[.agg #[.int .i64 2, .int .i64 s, .int .i64 p, .int .i64 o]] w fun e w' => e = .returned (.bool (rgtB 2 s p o)) ∧ Below w.heap.size w w' := by
  generalize hr : rgtB 2 s p o = r
  have HR := Lib.hid hr
  clear hr
  by_cases hc : 1 ≤ p ∧ p ≤ 1048576
  · obtain ⟨hc1_3, hc2_3⟩ := hc
    by_cases hc : p ≤ s ∧ s ≤ 1048576
    · obtain ⟨hc1_2, hc2_2⟩ := hc
      by_cases hc : 0 ≤ o ∧ o ≤ p - 1
      · obtain ⟨hc1_1, hc2_1⟩ := hc
        go_enter Tryd.func8, Tryd.ntmps8
        go_wp2_with (go_at_call 10; ((with_reducible refine (within_yes _ _ _ _ (by omega) (by omega)).mono ?_); rintro e w1 ⟨rfl, rfl⟩))
        all_goals (go_ret; refine ⟨ret_bool ?_, (Below.refl _ _).alloc (Nat.le_refl _) _⟩; rw [← HR.out]; first | rw [rgt_yes (by unfold Rgt; omega)] | rw [rgt_no (by unfold Rgt; omega)] | (rw [Bool.eq_iff_iff]; simp only [rgtB, decide_eq_true_eq, beq_iff_eq]; unfold Rgt; omega))
      · have HO := Lib.hid hc
        clear hc
        go_enter Tryd.func8, Tryd.ntmps8
        go_wp2_with (go_at_call 10; first | ((with_reducible refine (within_yes _ _ _ _ (by omega) (by omega)).mono ?_); rintro e w1 ⟨rfl, rfl⟩) | ((with_reducible refine (within_no _ _ _ _ (by have := HO.out; omega)).mono ?_); rintro e w1 ⟨rfl, rfl⟩))
        all_goals (go_ret; refine ⟨ret_bool ?_, (Below.refl _ _).alloc (Nat.le_refl _) _⟩; rw [← HR.out]; have := HO.out; first | rw [rgt_yes (by unfold Rgt; omega)] | rw [rgt_no (by unfold Rgt; omega)] | (rw [Bool.eq_iff_iff]; simp only [rgtB, decide_eq_true_eq, beq_iff_eq]; unfold Rgt; omega))
    · have HO := Lib.hid hc
      clear hc
      go_enter Tryd.func8, Tryd.ntmps8
      go_wp2_with (go_at_call 10; first | ((with_reducible refine (within_yes _ _ _ _ (by omega) (by omega)).mono ?_); rintro e w1 ⟨rfl, rfl⟩) | ((with_reducible refine (within_no _ _ _ _ (by have := HO.out; omega)).mono ?_); rintro e w1 ⟨rfl, rfl⟩))
      all_goals (go_ret; refine ⟨ret_bool ?_, (Below.refl _ _).alloc (Nat.le_refl _) _⟩; rw [← HR.out]; have := HO.out; first | rw [rgt_yes (by unfold Rgt; omega)] | rw [rgt_no (by unfold Rgt; omega)] | (rw [Bool.eq_iff_iff]; simp only [rgtB, decide_eq_true_eq, beq_iff_eq]; unfold Rgt; omega))
  · have HO := Lib.hid hc
    clear hc
    go_enter Tryd.func8, Tryd.ntmps8
    go_wp2_with (go_at_call 10; first | ((with_reducible refine (within_yes _ _ _ _ (by omega) (by omega)).mono ?_); rintro e w1 ⟨rfl, rfl⟩) | ((with_reducible refine (within_no _ _ _ _ (by have := HO.out; omega)).mono ?_); rintro e w1 ⟨rfl, rfl⟩))
    all_goals (go_ret; refine ⟨ret_bool ?_, (Below.refl _ _).alloc (Nat.le_refl _) _⟩; rw [← HR.out]; have := HO.out; first | rw [rgt_yes (by unfold Rgt; omega)] | rw [rgt_no (by unfold Rgt; omega)] | (rw [Bool.eq_iff_iff]; simp only [rgtB, decide_eq_true_eq, beq_iff_eq]; unfold Rgt; omega))

theorem right_any (k s p o : Int) (w : World) : Calls Tryd.prog 8 #[.agg #[.int .i64 k, .int .i64 s, .int .i64 p, .int .i64 o]] w fun e w' => e = .returned (.bool (rgtB k s p o)) ∧ Below w.heap.size w w' := by
  by_cases h0 : k = 0
  · subst h0; exact right_0 s p o w
  by_cases h1 : k = 1
  · subst h1; exact right_1 s p o w
  by_cases h2 : k = 2
  · subst h2
    rcases Int.lt_or_le 1048576 (16 * p) with h | h
    · exact right_2b s p o w h
    · exact right_2a s p o w h
  by_cases h3 : k = 3
  · subst h3; exact right_3 s p o w
  exact right_n k s p o w h0 h1 h2 h3

theorem check_any (k s p o : Int) (w : World) : Calls Tryd.prog 4 #[.agg #[.int .i64 k, .int .i64 s, .int .i64 p, .int .i64 o]] w fun e w' => e = .returned (.int .i64 (if rgtB k s p o = true then 0 else 70)) ∧ Below w.heap.size w w' := by
  have HC := fun w => right_any k s p o w
  generalize rgtB k s p o = r at HC ⊢
  cases r
  · have e : (if false = true then (0 : Int) else 70) = 70 := rfl
    rw [e]; clear e
    go_enter Tryd.func4, Tryd.ntmps4
    go_wp2_with (go_at_call 8; refine (HC _).mono ?_; rintro e w1 ⟨rfl, hb⟩)
    go_ret
    exact ⟨rfl, ((Below.refl _ _).alloc (Nat.le_refl _) _).trans (hb.mono (by simp))⟩
  · have e : (if true = true then (0 : Int) else 70) = 0 := rfl
    rw [e]; clear e
    go_enter Tryd.func4, Tryd.ntmps4
    go_wp2_with (go_at_call 8; refine (HC _).mono ?_; rintro e w1 ⟨rfl, hb⟩)
    go_ret
    exact ⟨rfl, ((Below.refl _ _).alloc (Nat.le_refl _) _).trans (hb.mono (by simp))⟩

end Go.Proofs.YtpkieiahhkgjoaaDoor
