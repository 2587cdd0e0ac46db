/-
Windowings and specs: which are right (of stages 7 and 10).
-/
import Derived.Test.YtllnamhgnbdkmaaGreatDoorJa
set_option linter.unusedVariables false
set_option linter.unusedSimpArgs false
namespace Go.Proofs.YtllnamhgnbdkmaaGreatDoor.Wi
open Go.RowKit
def Rgt (k s p o : Int) : Prop :=
  (k = 0 ∧ s = 0 ∧ p = 0 ∧ o = 0) ∨
  (k = 1 ∧ 1 ≤ s ∧ s ≤ 1048576 ∧ p = 0 ∧ 0 ≤ o ∧ o < s) ∨
  (k = 2 ∧ 1 ≤ p ∧ p ≤ 1048576 ∧ p ≤ s ∧ s ≤ 1048576 ∧ s ≤ 16 * p ∧ 0 ≤ o ∧ o < p) ∨
  (k = 3 ∧ 1 ≤ s ∧ s ≤ 1048576 ∧ p = 0 ∧ o = 0)
instance (k s p o : Int) : Decidable (Rgt k s p o) := by unfold Rgt; infer_instance
def rgtB (k s p o : Int) : Bool := decide (Rgt k s p o)
theorem ret_bool {a b : Bool} (h : a = b) : Ending.returned (.bool a) = .returned (.bool b) := by rw [h]
theorem within_any (n a b : Int) (w : World) : Calls Tryz.prog 134 #[.int .i64 n, .int .i64 a, .int .i64 b] w fun e w' => e = .returned (.bool (decide (a ≤ n ∧ n ≤ b))) ∧ w = w' := by
  by_cases h1 : a ≤ n
  · by_cases h2 : n ≤ b
    · have e : decide (a ≤ n ∧ n ≤ b) = true := by simp [h1, h2]
      rw [e]; clear e
      go_enter Tryz.func134, Tryz.ntmps134
      go_wp2
      go_ret
      exact ⟨rfl, rfl⟩
    · have e : decide (a ≤ n ∧ n ≤ b) = false := by simp [h2]
      rw [e]; clear e
      go_enter Tryz.func134, Tryz.ntmps134
      go_wp2
      go_ret
      exact ⟨rfl, rfl⟩
  · have e : decide (a ≤ n ∧ n ≤ b) = false := by simp [h1]
    rw [e]; clear e
    go_enter Tryz.func134, Tryz.ntmps134
    go_wp2
    go_ret
    exact ⟨rfl, rfl⟩
theorem within_yes (n a b : Int) (w : World) (h1 : a ≤ n) (h2 : n ≤ b) : Calls Tryz.prog 134 #[.int .i64 n, .int .i64 a, .int .i64 b] w fun e w' => e = .returned (.bool true) ∧ w = w' :=
  (within_any n a b w).mono fun e w' ⟨he, hw⟩ => ⟨by rw [he]; simp [h1, h2], hw⟩
theorem within_no (n a b : Int) (w : World) (h : ¬ (a ≤ n ∧ n ≤ b)) : Calls Tryz.prog 134 #[.int .i64 n, .int .i64 a, .int .i64 b] w fun e w' => e = .returned (.bool false) ∧ w = w' :=
  (within_any n a b w).mono fun e w' ⟨he, hw⟩ => ⟨by rw [he]; exact ret_bool (decide_eq_false h), hw⟩
theorem in_any (n a b : Int) (w : World) : Calls Tryz.prog 96 #[.int .i64 n, .int .i64 a, .int .i64 b] w fun e w' => e = .returned (.bool (decide (a ≤ n ∧ n ≤ b))) ∧ w = w' := by
  by_cases h1 : a ≤ n
  · by_cases h2 : n ≤ b
    · have e : decide (a ≤ n ∧ n ≤ b) = true := by simp [h1, h2]
      rw [e]; clear e
      go_enter Tryz.func96, Tryz.ntmps96
      go_wp2
      go_ret
      exact ⟨rfl, rfl⟩
    · have e : decide (a ≤ n ∧ n ≤ b) = false := by simp [h2]
      rw [e]; clear e
      go_enter Tryz.func96, Tryz.ntmps96
      go_wp2
      go_ret
      exact ⟨rfl, rfl⟩
  · have e : decide (a ≤ n ∧ n ≤ b) = false := by simp [h1]
    rw [e]; clear e
    go_enter Tryz.func96, Tryz.ntmps96
    go_wp2
    go_ret
    exact ⟨rfl, rfl⟩
theorem in_yes (n a b : Int) (w : World) (h1 : a ≤ n) (h2 : n ≤ b) : Calls Tryz.prog 96 #[.int .i64 n, .int .i64 a, .int .i64 b] w fun e w' => e = .returned (.bool true) ∧ w = w' :=
  (in_any n a b w).mono fun e w' ⟨he, hw⟩ => ⟨by rw [he]; simp [h1, h2], hw⟩
theorem in_no (n a b : Int) (w : World) (h : ¬ (a ≤ n ∧ n ≤ b)) : Calls Tryz.prog 96 #[.int .i64 n, .int .i64 a, .int .i64 b] w fun e w' => e = .returned (.bool false) ∧ w = w' :=
  (in_any n a b w).mono fun e w' ⟨he, hw⟩ => ⟨by rw [he]; exact ret_bool (decide_eq_false h), hw⟩
theorem rgt_yes {k s p o : Int} (h : Rgt k s p o) : rgtB k s p o = true := decide_eq_true h
theorem rgt_no {k s p o : Int} (h : ¬ Rgt k s p o) : rgtB k s p o = false := decide_eq_false h
theorem right_0 (s p o : Int) (w : World) : Calls Tryz.prog 117 #[.agg #[.int .i64 0, .int .i64 s, .int .i64 p, .int .i64 o]] w fun e w' => e = .returned (.bool (rgtB 0 s p o)) ∧ Below w.heap.size w w' := by
  generalize hr : rgtB 0 s p o = r
  have HR := Lib.hid hr
  clear hr
  go_enter Tryz.func117, Tryz.ntmps117
  go_wp2
  all_goals (go_ret; refine ⟨ret_bool ?_, (Below.refl _ _).alloc (Nat.le_refl _) _⟩; rw [← HR.out]; first | rw [rgt_yes (by unfold Rgt; omega)] | rw [rgt_no (by unfold Rgt; omega)] | (rw [Bool.eq_iff_iff]; simp only [rgtB, decide_eq_true_eq, beq_iff_eq]; unfold Rgt; omega))
theorem right_1 (s p o : Int) (w : World) : Calls Tryz.prog 117 #[.agg #[.int .i64 1, .int .i64 s, .int .i64 p, .int .i64 o]] w fun e w' => e = .returned (.bool (rgtB 1 s p o)) ∧ Below w.heap.size w w' := by
  generalize hr : rgtB 1 s p o = r
  have HR := Lib.hid hr
  clear hr
  by_cases hp : p = 0
  · subst hp
    by_cases hs : 1 ≤ s ∧ s ≤ 1048576
    · obtain ⟨hs1, hs2⟩ := hs
      by_cases ho : 0 ≤ o ∧ o ≤ s - 1
      · obtain ⟨ho1, ho2⟩ := ho
        go_enter Tryz.func117, Tryz.ntmps117
        go_wp2_with (go_at_call 134; refine (within_yes _ _ _ _ (by omega) (by omega)).mono ?_; rintro e w1 ⟨rfl, rfl⟩)
        all_goals (go_ret; refine ⟨ret_bool ?_, (Below.refl _ _).alloc (Nat.le_refl _) _⟩; rw [← HR.out]; first | rw [rgt_yes (by unfold Rgt; omega)] | rw [rgt_no (by unfold Rgt; omega)] | (rw [Bool.eq_iff_iff]; simp only [rgtB, decide_eq_true_eq, beq_iff_eq]; unfold Rgt; omega))
      · have HO := Lib.hid ho
        clear ho
        go_enter Tryz.func117, Tryz.ntmps117
        go_wp2_with (go_at_call 134; first | ((with_reducible refine (within_yes _ _ _ _ (by omega) (by omega)).mono ?_); rintro e w1 ⟨rfl, rfl⟩) | ((with_reducible refine (within_no _ _ _ _ (by have := HO.out; omega)).mono ?_); rintro e w1 ⟨rfl, rfl⟩))
        all_goals (go_ret; refine ⟨ret_bool ?_, (Below.refl _ _).alloc (Nat.le_refl _) _⟩; rw [← HR.out]; have := HO.out; first | rw [rgt_yes (by unfold Rgt; omega)] | rw [rgt_no (by unfold Rgt; omega)] | (rw [Bool.eq_iff_iff]; simp only [rgtB, decide_eq_true_eq, beq_iff_eq]; unfold Rgt; omega))
    · have HO := Lib.hid hs
      clear hs
      go_enter Tryz.func117, Tryz.ntmps117
      go_wp2_with (go_at_call 134; refine (within_no _ _ _ _ (by have := HO.out; omega)).mono ?_; rintro e w1 ⟨rfl, rfl⟩)
      all_goals (go_ret; refine ⟨ret_bool ?_, (Below.refl _ _).alloc (Nat.le_refl _) _⟩; rw [← HR.out]; have := HO.out; first | rw [rgt_yes (by unfold Rgt; omega)] | rw [rgt_no (by unfold Rgt; omega)] | (rw [Bool.eq_iff_iff]; simp only [rgtB, decide_eq_true_eq, beq_iff_eq]; unfold Rgt; omega))
  · go_enter Tryz.func117, Tryz.ntmps117
    go_wp2
    all_goals (go_ret; refine ⟨ret_bool ?_, (Below.refl _ _).alloc (Nat.le_refl _) _⟩; rw [← HR.out]; first | rw [rgt_yes (by unfold Rgt; omega)] | rw [rgt_no (by unfold Rgt; omega)] | (rw [Bool.eq_iff_iff]; simp only [rgtB, decide_eq_true_eq, beq_iff_eq]; unfold Rgt; omega))
theorem right_3 (s p o : Int) (w : World) : Calls Tryz.prog 117 #[.agg #[.int .i64 3, .int .i64 s, .int .i64 p, .int .i64 o]] w fun e w' => e = .returned (.bool (rgtB 3 s p o)) ∧ Below w.heap.size w w' := by
  generalize hr : rgtB 3 s p o = r
  have HR := Lib.hid hr
  clear hr
  by_cases hs : 1 ≤ s ∧ s ≤ 1048576
  · obtain ⟨hs1, hs2⟩ := hs
    go_enter Tryz.func117, Tryz.ntmps117
    go_wp2_with (go_at_call 134; refine (within_yes _ _ _ _ (by omega) (by omega)).mono ?_; rintro e w1 ⟨rfl, rfl⟩)
    all_goals (go_ret; refine ⟨ret_bool ?_, (Below.refl _ _).alloc (Nat.le_refl _) _⟩; rw [← HR.out]; first | rw [rgt_yes (by unfold Rgt; omega)] | rw [rgt_no (by unfold Rgt; omega)] | (rw [Bool.eq_iff_iff]; simp only [rgtB, decide_eq_true_eq, beq_iff_eq]; unfold Rgt; omega))
  · have HO := Lib.hid hs
    clear hs
    go_enter Tryz.func117, Tryz.ntmps117
    go_wp2_with (go_at_call 134; refine (within_no _ _ _ _ (by have := HO.out; omega)).mono ?_; rintro e w1 ⟨rfl, rfl⟩)
    all_goals (go_ret; refine ⟨ret_bool ?_, (Below.refl _ _).alloc (Nat.le_refl _) _⟩; rw [← HR.out]; have := HO.out; first | rw [rgt_yes (by unfold Rgt; omega)] | rw [rgt_no (by unfold Rgt; omega)] | (rw [Bool.eq_iff_iff]; simp only [rgtB, decide_eq_true_eq, beq_iff_eq]; unfold Rgt; omega))
theorem right_n (k s p o : Int) (w : World) (h0 : ¬ k = 0) (h1 : ¬ k = 1) (h2 : ¬ k = 2) (h3 : ¬ k = 3) : Calls Tryz.prog 117 #[.agg #[.int .i64 k, .int .i64 s, .int .i64 p, .int .i64 o]] w fun e w' => e = .returned (.bool (rgtB k s p o)) ∧ Below w.heap.size w w' := by
  rw [rgt_no (by unfold Rgt; omega)]
  go_enter Tryz.func117, Tryz.ntmps117
  go_wp2
  go_ret
  exact ⟨rfl, (Below.refl _ _).alloc (Nat.le_refl _) _⟩
set_option maxHeartbeats 1000000 in
theorem right_2a (s p o : Int) (w : World) (hm : 16 * p ≤ 1048576) : Calls Tryz.prog 117 #[.agg #[.int .i64 2, .int .i64 s, .int .i64 p, .int .i64 o]] w fun e w' => e = .returned (.bool (rgtB 2 s p o)) ∧ Below w.heap.size w w' := by
  generalize hr : rgtB 2 s p o = r
  have HR := Lib.hid hr
  clear hr
  by_cases hc : 1 ≤ p ∧ p ≤ 1048576
  · obtain ⟨hc1_3, hc2_3⟩ := hc
    by_cases hc : p ≤ s ∧ s ≤ 16 * p
    · obtain ⟨hc1_2, hc2_2⟩ := hc
      by_cases hc : 0 ≤ o ∧ o ≤ p - 1
      · obtain ⟨hc1_1, hc2_1⟩ := hc
        go_enter Tryz.func117, Tryz.ntmps117
        go_wp2_with (go_at_call 134; ((with_reducible refine (within_yes _ _ _ _ (by omega) (by omega)).mono ?_); rintro e w1 ⟨rfl, rfl⟩))
        all_goals (go_ret; refine ⟨ret_bool ?_, (Below.refl _ _).alloc (Nat.le_refl _) _⟩; rw [← HR.out]; first | rw [rgt_yes (by unfold Rgt; omega)] | rw [rgt_no (by unfold Rgt; omega)] | (rw [Bool.eq_iff_iff]; simp only [rgtB, decide_eq_true_eq, beq_iff_eq]; unfold Rgt; omega))
      · have HO := Lib.hid hc
        clear hc
        go_enter Tryz.func117, Tryz.ntmps117
        go_wp2_with (go_at_call 134; first | ((with_reducible refine (within_yes _ _ _ _ (by omega) (by omega)).mono ?_); rintro e w1 ⟨rfl, rfl⟩) | ((with_reducible refine (within_no _ _ _ _ (by have := HO.out; omega)).mono ?_); rintro e w1 ⟨rfl, rfl⟩))
        all_goals (go_ret; refine ⟨ret_bool ?_, (Below.refl _ _).alloc (Nat.le_refl _) _⟩; rw [← HR.out]; have := HO.out; first | rw [rgt_yes (by unfold Rgt; omega)] | rw [rgt_no (by unfold Rgt; omega)] | (rw [Bool.eq_iff_iff]; simp only [rgtB, decide_eq_true_eq, beq_iff_eq]; unfold Rgt; omega))
    · have HO := Lib.hid hc
      clear hc
      go_enter Tryz.func117, Tryz.ntmps117
      go_wp2_with (go_at_call 134; first | ((with_reducible refine (within_yes _ _ _ _ (by omega) (by omega)).mono ?_); rintro e w1 ⟨rfl, rfl⟩) | ((with_reducible refine (within_no _ _ _ _ (by have := HO.out; omega)).mono ?_); rintro e w1 ⟨rfl, rfl⟩))
      all_goals (go_ret; refine ⟨ret_bool ?_, (Below.refl _ _).alloc (Nat.le_refl _) _⟩; rw [← HR.out]; have := HO.out; first | rw [rgt_yes (by unfold Rgt; omega)] | rw [rgt_no (by unfold Rgt; omega)] | (rw [Bool.eq_iff_iff]; simp only [rgtB, decide_eq_true_eq, beq_iff_eq]; unfold Rgt; omega))
  · have HO := Lib.hid hc
    clear hc
    go_enter Tryz.func117, Tryz.ntmps117
    go_wp2_with (go_at_call 134; first | ((with_reducible refine (within_yes _ _ _ _ (by omega) (by omega)).mono ?_); rintro e w1 ⟨rfl, rfl⟩) | ((with_reducible refine (within_no _ _ _ _ (by have := HO.out; omega)).mono ?_); rintro e w1 ⟨rfl, rfl⟩))
    all_goals (go_ret; refine ⟨ret_bool ?_, (Below.refl _ _).alloc (Nat.le_refl _) _⟩; rw [← HR.out]; have := HO.out; first | rw [rgt_yes (by unfold Rgt; omega)] | rw [rgt_no (by unfold Rgt; omega)] | (rw [Bool.eq_iff_iff]; simp only [rgtB, decide_eq_true_eq, beq_iff_eq]; unfold Rgt; omega))
set_option maxHeartbeats 1000000 in
theorem right_2b (s p o : Int) (w : World) (hm : 1048576 < 16 * p) : Calls Tryz.prog 117 #[.agg #[.int .i64 2, .int .i64 s, .int .i64 p, .int .i64 o]] w fun e w' => e = .returned (.bool (rgtB 2 s p o)) ∧ Below w.heap.size w w' := by
  generalize hr : rgtB 2 s p o = r
  have HR := Lib.hid hr
  clear hr
  by_cases hc : 1 ≤ p ∧ p ≤ 1048576
  · obtain ⟨hc1_3, hc2_3⟩ := hc
    by_cases hc : p ≤ s ∧ s ≤ 1048576
    · obtain ⟨hc1_2, hc2_2⟩ := hc
      by_cases hc : 0 ≤ o ∧ o ≤ p - 1
      · obtain ⟨hc1_1, hc2_1⟩ := hc
        go_enter Tryz.func117, Tryz.ntmps117
        go_wp2_with (go_at_call 134; ((with_reducible refine (within_yes _ _ _ _ (by omega) (by omega)).mono ?_); rintro e w1 ⟨rfl, rfl⟩))
        all_goals (go_ret; refine ⟨ret_bool ?_, (Below.refl _ _).alloc (Nat.le_refl _) _⟩; rw [← HR.out]; first | rw [rgt_yes (by unfold Rgt; omega)] | rw [rgt_no (by unfold Rgt; omega)] | (rw [Bool.eq_iff_iff]; simp only [rgtB, decide_eq_true_eq, beq_iff_eq]; unfold Rgt; omega))
      · have HO := Lib.hid hc
        clear hc
        go_enter Tryz.func117, Tryz.ntmps117
        go_wp2_with (go_at_call 134; first | ((with_reducible refine (within_yes _ _ _ _ (by omega) (by omega)).mono ?_); rintro e w1 ⟨rfl, rfl⟩) | ((with_reducible refine (within_no _ _ _ _ (by have := HO.out; omega)).mono ?_); rintro e w1 ⟨rfl, rfl⟩))
        all_goals (go_ret; refine ⟨ret_bool ?_, (Below.refl _ _).alloc (Nat.le_refl _) _⟩; rw [← HR.out]; have := HO.out; first | rw [rgt_yes (by unfold Rgt; omega)] | rw [rgt_no (by unfold Rgt; omega)] | (rw [Bool.eq_iff_iff]; simp only [rgtB, decide_eq_true_eq, beq_iff_eq]; unfold Rgt; omega))
    · have HO := Lib.hid hc
      clear hc
      go_enter Tryz.func117, Tryz.ntmps117
      go_wp2_with (go_at_call 134; first | ((with_reducible refine (within_yes _ _ _ _ (by omega) (by omega)).mono ?_); rintro e w1 ⟨rfl, rfl⟩) | ((with_reducible refine (within_no _ _ _ _ (by have := HO.out; omega)).mono ?_); rintro e w1 ⟨rfl, rfl⟩))
      all_goals (go_ret; refine ⟨ret_bool ?_, (Below.refl _ _).alloc (Nat.le_refl _) _⟩; rw [← HR.out]; have := HO.out; first | rw [rgt_yes (by unfold Rgt; omega)] | rw [rgt_no (by unfold Rgt; omega)] | (rw [Bool.eq_iff_iff]; simp only [rgtB, decide_eq_true_eq, beq_iff_eq]; unfold Rgt; omega))
  · have HO := Lib.hid hc
    clear hc
    go_enter Tryz.func117, Tryz.ntmps117
    go_wp2_with (go_at_call 134; first | ((with_reducible refine (within_yes _ _ _ _ (by omega) (by omega)).mono ?_); rintro e w1 ⟨rfl, rfl⟩) | ((with_reducible refine (within_no _ _ _ _ (by have := HO.out; omega)).mono ?_); rintro e w1 ⟨rfl, rfl⟩))
    all_goals (go_ret; refine ⟨ret_bool ?_, (Below.refl _ _).alloc (Nat.le_refl _) _⟩; rw [← HR.out]; have := HO.out; first | rw [rgt_yes (by unfold Rgt; omega)] | rw [rgt_no (by unfold Rgt; omega)] | (rw [Bool.eq_iff_iff]; simp only [rgtB, decide_eq_true_eq, beq_iff_eq]; unfold Rgt; omega))
theorem right_any (k s p o : Int) (w : World) : Calls Tryz.prog 117 #[.agg #[.int .i64 k, .int .i64 s, .int .i64 p, .int .i64 o]] w fun e w' => e = .returned (.bool (rgtB k s p o)) ∧ Below w.heap.size w w' := by
  by_cases h0 : k = 0
  · subst h0; exact right_0 s p o w
  by_cases h1 : k = 1
  · subst h1; exact right_1 s p o w
  by_cases h2 : k = 2
  · subst h2
    rcases Int.lt_or_le 1048576 (16 * p) with h | h
    · exact right_2b s p o w h
    · exact right_2a s p o w h
  by_cases h3 : k = 3
  · subst h3; exact right_3 s p o w
  exact right_n k s p o w h0 h1 h2 h3
set_option maxHeartbeats 1000000 in
theorem rright_0 (s p o : Int) (w : World) : Calls Tryz.prog 72 #[.agg #[.int .i64 0, .int .i64 s, .int .i64 p, .int .i64 o]] w fun e w' => e = .returned (.bool (rgtB 0 s p o)) ∧ Below w.heap.size w w' := by
  generalize hr : rgtB 0 s p o = r
  have HR := Lib.hid hr
  clear hr
  go_enter Tryz.func72, Tryz.ntmps72
  go_wp2_with (go_at_call 96; ((with_reducible refine (in_yes _ _ _ _ (by omega) (by omega)).mono ?_); rintro e w1 ⟨rfl, rfl⟩))
  all_goals (go_ret; refine ⟨ret_bool ?_, (Below.refl _ _).alloc (Nat.le_refl _) _⟩; rw [← HR.out]; first | rw [rgt_yes (by unfold Rgt; omega)] | rw [rgt_no (by unfold Rgt; omega)] | (rw [Bool.eq_iff_iff]; simp only [rgtB, decide_eq_true_eq, beq_iff_eq]; unfold Rgt; omega))
set_option maxHeartbeats 1000000 in
theorem rright_1 (s p o : Int) (w : World) : Calls Tryz.prog 72 #[.agg #[.int .i64 1, .int .i64 s, .int .i64 p, .int .i64 o]] w fun e w' => e = .returned (.bool (rgtB 1 s p o)) ∧ Below w.heap.size w w' := by
  generalize hr : rgtB 1 s p o = r
  have HR := Lib.hid hr
  clear hr
  by_cases hc : 1 ≤ s ∧ s ≤ 1048576
  · obtain ⟨hc1_1, hc2_1⟩ := hc
    go_enter Tryz.func72, Tryz.ntmps72
    go_wp2_with (go_at_call 96; ((with_reducible refine (in_yes _ _ _ _ (by omega) (by omega)).mono ?_); rintro e w1 ⟨rfl, rfl⟩))
    all_goals (go_ret; refine ⟨ret_bool ?_, (Below.refl _ _).alloc (Nat.le_refl _) _⟩; rw [← HR.out]; first | rw [rgt_yes (by unfold Rgt; omega)] | rw [rgt_no (by unfold Rgt; omega)] | (rw [Bool.eq_iff_iff]; simp only [rgtB, decide_eq_true_eq]; unfold Rgt; omega))
  · have HO := Lib.hid hc
    clear hc
    go_enter Tryz.func72, Tryz.ntmps72
    go_wp2_with (go_at_call 96; first | ((with_reducible refine (in_yes _ _ _ _ (by omega) (by omega)).mono ?_); rintro e w1 ⟨rfl, rfl⟩) | ((with_reducible refine (in_no _ _ _ _ (by have := HO.out; omega)).mono ?_); rintro e w1 ⟨rfl, rfl⟩))
    all_goals (go_ret; refine ⟨ret_bool ?_, (Below.refl _ _).alloc (Nat.le_refl _) _⟩; rw [← HR.out]; have := HO.out; first | rw [rgt_yes (by unfold Rgt; omega)] | rw [rgt_no (by unfold Rgt; omega)] | (rw [Bool.eq_iff_iff]; simp only [rgtB, decide_eq_true_eq]; unfold Rgt; omega))
set_option maxHeartbeats 1000000 in
theorem rright_2 (s p o : Int) (w : World) : Calls Tryz.prog 72 #[.agg #[.int .i64 2, .int .i64 s, .int .i64 p, .int .i64 o]] w fun e w' => e = .returned (.bool (rgtB 2 s p o)) ∧ Below w.heap.size w w' := by
  generalize hr : rgtB 2 s p o = r
  have HR := Lib.hid hr
  clear hr
  by_cases hc : 1 ≤ p ∧ p ≤ 1048576
  · obtain ⟨hc1_2, hc2_2⟩ := hc
    by_cases hc : p ≤ s ∧ s ≤ 1048576
    · obtain ⟨hc1_1, hc2_1⟩ := hc
      go_enter Tryz.func72, Tryz.ntmps72
      go_wp2_with (go_at_call 96; ((with_reducible refine (in_yes _ _ _ _ (by omega) (by omega)).mono ?_); rintro e w1 ⟨rfl, rfl⟩))
      all_goals (go_ret; refine ⟨ret_bool ?_, (Below.refl _ _).alloc (Nat.le_refl _) _⟩; rw [← HR.out]; first | rw [rgt_yes (by unfold Rgt; omega)] | rw [rgt_no (by unfold Rgt; omega)] | (rw [Bool.eq_iff_iff]; simp only [rgtB, decide_eq_true_eq]; unfold Rgt; omega))
    · have HO := Lib.hid hc
      clear hc
      go_enter Tryz.func72, Tryz.ntmps72
      go_wp2_with (go_at_call 96; first | ((with_reducible refine (in_yes _ _ _ _ (by omega) (by omega)).mono ?_); rintro e w1 ⟨rfl, rfl⟩) | ((with_reducible refine (in_no _ _ _ _ (by have := HO.out; omega)).mono ?_); rintro e w1 ⟨rfl, rfl⟩))
      all_goals (go_ret; refine ⟨ret_bool ?_, (Below.refl _ _).alloc (Nat.le_refl _) _⟩; rw [← HR.out]; have := HO.out; first | rw [rgt_yes (by unfold Rgt; omega)] | rw [rgt_no (by unfold Rgt; omega)] | (rw [Bool.eq_iff_iff]; simp only [rgtB, decide_eq_true_eq]; unfold Rgt; omega))
  · have HO := Lib.hid hc
    clear hc
    go_enter Tryz.func72, Tryz.ntmps72
    go_wp2_with (go_at_call 96; first | ((with_reducible refine (in_yes _ _ _ _ (by omega) (by omega)).mono ?_); rintro e w1 ⟨rfl, rfl⟩) | ((with_reducible refine (in_no _ _ _ _ (by have := HO.out; omega)).mono ?_); rintro e w1 ⟨rfl, rfl⟩))
    all_goals (go_ret; refine ⟨ret_bool ?_, (Below.refl _ _).alloc (Nat.le_refl _) _⟩; rw [← HR.out]; have := HO.out; first | rw [rgt_yes (by unfold Rgt; omega)] | rw [rgt_no (by unfold Rgt; omega)] | (rw [Bool.eq_iff_iff]; simp only [rgtB, decide_eq_true_eq]; unfold Rgt; omega))
set_option maxHeartbeats 1000000 in
theorem rright_3 (s p o : Int) (w : World) : Calls Tryz.prog 72 #[.agg #[.int .i64 3, .int .i64 s, .int .i64 p, .int .i64 o]] w fun e w' => e = .returned (.bool (rgtB 3 s p o)) ∧ Below w.heap.size w w' := by
  generalize hr : rgtB 3 s p o = r
  have HR := Lib.hid hr
  clear hr
  by_cases hc : 1 ≤ s ∧ s ≤ 1048576
  · obtain ⟨hc1_1, hc2_1⟩ := hc
    go_enter Tryz.func72, Tryz.ntmps72
    go_wp2_with (go_at_call 96; ((with_reducible refine (in_yes _ _ _ _ (by omega) (by omega)).mono ?_); rintro e w1 ⟨rfl, rfl⟩))
    all_goals (go_ret; refine ⟨ret_bool ?_, (Below.refl _ _).alloc (Nat.le_refl _) _⟩; rw [← HR.out]; first | rw [rgt_yes (by unfold Rgt; omega)] | rw [rgt_no (by unfold Rgt; omega)] | (rw [Bool.eq_iff_iff]; simp only [rgtB, decide_eq_true_eq, beq_iff_eq]; unfold Rgt; omega))
  · have HO := Lib.hid hc
    clear hc
    go_enter Tryz.func72, Tryz.ntmps72
    go_wp2_with (go_at_call 96; first | ((with_reducible refine (in_yes _ _ _ _ (by omega) (by omega)).mono ?_); rintro e w1 ⟨rfl, rfl⟩) | ((with_reducible refine (in_no _ _ _ _ (by have := HO.out; omega)).mono ?_); rintro e w1 ⟨rfl, rfl⟩))
    all_goals (go_ret; refine ⟨ret_bool ?_, (Below.refl _ _).alloc (Nat.le_refl _) _⟩; rw [← HR.out]; have := HO.out; first | rw [rgt_yes (by unfold Rgt; omega)] | rw [rgt_no (by unfold Rgt; omega)] | (rw [Bool.eq_iff_iff]; simp only [rgtB, decide_eq_true_eq, beq_iff_eq]; unfold Rgt; omega))
theorem rright_n (k s p o : Int) (w : World) (h0 : ¬ k = 0) (h1 : ¬ k = 1) (h2 : ¬ k = 2) (h3 : ¬ k = 3) : Calls Tryz.prog 72 #[.agg #[.int .i64 k, .int .i64 s, .int .i64 p, .int .i64 o]] w fun e w' => e = .returned (.bool (rgtB k s p o)) ∧ Below w.heap.size w w' := by
  rw [rgt_no (by unfold Rgt; omega)]
  go_enter Tryz.func72, Tryz.ntmps72
  go_wp2
  go_ret
  exact ⟨rfl, (Below.refl _ _).alloc (Nat.le_refl _) _⟩
theorem rright_any (k s p o : Int) (w : World) : Calls Tryz.prog 72 #[.agg #[.int .i64 k, .int .i64 s, .int .i64 p, .int .i64 o]] w fun e w' => e = .returned (.bool (rgtB k s p o)) ∧ Below w.heap.size w w' := by
  by_cases h0 : k = 0
  · subst h0; exact rright_0 s p o w
  by_cases h1 : k = 1
  · subst h1; exact rright_1 s p o w
  by_cases h2 : k = 2
  · subst h2; exact rright_2 s p o w
  by_cases h3 : k = 3
  · subst h3; exact rright_3 s p o w
  exact rright_n k s p o w h0 h1 h2 h3
theorem check_any (k s p o : Int) (w : World) : Calls Tryz.prog 92 #[.agg #[.int .i64 k, .int .i64 s, .int .i64 p, .int .i64 o]] w fun e w' => e = .returned (.int .i64 (if rgtB k s p o = true then 0 else 70)) ∧ Below w.heap.size w w' := by
  have HC := fun w => right_any k s p o w
  generalize rgtB k s p o = r at HC ⊢
  cases r
  · have e : (if false = true then (0 : Int) else 70) = 70 := rfl
    rw [e]; clear e
    go_enter Tryz.func92, Tryz.ntmps92
    go_wp2_with (go_at_call 117; refine (HC _).mono ?_; rintro e w1 ⟨rfl, hb⟩)
    go_ret
    exact ⟨rfl, ((Below.refl _ _).alloc (Nat.le_refl _) _).trans (hb.mono (by simp))⟩
  · have e : (if true = true then (0 : Int) else 70) = 0 := rfl
    rw [e]; clear e
    go_enter Tryz.func92, Tryz.ntmps92
    go_wp2_with (go_at_call 117; refine (HC _).mono ?_; rintro e w1 ⟨rfl, hb⟩)
    go_ret
    exact ⟨rfl, ((Below.refl _ _).alloc (Nat.le_refl _) _).trans (hb.mono (by simp))⟩
end Go.Proofs.YtllnamhgnbdkmaaGreatDoor.Wi
namespace Go.Proofs.YtllnamhgnbdkmaaGreatDoor.Tg
open Go.RowKit
def SpecOk (E L T : Int) : Prop := (0 ≤ E ∧ E ≤ 1000) ∧ (0 ≤ L ∧ L ≤ 1000) ∧ (0 ≤ T ∧ T ≤ 1048576) ∧ (L = 0 ∨ ¬ T = 0)
instance (E L T : Int) : Decidable (SpecOk E L T) := by unfold SpecOk; infer_instance
theorem within_yes (n lo hi : Int) (w : World) (h : lo ≤ n ∧ n ≤ hi) : Calls Tryz.prog 118 #[.int .i64 n, .int .i64 lo, .int .i64 hi] w fun e w' => e = .returned (.bool true) ∧ w = w' := by
  have h1 : decide (lo ≤ n) = true := decide_eq_true h.1
  have h2 : decide (n ≤ hi) = true := decide_eq_true h.2
  clear h
  go_enter Tryz.func118, Tryz.ntmps118
  go_wp2
  go_ret
  exact ⟨rfl, rfl⟩
theorem within_no (n lo hi : Int) (w : World) (h : ¬ (lo ≤ n ∧ n ≤ hi)) : Calls Tryz.prog 118 #[.int .i64 n, .int .i64 lo, .int .i64 hi] w fun e w' => e = .returned (.bool false) ∧ w = w' := by
  by_cases h0 : lo ≤ n
  · have h1 : decide (lo ≤ n) = true := decide_eq_true h0
    have h2 : decide (n ≤ hi) = false := decide_eq_false (fun k => h ⟨h0, k⟩)
    clear h h0
    go_enter Tryz.func118, Tryz.ntmps118
    go_wp2
    go_ret
    exact ⟨rfl, rfl⟩
  · have h1 : decide (lo ≤ n) = false := decide_eq_false h0
    clear h h0
    go_enter Tryz.func118, Tryz.ntmps118
    go_wp2
    go_ret
    exact ⟨rfl, rfl⟩
set_option maxRecDepth 100000 in
theorem check_yes (E L T : Int) (a : Bool) (w : World) (h : SpecOk E L T) : Calls Tryz.prog 93 #[.agg #[.int .i64 E, .int .i64 L, .int .i64 T, .bool a]] w fun e w' => e = .returned (.int .i64 0) ∧ w' = w.alloc (.cells #[.int .i64 E, .int .i64 L, .int .i64 T, .bool a] 71) := by
  obtain ⟨h1, h2, h3, h4⟩ := h
  have HC1 := fun w => Lib.hid (within_yes E 0 1000 w h1)
  have HC2 := fun w => Lib.hid (within_yes L 0 1000 w h2)
  have HC3 := fun w => Lib.hid (within_yes T 0 1048576 w h3)
  clear h1 h2 h3
  by_cases hl : L = 0
  · subst hl
    clear h4
    go_enter Tryz.func93, Tryz.ntmps93
    go_wp2_with (first
      | (go_at_call 118; (with_reducible refine (HC1 _).out.mono ?_); rintro e w1 ⟨rfl, rfl⟩)
      | (go_at_call 118; (with_reducible refine (HC2 _).out.mono ?_); rintro e w1 ⟨rfl, rfl⟩)
      | (go_at_call 118; (with_reducible refine (HC3 _).out.mono ?_); rintro e w1 ⟨rfl, rfl⟩))
    go_ret
    exact ⟨rfl, rfl⟩
  · have ht : ¬ T = 0 := by omega
    have d1 : (L == 0) = false := by simp [hl]
    have d2 : (L != 0) = true := by simp [hl]
    have d3 : (T == 0) = false := by simp [ht]
    clear h4 hl ht
    go_enter Tryz.func93, Tryz.ntmps93
    go_wp2_with (first
      | (go_at_call 118; (with_reducible refine (HC1 _).out.mono ?_); rintro e w1 ⟨rfl, rfl⟩)
      | (go_at_call 118; (with_reducible refine (HC2 _).out.mono ?_); rintro e w1 ⟨rfl, rfl⟩)
      | (go_at_call 118; (with_reducible refine (HC3 _).out.mono ?_); rintro e w1 ⟨rfl, rfl⟩))
    go_ret
    exact ⟨rfl, rfl⟩
set_option maxRecDepth 100000 in
theorem check_no (E L T : Int) (a : Bool) (w : World) (h : ¬ SpecOk E L T) : Calls Tryz.prog 93 #[.agg #[.int .i64 E, .int .i64 L, .int .i64 T, .bool a]] w fun e w' => e = .returned (.int .i64 100) ∧ w' = w.alloc (.cells #[.int .i64 E, .int .i64 L, .int .i64 T, .bool a] 71) := by
  by_cases h1 : 0 ≤ E ∧ E ≤ 1000
  · have HC1 := fun w => Lib.hid (within_yes E 0 1000 w h1)
    by_cases h2 : 0 ≤ L ∧ L ≤ 1000
    · have HC2 := fun w => Lib.hid (within_yes L 0 1000 w h2)
      by_cases h3 : 0 ≤ T ∧ T ≤ 1048576
      · have HC3 := fun w => Lib.hid (within_yes T 0 1048576 w h3)
        have hl : ¬ L = 0 := fun e => h ⟨h1, h2, h3, .inl e⟩
        have ht : T = 0 := Decidable.byContradiction fun e => h ⟨h1, h2, h3, .inr e⟩
        subst ht
        have d1 : (L == 0) = false := by simp [hl]
        have d2 : (L != 0) = true := by simp [hl]
        clear h1 h2 h3 h hl
        go_enter Tryz.func93, Tryz.ntmps93
        go_wp2_with (first
          | (go_at_call 118; (with_reducible refine (HC1 _).out.mono ?_); rintro e w1 ⟨rfl, rfl⟩)
          | (go_at_call 118; (with_reducible refine (HC2 _).out.mono ?_); rintro e w1 ⟨rfl, rfl⟩)
          | (go_at_call 118; (with_reducible refine (HC3 _).out.mono ?_); rintro e w1 ⟨rfl, rfl⟩))
        go_ret
        exact ⟨rfl, rfl⟩
      · have HC3 := fun w => Lib.hid (within_no T 0 1048576 w h3)
        clear h1 h2 h3 h
        go_enter Tryz.func93, Tryz.ntmps93
        go_wp2_with (first
          | (go_at_call 118; (with_reducible refine (HC1 _).out.mono ?_); rintro e w1 ⟨rfl, rfl⟩)
          | (go_at_call 118; (with_reducible refine (HC2 _).out.mono ?_); rintro e w1 ⟨rfl, rfl⟩)
          | (go_at_call 118; (with_reducible refine (HC3 _).out.mono ?_); rintro e w1 ⟨rfl, rfl⟩))
        go_ret
        exact ⟨rfl, rfl⟩
    · have HC2 := fun w => Lib.hid (within_no L 0 1000 w h2)
      clear h1 h2 h
      go_enter Tryz.func93, Tryz.ntmps93
      go_wp2_with (first
        | (go_at_call 118; (with_reducible refine (HC1 _).out.mono ?_); rintro e w1 ⟨rfl, rfl⟩)
        | (go_at_call 118; (with_reducible refine (HC2 _).out.mono ?_); rintro e w1 ⟨rfl, rfl⟩))
      go_ret
      exact ⟨rfl, rfl⟩
  · have HC1 := fun w => Lib.hid (within_no E 0 1000 w h1)
    clear h1 h
    go_enter Tryz.func93, Tryz.ntmps93
    go_wp2_with (go_at_call 118; (with_reducible refine (HC1 _).out.mono ?_); rintro e w1 ⟨rfl, rfl⟩)
    go_ret
    exact ⟨rfl, rfl⟩
def RightB (E L T : Int) : Bool := decide (SpecOk E L T)
set_option maxRecDepth 100000 in
set_option maxHeartbeats 4000000 in
theorem right_any (E L T : Int) (a : Bool) (w : World) : Calls Tryz.prog 73 #[.agg #[.int .i64 E, .int .i64 L, .int .i64 T, .bool a]] w fun e w' => e = .returned (.bool (RightB E L T)) ∧ w' = w.alloc (.cells #[.int .i64 E, .int .i64 L, .int .i64 T, .bool a] 49) := by
  by_cases h0 : 0 ≤ E
  case neg =>
    have HR : Hid (RightB E L T = false) := Lib.hid (decide_eq_false fun h => h0 h.1.1)
    have d0 : decide (0 ≤ E) = false := decide_eq_false h0
    clear h0
    go_enter Tryz.func73, Tryz.ntmps73
    go_wp2
    go_ret
    exact ⟨ret_bool HR.out.symm, rfl⟩
  have d0 : decide (0 ≤ E) = true := decide_eq_true h0
  by_cases h1 : E ≤ 1000
  case neg =>
    have HR : Hid (RightB E L T = false) := Lib.hid (decide_eq_false fun h => h1 h.1.2)
    have d1 : decide (E ≤ 1000) = false := decide_eq_false h1
    clear h0 h1
    go_enter Tryz.func73, Tryz.ntmps73
    go_wp2
    go_ret
    exact ⟨ret_bool HR.out.symm, rfl⟩
  have d1 : decide (E ≤ 1000) = true := decide_eq_true h1
  by_cases h2 : 0 ≤ L
  case neg =>
    have HR : Hid (RightB E L T = false) := Lib.hid (decide_eq_false fun h => h2 h.2.1.1)
    have d2 : decide (0 ≤ L) = false := decide_eq_false h2
    clear h0 h1 h2
    go_enter Tryz.func73, Tryz.ntmps73
    go_wp2
    go_ret
    exact ⟨ret_bool HR.out.symm, rfl⟩
  have d2 : decide (0 ≤ L) = true := decide_eq_true h2
  by_cases h3 : L ≤ 1000
  case neg =>
    have HR : Hid (RightB E L T = false) := Lib.hid (decide_eq_false fun h => h3 h.2.1.2)
    have d3 : decide (L ≤ 1000) = false := decide_eq_false h3
    clear h0 h1 h2 h3
    go_enter Tryz.func73, Tryz.ntmps73
    go_wp2
    go_ret
    exact ⟨ret_bool HR.out.symm, rfl⟩
  have d3 : decide (L ≤ 1000) = true := decide_eq_true h3
  by_cases h4 : 0 ≤ T
  case neg =>
    have HR : Hid (RightB E L T = false) := Lib.hid (decide_eq_false fun h => h4 h.2.2.1.1)
    have d4 : decide (0 ≤ T) = false := decide_eq_false h4
    clear h0 h1 h2 h3 h4
    go_enter Tryz.func73, Tryz.ntmps73
    go_wp2
    go_ret
    exact ⟨ret_bool HR.out.symm, rfl⟩
  have d4 : decide (0 ≤ T) = true := decide_eq_true h4
  by_cases h5 : T ≤ 1048576
  case neg =>
    have HR : Hid (RightB E L T = false) := Lib.hid (decide_eq_false fun h => h5 h.2.2.1.2)
    have d5 : decide (T ≤ 1048576) = false := decide_eq_false h5
    clear h0 h1 h2 h3 h4 h5
    go_enter Tryz.func73, Tryz.ntmps73
    go_wp2
    go_ret
    exact ⟨ret_bool HR.out.symm, rfl⟩
  have d5 : decide (T ≤ 1048576) = true := decide_eq_true h5
  by_cases h6 : 0 < T
  case pos =>
    have HR : Hid (RightB E L T = true) := Lib.hid (decide_eq_true ⟨⟨h0, h1⟩, ⟨h2, h3⟩, ⟨h4, h5⟩, .inr (by omega)⟩)
    have d6 : decide (0 < T) = true := decide_eq_true h6
    clear h0 h1 h2 h3 h4 h5 h6
    go_enter Tryz.func73, Tryz.ntmps73
    go_wp2
    go_ret
    exact ⟨ret_bool HR.out.symm, rfl⟩
  have d6 : decide (0 < T) = false := decide_eq_false h6
  by_cases h7 : L = 0
  case pos =>
    have HR : Hid (RightB E L T = true) := Lib.hid (decide_eq_true ⟨⟨h0, h1⟩, ⟨h2, h3⟩, ⟨h4, h5⟩, .inl h7⟩)
    have d7 : (L == 0) = true := by simp [h7]
    clear h0 h1 h2 h3 h4 h5 h6 h7
    go_enter Tryz.func73, Tryz.ntmps73
    go_wp2
    go_ret
    exact ⟨ret_bool HR.out.symm, rfl⟩
  have HR : Hid (RightB E L T = false) := Lib.hid (decide_eq_false fun h => by have := h.2.2.2; omega)
  have d7 : (L == 0) = false := by simp [h7]
  clear h0 h1 h2 h3 h4 h5 h6 h7
  go_enter Tryz.func73, Tryz.ntmps73
  go_wp2
  go_ret
  exact ⟨ret_bool HR.out.symm, rfl⟩
end Go.Proofs.YtllnamhgnbdkmaaGreatDoor.Tg
