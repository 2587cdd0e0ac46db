/-
TriggerEarly.
-/
import Derived.Test.YtoplkinlgneidaaTd
set_option linter.unusedVariables false
namespace Go.Proofs.Ytoplkinlgneidaa
open Go.RowKit

theorem step_less {N k : Nat} (h : k % N + 1 < N) : (k + 1) / N = k / N ∧ (k + 1) % N = k % N + 1 := by
  have e := Nat.div_add_mod k N
  have e' : k + 1 = (k % N + 1) + N * (k / N) := by omega
  constructor
  · rw [e', Nat.add_mul_div_left _ _ (by omega), Nat.div_eq_of_lt h, Nat.zero_add]
  · rw [e', Nat.add_mul_mod_self_left, Nat.mod_eq_of_lt h]

theorem step_full {N k : Nat} (h0 : 0 < N) (h : k % N + 1 = N) : (k + 1) / N = k / N + 1 ∧ (k + 1) % N = 0 := by
  have e := Nat.div_add_mod k N
  have e' : k + 1 = 0 + N * (k / N + 1) := by rw [Nat.mul_add]; omega
  constructor
  · rw [e', Nat.add_mul_div_left _ _ (by omega), Nat.zero_div, Nat.zero_add]
  · rw [e', Nat.add_mul_mod_self_left, Nat.zero_mod]

theorem tmod_cast (k N : Nat) : Int.tmod ((k : Int) + 1) (N : Int) = (((k + 1) % N : Nat) : Int) := by
  rw [Int.tmod_eq_emod_of_nonneg (by omega)]; simp

theorem tdiv_cast (k N : Nat) : Int.tdiv (k : Int) (N : Int) = ((k / N : Nat) : Int) := by
  rw [Int.tdiv_eq_ediv_of_nonneg (by omega)]; simp

set_option maxRecDepth 100000 in
set_option maxHeartbeats 2000000 in
theorem early_out (n v : Int) (w : World) (h : n < 1 ∨ 1000 < n ∨ v < 0 ∨ 3000 < v) : Calls Try.prog 6 #[.int .i64 n, .int .i64 v] w fun e w' => e = .returned (.bool true) ∧ Below w.heap.size w w' := by
  have HA := fun w => Lib.hid (tawake_any w)
  by_cases h1 : n < 1
  · have d1 : decide (n < 1) = true := decide_eq_true h1
    clear h h1
    go_enter Try.func6, Try.ntmps6
    go_wp2_with (go_at_call 11; (with_reducible refine (HA _).out.mono ?_); rintro e w1 ⟨rfl, hb⟩)
    go_ret
    exact ⟨rfl, hb⟩
  have d1 : decide (n < 1) = false := decide_eq_false h1
  by_cases h2 : 1000 < n
  · have d2 : decide (1000 < n) = true := decide_eq_true h2
    clear h h1 h2
    go_enter Try.func6, Try.ntmps6
    go_wp2_with (go_at_call 11; (with_reducible refine (HA _).out.mono ?_); rintro e w1 ⟨rfl, hb⟩)
    go_ret
    exact ⟨rfl, hb⟩
  have d2 : decide (1000 < n) = false := decide_eq_false h2
  by_cases h3 : v < 0
  · have d3 : decide (v < 0) = true := decide_eq_true h3
    clear h h1 h2 h3
    go_enter Try.func6, Try.ntmps6
    go_wp2_with (go_at_call 11; (with_reducible refine (HA _).out.mono ?_); rintro e w1 ⟨rfl, hb⟩)
    go_ret
    exact ⟨rfl, hb⟩
  have d3 : decide (v < 0) = false := decide_eq_false h3
  have d4 : decide (3000 < v) = true := decide_eq_true (by omega)
  clear h h1 h2 h3
  go_enter Try.func6, Try.ntmps6
  go_wp2_with (go_at_call 11; (with_reducible refine (HA _).out.mono ?_); rintro e w1 ⟨rfl, hb⟩)
  go_ret
  exact ⟨rfl, hb⟩

set_option maxRecDepth 100000 in
set_option maxHeartbeats 4000000 in
theorem early_in (N V : Nat) (w : World) (h1 : 1 ≤ N) (h2 : N ≤ 1000) (h3 : V ≤ 3000) : Calls Try.prog 6 #[.int .i64 N, .int .i64 V] w fun e w' => e = .returned (.bool true) ∧ Below w.heap.size w w' := by
  have HA := fun w => Lib.hid (tawake_any w)
  have HN := Lib.hid (tnew_yes N 0 0 false w ⟨⟨by omega, by omega⟩, by decide, by decide, .inl rfl⟩)
  have d1 : decide ((N : Int) < 1) = false := decide_eq_false (by omega)
  have d2 : decide ((1000 : Int) < N) = false := decide_eq_false (by omega)
  have d3 : decide ((V : Int) < 0) = false := decide_eq_false (by omega)
  have d4 : decide ((3000 : Int) < V) = false := decide_eq_false (by omega)
  go_enter Try.func6, Try.ntmps6
  go_wp2_with (go_at_call 8; (with_reducible refine HN.out.mono ?_); rintro e w1 ⟨m, g, rfl, hm, hg, hM, hB⟩; have HM1 := Lib.hid hM; have HB := Lib.hid hB; clear hM hB HN)
  go_loopw [7, 41] (fun fv iv wr => ∃ k q r : Nat, iv = .int .i64 (k : Int) ∧ k ≤ V ∧ fv = .int .i64 (q : Int) ∧ q ≤ k ∧ r < N ∧ Hid (q = k / N ∧ r = k % N) ∧ Hid (Mc wr m g N 0 0 false q 0 r false false) ∧ Hid (Below w.heap.size w wr)) (fun _ iv _ => V - (intOf iv).toNat)
  case atStart => exact ⟨0, 0, 0, rfl, Nat.zero_le _, rfl, Nat.le_refl _, by omega, Lib.hid (by simp), HM1, HB⟩
  case round =>
    obtain ⟨k, q, r, rfl, hk, rfl, hq, hr, HQ, HM, HBr⟩ := hrel
    by_cases hlt : k < V
    · by_cases hf : r + 1 < N
      · have HE : Hid (q = (k + 1) / N ∧ r + 1 = (k + 1) % N) := Lib.hid (by
          obtain ⟨h1, h2⟩ := HQ.out
          have := step_less (by rw [← h2]; exact hf)
          rw [this.1, this.2, ← h1, ← h2]; exact ⟨rfl, rfl⟩)
        have HC := Lib.hid (add_quiet m g N 0 0 false q 0 r false 1 wr HM.out (by decide) (by omega) (by omega) (.inr (by show (r : Int) + 1 < (N : Int); omega)))
        have d5 : (Int.tmod ((k : Int) + 1) (N : Int) == 0) = false := by rw [tmod_cast, ← HE.out.2]; exact beq_eq_false_iff_ne.2 (by omega)
        have d6 : (((k : Int) + 1) % (N : Int) == 0) = false := by rw [← Int.tmod_eq_emod_of_nonneg (by omega)]; exact d5
        have hn0 : ¬ ((N : Int) = 0) := by omega
        go_wp2_with (go_at_call 14; (with_reducible refine HC.out.mono ?_); rintro e w2 ⟨rfl, hM2, hO2⟩; have HM2 := Lib.hid hM2; have HO2 := Lib.hid hO2; clear hM2 hO2)
        go_roundw
        case rel => exact ⟨k + 1, q, r + 1, by go_num, by omega, rfl, by omega, hf, HE, HM2, Lib.hid (HBr.out.trans (HO2.out.below hm hg HBr.out.size))⟩
        case measure => simp [intOf]; omega
      · have hf' : r + 1 = N := by omega
        have HE : Hid (q + 1 = (k + 1) / N ∧ 0 = (k + 1) % N) := Lib.hid (by
          obtain ⟨h1, h2⟩ := HQ.out
          have := step_full (N := N) (k := k) (by omega) (by rw [← h2]; exact hf')
          rw [this.1, this.2, ← h1]; exact ⟨rfl, rfl⟩)
        have HC := Lib.hid (add_fire m g N 0 0 false q 0 r false 1 wr HM.out (by omega) (by omega) (by decide) (by omega) (by omega) ⟨by show ¬ (N : Int) = 0; omega, by show (N : Int) ≤ (r : Int) + 1; omega⟩ (by decide))
        have d5 : (Int.tmod ((k : Int) + 1) (N : Int) == 0) = true := by rw [tmod_cast, ← HE.out.2]; rfl
        have d6 : (((k : Int) + 1) % (N : Int) == 0) = true := by rw [← Int.tmod_eq_emod_of_nonneg (by omega)]; exact d5
        have hn0 : ¬ ((N : Int) = 0) := by omega
        clear hf hf'
        go_wp2_with (go_at_call 14; (with_reducible refine HC.out.mono ?_); rintro e w2 ⟨b, rfl, h1b, hM2, hO2⟩; have HM2 := Lib.hid hM2; have HO2 := Lib.hid hO2; clear hM2 hO2 h1b)
        go_roundw
        case rel => exact ⟨k + 1, q + 1, 0, by go_num, by omega, by go_num, by omega, by omega, HE, HM2, Lib.hid (HBr.out.trans (HO2.out.below hm hg HBr.out.size))⟩
        case measure => simp [intOf]; omega
    · obtain rfl : k = V := by omega
      have HC := Lib.hid (pass_ok m g N 0 0 false q 0 r false wr HM.out (by omega) (by omega) (by decide) true rfl)
      have hgu := fun w' => Try.guardI .eql w'
      have hel := fun w' => Try.eqlI w' q 1 q 1 true true
      have d5 : Int.tdiv (k : Int) (N : Int) = (q : Int) := by rw [tdiv_cast, ← HQ.out.1]
      have d6 : (k : Int) / (N : Int) = (q : Int) := by rw [← Int.tdiv_eq_ediv_of_nonneg (by omega)]; exact d5
      have hn0 : ¬ ((N : Int) = 0) := by omega
      go_wp2_with (first
        | (go_at_call 15; (with_reducible refine HC.out.mono ?_); rintro e w2 ⟨b, rfl, h1b, hM2, hO2⟩; have hb := h1b.2; have b0 := cell3_0 hb; have b1 := cell3_1 hb; have b2 := cell3_2 hb; have hbl := cell_lt hb; have HO2 := Lib.hid hO2; clear hM2 hO2 h1b hb)
        | (go_at_call 11; (with_reducible refine (HA _).out.mono ?_); rintro e w3 ⟨rfl, hb3⟩; have HB3 := Lib.hid hb3; clear hb3))
      go_ret
      have hO := HO2.out.below hm hg HBr.out.size
      exact ⟨rfl, HBr.out.trans (hO.trans (HB3.out.mono (Nat.le_trans HBr.out.size hO.size)))⟩
end Go.Proofs.Ytoplkinlgneidaa
