/-
TriggerLate.
-/
import Derived.Test.YtoplkinlgneidaaTe
set_option linter.unusedVariables false
namespace Go.Proofs.Ytoplkinlgneidaa
open Go.RowKit

theorem Mc.drew {w : World} {m g : Nat} {E L T : Int} {a : Bool} {n s fr : Int} {p c : Bool} (h : Mc w m g E L T a n s fr p c) (k : Nat) : Mc (w.drewN k) m g E L T a n s fr p c := ⟨h.ne, h.cells, h.line⟩

set_option maxRecDepth 100000 in
set_option maxHeartbeats 2000000 in
theorem late_out (n a v : Int) (w : World) (h : n < 1 ∨ 1000 < n ∨ v < 0 ∨ 3000 < v ∨ a < 1 ∨ 1000 < a) : Calls Try.prog 7 #[.int .i64 n, .int .i64 a, .int .i64 v] w fun e w' => e = .returned (.bool true) ∧ Below w.heap.size w w' := by
  have HA := fun w => Lib.hid (tawake_any w)
  by_cases h1 : n < 1
  · have d1 : decide (n < 1) = true := decide_eq_true h1
    clear h h1
    go_enter Try.func7, Try.ntmps7
    go_wp2_with (go_at_call 11; (with_reducible refine (HA _).out.mono ?_); rintro e w1 ⟨rfl, hb⟩)
    go_ret
    exact ⟨rfl, hb⟩
  have d1 : decide (n < 1) = false := decide_eq_false h1
  by_cases h2 : 1000 < n
  · have d2 : decide (1000 < n) = true := decide_eq_true h2
    clear h h1 h2
    go_enter Try.func7, Try.ntmps7
    go_wp2_with (go_at_call 11; (with_reducible refine (HA _).out.mono ?_); rintro e w1 ⟨rfl, hb⟩)
    go_ret
    exact ⟨rfl, hb⟩
  have d2 : decide (1000 < n) = false := decide_eq_false h2
  by_cases h3 : v < 0
  · have d3 : decide (v < 0) = true := decide_eq_true h3
    clear h h1 h2 h3
    go_enter Try.func7, Try.ntmps7
    go_wp2_with (go_at_call 11; (with_reducible refine (HA _).out.mono ?_); rintro e w1 ⟨rfl, hb⟩)
    go_ret
    exact ⟨rfl, hb⟩
  have d3 : decide (v < 0) = false := decide_eq_false h3
  by_cases h4 : 3000 < v
  · have d4 : decide (3000 < v) = true := decide_eq_true h4
    clear h h1 h2 h3 h4
    go_enter Try.func7, Try.ntmps7
    go_wp2_with (go_at_call 11; (with_reducible refine (HA _).out.mono ?_); rintro e w1 ⟨rfl, hb⟩)
    go_ret
    exact ⟨rfl, hb⟩
  have d4 : decide (3000 < v) = false := decide_eq_false h4
  by_cases h5 : a < 1
  · have d5 : decide (a < 1) = true := decide_eq_true h5
    clear h h1 h2 h3 h4 h5
    go_enter Try.func7, Try.ntmps7
    go_wp2_with (go_at_call 11; (with_reducible refine (HA _).out.mono ?_); rintro e w1 ⟨rfl, hb⟩)
    go_ret
    exact ⟨rfl, hb⟩
  have d5 : decide (a < 1) = false := decide_eq_false h5
  have d6 : decide (1000 < a) = true := decide_eq_true (by omega)
  clear h h1 h2 h3 h4 h5
  go_enter Try.func7, Try.ntmps7
  go_wp2_with (go_at_call 11; (with_reducible refine (HA _).out.mono ?_); rintro e w1 ⟨rfl, hb⟩)
  go_ret
  exact ⟨rfl, hb⟩

set_option maxRecDepth 100000 in
set_option maxHeartbeats 4000000 in
theorem late_in (N V : Nat) (a : Int) (w : World) (h1 : 1 ≤ N) (h2 : N ≤ 1000) (h3 : V ≤ 3000) (ha : 1 ≤ a ∧ a ≤ 1000) : Calls Try.prog 7 #[.int .i64 N, .int .i64 a, .int .i64 V] w fun e w' => e = .returned (.bool true) ∧ Below w.heap.size w w' := by
  have HA := fun w => Lib.hid (tawake_any w)
  have HN := Lib.hid (tnew_yes 0 N 5 false w ⟨by decide, ⟨by omega, by omega⟩, by decide, .inr (by decide)⟩)
  have d1 : decide ((N : Int) < 1) = false := decide_eq_false (by omega)
  have d2 : decide ((1000 : Int) < N) = false := decide_eq_false (by omega)
  have d3 : decide ((V : Int) < 0) = false := decide_eq_false (by omega)
  have d4 : decide ((3000 : Int) < V) = false := decide_eq_false (by omega)
  have d5 : decide (a < 1) = false := decide_eq_false (by omega)
  have d6 : decide (1000 < a) = false := decide_eq_false (by omega)
  have HAV := Lib.hid ha
  clear ha
  go_enter Try.func7, Try.ntmps7
  go_wp2_with (first
    | (go_at_call 8; (with_reducible refine HN.out.mono ?_); rintro e w1 ⟨m, g, rfl, hm, hg, hM, hB⟩; have HC1 := Lib.hid (add_quiet m g 0 N 5 false 0 0 0 false a w1 hM HAV.out (by decide) (by decide) (.inl rfl)); have HB := Lib.hid hB; clear hM hB HN)
    | (go_at_call 14; (with_reducible refine HC1.out.mono ?_); rintro e w2 ⟨rfl, hM, hO⟩; have HC2 := Lib.hid (pass_ok m g 0 N 5 false 0 0 (0 + a) false w2 hM (by decide) (by decide) (by decide) false rfl); have HO := Lib.hid hO; clear hM hO HC1)
    | (go_at_call 15; (with_reducible refine HC2.out.mono ?_); rintro e w3 ⟨b, rfl, h1b, hM, hO⟩; have hb := h1b.2; have b2 := cell3_2 hb; have hbl := cell_lt hb; have HM3 := Lib.hid hM; have HB3 : Hid (Below w.heap.size w w3) := Lib.hid (HB.out.trans ((HO.out.trans hO).below hm hg HB.out.size)); clear hM hO h1b hb HC2))
  go_loopw [75] (fun iv wr => ∃ (k q r : Nat) (s : Int), iv = .int .i64 (k : Int) ∧ k ≤ V ∧ q ≤ k ∧ r < N ∧ Hid (okF s 2) ∧ Hid (q = k / N ∧ r = k % N) ∧ Hid (Mc wr m g 0 N 5 false (1 + (q : Int)) s r true false) ∧ Hid (Below w.heap.size w wr)) (fun iv _ => V - (intOf iv).toNat)
  case atStart => exact ⟨0, 0, 0, 1, rfl, Nat.zero_le _, Nat.le_refl _, by omega, Lib.hid (by decide), Lib.hid (by simp), HM3, HB3⟩
  case round =>
    obtain ⟨k, q, r, s, rfl, hk, hq, hr, HS, HQ, HM, HBr⟩ := hrel
    by_cases hlt : k < V
    · by_cases hf : r + 1 < N
      · have HE : Hid (q = (k + 1) / N ∧ r + 1 = (k + 1) % N) := Lib.hid (by
          obtain ⟨h1, h2⟩ := HQ.out
          have := step_less (by rw [← h2]; exact hf)
          rw [this.1, this.2, ← h1, ← h2]; exact ⟨rfl, rfl⟩)
        have HC := Lib.hid (add_quiet m g 0 N 5 false (1 + (q : Int)) s r true 1 wr HM.out (by decide) (by omega) (by omega) (.inr (by show (r : Int) + 1 < (N : Int); omega)))
        have d5 : (Int.tmod ((k : Int) + 1) (N : Int) == 0) = false := by rw [tmod_cast, ← HE.out.2]; exact beq_eq_false_iff_ne.2 (by omega)
        have d6 : (((k : Int) + 1) % (N : Int) == 0) = false := by rw [← Int.tmod_eq_emod_of_nonneg (by omega)]; exact d5
        have hn0 : ¬ ((N : Int) = 0) := by omega
        go_wp2_with (go_at_call 14; (with_reducible refine HC.out.mono ?_); rintro e w2 ⟨rfl, hM2, hO2⟩; have HM2 := Lib.hid hM2; have HO2 := Lib.hid hO2; clear hM2 hO2)
        go_roundw
        case rel => exact ⟨k + 1, q, r + 1, s, by go_num, by omega, by omega, hf, HS, HE, HM2, Lib.hid (HBr.out.trans (HO2.out.below hm hg HBr.out.size))⟩
        case measure => simp [intOf]; omega
      · have hf' : r + 1 = N := by omega
        have HE : Hid (q + 1 = (k + 1) / N ∧ 0 = (k + 1) % N) := Lib.hid (by
          obtain ⟨h1, h2⟩ := HQ.out
          have := step_full (N := N) (k := k) (by omega) (by rw [← h2]; exact hf')
          rw [this.1, this.2, ← h1]; exact ⟨rfl, rfl⟩)
        have HC := Lib.hid (add_fire m g 0 N 5 false (1 + (q : Int)) s r true 1 wr HM.out (by omega) (by omega) (by decide) (by omega) (by omega) ⟨by show ¬ (N : Int) = 0; omega, by show (N : Int) ≤ (r : Int) + 1; omega⟩ HS.out)
        have d5 : (Int.tmod ((k : Int) + 1) (N : Int) == 0) = true := by rw [tmod_cast, ← HE.out.2]; rfl
        have d6 : (((k : Int) + 1) % (N : Int) == 0) = true := by rw [← Int.tmod_eq_emod_of_nonneg (by omega)]; exact d5
        have hn0 : ¬ ((N : Int) = 0) := by omega
        clear hf hf'
        go_wp2_with (go_at_call 14; (with_reducible refine HC.out.mono ?_); rintro e w2 ⟨b, rfl, h1b, hM2, hO2⟩; have HM2 := Lib.hid hM2; have HO2 := Lib.hid hO2; clear hM2 hO2 h1b)
        go_roundw
        case rel => exact ⟨k + 1, q + 1, 0, 2, by go_num, by omega, by omega, by omega, Lib.hid (by decide), HE, Lib.hid (by rw [show (1 : Int) + ((q + 1 : Nat) : Int) = 1 + (q : Int) + 1 by omega]; exact HM2.out), Lib.hid (HBr.out.trans (HO2.out.below hm hg HBr.out.size))⟩
        case measure => simp [intOf]; omega
    · obtain rfl : k = V := by omega
      have d5 : Int.tdiv (k : Int) (N : Int) = (q : Int) := by rw [tdiv_cast, ← HQ.out.1]
      have d6 : (k : Int) / (N : Int) = (q : Int) := by rw [← Int.tdiv_eq_ediv_of_nonneg (by omega)]; exact d5
      have d7 : (k : Int) % (N : Int) = (r : Int) := by have := HQ.out.2; rw [this]; simp
      have d8 : Int.tmod (k : Int) (N : Int) = (r : Int) := by rw [Int.tmod_eq_emod_of_nonneg (by omega)]; exact d7
      have hn0 : ¬ ((N : Int) = 0) := by omega
      have hwr : IntKind.i64.wrap (1 + (q : Int)) = 1 + (q : Int) := IntWalk.i64_in _ (by omega)
      have hwr2 : IntKind.i64.wrap (q : Int) = (q : Int) := IntWalk.i64_in _ (by omega)
      by_cases hr0 : r = 0
      · subst hr0
        have HC := Lib.hid (close_none m g 0 N 5 false (1 + (q : Int)) s wr HM.out)
        go_wp2_with (go_at_call 16; (with_reducible refine HC.out.mono ?_); rintro e w2 ⟨rfl, hM2, hO2⟩; have HAD : Hid (∀ k, Calls Try.prog 14 #[.pointer (some ⟨m, 0, none⟩), .int .i64 1] (w2.drewN k) fun e w' => e = .returned (.tuple #[.slice none 0 0, .int .i64 200]) ∧ (w2.drewN k) = w') := Lib.hid (fun k => add_closed m g 0 N 5 false _ _ _ true 1 (w2.drewN k) (hM2.drew k) (by decide)); have HO2 := Lib.hid hO2; clear hM2 hO2)
        go_quiet (fail)
        go_wp2_with (first
          | (go_at_call 14; (with_reducible refine (HAD.out _).mono ?_); rintro e w3 ⟨rfl, rfl⟩)
          | (go_at_call 11; (with_reducible refine (HA _).out.mono ?_); rintro e w3 ⟨rfl, hb3⟩; have HB3 := Lib.hid hb3; clear hb3))
        go_ret
        have hO := HO2.out.below hm hg HBr.out.size
        exact ⟨rfl, HBr.out.trans ((below_drewN hO _).trans (HB3.out.mono (Nat.le_trans HBr.out.size hO.size)))⟩
      · have e1 : ((r : Int) == 0) = false := by simp [hr0]
        have e2 : ((r : Int) != 0) = true := by simp [hr0]
        have HC := Lib.hid (close_fire m g 0 N 5 false (1 + (q : Int)) s r wr HM.out (by omega) (by omega) (by omega) HS.out)
        have hgu := fun w' => Try.guardI .neq w'
        have hel := fun w' => Try.neqI w' (1 + (q : Int)) 2 (1 + (q : Int)) 2 true true
        have hel : ∀ w', (binOp .neq 49 (.agg #[.int .i64 (1 + (q : Int)), .int .i64 2, .bool true]) (.agg #[.int .i64 (1 + (q : Int)), .int .i64 2, .bool true])).run Try.prog w' = .ok (.bool false) w' := fun w' => by rw [Try.neqI]; simp
        go_wp2_with (go_at_call 16; (with_reducible refine HC.out.mono ?_); rintro e w2 ⟨b', rfl, h1b, hM2, hO2⟩; have HAD : Hid (∀ k, Calls Try.prog 14 #[.pointer (some ⟨m, 0, none⟩), .int .i64 1] (w2.drewN k) fun e w' => e = .returned (.tuple #[.slice none 0 0, .int .i64 200]) ∧ (w2.drewN k) = w') := Lib.hid (fun k => add_closed m g 0 N 5 false _ _ _ true 1 (w2.drewN k) (hM2.drew k) (by decide)); have hb := h1b.2; have b0 := cell3_0 hb; have b1 := cell3_1 hb; have b2 := cell3_2 hb; have hbl := cell_lt hb; have HO2 := Lib.hid hO2; clear hM2 hO2 h1b hb)
        go_quiet (fail)
        go_wp2_with (first
          | (go_at_call 14; (with_reducible refine (HAD.out _).mono ?_); rintro e w3 ⟨rfl, rfl⟩)
          | (go_at_call 11; (with_reducible refine (HA _).out.mono ?_); rintro e w3 ⟨rfl, hb3⟩; have HB3 := Lib.hid hb3; clear hb3))
        go_ret
        have hO := HO2.out.below hm hg HBr.out.size
        exact ⟨rfl, HBr.out.trans ((below_drewN hO _).trans (HB3.out.mono (Nat.le_trans HBr.out.size hO.size)))⟩

theorem late_true (n a v : Int) (w : World) : Calls Try.prog 7 #[.int .i64 n, .int .i64 a, .int .i64 v] w fun e w' => e = .returned (.bool true) ∧ Below w.heap.size w w' := by
  by_cases h : n < 1 ∨ 1000 < n ∨ v < 0 ∨ 3000 < v ∨ a < 1 ∨ 1000 < a
  · exact late_out n a v w h
  · obtain ⟨N, rfl⟩ := Int.eq_ofNat_of_zero_le (show 0 ≤ n by omega)
    obtain ⟨V, rfl⟩ := Int.eq_ofNat_of_zero_le (show 0 ≤ v by omega)
    exact late_in N V a w (by omega) (by omega) (by omega) ⟨by omega, by omega⟩

theorem early_true (n v : Int) (w : World) : Calls Try.prog 6 #[.int .i64 n, .int .i64 v] w fun e w' => e = .returned (.bool true) ∧ Below w.heap.size w w' := by
  by_cases h : n < 1 ∨ 1000 < n ∨ v < 0 ∨ 3000 < v
  · exact early_out n v w h
  · obtain ⟨N, rfl⟩ := Int.eq_ofNat_of_zero_le (show 0 ≤ n by omega)
    obtain ⟨V, rfl⟩ := Int.eq_ofNat_of_zero_le (show 0 ≤ v by omega)
    exact early_in N V w (by omega) (by omega) (by omega)

end Go.Proofs.Ytoplkinlgneidaa
