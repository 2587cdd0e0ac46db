/-
The reader of package expr: nameLength, readSpelt.
-/
import Derived.Test.YtdmkcemgbajdkaaDoorRc5
namespace Go.Proofs.YtdmkcemgbajdkaaDoor
open Go.RowKit

theorem nlF_le (l : List UInt8) : ∀ (f n : Nat), n ≤ l.length → n ≤ nlF l f n ∧ nlF l f n ≤ l.length ∧ nlF l f n ≤ n + f
  | 0, n, h => ⟨Nat.le_refl _, h, Nat.le_refl _⟩
  | f + 1, n, h => by
    unfold nlF
    split
    · rename_i hc
      have := nlF_le l f (n + 1) (by omega)
      omega
    · omega
theorem nmL_le (l : List UInt8) : nmL l ≤ l.length ∧ nmL l ≤ 16 := by
  have := nlF_le l 16 0 (Nat.zero_le _)
  unfold nmL
  omega
theorem nl_on {l : List UInt8} {n : Nat} (h16 : n < 16) (hl : n < l.length) (hc : (isLet (lkB l n) || (decide (0 < n) && (isDig (lkB l n) || decide (lkB l n = 95)))) = true) : nlF l (16 - n) n = nlF l (16 - (n + 1)) (n + 1) := by
  rw [show 16 - n = (16 - (n + 1)) + 1 by omega]
  simp only [nlF, if_pos (And.intro hl hc)]
theorem nl_off {l : List UInt8} {n : Nat} (hc : ¬ (n < l.length ∧ (isLet (lkB l n) || (decide (0 < n) && (isDig (lkB l n) || decide (lkB l n = 95)))) = true)) : nlF l (16 - n) n = n := by
  cases hf : 16 - n with
  | zero => rfl
  | succ f => simp only [nlF, if_neg hc]

set_option maxRecDepth 100000 in
set_option maxHeartbeats 1000000 in
theorem nameLength_any (s : ByteArray) (w : World) (hs : s.size ≤ 1000000) : Calls Tryd.prog 46 #[.string s] w fun e w' => e = .returned (.int .i64 (nmL (bl s) : Nat)) ∧ w = w' := by
  go_enter Tryd.func46, Tryd.ntmps46
  go_wp2_with (fail)
  go_loop [3] (fun nv => ∃ n : Nat, nv = .int .i64 (n : Int) ∧ n ≤ s.size ∧ n ≤ 16 ∧ Hid (nmL (bl s) = nlF (bl s) (16 - n) n)) (fun nv => 16 - (intOf nv).toNat)
  case atStart => exact ⟨0, rfl, Nat.zero_le _, by omega, Lib.hid rfl⟩
  case round =>
    obtain ⟨n, rfl, hn, hn16, HE⟩ := hrel
    by_cases hlt : n < s.size
    · by_cases h16 : n < 16
      · have hix := str_index s n hlt hs
        have hb0 := bl_at s n hlt
        generalize s[n] = b at hix hb0
        have HB := Lib.hid hb0
        clear hb0
        have hll : n < (bl s).length := by rw [bl_length]; exact hlt
        go_wp2_with (fail)
        refine (isLetter_any b w).mono ?_
        rintro e w' ⟨rfl, rfl⟩
        cases hL : isLet b with
        | true =>
          have HF : Hid (nmL (bl s) = nlF (bl s) (16 - (n + 1)) (n + 1)) := Lib.hid (by rw [HE.out, nl_on h16 hll (by rw [HB.out, hL]; rfl)])
          clear hL
          go_wp2_with (fail)
          go_round
          case rel => exact ⟨n + 1, by go_num, by omega, by omega, HF⟩
          case measure => simp [intOf]; omega
        | false =>
          by_cases hn0 : n = 0
          · have HF : Hid (nmL (bl s) = n) := Lib.hid (by rw [HE.out, nl_off (by rw [HB.out, hL]; simp [hn0])])
            have hd0 : decide ((0 : Int) < (n : Int)) = false := by simp; omega
            have hd1 : decide (0 < n) = false := by simp; omega
            clear hL hn0
            go_wp2_with (fail)
            go_ret
            rw [HF.out]
            exact ⟨rfl, rfl⟩
          · have hd0 : decide ((0 : Int) < (n : Int)) = true := by simp; omega
            have hd1 : decide (0 < n) = true := by simp; omega
            have hL' := Lib.hid hL
            clear hL
            go_wp2_with (fail)
            refine (isDigit_any b w).mono ?_
            rintro e w' ⟨rfl, rfl⟩
            cases hD : isDig b with
            | true =>
              have HF : Hid (nmL (bl s) = nlF (bl s) (16 - (n + 1)) (n + 1)) := Lib.hid (by rw [HE.out, nl_on h16 hll (by rw [HB.out, hL'.out, hD]; simp; omega)])
              clear hD
              go_wp2_with (fail)
              go_round
              case rel => exact ⟨n + 1, by go_num, by omega, by omega, HF⟩
              case measure => simp [intOf]; omega
            | false =>
              have HD' := Lib.hid hD
              clear hD
              by_cases h95 : b = 95
              · have hb : ((b.toNat : Int) == 95) = true := by rw [h95]; rfl
                have HF : Hid (nmL (bl s) = nlF (bl s) (16 - (n + 1)) (n + 1)) := Lib.hid (by rw [HE.out, nl_on h16 hll (by rw [HB.out, hL'.out, HD'.out]; simp [h95]; omega)])
                clear h95
                go_wp2_with (fail)
                go_round
                case rel => exact ⟨n + 1, by go_num, by omega, by omega, HF⟩
                case measure => simp [intOf]; omega
              · have hb : ((b.toNat : Int) == 95) = false := u8_beq_false (b := 95) h95
                have HF : Hid (nmL (bl s) = n) := Lib.hid (by rw [HE.out, nl_off (by rw [HB.out, hL'.out, HD'.out]; simp [h95])])
                clear h95
                go_wp2_with (fail)
                go_ret
                rw [HF.out]
                exact ⟨rfl, rfl⟩
      · have HF : Hid (nmL (bl s) = n) := Lib.hid (by rw [HE.out, show 16 - n = 0 by omega]; rfl)
        go_wp2_with (fail)
        go_ret
        rw [HF.out]
        exact ⟨rfl, rfl⟩
    · have HF : Hid (nmL (bl s) = n) := Lib.hid (by rw [HE.out, nl_off (by rw [bl_length]; omega)])
      go_wp2_with (fail)
      go_ret
      rw [HF.out]
      exact ⟨rfl, rfl⟩

end Go.Proofs.YtdmkcemgbajdkaaDoor
