/-
digits of the statement, at the numeral of a number.
-/
import Derived.Test.YtofollamkcgknaaDoorTp
set_option linter.unusedVariables false
namespace Go.Proofs.YtofollamkcgknaaDoor
open Go.RowKit

/-- What holds ahead of a round: k digits have been looked at. -/
structure DgI (u N k : Nat) (i m : Int) (sg : Int) : Prop where
  le : k ≤ N
  ix : i = (N : Int) - 1 - (k : Int)
  val : m = sg * ((u / 10 ^ k : Nat) : Int)

theorem tmod10 (V : Nat) : (-(V : Int)).tmod 10 = -((V % 10 : Nat) : Int) := by rw [Int.neg_tmod, Int.tmod_eq_emod_of_nonneg (by omega)]; omega

theorem tdiv10 (V : Nat) : (-(V : Int)).tdiv 10 = -((V / 10 : Nat) : Int) := by rw [Int.neg_tdiv, Int.tdiv_eq_ediv_of_nonneg (by omega)]; omega

set_option maxRecDepth 100000 in
set_option maxHeartbeats 2000000 in
theorem digits_pos (u : Nat) (D : ByteArray) (w : World) (hD : D = ⟨(Lib.decDigits u).toArray⟩) (hlen : (Lib.decDigits u).length ≤ 21) (hu : u ≤ 9223372036854775807) :
    Calls Tryd.prog 35 #[.string D, .int .i64 (u : Int)] w fun e w' => e = .returned (.bool true) ∧ w = w' := by
  have hd1 := dec_len u
  have HD : Hid (∀ j (h : j < D.size), (D[j].toNat : Int) = 48 + ((u / 10 ^ (D.size - 1 - j) % 10 : Nat) : Int)) := Lib.hid fun j h => by subst hD; exact dec_get u j h
  have HEND : Hid (u / 10 ^ D.size = 0) := Lib.hid (by subst hD; exact dec_end u)
  have hDn : 1 ≤ D.size := by subst hD; exact hd1
  have hDm : D.size ≤ 21 := by subst hD; exact hlen
  have hb0 : 48 ≤ D[0].toNat ∧ D[0].toNat ≤ 57 := by subst hD; exact dec_byte u _ (List.getElem_mem _)
  have hb1 : 1 < D.size → D[0].toNat ≠ 48 := by subst hD; exact dec_first u
  obtain ⟨c0, hc0⟩ : ∃ c, c = D[0] := ⟨_, rfl⟩
  rw [← hc0] at hb0 hb1
  have hc0' : D[0] = c0 := hc0.symm
  have h45 : ((c0.toNat : Int) == 45) = false := by simp; omega
  have hs1 : decide ((D.size : Int) < 1) = false := by simp; omega
  clear hD hd1 hlen hc0
  by_cases h1 : 1 < D.size
  · have h48 : ((c0.toNat : Int) == 48) = false := by have := hb1 h1; simp; omega
    have hs2 : decide (1 < (D.size : Int)) = true := by simp; omega
    clear hb1
    go_enter Tryd.func35, Tryd.ntmps35
    go_wp2
    go_loop [6, 1] (fun iv mv => ∃ (k : Nat) (i m : Int), iv = .int .i64 i ∧ mv = .int .i64 m ∧ Hid (DgI u D.size k i m (1))) (fun iv _ => (intOf iv + 1).toNat)
    case atStart => exact ⟨0, _, _, rfl, rfl, Lib.hid ⟨by omega, by omega, by rw [Nat.pow_zero, Nat.div_one]; omega⟩⟩
    case round =>
      obtain ⟨k, i, m, rfl, rfl, HI⟩ := hrel
      obtain ⟨hk, hi, hm⟩ := HI.out
      obtain ⟨V, hV⟩ : ∃ V, V = u / 10 ^ k := ⟨_, rfl⟩
      have hVu : V ≤ u := by rw [hV]; exact Nat.div_le_self _ _
      have HV := Lib.hid hV
      rw [← hV] at hm
      by_cases hlt : k < D.size
      · obtain ⟨j, rfl⟩ : ∃ j : Nat, i = (j : Int) := ⟨i.toNat, by omega⟩
        have hjl : j < D.size := by omega
        have hjk : D.size - 1 - j = k := by omega
        have hcj := HD.out j hjl
        rw [hjk, ← hV] at hcj
        obtain ⟨c, hc⟩ : ∃ c, c = D[j] := ⟨_, rfl⟩
        rw [← hc] at hcj
        have hc' : D[j] = c := hc.symm
        have hc255 : c.toNat ≤ 255 := by have := c.toNat_lt; omega
        obtain ⟨g, hg⟩ : ∃ g : Int, g = ((V % 10 : Nat) : Int) := ⟨_, rfl⟩
        obtain ⟨V2, hV2⟩ : ∃ V2, V2 = V / 10 := ⟨_, rfl⟩
        have HV2 := Lib.hid hV2
        have hg0 : 0 ≤ g := by omega
        have hg9 : g ≤ 9 := by omega
        have hV2l : V2 ≤ u := by omega
        rw [← hg] at hcj
        have hj0 : (0 : Int) ≤ (j : Int) := by omega
        have hj1 : (j : Int) < (D.size : Int) := by omega
        obtain ⟨m2, hm2⟩ : ∃ m2 : Int, m2 = (V2 : Int) := ⟨_, rfl⟩
        have hm0 : 0 ≤ m := by omega
        have hr : m.tmod 10 = g := by rw [Int.tmod_eq_emod_of_nonneg hm0]; omega
        have hq : m.tdiv 10 = m2 := by rw [Int.tdiv_eq_ediv_of_nonneg hm0]; omega
        have hqw : wrap64 m2 = m2 := by unfold wrap64; omega
        have hm0' := Lib.hid hm0
        clear hm0
        have hm2b : 0 ≤ m2 ∧ m2 ≤ 9223372036854775807 := by omega
        have HN : Hid (DgI u D.size (k + 1) ((j : Int) - 1) m2 (1)) := Lib.hid ⟨by omega, by omega, by rw [hm2, Nat.pow_succ, ← Nat.div_div_eq_div_mul, ← hV, ← hV2]; omega⟩
        have HC : Hid (c = D[j]) := Lib.hid hc
        clear hm hc hg hV hV2 hm2 hi hjk
        go_wp2
        go_round
        case rel => exact ⟨k + 1, _, _, rfl, rfl, HN⟩
        case measure => simp [intOf] <;> omega
      · obtain rfl : k = D.size := by omega
        have h0 : V = 0 := by rw [hV]; exact HEND.out
        have hm0 : m = 0 := by rw [hm, h0]; rfl
        have hi0 : i = -1 := by omega
        clear hm hV hi h0 hVu
        subst hm0; subst hi0
        go_wp2
        go_ret
        exact ⟨rfl, rfl⟩
  · have hs2 : decide (1 < (D.size : Int)) = false := by simp; omega
    clear hb1
    go_enter Tryd.func35, Tryd.ntmps35
    go_wp2
    go_loop [6, 1] (fun iv mv => ∃ (k : Nat) (i m : Int), iv = .int .i64 i ∧ mv = .int .i64 m ∧ Hid (DgI u D.size k i m (1))) (fun iv _ => (intOf iv + 1).toNat)
    case atStart => exact ⟨0, _, _, rfl, rfl, Lib.hid ⟨by omega, by omega, by rw [Nat.pow_zero, Nat.div_one]; omega⟩⟩
    case round =>
      obtain ⟨k, i, m, rfl, rfl, HI⟩ := hrel
      obtain ⟨hk, hi, hm⟩ := HI.out
      obtain ⟨V, hV⟩ : ∃ V, V = u / 10 ^ k := ⟨_, rfl⟩
      have hVu : V ≤ u := by rw [hV]; exact Nat.div_le_self _ _
      have HV := Lib.hid hV
      rw [← hV] at hm
      by_cases hlt : k < D.size
      · obtain ⟨j, rfl⟩ : ∃ j : Nat, i = (j : Int) := ⟨i.toNat, by omega⟩
        have hjl : j < D.size := by omega
        have hjk : D.size - 1 - j = k := by omega
        have hcj := HD.out j hjl
        rw [hjk, ← hV] at hcj
        obtain ⟨c, hc⟩ : ∃ c, c = D[j] := ⟨_, rfl⟩
        rw [← hc] at hcj
        have hc' : D[j] = c := hc.symm
        have hc255 : c.toNat ≤ 255 := by have := c.toNat_lt; omega
        obtain ⟨g, hg⟩ : ∃ g : Int, g = ((V % 10 : Nat) : Int) := ⟨_, rfl⟩
        obtain ⟨V2, hV2⟩ : ∃ V2, V2 = V / 10 := ⟨_, rfl⟩
        have HV2 := Lib.hid hV2
        have hg0 : 0 ≤ g := by omega
        have hg9 : g ≤ 9 := by omega
        have hV2l : V2 ≤ u := by omega
        rw [← hg] at hcj
        have hj0 : (0 : Int) ≤ (j : Int) := by omega
        have hj1 : (j : Int) < (D.size : Int) := by omega
        obtain ⟨m2, hm2⟩ : ∃ m2 : Int, m2 = (V2 : Int) := ⟨_, rfl⟩
        have hm0 : 0 ≤ m := by omega
        have hr : m.tmod 10 = g := by rw [Int.tmod_eq_emod_of_nonneg hm0]; omega
        have hq : m.tdiv 10 = m2 := by rw [Int.tdiv_eq_ediv_of_nonneg hm0]; omega
        have hqw : wrap64 m2 = m2 := by unfold wrap64; omega
        have hm0' := Lib.hid hm0
        clear hm0
        have hm2b : 0 ≤ m2 ∧ m2 ≤ 9223372036854775807 := by omega
        have HN : Hid (DgI u D.size (k + 1) ((j : Int) - 1) m2 (1)) := Lib.hid ⟨by omega, by omega, by rw [hm2, Nat.pow_succ, ← Nat.div_div_eq_div_mul, ← hV, ← hV2]; omega⟩
        have HC : Hid (c = D[j]) := Lib.hid hc
        clear hm hc hg hV hV2 hm2 hi hjk
        go_wp2
        go_round
        case rel => exact ⟨k + 1, _, _, rfl, rfl, HN⟩
        case measure => simp [intOf] <;> omega
      · obtain rfl : k = D.size := by omega
        have h0 : V = 0 := by rw [hV]; exact HEND.out
        have hm0 : m = 0 := by rw [hm, h0]; rfl
        have hi0 : i = -1 := by omega
        clear hm hV hi h0 hVu
        subst hm0; subst hi0
        go_wp2
        go_ret
        exact ⟨rfl, rfl⟩

set_option maxRecDepth 100000 in
set_option maxHeartbeats 2000000 in
theorem digits_neg (u : Nat) (S D : ByteArray) (n : Int) (w : World) (hS : S = ⟨(45 :: Lib.decDigits u).toArray⟩) (hD : D = ⟨(Lib.decDigits u).toArray⟩) (hn : n = -1 * (u : Int)) (hu1 : 1 ≤ u) (hlen : (Lib.decDigits u).length ≤ 21) (hu : u ≤ 9223372036854775808) :
    Calls Tryd.prog 35 #[.string S, .int .i64 n] w fun e w' => e = .returned (.bool true) ∧ w = w' := by
  have hd1 := dec_len u
  have HD : Hid (∀ j (h : j < D.size), (D[j].toNat : Int) = 48 + ((u / 10 ^ (D.size - 1 - j) % 10 : Nat) : Int)) := Lib.hid fun j h => by subst hD; exact dec_get u j h
  have HEND : Hid (u / 10 ^ D.size = 0) := Lib.hid (by subst hD; exact dec_end u)
  have hDn : 1 ≤ D.size := by subst hD; exact hd1
  have hDm : D.size ≤ 21 := by subst hD; exact hlen
  have hb0 : 48 ≤ D[0].toNat ∧ D[0].toNat ≤ 57 := by subst hD; exact dec_byte u _ (List.getElem_mem _)
  have hb1 : 1 < D.size → D[0].toNat ≠ 48 := by subst hD; exact dec_first u
  obtain ⟨c0, hc0⟩ : ∃ c, c = D[0] := ⟨_, rfl⟩
  rw [← hc0] at hb0 hb1
  have hc0' : D[0] = c0 := hc0.symm
  have hSs : S.size = D.size + 1 := by subst hS; subst hD; simp [ByteArray.size]
  have hSe : S.extract 1 S.size = D := by
    subst hS; subst hD
    apply ByteArray.ext
    simp [ByteArray.data_extract, ByteArray.size]
  have hSe2 : S.extract 1 (D.size + 1) = D := by rw [← hSs]; exact hSe
  obtain ⟨s0, hs0⟩ : ∃ c, c = S[0] := ⟨_, rfl⟩
  have hs0' : S[0] = s0 := hs0.symm
  have hs45 : (s0.toNat : Int) = 45 := by rw [hs0]; subst hS; rfl
  have h45 : ((s0.toNat : Int) == 45) = true := by simpa using hs45
  have h45n : ((s0.toNat : Int) != 45) = false := by simpa using hs45
  have hn0 : n < 0 := by omega
  have hnu : -9223372036854775808 ≤ n := by omega
  have hs1 : decide ((D.size : Int) + 1 < 2) = false := by simp; omega
  have hs3 : ¬ (D.size : Int) + 1 < 2 := by omega
  have hs4 : 2 ≤ (D.size : Int) + 1 := by omega
  have HNV := Lib.hid hn
  clear hD hd1 hlen hc0 hS hs0 hs45 hn
  by_cases h1 : 1 < D.size
  · have h48 : ((c0.toNat : Int) == 48) = false := by have := hb1 h1; simp; omega
    have hs2 : decide (1 < (D.size : Int)) = true := by simp; omega
    have hs5 : (1 : Int) < (D.size : Int) := by omega
    clear hb1
    go_enter Tryd.func35, Tryd.ntmps35
    go_wp2
    go_loop [6, 1] (fun iv mv => ∃ (k : Nat) (i m : Int), iv = .int .i64 i ∧ mv = .int .i64 m ∧ Hid (DgI u D.size k i m (-1))) (fun iv _ => (intOf iv + 1).toNat)
    case atStart => exact ⟨0, _, _, rfl, rfl, Lib.hid ⟨by omega, by omega, by rw [Nat.pow_zero, Nat.div_one]; exact HNV.out⟩⟩
    case round =>
      obtain ⟨k, i, m, rfl, rfl, HI⟩ := hrel
      obtain ⟨hk, hi, hm⟩ := HI.out
      obtain ⟨V, hV⟩ : ∃ V, V = u / 10 ^ k := ⟨_, rfl⟩
      have hVu : V ≤ u := by rw [hV]; exact Nat.div_le_self _ _
      have HV := Lib.hid hV
      rw [← hV] at hm
      by_cases hlt : k < D.size
      · obtain ⟨j, rfl⟩ : ∃ j : Nat, i = (j : Int) := ⟨i.toNat, by omega⟩
        have hjl : j < D.size := by omega
        have hjk : D.size - 1 - j = k := by omega
        have hcj := HD.out j hjl
        rw [hjk, ← hV] at hcj
        obtain ⟨c, hc⟩ : ∃ c, c = D[j] := ⟨_, rfl⟩
        rw [← hc] at hcj
        have hc' : D[j] = c := hc.symm
        have hc255 : c.toNat ≤ 255 := by have := c.toNat_lt; omega
        obtain ⟨g, hg⟩ : ∃ g : Int, g = ((V % 10 : Nat) : Int) := ⟨_, rfl⟩
        obtain ⟨V2, hV2⟩ : ∃ V2, V2 = V / 10 := ⟨_, rfl⟩
        have HV2 := Lib.hid hV2
        have hg0 : 0 ≤ g := by omega
        have hg9 : g ≤ 9 := by omega
        have hV2l : V2 ≤ u := by omega
        rw [← hg] at hcj
        have hj0 : (0 : Int) ≤ (j : Int) := by omega
        have hj1 : (j : Int) < (D.size : Int) := by omega
        obtain ⟨m1, hm1⟩ : ∃ m1 : Int, m1 = -g := ⟨_, rfl⟩
        obtain ⟨m2, hm2⟩ : ∃ m2 : Int, m2 = -(V2 : Int) := ⟨_, rfl⟩
        have hr : m.tmod 10 = m1 := by rw [hm, show (-1 : Int) * (V : Int) = -(V : Int) by omega, tmod10, hm1, hg]
        have hq : m.tdiv 10 = m2 := by rw [hm, show (-1 : Int) * (V : Int) = -(V : Int) by omega, tdiv10, hm2, hV2]
        have hn : - m1 = g := by omega
        have hw1 : IntKind.i64.wrap g = g := IntWalk.i64_in _ (by omega)
        have hm1b : -9 ≤ m1 ∧ m1 ≤ 0 := by omega
        have hm2b : -9223372036854775808 ≤ m2 ∧ m2 ≤ 0 := by omega
        have hqw : wrap64 m2 = m2 := by unfold wrap64; omega
        have HN : Hid (DgI u D.size (k + 1) ((j : Int) - 1) m2 (-1)) := Lib.hid ⟨by omega, by omega, by rw [hm2, Nat.pow_succ, ← Nat.div_div_eq_div_mul, ← hV, ← hV2]; omega⟩
        have HC : Hid (c = D[j]) := Lib.hid hc
        by_cases hz : g = 0
        · have hz1 : m1 = 0 := by omega
          have hcj2 : (c.toNat : Int) = 48 := by omega
          clear hm hc hcj hg hV hV2 hm1 hm2 hn hz hi hjk
          subst hz1
          clear hw1
          go_wp2
          go_round
          case rel => exact ⟨k + 1, _, _, rfl, rfl, HN⟩
          case measure => simp [intOf] <;> omega
        · have hz1 : m1 < 0 := by omega
          clear hm hc hg hV hV2 hm1 hm2 hz hi hjk
          go_wp2
          go_round
          case rel => exact ⟨k + 1, _, _, rfl, rfl, HN⟩
          case measure => simp [intOf] <;> omega
      · obtain rfl : k = D.size := by omega
        have h0 : V = 0 := by rw [hV]; exact HEND.out
        have hm0 : m = 0 := by rw [hm, h0]; rfl
        have hi0 : i = -1 := by omega
        clear hm hV hi h0 hVu
        subst hm0; subst hi0
        go_wp2
        go_ret
        exact ⟨rfl, rfl⟩
  · have hs2 : decide (1 < (D.size : Int)) = false := by simp; omega
    have hs5 : ¬ (1 : Int) < (D.size : Int) := by omega
    clear hb1
    go_enter Tryd.func35, Tryd.ntmps35
    go_wp2
    go_loop [6, 1] (fun iv mv => ∃ (k : Nat) (i m : Int), iv = .int .i64 i ∧ mv = .int .i64 m ∧ Hid (DgI u D.size k i m (-1))) (fun iv _ => (intOf iv + 1).toNat)
    case atStart => exact ⟨0, _, _, rfl, rfl, Lib.hid ⟨by omega, by omega, by rw [Nat.pow_zero, Nat.div_one]; exact HNV.out⟩⟩
    case round =>
      obtain ⟨k, i, m, rfl, rfl, HI⟩ := hrel
      obtain ⟨hk, hi, hm⟩ := HI.out
      obtain ⟨V, hV⟩ : ∃ V, V = u / 10 ^ k := ⟨_, rfl⟩
      have hVu : V ≤ u := by rw [hV]; exact Nat.div_le_self _ _
      have HV := Lib.hid hV
      rw [← hV] at hm
      by_cases hlt : k < D.size
      · obtain ⟨j, rfl⟩ : ∃ j : Nat, i = (j : Int) := ⟨i.toNat, by omega⟩
        have hjl : j < D.size := by omega
        have hjk : D.size - 1 - j = k := by omega
        have hcj := HD.out j hjl
        rw [hjk, ← hV] at hcj
        obtain ⟨c, hc⟩ : ∃ c, c = D[j] := ⟨_, rfl⟩
        rw [← hc] at hcj
        have hc' : D[j] = c := hc.symm
        have hc255 : c.toNat ≤ 255 := by have := c.toNat_lt; omega
        obtain ⟨g, hg⟩ : ∃ g : Int, g = ((V % 10 : Nat) : Int) := ⟨_, rfl⟩
        obtain ⟨V2, hV2⟩ : ∃ V2, V2 = V / 10 := ⟨_, rfl⟩
        have HV2 := Lib.hid hV2
        have hg0 : 0 ≤ g := by omega
        have hg9 : g ≤ 9 := by omega
        have hV2l : V2 ≤ u := by omega
        rw [← hg] at hcj
        have hj0 : (0 : Int) ≤ (j : Int) := by omega
        have hj1 : (j : Int) < (D.size : Int) := by omega
        obtain ⟨m1, hm1⟩ : ∃ m1 : Int, m1 = -g := ⟨_, rfl⟩
        obtain ⟨m2, hm2⟩ : ∃ m2 : Int, m2 = -(V2 : Int) := ⟨_, rfl⟩
        have hr : m.tmod 10 = m1 := by rw [hm, show (-1 : Int) * (V : Int) = -(V : Int) by omega, tmod10, hm1, hg]
        have hq : m.tdiv 10 = m2 := by rw [hm, show (-1 : Int) * (V : Int) = -(V : Int) by omega, tdiv10, hm2, hV2]
        have hn : - m1 = g := by omega
        have hw1 : IntKind.i64.wrap g = g := IntWalk.i64_in _ (by omega)
        have hm1b : -9 ≤ m1 ∧ m1 ≤ 0 := by omega
        have hm2b : -9223372036854775808 ≤ m2 ∧ m2 ≤ 0 := by omega
        have hqw : wrap64 m2 = m2 := by unfold wrap64; omega
        have HN : Hid (DgI u D.size (k + 1) ((j : Int) - 1) m2 (-1)) := Lib.hid ⟨by omega, by omega, by rw [hm2, Nat.pow_succ, ← Nat.div_div_eq_div_mul, ← hV, ← hV2]; omega⟩
        have HC : Hid (c = D[j]) := Lib.hid hc
        by_cases hz : g = 0
        · have hz1 : m1 = 0 := by omega
          have hcj2 : (c.toNat : Int) = 48 := by omega
          clear hm hc hcj hg hV hV2 hm1 hm2 hn hz hi hjk
          subst hz1
          clear hw1
          go_wp2
          go_round
          case rel => exact ⟨k + 1, _, _, rfl, rfl, HN⟩
          case measure => simp [intOf] <;> omega
        · have hz1 : m1 < 0 := by omega
          clear hm hc hg hV hV2 hm1 hm2 hz hi hjk
          go_wp2
          go_round
          case rel => exact ⟨k + 1, _, _, rfl, rfl, HN⟩
          case measure => simp [intOf] <;> omega
      · obtain rfl : k = D.size := by omega
        have h0 : V = 0 := by rw [hV]; exact HEND.out
        have hm0 : m = 0 := by rw [hm, h0]; rfl
        have hi0 : i = -1 := by omega
        clear hm hV hi h0 hVu
        subst hm0; subst hi0
        go_wp2
        go_ret
        exact ⟨rfl, rfl⟩

end Go.Proofs.YtofollamkcgknaaDoor
