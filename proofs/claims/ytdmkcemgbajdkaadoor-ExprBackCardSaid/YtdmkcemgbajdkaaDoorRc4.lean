/-
The reader of package expr: readCoded, readLetter.
-/
import Derived.Test.YtdmkcemgbajdkaaDoorRc2
import Derived.Test.YtdmkcemgbajdkaaDoorShelf
namespace Go.Proofs.YtdmkcemgbajdkaaDoor
open Go.RowKit

/-- Where a byte stands among the hexadecimal digits, or -1. -/
def hexZ (b : UInt8) : Int := match hexI b with
  | none => -1
  | some h => (h : Int)
theorem hex_all : ∀ n : Fin 256, Lib.indexByte [48, 49, 50, 51, 52, 53, 54, 55, 56, 57, 97, 98, 99, 100, 101, 102] (UInt8.ofNat n.val) = hexZ (UInt8.ofNat n.val) := by decide +kernel
theorem of_to (b : UInt8) : UInt8.ofNat b.toNat = b := by simp
theorem hex_any (b : UInt8) (w : World) : Calls Tryd.prog 49 #[.string ⟨#[48, 49, 50, 51, 52, 53, 54, 55, 56, 57, 97, 98, 99, 100, 101, 102]⟩, .int .u8 (b.toNat : Int)] w fun e w' => e = .returned (.int .i64 (hexZ b)) ∧ w = w' := by
  refine (Tryd.strings_IndexByte _ _ w).mono ?_
  rintro e w' ⟨rfl, rfl⟩
  refine ⟨?_, rfl⟩
  have h := hex_all ⟨b.toNat, b.toNat_lt⟩
  rw [of_to] at h
  rw [← h]
  have hc : ((b.toNat : Int)).toNat.toUInt8 = b := by rw [Int.toNat_natCast]; exact of_to b
  rw [hc]
theorem hexI_lt {b : UInt8} {h : Nat} (e : hexI b = some h) : h < 16 := by
  unfold hexI at e
  split at e
  · rename_i hd
    simp [isDig] at hd
    injection e with e
    omega
  · split at e
    · injection e with e
      omega
    · cases e

theorem or_nib_all : ∀ h : Fin 16, ∀ x : Fin 16, bits .or .i64 ((h.val : Int) * 16) (x.val : Int) = ((16 * h.val + x.val : Nat) : Int) := by decide +kernel
theorem or_nib (h x : Nat) (h1 : h < 16) (h2 : x < 16) : bits .or .i64 ((h : Int) * 16) (x : Int) = ((16 * h + x : Nat) : Int) := or_nib_all ⟨h, h1⟩ ⟨x, h2⟩

theorem isPlain_nat (n : Nat) (h : n < 256) (w : World) : Calls Tryd.prog 45 #[.int .u8 (n : Int)] w fun e w' => e = .returned (.bool (isPl (UInt8.ofNat n))) ∧ w = w' := by
  have := isPlain_any (UInt8.ofNat n) w
  rw [UInt8.toNat_ofNat', Nat.mod_eq_of_lt h] at this
  exact this

theorem smC_eq (h : Nat) : smC h = (List.range 16).any fun x => !isPl (UInt8.ofNat (16 * h + x)) := rfl

set_option maxHeartbeats 1000000 in
theorem someCoded_any (h : Nat) (hh : h < 16) (w : World) : Calls Tryd.prog 58 #[.int .i64 (h : Int)] w fun e w' => e = .returned (.bool (smC h)) ∧ w = w' := by
  go_enter Tryd.func58, Tryd.ntmps58
  go_wp2_with (fail)
  go_loop [4] (fun iv => ∃ x : Nat, iv = .int .i64 (x : Int) ∧ x ≤ 16 ∧ Hid (∀ y, y < x → isPl (UInt8.ofNat (16 * h + y)) = true)) (fun iv => 16 - (intOf iv).toNat)
  case atStart => exact ⟨0, rfl, by omega, Lib.hid (by intro y hy; omega)⟩
  case round =>
    obtain ⟨x, rfl, hx, HA⟩ := hrel
    by_cases hlt : x < 16
    · obtain ⟨y, hy⟩ : ∃ y, y = 16 * h + x := ⟨_, rfl⟩
      have hor := or_nib h x hh hlt
      rw [← hy] at hor
      have hw : IntKind.u8.wrap (y : Int) = (y : Int) := IntWalk.u8_in _ (by omega)
      have hy256 : y < 256 := by omega
      have HY := Lib.hid hy
      clear hy
      go_wp2_with (fail)
      refine (isPlain_nat y hy256 _).mono ?_
      rintro e w' ⟨rfl, rfl⟩
      cases hp : isPl (UInt8.ofNat y) with
      | true =>
        have HP := Lib.hid hp
        clear hp
        go_wp2_with (fail)
        go_round
        case rel => exact ⟨x + 1, by go_num, by omega, Lib.hid (by
          intro z hz
          rcases Nat.lt_or_ge z x with h' | h'
          · exact HA.out z h'
          · rw [show z = x by omega, ← HY.out]; exact HP.out)⟩
        case measure => simp [intOf]; omega
      | false =>
        have HF : Hid (smC h = true) := Lib.hid (by
          rw [smC_eq, List.any_eq_true]
          exact ⟨x, by simpa using hlt, by rw [← HY.out, hp]; rfl⟩)
        clear hp
        go_wp2_with (fail)
        go_ret
        rw [HF.out]
        exact ⟨rfl, rfl⟩
    · have HF : Hid (smC h = false) := Lib.hid (by
        rw [smC_eq, List.any_eq_false]
        intro z hz
        have hz' : z < 16 := by simpa using hz
        rw [HA.out z (by omega)]
        decide)
      go_wp2_with (fail)
      go_ret
      rw [HF.out]
      exact ⟨rfl, rfl⟩
end Go.Proofs.YtdmkcemgbajdkaaDoor
