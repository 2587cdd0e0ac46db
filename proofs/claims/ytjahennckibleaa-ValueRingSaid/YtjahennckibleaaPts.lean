/-
Contracts of the small functions of package value and of cmp: fold, isPart, bringBack, Point, cmp.Compare.
-/
import Derived.Test.YtjahennckibleaaProg
import Derived.Test.YtjahennckibleaaFloat
import Derived.WalkKit
import Derived.WalkSpells
import Derived.WalkLawsBesides
import Derived.Lib.Hide
namespace Go.Proofs.Ytjahennckibleaa
open Go.RowKit

@[go_sem] theorem run_store_complex {P : Program} (w : World) (a : Addr) (m : Mode) (k : FloatKind) (x y : Nat) : (store a (.complex k x y) m).run P w = stored P w a (.complex k x y) m := run_store P w a _ m rfl

theorem cells26 : Try.prog.cellsOf 26 = 5 := by kernel_rfl

theorem mask_eq (x : Int) : bits .and .i64 x 2097151 = x % 2097152 := by
  change IntKind.i64.wrap ((BitVec.ofInt 64 x &&& BitVec.ofInt 64 2097151).toNat : Int) = _
  rw [BitVec.toNat_and, BitVec.toNat_ofInt, BitVec.toNat_ofInt]
  have h1 : (2097151 % ((2 ^ 64 : Nat) : Int)).toNat = 2 ^ 21 - 1 := by decide
  rw [h1, Nat.and_two_pow_sub_one_eq_mod]
  have h2 : ((2 ^ 64 : Nat) : Int) = 18446744073709551616 := by decide
  rw [h2]
  have h3 : (2 : Nat) ^ 21 = 2097152 := by decide
  rw [h3]
  have h4 : (((x % 18446744073709551616).toNat % 2097152 : Nat) : Int) = x % 2097152 := by omega
  rw [h4]
  simp only [IntKind.wrap, IntKind.bits, IntKind.signed]
  simp
  omega

/-- A number modulo 2^21, as the whole number from -2^20 to 2^20 - 1. -/
def foldI (n : Int) : Int := (n + 1048576) % 2097152 - 1048576

theorem foldI_bd (n : Int) : -1048576 ≤ foldI n ∧ foldI n ≤ 1048575 := by unfold foldI; omega

theorem fold_eq (n : Int) : wrap64 (bits BinOp.and IntKind.i64 (wrap64 (n + 1048576)) 2097151 - 1048576) = foldI n := by
  rw [mask_eq]; unfold wrap64 foldI; omega

theorem ret_int {k : IntKind} {a b : Int} (h : a = b) : Ending.returned (.int k a) = .returned (.int k b) := by rw [h]

set_option maxHeartbeats 400000 in
theorem fold_any (n : Int) (w : World) :
    Calls Try.prog 12 #[.int .i64 n] w fun e w' => e = .returned (.int .i64 (foldI n)) ∧ w = w' := by
  go_enter Try.func12, Try.ntmps12
  go_wp2
  go_ret
  exact ⟨ret_int (fold_eq n), rfl⟩

/-- The float64 of a whole number. -/
def fb (n : Int) : Nat := floatOfInt .f64 n

theorem rep_fb (n : Int) (h1 : -1048576 ≤ n) (h2 : n ≤ 1048576) : Rep (fb n) n := rep_ofInt n (by omega)

theorem lo_rep : Rep 13920626448202203136 (-1048576) := ⟨true, 4503599627370496, -32, by decide, by decide⟩
theorem hi_rep : Rep 4697254402757492736 1048575 := ⟨false, 9007190664806400, -33, by decide, by decide⟩

theorem cmp_cases (a b : Int) : (a < b ∧ compare a b = .lt) ∨ (a = b ∧ compare a b = .eq) ∨ (b < a ∧ compare a b = .gt) := by
  rcases Int.lt_trichotomy a b with h | h | h
  · exact Or.inl ⟨h, Int.compare_eq_lt.2 h⟩
  · exact Or.inr (Or.inl ⟨h, Int.compare_eq_eq.2 h⟩)
  · exact Or.inr (Or.inr ⟨h, Int.compare_eq_gt.2 h⟩)

theorem toInt_run {x : Nat} {a : Int} (hx : Rep x a) (h : a.natAbs < 9007199254740992) (w : World) : (convert 41 3 (.float .f64 x)).run Try.prog w = .ok (.int .i64 a) w :=
  run_convert_float_int w 41 3 .f64 .i64 x a (by kernel_rfl) (by kernel_rfl) (rep_toInt hx h)

theorem toFloat_run (a : Int) (w : World) : (convert 3 41 (.int .i64 a)).run Try.prog w = .ok (.float .f64 (fb a)) w :=
  run_convert_int_float w 3 41 .i64 .f64 a (by kernel_rfl) (by kernel_rfl)

set_option maxHeartbeats 400000 in
theorem isPart_any (x : Nat) (n : Int) (hx : Rep x n) (h1 : -1048576 ≤ n) (h2 : n ≤ 1048575) (w : World) :
    Calls Try.prog 28 #[.float .f64 x] w fun e w' => e = .returned (.bool true) ∧ w = w' := by
  have o1 := rep_order hx lo_rep
  have o2 := rep_order hx hi_rep
  have o3 : FloatKind.f64.format.order x (fb n) = some .eq := by rw [rep_order hx (rep_fb n h1 (by omega)), Int.compare_eq_eq.2 rfl]
  have c1 := toInt_run hx (by omega)
  have c2 := toFloat_run n
  rcases cmp_cases n (-1048576) with ⟨h, e⟩ | ⟨h, e⟩ | ⟨h, e⟩
  · omega
  all_goals
    rw [e] at o1
    clear e h
    rcases cmp_cases n 1048575 with ⟨h, e⟩ | ⟨h, e⟩ | ⟨h, e⟩
    · rw [e] at o2
      clear e h
      go_enter Try.func28, Try.ntmps28
      go_wp2
      go_ret
      exact ⟨rfl, rfl⟩
    · rw [e] at o2
      clear e h
      go_enter Try.func28, Try.ntmps28
      go_wp2
      go_ret
      exact ⟨rfl, rfl⟩
    · omega

theorem isNaNi_any (a : Int) (w : World) : Calls Try.prog 24 #[.int .i64 a] w fun e w' => e = .returned (.bool false) ∧ w = w' := by
  go_enter Try.func24, Try.ntmps24
  go_wp2
  go_ret
  exact ⟨rfl, rfl⟩

theorem cmpi_any (a b : Int) (w : World) : Calls Try.prog 19 #[.int .i64 a, .int .i64 b] w fun e w' => e = .returned (.int .i64 (if a < b then -1 else if b < a then 1 else 0)) ∧ w = w' := by
  have c := fun a w => isNaNi_any a w
  rcases Int.lt_trichotomy a b with h | h | h
  · rw [if_pos h]
    go_enter Try.func19, Try.ntmps19
    go_wp2_with (first | (go_at_call 24; refine (isNaNi_any _ _).mono ?_; rintro e w' ⟨rfl, rfl⟩))
    go_ret
    exact ⟨rfl, rfl⟩
  · subst h
    rw [if_neg (by omega), if_neg (by omega)]
    go_enter Try.func19, Try.ntmps19
    go_wp2_with (first | (go_at_call 24; refine (isNaNi_any _ _).mono ?_; rintro e w' ⟨rfl, rfl⟩))
    go_ret
    exact ⟨rfl, rfl⟩
  · rw [if_neg (by omega), if_pos h]
    go_enter Try.func19, Try.ntmps19
    go_wp2_with (first | (go_at_call 24; refine (isNaNi_any _ _).mono ?_; rintro e w' ⟨rfl, rfl⟩))
    go_ret
    exact ⟨rfl, rfl⟩

theorem isNaNs_any (s : ByteArray) (w : World) : Calls Try.prog 26 #[.string s] w fun e w' => e = .returned (.bool false) ∧ w = w' := by
  go_enter Try.func26, Try.ntmps26
  go_wp2
  go_ret
  exact ⟨rfl, rfl⟩

theorem cmps_nil (w : World) : Calls Try.prog 22 #[.string ⟨#[]⟩, .string ⟨#[]⟩] w fun e w' => e = .returned (.int .i64 0) ∧ w = w' := by
  go_enter Try.func22, Try.ntmps22
  go_wp2_with (first | (go_at_call 26; refine (isNaNs_any _ _).mono ?_; rintro e w' ⟨rfl, rfl⟩))
  go_ret
  exact ⟨rfl, rfl⟩

theorem isNaNf_any (x : Nat) (a : Int) (hx : Rep x a) (w : World) : Calls Try.prog 27 #[.float .f64 x] w fun e w' => e = .returned (.bool false) ∧ w = w' := by
  have o : FloatKind.f64.format.order x x = some .eq := by rw [rep_order hx hx, Int.compare_eq_eq.2 rfl]
  go_enter Try.func27, Try.ntmps27
  go_wp2
  go_ret
  exact ⟨rfl, rfl⟩

theorem cmpf_any (x y : Nat) (a b : Int) (hx : Rep x a) (hy : Rep y b) (w : World) : Calls Try.prog 23 #[.float .f64 x, .float .f64 y] w fun e w' => e = .returned (.int .i64 (if a < b then -1 else if b < a then 1 else 0)) ∧ w = w' := by
  have o := rep_order hx hy
  rcases cmp_cases a b with ⟨h, e⟩ | ⟨h, e⟩ | ⟨h, e⟩
  · rw [if_pos h]
    rw [e] at o
    clear e h
    go_enter Try.func23, Try.ntmps23
    go_wp2_with (first | (go_at_call 27; refine (isNaNf_any _ _ (by assumption) _).mono ?_; rintro e w' ⟨rfl, rfl⟩))
    go_ret
    exact ⟨rfl, rfl⟩
  · subst h
    rw [if_neg (by omega), if_neg (by omega)]
    rw [e] at o
    clear e
    go_enter Try.func23, Try.ntmps23
    go_wp2_with (first | (go_at_call 27; refine (isNaNf_any _ _ (by assumption) _).mono ?_; rintro e w' ⟨rfl, rfl⟩))
    go_ret
    exact ⟨rfl, rfl⟩
  · rw [if_neg (by omega), if_pos h]
    rw [e] at o
    clear e h
    go_enter Try.func23, Try.ntmps23
    go_wp2_with (first | (go_at_call 27; refine (isNaNf_any _ _ (by assumption) _).mono ?_; rintro e w' ⟨rfl, rfl⟩))
    go_ret
    exact ⟨rfl, rfl⟩

set_option maxHeartbeats 400000 in
theorem point_any (a b : Int) (w : World) :
    Calls Try.prog 5 #[.int .i64 a, .int .i64 b] w fun e w' => e = .returned (.agg #[.int .i64 5, .int .i64 0, .string ⟨#[]⟩, .complex .f64 (fb (foldI a)) (fb (foldI b)), .slice none 0 0]) ∧ Below w.heap.size w w' := by
  have c1 := toFloat_run
  go_enter Try.func5, Try.ntmps5
  go_wp2_with (first | (go_at_call 12; refine (fold_any _ _).mono ?_; rintro e w' ⟨rfl, rfl⟩))
  refine bodyPost_ret (v := .agg #[.int .i64 5, .int .i64 0, .string ⟨#[]⟩, .complex .f64 (fb (foldI a)) (fb (foldI b)), .slice none 0 0]) (by simp [results, Try.results5, go_sem]) rfl ⟨rfl, (Below.refl _ _).alloc (Nat.le_refl _) _⟩
end Go.Proofs.Ytjahennckibleaa
