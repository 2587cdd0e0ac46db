/-
Sums and products of two points out of a slice that the caller has just made; and the contract of awake: it answers true.
-/
import Derived.Test.YtjahennckibleaaOps
namespace Go.Proofs.Ytjahennckibleaa
open Go.RowKit

theorem rep_in {n : Int} (h1 : -1048576 ≤ n) (h2 : n ≤ 1048575) : Rep (fb n) n := rep_fb n h1 (by omega)

theorem two_new (w : World) (x y u v : Nat) (t : TypeId) :
    Five (w.alloc (.cells #[.int .i64 5, .int .i64 0, .string ⟨#[]⟩, .complex .f64 x y, .slice none 0 0, .int .i64 5, .int .i64 0, .string ⟨#[]⟩, .complex .f64 u v, .slice none 0 0] t)) w.heap.size 0 5 x y ∧ Five (w.alloc (.cells #[.int .i64 5, .int .i64 0, .string ⟨#[]⟩, .complex .f64 x y, .slice none 0 0, .int .i64 5, .int .i64 0, .string ⟨#[]⟩, .complex .f64 u v, .slice none 0 0] t)) w.heap.size 5 5 u v := by
  unfold Five
  go_simp

theorem times_new (a b c d : Int) (a1 : -1048576 ≤ a) (a2 : a ≤ 1048575) (b1 : -1048576 ≤ b) (b2 : b ≤ 1048575) (c1 : -1048576 ≤ c) (c2 : c ≤ 1048575) (d1 : -1048576 ≤ d) (d2 : d ≤ 1048575) (w : World) :
    Calls Try.prog 6 #[.slice (some ⟨w.heap.size, 0, none⟩) 2 2] (w.alloc (.cells #[.int .i64 5, .int .i64 0, .string ⟨#[]⟩, .complex .f64 (fb a) (fb b), .slice none 0 0, .int .i64 5, .int .i64 0, .string ⟨#[]⟩, .complex .f64 (fb c) (fb d), .slice none 0 0] 26)) fun e w' => e = .returned (.tuple #[.agg #[.int .i64 5, .int .i64 0, .string ⟨#[]⟩, .complex .f64 (fb (foldI (a * c - b * d))) (fb (foldI (a * d + b * c))), .slice none 0 0], .int .i64 0]) ∧ Below w.heap.size w w' := by
  have h2 := two_new w (fb a) (fb b) (fb c) (fb d) 26
  refine (times_points w.heap.size (fb a) (fb b) (fb c) (fb d) a b c d (rep_in a1 a2) (rep_in b1 b2) (rep_in c1 c2) (rep_in d1 d2) a1 a2 b1 b2 c1 c2 d1 d2 _ (by simp) h2.1 h2.2).mono ?_
  rintro e w' ⟨rfl, hb⟩
  exact ⟨rfl, ((Below.refl _ _).alloc (Nat.le_refl _) _).trans (hb.mono (by simp))⟩

theorem plus_new (a b c d : Int) (a1 : -1048576 ≤ a) (a2 : a ≤ 1048575) (b1 : -1048576 ≤ b) (b2 : b ≤ 1048575) (c1 : -1048576 ≤ c) (c2 : c ≤ 1048575) (d1 : -1048576 ≤ d) (d2 : d ≤ 1048575) (w : World) :
    Calls Try.prog 7 #[.slice (some ⟨w.heap.size, 0, none⟩) 2 2] (w.alloc (.cells #[.int .i64 5, .int .i64 0, .string ⟨#[]⟩, .complex .f64 (fb a) (fb b), .slice none 0 0, .int .i64 5, .int .i64 0, .string ⟨#[]⟩, .complex .f64 (fb c) (fb d), .slice none 0 0] 26)) fun e w' => e = .returned (.tuple #[.agg #[.int .i64 5, .int .i64 0, .string ⟨#[]⟩, .complex .f64 (fb (foldI (a + c))) (fb (foldI (b + d))), .slice none 0 0], .int .i64 0]) ∧ Below w.heap.size w w' := by
  have h2 := two_new w (fb a) (fb b) (fb c) (fb d) 26
  refine (plus_points w.heap.size (fb a) (fb b) (fb c) (fb d) a b c d (rep_in a1 a2) (rep_in b1 b2) (rep_in c1 c2) (rep_in d1 d2) a1 a2 b1 b2 c1 c2 d1 d2 _ (by simp) h2.1 h2.2).mono ?_
  rintro e w' ⟨rfl, hb⟩
  exact ⟨rfl, ((Below.refl _ _).alloc (Nat.le_refl _) _).trans (hb.mono (by simp))⟩

set_option maxRecDepth 100000 in
set_option maxHeartbeats 400000 in
theorem awake_true (w : World) : Calls Try.prog 10 #[] w fun e w' => e = .returned (.bool true) ∧ Below w.heap.size w w' := by
  go_enter Try.func10, Try.ntmps10
  go_wp2_with fail
  refine (point_any 0 1 _).mono ?_
  rw [foldI_in (n := 0) (by omega) (by omega), foldI_in (n := 1) (by omega) (by omega)]
  rintro e w1 ⟨rfl, hb1⟩
  go_wp2_with fail
  refine (point_any 0 1 _).mono ?_
  rw [foldI_in (n := 0) (by omega) (by omega), foldI_in (n := 1) (by omega) (by omega)]
  rintro e w2 ⟨rfl, hb2⟩
  have hb : Below w.heap.size w w2 := hb1.trans (hb2.mono hb1.size)
  clear hb1 hb2
  go_wp2_with fail
  refine (times_new 0 1 0 1 (by omega) (by omega) (by omega) (by omega) (by omega) (by omega) (by omega) (by omega) w2).mono ?_
  rw [show foldI (0 * 0 - 1 * 1) = -1 by decide, show foldI (0 * 1 + 1 * 0) = 0 by decide]
  rintro e w3 ⟨rfl, hb3⟩
  have hb' : Below w.heap.size w w3 := hb.trans (hb3.mono hb.size)
  clear hb hb3
  go_wp2_with fail
  refine (parts_point (fb (-1)) (fb 0) (-1) 0 (rep_in (by omega) (by omega)) (rep_in (by omega) (by omega)) (by omega) (by omega) (by omega) (by omega) _).mono ?_
  rintro e w4 ⟨rfl, hb4⟩
  have hb'' : Below w.heap.size w w4 := (hb'.alloc hb'.size _).trans (hb4.mono (by have := hb'.size; simp; omega))
  clear hb' hb4
  go_wp2_with fail
  refine (check_zero _).mono ?_
  rintro e w5 ⟨rfl, hb5⟩
  have hb : Below w.heap.size w w5 := hb''.trans (hb5.mono hb''.size)
  go_wp2
  go_ret
  exact ⟨rfl, hb⟩
end Go.Proofs.Ytjahennckibleaa
