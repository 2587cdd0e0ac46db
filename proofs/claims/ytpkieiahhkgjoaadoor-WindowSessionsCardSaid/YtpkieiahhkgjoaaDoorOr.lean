/-
cmp.Or, order and Less of windows.
-/
import Derived.Test.YtpkieiahhkgjoaaDoorLa
import Derived.Sort.Grow
set_option linter.unusedVariables false
namespace Go.Proofs.YtpkieiahhkgjoaaDoor
open Go.RowKit
open Go.Sort (grow alloc_eq_grow grow_grow)

theorem cell_alloc_some {w : World} {o : Obj} {a : Addr} {v : Value} (h : w.cell? a = some v) : (w.alloc o).cell? a = some v :=
  (((Below.refl w.heap.size w).alloc (Nat.le_refl _) o).cell (World.block_lt_of_cell? w _ h)).trans h

theorem or_any (c1 c2 : Int) (b : Nat) (w : World) (h0 : w.cell? ⟨b, 0, none⟩ = some (.int .i64 c1)) (h1 : w.cell? ⟨b, 1, none⟩ = some (.int .i64 c2)) :
    Calls Tryd.prog 22 #[.slice (some ⟨b, 0, none⟩) 2 2] w fun e w' => e = .returned (.int .i64 (if c1 = 0 then c2 else c1)) ∧ w = w' := by
  by_cases hc1 : c1 = 0
  · subst hc1
    rw [if_pos rfl]
    by_cases hc2 : c2 = 0
    · subst hc2
      go_enter Tryd.func22, Tryd.ntmps22
      go_wp2
      go_loop [8] (fun i => i = .int .i64 0 ∨ i = .int .i64 1 ∨ i = .int .i64 2) (fun i => 2 - (intOf i).toNat)
      case atStart => exact .inl rfl
      case round =>
        rcases hrel with rfl | rfl | rfl
        · go_wp2
          go_round
          case rel => exact .inr (.inl rfl)
          case measure => simp [intOf]
        · go_wp2
          go_round
          case rel => exact .inr (.inr rfl)
          case measure => simp [intOf]
        · go_wp2
          go_ret
          exact ⟨rfl, rfl⟩
    · have hd : (c2 == 0) = false := by simpa using hc2
      have hd2 : (c2 != 0) = true := by simpa using hc2
      go_enter Tryd.func22, Tryd.ntmps22
      go_wp2
      go_loop [8] (fun i => i = .int .i64 0 ∨ i = .int .i64 1) (fun i => 2 - (intOf i).toNat)
      case atStart => exact .inl rfl
      case round =>
        rcases hrel with rfl | rfl
        · go_wp2
          go_round
          case rel => exact .inr rfl
          case measure => simp [intOf]
        · go_wp2
          go_ret
          exact ⟨rfl, rfl⟩
  · rw [if_neg hc1]
    have hd : (c1 == 0) = false := by simpa using hc1
    have hd2 : (c1 != 0) = true := by simpa using hc1
    go_enter Tryd.func22, Tryd.ntmps22
    go_wp2
    go_loop [8] (fun i => i = .int .i64 0) (fun i => 2 - (intOf i).toNat)
    case atStart => rfl
    case round =>
      subst hrel
      go_wp2
      go_ret
      exact ⟨rfl, rfl⟩

/-- How two windows stand to one another. -/
def ordI (x y : Wn) : Int := if Lib.compareInt x.2 y.2 = 0 then Lib.compareInt x.1 y.1 else Lib.compareInt x.2 y.2

theorem cmpI_lt (a b : Int) : (Lib.compareInt a b < 0 ↔ a < b) ∧ (Lib.compareInt a b = 0 ↔ a = b) := by
  unfold Lib.compareInt
  by_cases h1 : a < b
  · simp [h1]; omega
  · by_cases h2 : b < a
    · simp [h1, h2]; omega
    · simp [h1, h2]; omega

theorem ordI_lt (x y : Wn) : ordI x y < 0 ↔ Ls x y := by
  unfold ordI Ls
  have h1 := cmpI_lt x.2 y.2
  have h2 := cmpI_lt x.1 y.1
  split
  · rename_i h; rw [h2.1]; have := h1.2.1 h; omega
  · rename_i h; rw [h1.1]; have := fun e => h (h1.2.2 e); omega

set_option maxHeartbeats 1000000 in
theorem order_any (x y : Wn) (w : World) : Calls Tryd.prog 17 #[.agg #[.int .i64 x.1, .int .i64 x.2], .agg #[.int .i64 y.1, .int .i64 y.2]] w fun e w' => e = .returned (.int .i64 (ordI x y)) ∧ ∃ q os, w' = grow (w.drewN q) os := by
  obtain ⟨x1, x2⟩ := x
  obtain ⟨y1, y2⟩ := y
  have HO : ordI (x1, x2) (y1, y2) = if Lib.compareInt x2 y2 = 0 then Lib.compareInt x1 y1 else Lib.compareInt x2 y2 := rfl
  rw [HO]
  clear HO
  have hc1 := fun w => Tryd.cmp_Compare_int x2 y2 w
  have hc2 := fun w => Tryd.cmp_Compare_int x1 y1 w
  generalize Lib.compareInt x2 y2 = r1 at *
  generalize Lib.compareInt x1 y1 = r2 at *
  have hor := fun b w h0 h1 => or_any r1 r2 b w h0 h1
  generalize (if r1 = 0 then r2 else r1) = rr at hor ⊢
  go_enter Tryd.func17, Tryd.ntmps17
  go_wp2
  obtain ⟨W, hW⟩ : ∃ W, W = (w.alloc (.cells #[.int .i64 x1, .int .i64 x2] 33)).alloc (.cells #[.int .i64 y1, .int .i64 y2] 33) := ⟨_, rfl⟩
  have hs : W.heap.size = w.heap.size + 1 + 1 := by rw [hW]; simp
  have hx := heap_alloc_some (o := .cells #[.int .i64 y1, .int .i64 y2] 33) (heap_alloc_new w (.cells #[.int .i64 x1, .int .i64 x2] 33))
  have hy := heap_alloc_new (w.alloc (.cells #[.int .i64 x1, .int .i64 x2] 33)) (.cells #[.int .i64 y1, .int .i64 y2] 33)
  have e2 : (w.alloc (.cells #[.int .i64 x1, .int .i64 x2] 33)).heap.size = w.heap.size + 1 := by simp
  rw [e2] at hy
  rw [← hW] at hx hy ⊢
  have a0 := cell2_0 hx
  have a1 := cell2_1 hx
  have a2 := cell2_0 hy
  have a3 := cell2_1 hy
  have HW := Lib.hid hW
  clear hW hx hy e2
  have HOR : Hid (Calls Tryd.prog 22 #[.slice (some ⟨w.heap.size + 1 + 1, 0, none⟩) 2 2] (W.alloc (.cells #[.int .i64 r1, .int .i64 r2] 3)).drew fun e w' => e = .returned (.int .i64 rr) ∧ (W.alloc (.cells #[.int .i64 r1, .int .i64 r2] 3)).drew = w') :=
    Lib.hid (hor _ _ (cell_drew_some (cell2_0 (heap_new_at hs))) (cell_drew_some (cell2_1 (heap_new_at hs))))
  clear hor
  go_region_held3 (fun w' => w'.cell? ⟨w.heap.size, 0, none⟩ = some (.int .i64 x1) ∧ w'.cell? ⟨w.heap.size, 1, none⟩ = some (.int .i64 x2) ∧ w'.cell? ⟨w.heap.size + 1, 0, none⟩ = some (.int .i64 y1) ∧ w'.cell? ⟨w.heap.size + 1, 1, none⟩ = some (.int .i64 y2))
    ((refine ⟨?_, ?_, ?_, ?_⟩ <;> (repeat' (first | with_reducible assumption | with_reducible refine cell_drew_some ?_ | with_reducible refine cell_alloc_some ?_))))
    (first
      | (go_at_call 22; refine HOR.out.mono ?_; rintro e w' ⟨rfl, rfl⟩)
      | (go_at_call 23; (with_reducible refine (hc1 _).mono ?_); rintro e w' ⟨rfl, rfl⟩)
      | (go_at_call 23; (with_reducible refine (hc2 _).mono ?_); rintro e w' ⟨rfl, rfl⟩))
  all_goals
    go_wp2
    go_ret
    refine ⟨rfl, 1, #[.cells #[.int .i64 x1, .int .i64 x2] 33, .cells #[.int .i64 y1, .int .i64 y2] 33, .cells #[.int .i64 r1, .int .i64 r2] 3], ?_⟩
    rw [HW.out]
    show (((w.drew).alloc _).alloc _).alloc _ = grow w.drew _
    rw [alloc_eq_grow, alloc_eq_grow, alloc_eq_grow, grow_grow, grow_grow]
    rfl

theorem below_grow {w w' : World} (h : ∃ q os, w' = grow (w.drewN q) os) : Below w.heap.size w w' := by
  obtain ⟨q, os, rfl⟩ := h
  refine ⟨rfl, rfl, rfl, ?_, fun k hk => ?_⟩
  · rw [Go.Sort.size_grow]; show w.heap.size ≤ w.heap.size + _; omega
  · exact Go.Sort.heap_grow_old (w.drewN q) os hk

end Go.Proofs.YtpkieiahhkgjoaaDoor
