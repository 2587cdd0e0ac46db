/-
The walk of WindowSides.
-/
import Derived.Test.YtofollamkcgknaaDoorSd
set_option linter.unusedVariables false
namespace Go.Proofs.YtofollamkcgknaaDoor
open Go.RowKit

theorem good_r (a b : Int) (w : World) (g : Bool) (hg : gdB a b = g) : Calls Tryd.prog 23 #[.agg #[.int .i64 a, .int .i64 b]] w fun e w' => e = .returned (.bool g) ∧ Below w.heap.size w w' :=
  (good_any a b w).mono fun e w' ⟨he, hb⟩ => ⟨by rw [he, hg], hb⟩

theorem gd_of {a b : Int} (h : gdB a b = true) : Gd a b := of_decide_eq_true h
theorem gd_not {a b : Int} (h : gdB a b = false) : ¬ Gd a b := of_decide_eq_false h

set_option maxRecDepth 100000 in
set_option maxHeartbeats 1000000 in
theorem sides_1 (k s p o a b : Int) (w : World) (g : Bool) (hr : rgtB k s p o = false) (hg : gdB a b = g) :
    Calls Tryd.prog 5 #[.agg #[.int .i64 k, .int .i64 s, .int .i64 p, .int .i64 o], .agg #[.int .i64 a, .int .i64 b]] w fun e w' => e = .returned (.bool true) ∧ Below w.heap.size w w' := by
  have HS : Hid (∀ w, Calls Tryd.prog 31 #[.agg #[.int .i64 k, .int .i64 s, .int .i64 p, .int .i64 o], .agg #[.int .i64 a, .int .i64 b]] w fun e w' => e = .returned (.tuple #[.agg #[.int .i64 0, .int .i64 0], .int .i64 70]) ∧ Below w.heap.size w w') := Lib.hid fun w => by
    cases g with
    | true => exact side_b k s p o a b w hr (gd_of hg)
    | false => exact side_a k s p o a b w false hr (gd_not hg)
  have HR0 := Lib.hid hr
  have HG0 := Lib.hid hg
  clear hr hg
  go_enter Tryd.func5, Tryd.ntmps5
  go_wp2_with (first
    | (go_at_call 31; refine (HS.out _).mono ?_; rintro e w1 ⟨rfl, hb1⟩; have HB1 : Below w.heap.size w w1 := (((Below.refl _ _).alloc (Nat.le_refl _) _).alloc (by simp <;> omega) _).trans (hb1.mono (by simp <;> omega)); have hF1 : w1.heap[w.heap.size]? = some (.cells #[.int .i64 k, .int .i64 s, .int .i64 p, .int .i64 o] 23 (0, 0)) := (hb1.block _ (by simp <;> omega)).trans (heap_alloc_some (heap_new_at rfl)); have HF1 := Lib.hid hF1; have lF1 := cell_lt hF1; obtain ⟨F1_0, F1_1, F1_2, F1_3⟩ := box4 hF1; clear hF1; have hV1 : w1.heap[w.heap.size+1]? = some (.cells #[.int .i64 a, .int .i64 b] 41 (0, 0)) := (hb1.block _ (by simp <;> omega)).trans (heap_new_at (by simp <;> omega)); have HV1 := Lib.hid hV1; have lV1 := cell_lt hV1; have V1_0 := cell2_0 hV1; have V1_1 := cell2_1 hV1; clear hV1; clear hb1)
    | (go_at_call 14; refine (fn_any k s p o _).mono ?_; rintro e w2 ⟨rfl, hb2⟩; have HB2 : Below w.heap.size w w2 := (HB1.alloc HB1.size _).trans (hb2.mono (by have := HB1.size; simp <;> omega)); have hF2 := (hb2.block _ (by simp <;> omega)).trans (heap_alloc_some HF1.out); have HF2 := Lib.hid hF2; have lF2 := cell_lt hF2; obtain ⟨F2_0, F2_1, F2_2, F2_3⟩ := box4 hF2; clear hF2; have hV2 := (hb2.block _ (by simp <;> omega)).trans (heap_alloc_some HV1.out); have HV2 := Lib.hid hV2; have lV2 := cell_lt hV2; have V2_0 := cell2_0 hV2; have V2_1 := cell2_1 hV2; clear hV2; have hR2 : w2.heap[w1.heap.size]? = some (.cells #[.int .i64 0, .int .i64 0] 41 (0, 0)) := (hb2.block _ (by simp <;> omega)).trans (heap_new_at rfl); have HR2 := Lib.hid hR2; have lR2 := cell_lt hR2; have R2_0 := cell2_0 hR2; have R2_1 := cell2_1 hR2; clear hR2 hb2)
    | (go_at_call 13; refine (rright_r k s p o _ false HR0.out).mono ?_; rintro e w3 ⟨rfl, hb3⟩; have HB3 := HB2.trans (hb3.mono HB2.size); have hF3 := (hb3.block _ (cell_lt HF2.out)).trans HF2.out; have HF3 := Lib.hid hF3; have lF3 := cell_lt hF3; obtain ⟨F3_0, F3_1, F3_2, F3_3⟩ := box4 hF3; clear hF3; have hV3 := (hb3.block _ (cell_lt HV2.out)).trans HV2.out; have HV3 := Lib.hid hV3; have lV3 := cell_lt hV3; have V3_0 := cell2_0 hV3; have V3_1 := cell2_1 hV3; clear hV3; have hR3 := (hb3.block _ (cell_lt HR2.out)).trans HR2.out; have HR3 := Lib.hid hR3; have lR3 := cell_lt hR3; have R3_0 := cell2_0 hR3; have R3_1 := cell2_1 hR3; have fR3_0 := cells_f hR3 0; have fR3_1 := cells_f hR3 1; clear hR3; clear hb3)
    | (go_at_call 17; refine (awake_any _).mono ?_; rintro e w9 ⟨rfl, hb9⟩))
  go_ret
  exact ⟨rfl, HB3.trans (hb9.mono HB3.size)⟩

set_option maxRecDepth 100000 in
set_option maxHeartbeats 1000000 in
theorem sides_2 (k s p o a b : Int) (w : World) (hr : rgtB k s p o = true) (hg : gdB a b = false) :
    Calls Tryd.prog 5 #[.agg #[.int .i64 k, .int .i64 s, .int .i64 p, .int .i64 o], .agg #[.int .i64 a, .int .i64 b]] w fun e w' => e = .returned (.bool true) ∧ Below w.heap.size w w' := by
  have HR0 := Lib.hid hr
  have HG0 := Lib.hid hg
  clear hr hg
  go_enter Tryd.func5, Tryd.ntmps5
  go_wp2_with (first
    | (go_at_call 31; refine (side_a k s p o a b _ true HR0.out (gd_not HG0.out)).mono ?_; rintro e w1 ⟨rfl, hb1⟩; have HB1 : Below w.heap.size w w1 := (((Below.refl _ _).alloc (Nat.le_refl _) _).alloc (by simp <;> omega) _).trans (hb1.mono (by simp <;> omega)); have hF1 : w1.heap[w.heap.size]? = some (.cells #[.int .i64 k, .int .i64 s, .int .i64 p, .int .i64 o] 23 (0, 0)) := (hb1.block _ (by simp <;> omega)).trans (heap_alloc_some (heap_new_at rfl)); have HF1 := Lib.hid hF1; have lF1 := cell_lt hF1; obtain ⟨F1_0, F1_1, F1_2, F1_3⟩ := box4 hF1; clear hF1; have hV1 : w1.heap[w.heap.size+1]? = some (.cells #[.int .i64 a, .int .i64 b] 41 (0, 0)) := (hb1.block _ (by simp <;> omega)).trans (heap_new_at (by simp <;> omega)); have HV1 := Lib.hid hV1; have lV1 := cell_lt hV1; have V1_0 := cell2_0 hV1; have V1_1 := cell2_1 hV1; clear hV1; clear hb1)
    | (go_at_call 14; refine (fn_any k s p o _).mono ?_; rintro e w2 ⟨rfl, hb2⟩; have HB2 : Below w.heap.size w w2 := (HB1.alloc HB1.size _).trans (hb2.mono (by have := HB1.size; simp <;> omega)); have hF2 := (hb2.block _ (by simp <;> omega)).trans (heap_alloc_some HF1.out); have HF2 := Lib.hid hF2; have lF2 := cell_lt hF2; obtain ⟨F2_0, F2_1, F2_2, F2_3⟩ := box4 hF2; clear hF2; have hV2 := (hb2.block _ (by simp <;> omega)).trans (heap_alloc_some HV1.out); have HV2 := Lib.hid hV2; have lV2 := cell_lt hV2; have V2_0 := cell2_0 hV2; have V2_1 := cell2_1 hV2; clear hV2; have hR2 : w2.heap[w1.heap.size]? = some (.cells #[.int .i64 0, .int .i64 0] 41 (0, 0)) := (hb2.block _ (by simp <;> omega)).trans (heap_new_at rfl); have HR2 := Lib.hid hR2; have lR2 := cell_lt hR2; have R2_0 := cell2_0 hR2; have R2_1 := cell2_1 hR2; clear hR2 hb2)
    | (go_at_call 13; refine (rright_r k s p o _ true HR0.out).mono ?_; rintro e w3 ⟨rfl, hb3⟩; have HB3 := HB2.trans (hb3.mono HB2.size); have hF3 := (hb3.block _ (cell_lt HF2.out)).trans HF2.out; have HF3 := Lib.hid hF3; have lF3 := cell_lt hF3; obtain ⟨F3_0, F3_1, F3_2, F3_3⟩ := box4 hF3; clear hF3; have hV3 := (hb3.block _ (cell_lt HV2.out)).trans HV2.out; have HV3 := Lib.hid hV3; have lV3 := cell_lt hV3; have V3_0 := cell2_0 hV3; have V3_1 := cell2_1 hV3; clear hV3; have hR3 := (hb3.block _ (cell_lt HR2.out)).trans HR2.out; have HR3 := Lib.hid hR3; have lR3 := cell_lt hR3; have R3_0 := cell2_0 hR3; have R3_1 := cell2_1 hR3; have fR3_0 := cells_f hR3 0; have fR3_1 := cells_f hR3 1; clear hR3; clear hb3)
    | (go_at_call 23; refine (good_r a b _ false HG0.out).mono ?_; rintro e w4 ⟨rfl, hb4⟩; have HB4 := HB3.trans (hb4.mono HB3.size); have hF4 := (hb4.block _ (cell_lt HF3.out)).trans HF3.out; have HF4 := Lib.hid hF4; have lF4 := cell_lt hF4; obtain ⟨F4_0, F4_1, F4_2, F4_3⟩ := box4 hF4; clear hF4; have hV4 := (hb4.block _ (cell_lt HV3.out)).trans HV3.out; have HV4 := Lib.hid hV4; have lV4 := cell_lt hV4; have V4_0 := cell2_0 hV4; have V4_1 := cell2_1 hV4; clear hV4; have hR4 := (hb4.block _ (cell_lt HR3.out)).trans HR3.out; have HR4 := Lib.hid hR4; have lR4 := cell_lt hR4; have R4_0 := cell2_0 hR4; have R4_1 := cell2_1 hR4; have fR4_0 := cells_f hR4 0; have fR4_1 := cells_f hR4 1; clear hR4; clear hb4)
    | (go_at_call 17; refine (awake_any _).mono ?_; rintro e w9 ⟨rfl, hb9⟩))
  go_ret
  exact ⟨rfl, HB4.trans (hb9.mono HB4.size)⟩

set_option maxRecDepth 100000 in
set_option maxHeartbeats 1000000 in
theorem sides_3 (s p o a b : Int) (w : World) (hr : rgtB 3 s p o = true) (hg : gdB a b = true) :
    Calls Tryd.prog 5 #[.agg #[.int .i64 3, .int .i64 s, .int .i64 p, .int .i64 o], .agg #[.int .i64 a, .int .i64 b]] w fun e w' => e = .returned (.bool true) ∧ Below w.heap.size w w' := by
  have HR0 := Lib.hid hr
  have HG0 := Lib.hid hg
  clear hr hg
  go_enter Tryd.func5, Tryd.ntmps5
  go_wp2_with (first
    | (go_at_call 31; refine (side_c s p o a b _ HR0.out (gd_of HG0.out)).mono ?_; rintro e w1 ⟨rfl, hb1⟩; have HB1 : Below w.heap.size w w1 := (((Below.refl _ _).alloc (Nat.le_refl _) _).alloc (by simp <;> omega) _).trans (hb1.mono (by simp <;> omega)); have hF1 : w1.heap[w.heap.size]? = some (.cells #[.int .i64 3, .int .i64 s, .int .i64 p, .int .i64 o] 23 (0, 0)) := (hb1.block _ (by simp <;> omega)).trans (heap_alloc_some (heap_new_at rfl)); have HF1 := Lib.hid hF1; have lF1 := cell_lt hF1; obtain ⟨F1_0, F1_1, F1_2, F1_3⟩ := box4 hF1; clear hF1; have hV1 : w1.heap[w.heap.size+1]? = some (.cells #[.int .i64 a, .int .i64 b] 41 (0, 0)) := (hb1.block _ (by simp <;> omega)).trans (heap_new_at (by simp <;> omega)); have HV1 := Lib.hid hV1; have lV1 := cell_lt hV1; have V1_0 := cell2_0 hV1; have V1_1 := cell2_1 hV1; clear hV1; clear hb1)
    | (go_at_call 14; refine (fn_any 3 s p o _).mono ?_; rintro e w2 ⟨rfl, hb2⟩; have HB2 : Below w.heap.size w w2 := (HB1.alloc HB1.size _).trans (hb2.mono (by have := HB1.size; simp <;> omega)); have hF2 := (hb2.block _ (by simp <;> omega)).trans (heap_alloc_some HF1.out); have HF2 := Lib.hid hF2; have lF2 := cell_lt hF2; obtain ⟨F2_0, F2_1, F2_2, F2_3⟩ := box4 hF2; clear hF2; have hV2 := (hb2.block _ (by simp <;> omega)).trans (heap_alloc_some HV1.out); have HV2 := Lib.hid hV2; have lV2 := cell_lt hV2; have V2_0 := cell2_0 hV2; have V2_1 := cell2_1 hV2; clear hV2; have hR2 : w2.heap[w1.heap.size]? = some (.cells #[.int .i64 0, .int .i64 0] 41 (0, 0)) := (hb2.block _ (by simp <;> omega)).trans (heap_new_at rfl); have HR2 := Lib.hid hR2; have lR2 := cell_lt hR2; have R2_0 := cell2_0 hR2; have R2_1 := cell2_1 hR2; clear hR2 hb2)
    | (go_at_call 13; refine (rright_r 3 s p o _ true HR0.out).mono ?_; rintro e w3 ⟨rfl, hb3⟩; have HB3 := HB2.trans (hb3.mono HB2.size); have hF3 := (hb3.block _ (cell_lt HF2.out)).trans HF2.out; have HF3 := Lib.hid hF3; have lF3 := cell_lt hF3; obtain ⟨F3_0, F3_1, F3_2, F3_3⟩ := box4 hF3; clear hF3; have hV3 := (hb3.block _ (cell_lt HV2.out)).trans HV2.out; have HV3 := Lib.hid hV3; have lV3 := cell_lt hV3; have V3_0 := cell2_0 hV3; have V3_1 := cell2_1 hV3; clear hV3; have hR3 := (hb3.block _ (cell_lt HR2.out)).trans HR2.out; have HR3 := Lib.hid hR3; have lR3 := cell_lt hR3; have R3_0 := cell2_0 hR3; have R3_1 := cell2_1 hR3; have fR3_0 := cells_f hR3 0; have fR3_1 := cells_f hR3 1; clear hR3; clear hb3)
    | (go_at_call 23; refine (good_r a b _ true HG0.out).mono ?_; rintro e w4 ⟨rfl, hb4⟩; have HB4 := HB3.trans (hb4.mono HB3.size); have hF4 := (hb4.block _ (cell_lt HF3.out)).trans HF3.out; have HF4 := Lib.hid hF4; have lF4 := cell_lt hF4; obtain ⟨F4_0, F4_1, F4_2, F4_3⟩ := box4 hF4; clear hF4; have hV4 := (hb4.block _ (cell_lt HV3.out)).trans HV3.out; have HV4 := Lib.hid hV4; have lV4 := cell_lt hV4; have V4_0 := cell2_0 hV4; have V4_1 := cell2_1 hV4; clear hV4; have hR4 := (hb4.block _ (cell_lt HR3.out)).trans HR3.out; have HR4 := Lib.hid hR4; have lR4 := cell_lt hR4; have R4_0 := cell2_0 hR4; have R4_1 := cell2_1 hR4; have fR4_0 := cells_f hR4 0; have fR4_1 := cells_f hR4 1; clear hR4; clear hb4)
    | (go_at_call 17; refine (awake_any _).mono ?_; rintro e w9 ⟨rfl, hb9⟩))
  go_ret
  exact ⟨rfl, HB4.trans (hb9.mono HB4.size)⟩

set_option maxRecDepth 100000 in
set_option maxHeartbeats 1000000 in
theorem sides_4 (k s p o a b : Int) (w : World) (hk : ¬ k = 3) (hr : rgtB k s p o = true) (hg : gdB a b = true) :
    Calls Tryd.prog 5 #[.agg #[.int .i64 k, .int .i64 s, .int .i64 p, .int .i64 o], .agg #[.int .i64 a, .int .i64 b]] w fun e w' => e = .returned (.bool true) ∧ Below w.heap.size w w' := by
  obtain ⟨x, hx⟩ : ∃ x, (asg k s p o (mx0 (stampI b)))[(asg k s p o (mx0 (stampI b))).length - 1]? = some x :=
    ⟨_, List.getElem?_eq_getElem (by have := asg_pos k s p o (mx0 (stampI b)) (rgt_of hr); omega)⟩
  obtain ⟨x1, x2⟩ := x
  have HS : Hid (∀ w, Calls Tryd.prog 31 #[.agg #[.int .i64 k, .int .i64 s, .int .i64 p, .int .i64 o], .agg #[.int .i64 a, .int .i64 b]] w fun e w' => e = .returned (.tuple #[.agg #[.int .i64 x1, .int .i64 x2], .int .i64 0]) ∧ Below w.heap.size w w') := Lib.hid fun w => side_d k s p o a b w (x1, x2) hr (gd_of hg) hk hx
  have HRS : Hid (∀ w, Calls Tryd.prog 32 #[.agg #[.int .i64 k, .int .i64 s, .int .i64 p, .int .i64 o], .agg #[.int .i64 a, .int .i64 b]] w fun e w' => e = .returned (.agg #[.int .i64 x1, .int .i64 x2]) ∧ Below w.heap.size w w') := Lib.hid fun w => rside_any k s p o a b w (x1, x2) hr (gd_of hg) hx
  have HR0 := Lib.hid hr
  have HG0 := Lib.hid hg
  clear hr hg hx
  go_enter Tryd.func5, Tryd.ntmps5
  go_wp2_with (first
    | (go_at_call 31; refine (HS.out _).mono ?_; rintro e w1 ⟨rfl, hb1⟩; have HB1 : Below w.heap.size w w1 := (((Below.refl _ _).alloc (Nat.le_refl _) _).alloc (by simp <;> omega) _).trans (hb1.mono (by simp <;> omega)); have hF1 : w1.heap[w.heap.size]? = some (.cells #[.int .i64 k, .int .i64 s, .int .i64 p, .int .i64 o] 23 (0, 0)) := (hb1.block _ (by simp <;> omega)).trans (heap_alloc_some (heap_new_at rfl)); have HF1 := Lib.hid hF1; have lF1 := cell_lt hF1; obtain ⟨F1_0, F1_1, F1_2, F1_3⟩ := box4 hF1; clear hF1; have hV1 : w1.heap[w.heap.size+1]? = some (.cells #[.int .i64 a, .int .i64 b] 41 (0, 0)) := (hb1.block _ (by simp <;> omega)).trans (heap_new_at (by simp <;> omega)); have HV1 := Lib.hid hV1; have lV1 := cell_lt hV1; have V1_0 := cell2_0 hV1; have V1_1 := cell2_1 hV1; clear hV1; clear hb1)
    | (go_at_call 14; refine (fn_any k s p o _).mono ?_; rintro e w2 ⟨rfl, hb2⟩; have HB2 : Below w.heap.size w w2 := (HB1.alloc HB1.size _).trans (hb2.mono (by have := HB1.size; simp <;> omega)); have hF2 := (hb2.block _ (by simp <;> omega)).trans (heap_alloc_some HF1.out); have HF2 := Lib.hid hF2; have lF2 := cell_lt hF2; obtain ⟨F2_0, F2_1, F2_2, F2_3⟩ := box4 hF2; clear hF2; have hV2 := (hb2.block _ (by simp <;> omega)).trans (heap_alloc_some HV1.out); have HV2 := Lib.hid hV2; have lV2 := cell_lt hV2; have V2_0 := cell2_0 hV2; have V2_1 := cell2_1 hV2; clear hV2; have hR2 : w2.heap[w1.heap.size]? = some (.cells #[.int .i64 x1, .int .i64 x2] 41 (0, 0)) := (hb2.block _ (by simp <;> omega)).trans (heap_new_at rfl); have HR2 := Lib.hid hR2; have lR2 := cell_lt hR2; have R2_0 := cell2_0 hR2; have R2_1 := cell2_1 hR2; clear hR2 hb2)
    | (go_at_call 13; refine (rright_r k s p o _ true HR0.out).mono ?_; rintro e w3 ⟨rfl, hb3⟩; have HB3 := HB2.trans (hb3.mono HB2.size); have hF3 := (hb3.block _ (cell_lt HF2.out)).trans HF2.out; have HF3 := Lib.hid hF3; have lF3 := cell_lt hF3; obtain ⟨F3_0, F3_1, F3_2, F3_3⟩ := box4 hF3; clear hF3; have hV3 := (hb3.block _ (cell_lt HV2.out)).trans HV2.out; have HV3 := Lib.hid hV3; have lV3 := cell_lt hV3; have V3_0 := cell2_0 hV3; have V3_1 := cell2_1 hV3; clear hV3; have hR3 := (hb3.block _ (cell_lt HR2.out)).trans HR2.out; have HR3 := Lib.hid hR3; have lR3 := cell_lt hR3; have R3_0 := cell2_0 hR3; have R3_1 := cell2_1 hR3; have fR3_0 := cells_f hR3 0; have fR3_1 := cells_f hR3 1; clear hR3; clear hb3)
    | (go_at_call 23; refine (good_r a b _ true HG0.out).mono ?_; rintro e w4 ⟨rfl, hb4⟩; have HB4 := HB3.trans (hb4.mono HB3.size); have hF4 := (hb4.block _ (cell_lt HF3.out)).trans HF3.out; have HF4 := Lib.hid hF4; have lF4 := cell_lt hF4; obtain ⟨F4_0, F4_1, F4_2, F4_3⟩ := box4 hF4; clear hF4; have hV4 := (hb4.block _ (cell_lt HV3.out)).trans HV3.out; have HV4 := Lib.hid hV4; have lV4 := cell_lt hV4; have V4_0 := cell2_0 hV4; have V4_1 := cell2_1 hV4; clear hV4; have hR4 := (hb4.block _ (cell_lt HR3.out)).trans HR3.out; have HR4 := Lib.hid hR4; have lR4 := cell_lt hR4; have R4_0 := cell2_0 hR4; have R4_1 := cell2_1 hR4; have fR4_0 := cells_f hR4 0; have fR4_1 := cells_f hR4 1; clear hR4; clear hb4))
  have hRR : Below w4.heap.size w4 w4 := Below.refl _ _
  go_region_held3 (fun w' => w'.cell? ⟨w.heap.size, 0, none⟩ = some (.int .i64 k) ∧ w'.cell? ⟨w.heap.size, 1, none⟩ = some (.int .i64 s) ∧ w'.cell? ⟨w.heap.size, 2, none⟩ = some (.int .i64 p) ∧ w'.cell? ⟨w.heap.size, 3, none⟩ = some (.int .i64 o) ∧ w'.cell? ⟨w.heap.size + 1, 0, none⟩ = some (.int .i64 a) ∧ w'.cell? ⟨w.heap.size + 1, 1, none⟩ = some (.int .i64 b) ∧ w'.cell? ⟨w1.heap.size, 0, none⟩ = some (.int .i64 x1) ∧ w'.cell? ⟨w1.heap.size, 1, none⟩ = some (.int .i64 x2) ∧ Below w4.heap.size w4 w')
      ((refine ⟨?_, ?_, ?_, ?_, ?_, ?_, ?_, ?_, ?_⟩ <;> (repeat' (first | with_reducible assumption | with_reducible refine cell_drew_some ?_ | with_reducible refine below_drew_some ?_))))
      (first
        | (go_at_call 17; refine (awake_any _).mono ?_; rintro e wc ⟨rfl, hbc⟩; have HBc : Below w4.heap.size w4 wc := HBb.trans (hbc.mono HBb.size); have y' := (HBc.block _ lF4).trans HF4.out; obtain ⟨y0, y1, y2, y3⟩ := box4 y'; clear y'; have y' := (HBc.block _ lV4).trans HV4.out; have z0 := cell2_0 y'; have z1 := cell2_1 y'; clear y'; have y' := (HBc.block _ lR4).trans HR4.out; have z2 := cell2_0 y'; have z3 := cell2_1 y'; clear y')
        | (go_at_call 32; refine (HRS.out _).mono ?_; rintro e wb ⟨rfl, hbb⟩; have HBb : Below w4.heap.size w4 wb := HBa.trans (hbb.mono HBa.size); have y' := (HBb.block _ lF4).trans HF4.out; obtain ⟨y0, y1, y2, y3⟩ := box4 y'; clear y'; have y' := (HBb.block _ lV4).trans HV4.out; have z0 := cell2_0 y'; have z1 := cell2_1 y'; clear y'; have y' := (HBb.block _ lR4).trans HR4.out; have z2 := cell2_0 y'; have z3 := cell2_1 y'; clear y')
        | (go_at_call 14; refine (fn_any k s p o _).mono ?_; rintro e wa ⟨rfl, hba⟩; have HBa : Below w4.heap.size w4 wa := (Below.refl _ w4).drew.trans hba; have y' := (HBa.block _ lF4).trans HF4.out; obtain ⟨y0, y1, y2, y3⟩ := box4 y'; clear y'; have y' := (HBa.block _ lV4).trans HV4.out; have z0 := cell2_0 y'; have z1 := cell2_1 y'; clear y'; have y' := (HBa.block _ lR4).trans HR4.out; have z2 := cell2_0 y'; have z3 := cell2_1 y'; clear y'))
  go_wp2_with (fail)
  go_ret
  exact ⟨rfl, HB4.trans (HBc.mono HB4.size)⟩

theorem sides_true (k s p o a b : Int) (w : World) : Calls Tryd.prog 5 #[.agg #[.int .i64 k, .int .i64 s, .int .i64 p, .int .i64 o], .agg #[.int .i64 a, .int .i64 b]] w fun e w' => e = .returned (.bool true) ∧ Below w.heap.size w w' := by
  cases hr : rgtB k s p o with
  | false => exact sides_1 k s p o a b w _ hr rfl
  | true =>
    cases hg : gdB a b with
    | false => exact sides_2 k s p o a b w hr hg
    | true =>
      by_cases hk : k = 3
      · subst hk
        exact sides_3 s p o a b w hr hg
      · exact sides_4 k s p o a b w hk hr hg

end Go.Proofs.YtofollamkcgknaaDoor
