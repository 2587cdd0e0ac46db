/-
Side of the program and of the document.
-/
import Derived.Test.YtofollamkcgknaaDoorLa
set_option linter.unusedVariables false
namespace Go.Proofs.YtofollamkcgknaaDoor
open Go.RowKit

theorem asg_pos (k s p o t : Int) (hr : Rgt k s p o) : 1 ≤ (asg k s p o t).length := by
  unfold asg
  split
  · simp
  split
  · simp
  split
  · rw [ap_length]; exact numA_pos _ _ _ _
  · rw [ap_length]; exact numA_pos _ _ _ _

def mx0 (t : Int) : Int := if t < 0 then 0 else t

theorem stamp_in {a b : Int} (h : Gd a b) : stampI b ≤ 1048576 ∧ -1048576 ≤ stampI b := by
  obtain ⟨h1, h2, h3⟩ := h
  unfold stampI
  split <;> omega

theorem right_r (k s p o : Int) (w : World) (r : Bool) (hr : rgtB k s p o = r) : Calls Tryd.prog 39 #[.agg #[.int .i64 k, .int .i64 s, .int .i64 p, .int .i64 o]] w fun e w' => e = .returned (.bool r) ∧ Below w.heap.size w w' :=
  (right_any k s p o w).mono fun e w' ⟨he, hb⟩ => ⟨by rw [he, hr], hb⟩

set_option maxRecDepth 100000 in
set_option maxHeartbeats 1000000 in
theorem side_a (k s p o a b : Int) (w : World) (r : Bool) (hr : rgtB k s p o = r) (hg : ¬ Gd a b) :
    Calls Tryd.prog 31 #[.agg #[.int .i64 k, .int .i64 s, .int .i64 p, .int .i64 o], .agg #[.int .i64 a, .int .i64 b]] w fun e w' => e = .returned (.tuple #[.agg #[.int .i64 0, .int .i64 0], .int .i64 70]) ∧ Below w.heap.size w w' := by
  have HR0 := Lib.hid hr
  have HG := Lib.hid hg
  clear hr hg
  cases r
  all_goals
    go_enter Tryd.func31, Tryd.ntmps31
    go_wp2_with (first
      | (go_at_call 24; refine (stamp_no a b _ HG.out).mono ?_; rintro e w1 ⟨rfl, hb1⟩; have HB1 : Below w.heap.size w w1 := ((((Below.refl _ _).alloc (Nat.le_refl _) _).alloc (by simp <;> omega) _).alloc (by simp <;> omega) _).trans (hb1.mono (by simp <;> omega)); have hF1 : w1.heap[w.heap.size]? = some (.cells #[.int .i64 k, .int .i64 s, .int .i64 p, .int .i64 o] 23 (0, 0)) := (hb1.block _ (by simp <;> omega)).trans (heap_alloc_some (heap_alloc_some (heap_new_at rfl))); have HF1 := Lib.hid hF1; have lF1 := cell_lt hF1; obtain ⟨F1_0, F1_1, F1_2, F1_3⟩ := box4 hF1; clear hF1; have hV1 : w1.heap[w.heap.size+1]? = some (.cells #[.int .i64 a, .int .i64 b] 41 (0, 0)) := (hb1.block _ (by simp <;> omega)).trans (heap_alloc_some (heap_new_at (by simp <;> omega))); have HV1 := Lib.hid hV1; have lV1 := cell_lt hV1; have V1_0 := cell2_0 hV1; have V1_1 := cell2_1 hV1; clear hV1; have hR1 : w1.heap[w.heap.size+2]? = some (.cells #[.int .i64 0, .int .i64 0] 41 (0, 0)) := (hb1.block _ (by simp <;> omega)).trans (heap_new_at (by simp <;> omega)); have HR1 := Lib.hid hR1; have lR1 := cell_lt hR1; have R1_0 := cell2_0 hR1; have R1_1 := cell2_1 hR1; clear hR1; clear hb1)
      | (go_at_call 39; refine (right_r k s p o _ _ HR0.out).mono ?_; rintro e w2 ⟨rfl, hb2⟩; have HB2 := HB1.trans (hb2.mono HB1.size); have hF2 := (hb2.block _ (cell_lt HF1.out)).trans HF1.out; have HF2 := Lib.hid hF2; have lF2 := cell_lt hF2; obtain ⟨F2_0, F2_1, F2_2, F2_3⟩ := box4 hF2; clear hF2; have hV2 := (hb2.block _ (cell_lt HV1.out)).trans HV1.out; have HV2 := Lib.hid hV2; have lV2 := cell_lt hV2; have V2_0 := cell2_0 hV2; have V2_1 := cell2_1 hV2; clear hV2; have hR2 := (hb2.block _ (cell_lt HR1.out)).trans HR1.out; have HR2 := Lib.hid hR2; have lR2 := cell_lt hR2; have R2_0 := cell2_0 hR2; have R2_1 := cell2_1 hR2; have fR2_0 := cells_f hR2 0; have fR2_1 := cells_f hR2 1; clear hR2; clear hb2))
    refine bodyPost_ret (v := .tuple #[.agg #[.int .i64 0, .int .i64 0], .int .i64 70]) (by simp [results, Tryd.results31, go_sem, R2_0, R2_1]) rfl ?_
    exact ⟨rfl, (HB2.setCell (by simp <;> omega) _).setCell (by simp <;> omega) _⟩

set_option maxRecDepth 100000 in
set_option maxHeartbeats 1000000 in
theorem side_b (k s p o a b : Int) (w : World) (hr : rgtB k s p o = false) (hg : Gd a b) :
    Calls Tryd.prog 31 #[.agg #[.int .i64 k, .int .i64 s, .int .i64 p, .int .i64 o], .agg #[.int .i64 a, .int .i64 b]] w fun e w' => e = .returned (.tuple #[.agg #[.int .i64 0, .int .i64 0], .int .i64 70]) ∧ Below w.heap.size w w' := by
  have HR0 := Lib.hid hr
  have HG := Lib.hid hg
  clear hr hg
  go_enter Tryd.func31, Tryd.ntmps31
  go_wp2_with (first
    | (go_at_call 24; refine (stamp_yes a b _ HG.out).mono ?_; rintro e w1 ⟨rfl, hb1⟩; have HB1 : Below w.heap.size w w1 := ((((Below.refl _ _).alloc (Nat.le_refl _) _).alloc (by simp <;> omega) _).alloc (by simp <;> omega) _).trans (hb1.mono (by simp <;> omega)); have hF1 : w1.heap[w.heap.size]? = some (.cells #[.int .i64 k, .int .i64 s, .int .i64 p, .int .i64 o] 23 (0, 0)) := (hb1.block _ (by simp <;> omega)).trans (heap_alloc_some (heap_alloc_some (heap_new_at rfl))); have HF1 := Lib.hid hF1; have lF1 := cell_lt hF1; obtain ⟨F1_0, F1_1, F1_2, F1_3⟩ := box4 hF1; clear hF1; have hV1 : w1.heap[w.heap.size+1]? = some (.cells #[.int .i64 a, .int .i64 b] 41 (0, 0)) := (hb1.block _ (by simp <;> omega)).trans (heap_alloc_some (heap_new_at (by simp <;> omega))); have HV1 := Lib.hid hV1; have lV1 := cell_lt hV1; have V1_0 := cell2_0 hV1; have V1_1 := cell2_1 hV1; clear hV1; have hR1 : w1.heap[w.heap.size+2]? = some (.cells #[.int .i64 0, .int .i64 0] 41 (0, 0)) := (hb1.block _ (by simp <;> omega)).trans (heap_new_at (by simp <;> omega)); have HR1 := Lib.hid hR1; have lR1 := cell_lt hR1; have R1_0 := cell2_0 hR1; have R1_1 := cell2_1 hR1; clear hR1; clear hb1)
    | (go_at_call 39; refine (right_r k s p o _ _ HR0.out).mono ?_; rintro e w2 ⟨rfl, hb2⟩; have HB2 := HB1.trans (hb2.mono HB1.size); have hF2 := (hb2.block _ (cell_lt HF1.out)).trans HF1.out; have HF2 := Lib.hid hF2; have lF2 := cell_lt hF2; obtain ⟨F2_0, F2_1, F2_2, F2_3⟩ := box4 hF2; clear hF2; have hV2 := (hb2.block _ (cell_lt HV1.out)).trans HV1.out; have HV2 := Lib.hid hV2; have lV2 := cell_lt hV2; have V2_0 := cell2_0 hV2; have V2_1 := cell2_1 hV2; clear hV2; have hR2 := (hb2.block _ (cell_lt HR1.out)).trans HR1.out; have HR2 := Lib.hid hR2; have lR2 := cell_lt hR2; have R2_0 := cell2_0 hR2; have R2_1 := cell2_1 hR2; have fR2_0 := cells_f hR2 0; have fR2_1 := cells_f hR2 1; clear hR2; clear hb2))
  refine bodyPost_ret (v := .tuple #[.agg #[.int .i64 0, .int .i64 0], .int .i64 70]) (by simp [results, Tryd.results31, go_sem, R2_0, R2_1]) rfl ?_
  exact ⟨rfl, (HB2.setCell (by simp <;> omega) _).setCell (by simp <;> omega) _⟩

set_option maxRecDepth 100000 in
set_option maxHeartbeats 1000000 in
theorem side_c (s p o a b : Int) (w : World) (hr : rgtB 3 s p o = true) (hg : Gd a b) :
    Calls Tryd.prog 31 #[.agg #[.int .i64 3, .int .i64 s, .int .i64 p, .int .i64 o], .agg #[.int .i64 a, .int .i64 b]] w fun e w' => e = .returned (.tuple #[.agg #[.int .i64 0, .int .i64 0], .int .i64 70]) ∧ Below w.heap.size w w' := by
  have HR0 := Lib.hid hr
  have HG := Lib.hid hg
  clear hr hg
  go_enter Tryd.func31, Tryd.ntmps31
  go_wp2_with (first
    | (go_at_call 24; refine (stamp_yes a b _ HG.out).mono ?_; rintro e w1 ⟨rfl, hb1⟩; have HB1 : Below w.heap.size w w1 := ((((Below.refl _ _).alloc (Nat.le_refl _) _).alloc (by simp <;> omega) _).alloc (by simp <;> omega) _).trans (hb1.mono (by simp <;> omega)); have hF1 : w1.heap[w.heap.size]? = some (.cells #[.int .i64 3, .int .i64 s, .int .i64 p, .int .i64 o] 23 (0, 0)) := (hb1.block _ (by simp <;> omega)).trans (heap_alloc_some (heap_alloc_some (heap_new_at rfl))); have HF1 := Lib.hid hF1; have lF1 := cell_lt hF1; obtain ⟨F1_0, F1_1, F1_2, F1_3⟩ := box4 hF1; clear hF1; have hV1 : w1.heap[w.heap.size+1]? = some (.cells #[.int .i64 a, .int .i64 b] 41 (0, 0)) := (hb1.block _ (by simp <;> omega)).trans (heap_alloc_some (heap_new_at (by simp <;> omega))); have HV1 := Lib.hid hV1; have lV1 := cell_lt hV1; have V1_0 := cell2_0 hV1; have V1_1 := cell2_1 hV1; clear hV1; have hR1 : w1.heap[w.heap.size+2]? = some (.cells #[.int .i64 0, .int .i64 0] 41 (0, 0)) := (hb1.block _ (by simp <;> omega)).trans (heap_new_at (by simp <;> omega)); have HR1 := Lib.hid hR1; have lR1 := cell_lt hR1; have R1_0 := cell2_0 hR1; have R1_1 := cell2_1 hR1; clear hR1; clear hb1)
    | (go_at_call 39; refine (right_r 3 s p o _ _ HR0.out).mono ?_; rintro e w2 ⟨rfl, hb2⟩; have HB2 := HB1.trans (hb2.mono HB1.size); have hF2 := (hb2.block _ (cell_lt HF1.out)).trans HF1.out; have HF2 := Lib.hid hF2; have lF2 := cell_lt hF2; obtain ⟨F2_0, F2_1, F2_2, F2_3⟩ := box4 hF2; clear hF2; have hV2 := (hb2.block _ (cell_lt HV1.out)).trans HV1.out; have HV2 := Lib.hid hV2; have lV2 := cell_lt hV2; have V2_0 := cell2_0 hV2; have V2_1 := cell2_1 hV2; clear hV2; have hR2 := (hb2.block _ (cell_lt HR1.out)).trans HR1.out; have HR2 := Lib.hid hR2; have lR2 := cell_lt hR2; have R2_0 := cell2_0 hR2; have R2_1 := cell2_1 hR2; have fR2_0 := cells_f hR2 0; have fR2_1 := cells_f hR2 1; clear hR2; clear hb2))
  refine bodyPost_ret (v := .tuple #[.agg #[.int .i64 0, .int .i64 0], .int .i64 70]) (by simp [results, Tryd.results31, go_sem, R2_0, R2_1]) rfl ?_
  exact ⟨rfl, (HB2.setCell (by simp <;> omega) _).setCell (by simp <;> omega) _⟩

theorem max_mx0 (t : Int) : max t 0 = mx0 t := by unfold mx0; split <;> omega

set_option maxRecDepth 100000 in
set_option maxHeartbeats 1000000 in
theorem side_d (k s p o a b : Int) (w : World) (x : Wn) (hr : rgtB k s p o = true) (hg : Gd a b) (hk : ¬ k = 3) (hx : (asg k s p o (mx0 (stampI b)))[(asg k s p o (mx0 (stampI b))).length - 1]? = some x) :
    Calls Tryd.prog 31 #[.agg #[.int .i64 k, .int .i64 s, .int .i64 p, .int .i64 o], .agg #[.int .i64 a, .int .i64 b]] w fun e w' => e = .returned (.tuple #[.agg #[.int .i64 x.1, .int .i64 x.2], .int .i64 0]) ∧ Below w.heap.size w w' := by
  have HR0 := Lib.hid hr
  have HG := Lib.hid hg
  have hst := stamp_in hg
  have hl1 := asg_pos k s p o (mx0 (stampI b)) (rgt_of hr)
  have hl2 := asg_len k s p o (mx0 (stampI b)) (rgt_of hr)
  have hm1 : 0 ≤ mx0 (stampI b) := by unfold mx0; split <;> omega
  have hm2 : mx0 (stampI b) ≤ 1048576 := by unfold mx0; split <;> omega
  have HH := fun w => Lib.hid (having_any k s p o (mx0 (stampI b)) w (rgt_of hr) hm1 hm2)
  have HM : Hid (mx0 (stampI b) = max (stampI b) 0) := Lib.hid (max_mx0 _).symm
  have HST : Hid (∀ w, Calls Tryd.prog 24 #[.agg #[.int .i64 a, .int .i64 b]] w fun e w' => e = .returned (.tuple #[.int .i64 (stampI b), .int .i64 0]) ∧ Below w.heap.size w w') := Lib.hid fun w => stamp_yes a b w hg
  generalize asg k s p o (mx0 (stampI b)) = l at *
  generalize stampI b = st at *
  generalize mx0 st = m at *
  have HX := Lib.hid hx
  clear hr hg hx
  go_enter Tryd.func31, Tryd.ntmps31
  go_wp2_with (first
    | (go_at_call 24; refine (HST.out _).mono ?_; rintro e w1 ⟨rfl, hb1⟩; have HB1 : Below w.heap.size w w1 := ((((Below.refl _ _).alloc (Nat.le_refl _) _).alloc (by simp <;> omega) _).alloc (by simp <;> omega) _).trans (hb1.mono (by simp <;> omega)); have hF1 : w1.heap[w.heap.size]? = some (.cells #[.int .i64 k, .int .i64 s, .int .i64 p, .int .i64 o] 23 (0, 0)) := (hb1.block _ (by simp <;> omega)).trans (heap_alloc_some (heap_alloc_some (heap_new_at rfl))); have HF1 := Lib.hid hF1; have lF1 := cell_lt hF1; obtain ⟨F1_0, F1_1, F1_2, F1_3⟩ := box4 hF1; clear hF1; have hV1 : w1.heap[w.heap.size+1]? = some (.cells #[.int .i64 a, .int .i64 b] 41 (0, 0)) := (hb1.block _ (by simp <;> omega)).trans (heap_alloc_some (heap_new_at (by simp <;> omega))); have HV1 := Lib.hid hV1; have lV1 := cell_lt hV1; have V1_0 := cell2_0 hV1; have V1_1 := cell2_1 hV1; clear hV1; have hR1 : w1.heap[w.heap.size+2]? = some (.cells #[.int .i64 0, .int .i64 0] 41 (0, 0)) := (hb1.block _ (by simp <;> omega)).trans (heap_new_at (by simp <;> omega)); have HR1 := Lib.hid hR1; have lR1 := cell_lt hR1; have R1_0 := cell2_0 hR1; have R1_1 := cell2_1 hR1; clear hR1; clear hb1)
    | (go_at_call 39; refine (right_r k s p o _ _ HR0.out).mono ?_; rintro e w2 ⟨rfl, hb2⟩; have HB2 := HB1.trans (hb2.mono HB1.size); have hF2 := (hb2.block _ (cell_lt HF1.out)).trans HF1.out; have HF2 := Lib.hid hF2; have lF2 := cell_lt hF2; obtain ⟨F2_0, F2_1, F2_2, F2_3⟩ := box4 hF2; clear hF2; have hV2 := (hb2.block _ (cell_lt HV1.out)).trans HV1.out; have HV2 := Lib.hid hV2; have lV2 := cell_lt hV2; have V2_0 := cell2_0 hV2; have V2_1 := cell2_1 hV2; clear hV2; have hR2 := (hb2.block _ (cell_lt HR1.out)).trans HR1.out; have HR2 := Lib.hid hR2; have lR2 := cell_lt hR2; have R2_0 := cell2_0 hR2; have R2_1 := cell2_1 hR2; have fR2_0 := cells_f hR2 0; have fR2_1 := cells_f hR2 1; clear hR2; clear hb2))
  rw [← HM.out]
  refine (HH _).out.mono ?_
  rintro e w3 ⟨⟨v, rfl, hv⟩, hb3⟩
  obtain ⟨av, cv, rfl, hlc, hA⟩ := hv
  obtain ⟨bb, oo, rfl, hv1, hv2, hcells⟩ := hA (by omega)
  obtain ⟨n', hn⟩ : ∃ n', l.length = n' + 1 := ⟨l.length - 1, by omega⟩
  obtain ⟨c0, c1⟩ := hcells _ _ HX.out
  rw [hn, Nat.add_sub_cancel] at c0 c1
  rw [hn] at hlc hl1 hl2 ⊢
  have hn9 : n' < n' + 1 := by omega
  have HB3 := HB2.trans (hb3.mono HB2.size); have hF3 := (hb3.block _ (cell_lt HF2.out)).trans HF2.out; have HF3 := Lib.hid hF3; have lF3 := cell_lt hF3; obtain ⟨F3_0, F3_1, F3_2, F3_3⟩ := box4 hF3; clear hF3; have hV3 := (hb3.block _ (cell_lt HV2.out)).trans HV2.out; have HV3 := Lib.hid hV3; have lV3 := cell_lt hV3; have V3_0 := cell2_0 hV3; have V3_1 := cell2_1 hV3; clear hV3; have hR3 := (hb3.block _ (cell_lt HR2.out)).trans HR2.out; have HR3 := Lib.hid hR3; have lR3 := cell_lt hR3; have R3_0 := cell2_0 hR3; have R3_1 := cell2_1 hR3; have fR3_0 := cells_f hR3 0; have fR3_1 := cells_f hR3 1; clear hR3
  clear hn hcells hA hb3
  go_wp2_with (fail)
  refine bodyPost_ret (v := .tuple #[.agg #[.int .i64 x.1, .int .i64 x.2], .int .i64 0]) (by simp [results, Tryd.results31, go_sem, R3_0, R3_1]) rfl ?_
  exact ⟨rfl, (HB3.setCell (by simp <;> omega) _).setCell (by simp <;> omega) _⟩

set_option maxRecDepth 100000 in
set_option maxHeartbeats 1000000 in
theorem rside_any (k s p o a b : Int) (w : World) (x : Wn) (hr : rgtB k s p o = true) (hg : Gd a b) (hx : (asg k s p o (mx0 (stampI b)))[(asg k s p o (mx0 (stampI b))).length - 1]? = some x) :
    Calls Tryd.prog 32 #[.agg #[.int .i64 k, .int .i64 s, .int .i64 p, .int .i64 o], .agg #[.int .i64 a, .int .i64 b]] w fun e w' => e = .returned (.agg #[.int .i64 x.1, .int .i64 x.2]) ∧ Below w.heap.size w w' := by
  have hst := stamp_in hg
  have hl1 := asg_pos k s p o (mx0 (stampI b)) (rgt_of hr)
  have hl2 := asg_len k s p o (mx0 (stampI b)) (rgt_of hr)
  have hm1 : 0 ≤ mx0 (stampI b) := by unfold mx0; split <;> omega
  have hm2 : mx0 (stampI b) ≤ 1048576 := by unfold mx0; split <;> omega
  have HH := fun w => Lib.hid (rassign_any k s p o (mx0 (stampI b)) w (rgt_of hr) hm1 hm2)
  have HM : Hid (mx0 (stampI b) = if stampI b < 0 then 0 else stampI b) := Lib.hid rfl
  have HST : Hid (∀ w, Calls Tryd.prog 26 #[.agg #[.int .i64 a, .int .i64 b]] w fun e w' => e = .returned (.int .i64 (stampI b)) ∧ Below w.heap.size w w') := Lib.hid fun w => rstamp_any a b w hg
  generalize asg k s p o (mx0 (stampI b)) = l at *
  generalize stampI b = st at *
  generalize mx0 st = m at *
  have HX := Lib.hid hx
  clear hr hg hx
  rcases Int.lt_or_le st 0 with h0 | h0
  · obtain rfl : m = 0 := by have := HM.out; rw [if_pos h0] at this; exact this
    go_enter Tryd.func32, Tryd.ntmps32
    go_wp2_with (first
      | (go_at_call 26; refine (HST.out _).mono ?_; rintro e w1 ⟨rfl, hb1⟩; have HB1 : Below w.heap.size w w1 := ((((Below.refl _ _).alloc (Nat.le_refl _) _).alloc (by simp <;> omega) _).alloc (by simp <;> omega) _).trans (hb1.mono (by simp <;> omega)); have hF1 : w1.heap[w.heap.size]? = some (.cells #[.int .i64 k, .int .i64 s, .int .i64 p, .int .i64 o] 29 (0, 0)) := (hb1.block _ (by simp <;> omega)).trans (heap_alloc_some (heap_alloc_some (heap_new_at rfl))); have HF1 := Lib.hid hF1; have lF1 := cell_lt hF1; obtain ⟨F1_0, F1_1, F1_2, F1_3⟩ := box4 hF1; clear hF1; have hV1 : w1.heap[w.heap.size+1]? = some (.cells #[.int .i64 a, .int .i64 b] 43 (0, 0)) := (hb1.block _ (by simp <;> omega)).trans (heap_alloc_some (heap_new_at (by simp <;> omega))); have HV1 := Lib.hid hV1; have lV1 := cell_lt hV1; have V1_0 := cell2_0 hV1; have V1_1 := cell2_1 hV1; clear hV1; have hR1 : w1.heap[w.heap.size+2]? = some (.cells #[.int .i64 0, .int .i64 0] 43 (0, 0)) := (hb1.block _ (by simp <;> omega)).trans (heap_new_at (by simp <;> omega)); have HR1 := Lib.hid hR1; have lR1 := cell_lt hR1; have R1_0 := cell2_0 hR1; have R1_1 := cell2_1 hR1; clear hR1; clear hb1))
    refine (HH _).out.mono ?_
    rintro e w3 ⟨⟨v, rfl, hv⟩, hb3⟩
    obtain ⟨av, cv, rfl, hlc, hA⟩ := hv
    obtain ⟨bb, oo, rfl, hv1, hv2, hcells⟩ := hA (by omega)
    obtain ⟨n', hn⟩ : ∃ n', l.length = n' + 1 := ⟨l.length - 1, by omega⟩
    obtain ⟨c0, c1⟩ := hcells _ _ HX.out
    rw [hn, Nat.add_sub_cancel] at c0 c1
    rw [hn] at hlc hl1 hl2 ⊢
    have hn9 : n' < n' + 1 := by omega
    have HB3 := HB1.trans (hb3.mono HB1.size); have hF3 := (hb3.block _ (cell_lt HF1.out)).trans HF1.out; have HF3 := Lib.hid hF3; have lF3 := cell_lt hF3; obtain ⟨F3_0, F3_1, F3_2, F3_3⟩ := box4 hF3; clear hF3; have hV3 := (hb3.block _ (cell_lt HV1.out)).trans HV1.out; have HV3 := Lib.hid hV3; have lV3 := cell_lt hV3; have V3_0 := cell2_0 hV3; have V3_1 := cell2_1 hV3; clear hV3; have hR3 := (hb3.block _ (cell_lt HR1.out)).trans HR1.out; have HR3 := Lib.hid hR3; have lR3 := cell_lt hR3; have R3_0 := cell2_0 hR3; have R3_1 := cell2_1 hR3; have fR3_0 := cells_f hR3 0; have fR3_1 := cells_f hR3 1; clear hR3
    clear hn hcells hA hb3
    go_wp2_with (fail)
    refine bodyPost_ret (v := .agg #[.int .i64 x.1, .int .i64 x.2]) (by simp [results, Tryd.results32, go_sem, R3_0, R3_1]) rfl ?_
    exact ⟨rfl, (HB3.setCell (by simp <;> omega) _).setCell (by simp <;> omega) _⟩
  · obtain rfl : m = st := by have := HM.out; rw [if_neg (by omega)] at this; exact this
    go_enter Tryd.func32, Tryd.ntmps32
    go_wp2_with (first
      | (go_at_call 26; refine (HST.out _).mono ?_; rintro e w1 ⟨rfl, hb1⟩; have HB1 : Below w.heap.size w w1 := ((((Below.refl _ _).alloc (Nat.le_refl _) _).alloc (by simp <;> omega) _).alloc (by simp <;> omega) _).trans (hb1.mono (by simp <;> omega)); have hF1 : w1.heap[w.heap.size]? = some (.cells #[.int .i64 k, .int .i64 s, .int .i64 p, .int .i64 o] 29 (0, 0)) := (hb1.block _ (by simp <;> omega)).trans (heap_alloc_some (heap_alloc_some (heap_new_at rfl))); have HF1 := Lib.hid hF1; have lF1 := cell_lt hF1; obtain ⟨F1_0, F1_1, F1_2, F1_3⟩ := box4 hF1; clear hF1; have hV1 : w1.heap[w.heap.size+1]? = some (.cells #[.int .i64 a, .int .i64 b] 43 (0, 0)) := (hb1.block _ (by simp <;> omega)).trans (heap_alloc_some (heap_new_at (by simp <;> omega))); have HV1 := Lib.hid hV1; have lV1 := cell_lt hV1; have V1_0 := cell2_0 hV1; have V1_1 := cell2_1 hV1; clear hV1; have hR1 : w1.heap[w.heap.size+2]? = some (.cells #[.int .i64 0, .int .i64 0] 43 (0, 0)) := (hb1.block _ (by simp <;> omega)).trans (heap_new_at (by simp <;> omega)); have HR1 := Lib.hid hR1; have lR1 := cell_lt hR1; have R1_0 := cell2_0 hR1; have R1_1 := cell2_1 hR1; clear hR1; clear hb1))
    refine (HH _).out.mono ?_
    rintro e w3 ⟨⟨v, rfl, hv⟩, hb3⟩
    obtain ⟨av, cv, rfl, hlc, hA⟩ := hv
    obtain ⟨bb, oo, rfl, hv1, hv2, hcells⟩ := hA (by omega)
    obtain ⟨n', hn⟩ : ∃ n', l.length = n' + 1 := ⟨l.length - 1, by omega⟩
    obtain ⟨c0, c1⟩ := hcells _ _ HX.out
    rw [hn, Nat.add_sub_cancel] at c0 c1
    rw [hn] at hlc hl1 hl2 ⊢
    have hn9 : n' < n' + 1 := by omega
    have HB3 := HB1.trans (hb3.mono HB1.size); have hF3 := (hb3.block _ (cell_lt HF1.out)).trans HF1.out; have HF3 := Lib.hid hF3; have lF3 := cell_lt hF3; obtain ⟨F3_0, F3_1, F3_2, F3_3⟩ := box4 hF3; clear hF3; have hV3 := (hb3.block _ (cell_lt HV1.out)).trans HV1.out; have HV3 := Lib.hid hV3; have lV3 := cell_lt hV3; have V3_0 := cell2_0 hV3; have V3_1 := cell2_1 hV3; clear hV3; have hR3 := (hb3.block _ (cell_lt HR1.out)).trans HR1.out; have HR3 := Lib.hid hR3; have lR3 := cell_lt hR3; have R3_0 := cell2_0 hR3; have R3_1 := cell2_1 hR3; have fR3_0 := cells_f hR3 0; have fR3_1 := cells_f hR3 1; clear hR3
    clear hn hcells hA hb3
    go_wp2_with (fail)
    refine bodyPost_ret (v := .agg #[.int .i64 x.1, .int .i64 x.2]) (by simp [results, Tryd.results32, go_sem, R3_0, R3_1]) rfl ?_
    exact ⟨rfl, (HB3.setCell (by simp <;> omega) _).setCell (by simp <;> omega) _⟩

end Go.Proofs.YtofollamkcgknaaDoor
