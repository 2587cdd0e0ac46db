/-
awake: Has, Encode of the text 'a'.
-/
import Derived.Test.YtbafplnolmdlnaaDoorApv
import Derived.Test.YtbafplnolmdlnaaDoorAwk
namespace Go.Proofs.YtbafplnolmdlnaaDoor
open Go.RowKit

theorem measure_ta : measureT 6 (.mk 3 []) = some 1 := by kernel_rfl
theorem ty_ta (w : World) (S : Nat → Prop) : TyAt w S 1 (.agg #[.int .i64 3, .slice none 0 0]) (.mk 3 []) := ⟨none, 0, rfl, Nat.le_refl _, fun h => absurd h (by simp [Ty.args])⟩
theorem check_ta (w : World) (hG : Glob w) : Calls Tryd.prog 17 #[.agg #[.int .i64 3, .slice none 0 0]] w fun e w' => e = .returned (.int .i64 0) ∧ Below w.heap.size w w' := by
  refine (check_any 1 (fun _ => True) _ (.mk 3 []) w (ty_ta w _) hG).mono ?_
  rw [measure_ta]
  rintro e w' ⟨he, hb⟩
  exact ⟨he, hb⟩

set_option maxRecDepth 100000 in
set_option maxHeartbeats 1000000 in
theorem has_a (b : Nat) (t : TypeId) (w : World) (hG : Glob w) (h : w.heap[b]? = some (.cells #[.int .i64 3, .int .i64 0, .string ⟨#[97]⟩, .complex .f64 0 0, .slice none 0 0] t (0, 0))) :
    Calls Tryd.prog 26 #[.agg #[.int .i64 3, .slice none 0 0], .slice (some ⟨b, 0, none⟩) 1 1] w fun e w' => e = .returned (.bool true) ∧ Below w.heap.size w w' := by
  have hGl := hG.lt
  have hbl := cell_lt h
  have HH := Lib.hid h
  have HG := Lib.hid hG
  have hba := (Below.refl w.heap.size w).alloc (Nat.le_refl _) (.cells #[.int .i64 3, .slice none 0 0] 38)
  clear h hG
  go_enter Tryd.func26, Tryd.ntmps26
  go_wp2_with (fail)
  refine (check_ta _ (HG.out.kept (hba.block 0 hGl))).mono ?_
  rintro e w1 ⟨rfl, hb1⟩
  have hB1 := hba.trans (hb1.mono (by simp))
  have hs1 := hB1.size
  have hy := (hB1.block b hbl).trans HH.out
  have d0 := cell5_0 hy
  have d1 := cell5_1 hy
  have d2 := cell5_2 hy
  have d3 := cell5_3 hy
  have d4 := cell5_4 hy
  have hn := (hb1.block w.heap.size (by simp)).trans (heap_alloc_new w (.cells #[.int .i64 3, .slice none 0 0] 38))
  have t0 := cell2_0 hn
  have t1 := cell2_1 hn
  have hnl := cell_lt hn
  have HN := Lib.hid hn
  clear hy hn
  go_wp2_with (fail)
  refine wp_loop_rounds 3 ?_
  rw [rounds_succ]
  go_wp2_with (fail)
  refine (vcheck_a _).mono ?_
  rintro e w2 ⟨rfl, hb2⟩
  have hb2' := (Below.refl w1.heap.size w1).alloc (Nat.le_refl _) (.cells #[.int .i64 3, .int .i64 0, .string ⟨#[97]⟩, .complex .f64 0 0, .slice none 0 0] 32)
  have hB2 := hb2'.trans (hb2.mono (by simp))
  have hn1 := (hb2.block w1.heap.size (by simp)).trans (heap_alloc_new w1 (.cells #[.int .i64 3, .int .i64 0, .string ⟨#[97]⟩, .complex .f64 0 0, .slice none 0 0] 32))
  have hn2 := (hB2.block w.heap.size hnl).trans HN.out
  clear d0 d1 d2 d3 d4 t0 t1
  have d0 := cell5_0 hn1
  have d1 := cell5_1 hn1
  have d2 := cell5_2 hn1
  have d3 := cell5_3 hn1
  have d4 := cell5_4 hn1
  have t0 := cell2_0 hn2
  have t1 := cell2_1 hn2
  have hl1 := cell_lt hn1
  have hl2 := cell_lt hn2
  clear hn1 hn2
  go_wp2_with (fail)
  refine (isOf_a _).mono ?_
  rintro e w3 ⟨rfl, hb3⟩
  go_wp2_with (fail)
  rw [rounds_succ]
  go_wp2_with (fail)
  go_ret
  exact ⟨rfl, (hB1.trans (hB2.mono hs1)).trans (hb3.mono (by have := hB2.size; omega))⟩

set_option maxRecDepth 100000 in
set_option maxHeartbeats 1000000 in
theorem encode_a (b : Nat) (t : TypeId) (w : World) (hG : Glob w) (h : w.heap[b]? = some (.cells #[.int .i64 3, .int .i64 0, .string ⟨#[97]⟩, .complex .f64 0 0, .slice none 0 0] t (0, 0))) :
    Calls Tryd.prog 16 #[.agg #[.int .i64 3, .slice none 0 0], .slice (some ⟨b, 0, none⟩) 1 1] w fun e w' => (∃ A c, e = .returned (.tuple #[.slice A 3 c, .int .i64 0]) ∧ w'.ownsRow w.heap.size 5 1 (.slice A 3 c) 3 (bcl [97, 0, 0])) ∧ Below w.heap.size w w' := by
  have hGl := hG.lt
  have hbl := cell_lt h
  have HH := Lib.hid h
  have HG := Lib.hid hG
  have hba := (Below.refl w.heap.size w).alloc (Nat.le_refl _) (.cells #[.int .i64 3, .slice none 0 0] 38)
  clear h hG
  go_enter Tryd.func16, Tryd.ntmps16
  go_wp2_with (fail)
  refine (check_ta _ (HG.out.kept (hba.block 0 hGl))).mono ?_
  rintro e w1 ⟨rfl, hb1⟩
  have hB1 := hba.trans (hb1.mono (by simp))
  have hs1 := hB1.size
  have hn := (hb1.block w.heap.size (by simp)).trans (heap_alloc_new w (.cells #[.int .i64 3, .slice none 0 0] 38))
  have t0 := cell2_0 hn
  have t1 := cell2_1 hn
  have hnl := cell_lt hn
  clear hn
  have H1 := Lib.hid ((hB1.block b hbl).trans HH.out)
  go_wp2_with (fail)
  refine (has_a b t _ (HG.out.kept (hB1.block 0 hGl)) H1.out).mono ?_
  rintro e w2 ⟨rfl, hb2⟩
  have hB2 := hB1.trans (hb2.mono hs1)
  have hs2 := hB2.size
  have hy := (hB2.block b hbl).trans HH.out
  have d0 := cell5_0 hy
  have d1 := cell5_1 hy
  have d2 := cell5_2 hy
  have d3 := cell5_3 hy
  have d4 := cell5_4 hy
  have hbl2 := cell_lt hy
  clear hy t0 t1
  go_wp2_with (fail)
  refine wp_loop_rounds 3 ?_
  rw [rounds_succ]
  go_wp2_with (fail)
  refine (appendValue_a _).mono ?_
  rintro e w3 ⟨⟨A', c', rfl, ho⟩, hb3⟩
  have HO := Lib.hid ho
  have hb2' := (Below.refl w2.heap.size w2).alloc (Nat.le_refl _) (.cells #[.int .i64 3, .int .i64 0, .string ⟨#[97]⟩, .complex .f64 0 0, .slice none 0 0] 32)
  have hB3 := hB2.trans ((hb2'.trans (hb3.mono (by simp))).mono hs2)
  clear ho
  go_wp2_with (fail)
  rw [rounds_succ]
  go_wp2_with (fail)
  go_ret2
  exact ⟨⟨A', c', rfl, Joins.ownsRow_le HO.out (by simp; omega)⟩, hB3⟩

set_option maxRecDepth 100000 in
set_option maxHeartbeats 1000000 in
theorem awake_any (w : World) (hG : Glob w) : Calls Tryd.prog 5 #[] w fun e w' => e = .returned (.bool true) ∧ Below w.heap.size w w' := by
  have hGl := hG.lt
  have HG := Lib.hid hG
  clear hG
  go_enter Tryd.func5, Tryd.ntmps5
  go_wp2_with (fail)
  refine (encode_a w.heap.size _ _ (HG.out.kept (Below.heap_alloc w _ 0 hGl)) (heap_alloc_new w _)).mono ?_
  rintro e w1 ⟨⟨A, c, rfl, ho⟩, hb1⟩
  have hcv := string_run (w := w1) (acc := [97, 0, 0]) ho (fun _ _ => rfl)
  clear ho
  go_wp2_with (fail)
  go_ret
  exact ⟨rfl, ((Below.refl _ w).alloc (Nat.le_refl _) _).trans (hb1.mono (by simp))⟩
end Go.Proofs.YtbafplnolmdlnaaDoor
