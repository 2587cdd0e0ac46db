/-
Zero of package kind; the least value may be held against itself.
-/
import Derived.Test.YtdoadedglpjldaaDoorZro
import Derived.Test.YtdoadedglpjldaaDoorCmp
namespace Go.Proofs.YtdoadedglpjldaaDoor
open Go.RowKit

/-- What Zero answers with. -/
def ZeOut (w w' : World) (t : Ty) (e : Ending) : Option Nat → Prop
  | none => e = .returned (.tuple #[.agg #[.int .i64 0, .int .i64 0, .string ⟨#[]⟩, .complex .f64 0 0, .slice none 0 0], .int .i64 20])
  | some _ => ∃ A c, e = .returned (.tuple #[.agg #[.int .i64 (zeroV 6 t).kind, .int .i64 (zeroV 6 t).int, .string (zeroV 6 t).text, .complex .f64 (zeroV 6 t).re (zeroV 6 t).im, .slice A (zeroV 6 t).list.length c], .int .i64 0]) ∧
      VAt w' (fun b => w.heap.size ≤ b) 6 (.agg #[.int .i64 (zeroV 6 t).kind, .int .i64 (zeroV 6 t).int, .string (zeroV 6 t).text, .complex .f64 (zeroV 6 t).re (zeroV 6 t).im, .slice A (zeroV 6 t).list.length c]) (zeroV 6 t)

theorem float_zero : floatToIntVal .f64 0 .i64 = some 0 := by kernel_rfl

theorem zero_cmp : ∀ (r : Nat) (t : Ty) (q : Nat), measureT r t = some q → CmpOk r (zeroV r t)
  | 0, t, q, h => by simp [measureT] at h
  | r + 1, t, q, h => by
    obtain ⟨x, _, hxa, hxw, hall⟩ := measure_right h
    have hx2 := words_args x hxw
    unfold zeroV
    split
    · refine ⟨fun _ => ⟨0, 0, float_zero, float_zero⟩, by show (0 : Nat) ≤ _; omega, by show (t.args.map (zeroV r)).length ≤ _; rw [List.length_map]; omega, fun y hy => ?_⟩
      obtain ⟨a, ha, rfl⟩ := List.mem_map.1 (show y ∈ t.args.map (zeroV r) from hy)
      obtain ⟨q', hq⟩ := hall a ha
      exact zero_cmp r a q' hq
    · split
      · exact ⟨fun _ => ⟨0, 0, float_zero, float_zero⟩, by show (0 : Nat) ≤ _; omega, by show (0 : Nat) ≤ _; omega, fun y hy => by cases hy⟩
      · exact ⟨fun _ => ⟨0, 0, float_zero, float_zero⟩, by show (0 : Nat) ≤ _; omega, by show (0 : Nat) ≤ _; omega, fun y hy => by cases hy⟩

set_option maxRecDepth 100000 in
set_option maxHeartbeats 1000000 in
theorem kzero_any (d : Nat) (S : Nat → Prop) (v : Value) (t : Ty) (w : World) (hT : TyAt w S d v t) (hG : Glob w) :
    Calls Tryd.prog 14 #[v] w fun e w' => ZeOut w w' t e (measureT 6 t) ∧ Below w.heap.size w w' := by
  have hGl := hG.lt
  have HT := Lib.hid hT
  obtain ⟨A, c, rfl⟩ := hT.form
  have hb2 := ((Below.refl w.heap.size w).alloc (Nat.le_refl _) (.cells #[.int .i64 t.kind, .slice A t.args.length c] 24)).alloc (by simp) (.cells #[.int .i64 0, .int .i64 0, .string ⟨#[]⟩, .complex .f64 0 0, .slice none 0 0] 40)
  have hx0 := (Below.heap_alloc (w.alloc (.cells #[.int .i64 t.kind, .slice A t.args.length c] 24)) (.cells #[.int .i64 0, .int .i64 0, .string ⟨#[]⟩, .complex .f64 0 0, .slice none 0 0] 40) w.heap.size (by simp)).trans (heap_alloc_new w _)
  have hx1 : ((w.alloc (.cells #[.int .i64 t.kind, .slice A t.args.length c] 24)).alloc (.cells #[.int .i64 0, .int .i64 0, .string ⟨#[]⟩, .complex .f64 0 0, .slice none 0 0] 40)).heap[w.heap.size + 1]? = some (.cells #[.int .i64 0, .int .i64 0, .string ⟨#[]⟩, .complex .f64 0 0, .slice none 0 0] 40 (0, 0)) := by simpa using heap_alloc_new (w.alloc (.cells #[.int .i64 t.kind, .slice A t.args.length c] 24)) (.cells #[.int .i64 0, .int .i64 0, .string ⟨#[]⟩, .complex .f64 0 0, .slice none 0 0] 40)
  have hz2 : w.heap.size + 2 ≤ ((w.alloc (.cells #[.int .i64 t.kind, .slice A t.args.length c] 24)).alloc (.cells #[.int .i64 0, .int .i64 0, .string ⟨#[]⟩, .complex .f64 0 0, .slice none 0 0] 40)).heap.size := by simp
  clear hT
  go_enter Tryd.func14, Tryd.ntmps14
  go_wp2_with (fail)
  refine (check_any d S _ t _ (HT.out.below hb2) (hG.kept (hb2.block 0 hGl))).mono ?_
  rintro e w3 ⟨he, hb3⟩
  have HB3 := hb2.trans (hb3.mono hb2.size)
  have HT3 := Lib.hid ((HT.out.below hb2).below hb3)
  have hy0 := (hb3.block w.heap.size (by omega)).trans hx0
  have hy1 := (hb3.block (w.heap.size + 1) (by omega)).trans hx1
  have c0 := cell2_0 hy0
  have c1 := cell2_1 hy0
  have d0 := cell5_0 hy1
  have d1 := cell5_1 hy1
  have d2 := cell5_2 hy1
  have d3 := cell5_3 hy1
  have d4 := cell5_4 hy1
  have f0 := cell3_f hy1 0
  have f1 := cell3_f hy1 1
  have f2 := cell3_f hy1 2
  have f3 := cell3_f hy1 3
  have f4 := cell3_f hy1 4
  have hl3 := cell_lt hy1
  have hs3 := hb3.size
  have HY0 := Lib.hid hy0
  have HY1 := Lib.hid hy1
  clear hx0 hx1 hy0 hy1
  cases hm : measureT 6 t with
  | none =>
    rw [hm] at he
    obtain rfl : e = .returned (.int .i64 20) := he
    have HM := Lib.hid hm
    clear hm
    go_wp2_with (fail)
    refine bodyPost_ret (v := .tuple #[.agg #[.int .i64 0, .int .i64 0, .string ⟨#[]⟩, .complex .f64 0 0, .slice none 0 0], .int .i64 20]) (by simp [results, Tryd.results14, go_sem, d0, d1, d2, d3, d4]) rfl ?_
    rw [HM.out]
    refine ⟨rfl, ?_⟩
    first
      | exact HB3
      | exact ((((Below.setCell HB3 (p := ⟨w.heap.size + 1, 0, none⟩) (Nat.le_succ _) _).setCell (p := ⟨w.heap.size + 1, 1, none⟩) (Nat.le_succ _) _).setCell (p := ⟨w.heap.size + 1, 2, none⟩) (Nat.le_succ _) _).setCell (p := ⟨w.heap.size + 1, 3, none⟩) (Nat.le_succ _) _).setCell (p := ⟨w.heap.size + 1, 4, none⟩) (Nat.le_succ _) _
  | some q =>
    rw [hm] at he
    obtain rfl : e = .returned (.int .i64 0) := he
    have HM := Lib.hid hm
    clear hm
    go_wp2_with (fail)
    refine (zero_any 6 d q S _ t _ HM.out HT3.out).mono ?_
    rintro e w4 ⟨⟨v4, rfl, hv4⟩, hb4⟩
    obtain ⟨A4, c4, rfl⟩ := hv4.form
    have HV4 := Lib.hid hv4
    have HB4 := HB3.trans (hb4.mono HB3.size)
    have hs4 := hb4.size
    have hy1 := (hb4.block (w.heap.size + 1) hl3).trans HY1.out
    clear c0 c1 d0 d1 d2 d3 d4 f0 f1 f2 f3 f4 hv4
    have d0 := cell5_0 hy1
    have d1 := cell5_1 hy1
    have d2 := cell5_2 hy1
    have d3 := cell5_3 hy1
    have d4 := cell5_4 hy1
    have f0 := cell3_f hy1 0
    have f1 := cell3_f hy1 1
    have f2 := cell3_f hy1 2
    have f3 := cell3_f hy1 3
    have f4 := cell3_f hy1 4
    have hl4 := cell_lt hy1
    clear hy1
    go_wp2_with (fail)
    refine bodyPost_ret (v := .tuple #[.agg #[.int .i64 (zeroV 6 t).kind, .int .i64 (zeroV 6 t).int, .string (zeroV 6 t).text, .complex .f64 (zeroV 6 t).re (zeroV 6 t).im, .slice A4 (zeroV 6 t).list.length c4], .int .i64 0]) (by simp [results, Tryd.results14, go_sem, d0, d1, d2, d3, d4]) rfl ?_
    rw [HM.out]
    refine ⟨⟨A4, c4, rfl, HV4.out.move fun b hb hl => ⟨by have hb' : w3.heap.size ≤ b := hb; omega, fun _ => World.cell?_of_block ?_⟩⟩, ?_⟩
    · have hb' : w3.heap.size ≤ b := hb
      have hne : b ≠ w.heap.size + 1 := by omega
      rw [Below.heap_setCell _ _ _ _ hne, Below.heap_setCell _ _ _ _ hne, Below.heap_setCell _ _ _ _ hne, Below.heap_setCell _ _ _ _ hne, Below.heap_setCell _ _ _ _ hne]
    · exact ((((Below.setCell HB4 (p := ⟨w.heap.size + 1, 0, none⟩) (Nat.le_succ _) _).setCell (p := ⟨w.heap.size + 1, 1, none⟩) (Nat.le_succ _) _).setCell (p := ⟨w.heap.size + 1, 2, none⟩) (Nat.le_succ _) _).setCell (p := ⟨w.heap.size + 1, 3, none⟩) (Nat.le_succ _) _).setCell (p := ⟨w.heap.size + 1, 4, none⟩) (Nat.le_succ _) _
end Go.Proofs.YtdoadedglpjldaaDoor
