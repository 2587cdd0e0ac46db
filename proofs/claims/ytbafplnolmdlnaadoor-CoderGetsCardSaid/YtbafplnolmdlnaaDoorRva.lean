/-
readValue: bools, ints, texts, points.
-/
import Derived.Test.YtbafplnolmdlnaaDoorRdk
namespace Go.Proofs.YtbafplnolmdlnaaDoor
open Go.RowKit

abbrev zc (k : Int) : Array Value := #[.int .i64 k, .int .i64 0, .string ⟨#[]⟩, .complex .f64 0 0, .slice none 0 0]

set_option maxRecDepth 100000 in
set_option maxHeartbeats 2000000 in
theorem val_bool (r R : Nat) (A : Option Addr) (c : Nat) (l : List UInt8) (m sz : Nat) (A0 : Option Addr) (n0 c0 : Nat) (w : World) (h : Rdr w R A c l m sz) (hsz : sz ≤ 2000) :
    Calls Tryd.prog 19 #[.pointer (some ⟨R, 0, none⟩), .agg #[.int .i64 1, .slice A0 n0 c0]] w fun e w' => ROut R A c l (fun w' S v V => VAt w' S (r + 1) v V) JunkV w e w' (leafV boolV sz (numL l 1 0 m 1)) := by
  have hRl := h.lt
  have HR := Lib.hid h
  have hb2 := ((Below.refl w.heap.size w).alloc (Nat.le_refl _) (.cells #[.int .i64 1, .slice A0 n0 c0] 38)).alloc (by simp) (.cells #[.int .i64 1, .int .i64 0, .string ⟨#[]⟩, .complex .f64 0 0, .slice none 0 0] 32)
  have hx1 : ((w.alloc (.cells #[.int .i64 1, .slice A0 n0 c0] 38)).alloc (.cells #[.int .i64 1, .int .i64 0, .string ⟨#[]⟩, .complex .f64 0 0, .slice none 0 0] 32)).heap[w.heap.size + 1]? = some (.cells #[.int .i64 1, .int .i64 0, .string ⟨#[]⟩, .complex .f64 0 0, .slice none 0 0] 32 (0, 0)) := heap_new_at (by simp)
  have HX1 := Lib.hid hx1
  clear h hx1
  go_enter Tryd.func19, Tryd.ntmps19
  go_wp2_with (fail)
  obtain ⟨w0, hw0⟩ : ∃ w0, w0 = (w.alloc (.cells #[.int .i64 1, .slice A0 n0 c0] 38)).alloc (.cells #[.int .i64 1, .int .i64 0, .string ⟨#[]⟩, .complex .f64 0 0, .slice none 0 0] 32) := ⟨_, rfl⟩
  have hsz0 : w0.heap.size = w.heap.size + 2 := by rw [hw0]; simp
  rw [← hw0] at hb2 HX1
  rw [← hw0]
  clear hw0
  refine (bool_any R A c l m sz w0 (HR.out.below hb2)).mono ?_
  cases hg : numL l 1 0 m 1 with
  | mk m' o =>
  cases o with
  | none =>
    have HF : Hid (leafV boolV sz (numL l 1 0 m 1) = (m', none)) := by show _ = _; rw [hg]; rfl
    clear hg
    rintro e w2 ⟨⟨v, ⟨i, rfl⟩, rfl⟩, ho, hr⟩
    have HR2 := Lib.hid hr
    have hs2 := ho.size
    have hy := (ho.block (w.heap.size + 1) (by omega) (by simp; omega)).trans HX1.out
    have d0 := cell5_0 hy
    have d1 := cell5_1 hy
    have d2 := cell5_2 hy
    have d3 := cell5_3 hy
    have d4 := cell5_4 hy
    have f0 := cell3_f hy 0
    have f1 := cell3_f hy 1
    have f2 := cell3_f hy 2
    have f3 := cell3_f hy 3
    have f4 := cell3_f hy 4
    have hl := cell_lt hy
    have hrl := hr.le
    clear hr hy
    go_wp2_with (fail)
    refine bodyPost_ret (v := .tuple #[.agg #[.int .i64 1, .int .i64 i, .string ⟨#[]⟩, .complex .f64 0 0, .slice none 0 0], .bool false]) (by simp [results, Tryd.results19, go_sem, d0, d1, d2, d3, d4]) rfl ?_
    rw [HF.out]
    have hOO := (Only.of_below hb2).trans ho
    have hBX := HR2.out.box
    refine out_bad (sz' := sz) ⟨_, _, _, _, _, _, _, _, rfl⟩ ?_ (fun hO => HR.out.moved hO ?_ hrl)
    · (repeat' (first | with_reducible assumption | with_reducible refine Only.more ?_ | with_reducible refine Only.far ?_ ?_ | (show w.heap.size ≤ w.heap.size + 1; omega)))
    · (repeat' (first | with_reducible assumption | with_reducible refine heap_alloc_some ?_ | with_reducible refine heap_set_some ?_ ?_ | (show R ≠ w.heap.size + 1; omega)))
  | some n =>
    have HF : Hid (leafV boolV sz (numL l 1 0 m 1) = (m', some (boolV n, sz))) := by show _ = _; rw [hg]; rfl
    clear hg
    rintro e w2 ⟨⟨v, rfl, rfl⟩, ho, hr⟩
    have HR2 := Lib.hid hr
    have hs2 := ho.size
    have hy := (ho.block (w.heap.size + 1) (by omega) (by simp; omega)).trans HX1.out
    have d0 := cell5_0 hy
    have d1 := cell5_1 hy
    have d2 := cell5_2 hy
    have d3 := cell5_3 hy
    have d4 := cell5_4 hy
    have f0 := cell3_f hy 0
    have f1 := cell3_f hy 1
    have f2 := cell3_f hy 2
    have f3 := cell3_f hy 3
    have f4 := cell3_f hy 4
    have hl := cell_lt hy
    have hrl := hr.le
    clear hr hy
    go_wp2_with (fail)
    refine bodyPost_ret (v := .tuple #[.agg #[.int .i64 1, .int .i64 (n : Int), .string ⟨#[]⟩, .complex .f64 0 0, .slice none 0 0], .bool true]) (by simp [results, Tryd.results19, go_sem, d0, d1, d2, d3, d4]) rfl ?_
    rw [HF.out]
    have hOO := (Only.of_below hb2).trans ho
    have hBX := HR2.out.box
    refine out_good (VAt.of_leaf float_zero float_zero) ?_ (fun hO => HR.out.moved hO ?_ hrl) hsz
    · (repeat' (first | with_reducible assumption | with_reducible refine Only.more ?_ | with_reducible refine Only.far ?_ ?_ | (show w.heap.size ≤ w.heap.size + 1; omega)))
    · (repeat' (first | with_reducible assumption | with_reducible refine heap_alloc_some ?_ | with_reducible refine heap_set_some ?_ ?_ | (show R ≠ w.heap.size + 1; omega)))

set_option maxRecDepth 100000 in
set_option maxHeartbeats 2000000 in
theorem val_int (r R : Nat) (A : Option Addr) (c : Nat) (l : List UInt8) (m sz : Nat) (A0 : Option Addr) (n0 c0 : Nat) (w : World) (h : Rdr w R A c l m sz) (hsz : sz ≤ 2000) :
    Calls Tryd.prog 19 #[.pointer (some ⟨R, 0, none⟩), .agg #[.int .i64 2, .slice A0 n0 c0]] w fun e w' => ROut R A c l (fun w' S v V => VAt w' S (r + 1) v V) JunkV w e w' (leafV intV sz (numL l 8 0 m 255)) := by
  have hRl := h.lt
  have HR := Lib.hid h
  have hb2 := ((Below.refl w.heap.size w).alloc (Nat.le_refl _) (.cells #[.int .i64 2, .slice A0 n0 c0] 38)).alloc (by simp) (.cells #[.int .i64 2, .int .i64 0, .string ⟨#[]⟩, .complex .f64 0 0, .slice none 0 0] 32)
  have hx1 : ((w.alloc (.cells #[.int .i64 2, .slice A0 n0 c0] 38)).alloc (.cells #[.int .i64 2, .int .i64 0, .string ⟨#[]⟩, .complex .f64 0 0, .slice none 0 0] 32)).heap[w.heap.size + 1]? = some (.cells #[.int .i64 2, .int .i64 0, .string ⟨#[]⟩, .complex .f64 0 0, .slice none 0 0] 32 (0, 0)) := heap_new_at (by simp)
  have HX1 := Lib.hid hx1
  clear h hx1
  go_enter Tryd.func19, Tryd.ntmps19
  go_wp2_with (fail)
  obtain ⟨w0, hw0⟩ : ∃ w0, w0 = (w.alloc (.cells #[.int .i64 2, .slice A0 n0 c0] 38)).alloc (.cells #[.int .i64 2, .int .i64 0, .string ⟨#[]⟩, .complex .f64 0 0, .slice none 0 0] 32) := ⟨_, rfl⟩
  have hsz0 : w0.heap.size = w.heap.size + 2 := by rw [hw0]; simp
  rw [← hw0] at hb2 HX1
  rw [← hw0]
  clear hw0
  refine (int_any R A c l m sz w0 (HR.out.below hb2)).mono ?_
  cases hg : numL l 8 0 m 255 with
  | mk m' o =>
  cases o with
  | none =>
    have HF : Hid (leafV intV sz (numL l 8 0 m 255) = (m', none)) := by show _ = _; rw [hg]; rfl
    clear hg
    rintro e w2 ⟨⟨v, ⟨i, rfl⟩, rfl⟩, ho, hr⟩
    have HR2 := Lib.hid hr
    have hs2 := ho.size
    have hy := (ho.block (w.heap.size + 1) (by omega) (by simp; omega)).trans HX1.out
    have d0 := cell5_0 hy
    have d1 := cell5_1 hy
    have d2 := cell5_2 hy
    have d3 := cell5_3 hy
    have d4 := cell5_4 hy
    have f0 := cell3_f hy 0
    have f1 := cell3_f hy 1
    have f2 := cell3_f hy 2
    have f3 := cell3_f hy 3
    have f4 := cell3_f hy 4
    have hl := cell_lt hy
    have hrl := hr.le
    clear hr hy
    go_wp2_with (fail)
    refine bodyPost_ret (v := .tuple #[.agg #[.int .i64 2, .int .i64 i, .string ⟨#[]⟩, .complex .f64 0 0, .slice none 0 0], .bool false]) (by simp [results, Tryd.results19, go_sem, d0, d1, d2, d3, d4]) rfl ?_
    rw [HF.out]
    have hOO := (Only.of_below hb2).trans ho
    have hBX := HR2.out.box
    refine out_bad (sz' := sz) ⟨_, _, _, _, _, _, _, _, rfl⟩ ?_ (fun hO => HR.out.moved hO ?_ hrl)
    · (repeat' (first | with_reducible assumption | with_reducible refine Only.more ?_ | with_reducible refine Only.far ?_ ?_ | (show w.heap.size ≤ w.heap.size + 1; omega)))
    · (repeat' (first | with_reducible assumption | with_reducible refine heap_alloc_some ?_ | with_reducible refine heap_set_some ?_ ?_ | (show R ≠ w.heap.size + 1; omega)))
  | some n =>
    have HF : Hid (leafV intV sz (numL l 8 0 m 255) = (m', some (intV n, sz))) := by show _ = _; rw [hg]; rfl
    clear hg
    rintro e w2 ⟨⟨v, rfl, rfl⟩, ho, hr⟩
    have HR2 := Lib.hid hr
    have hs2 := ho.size
    have hy := (ho.block (w.heap.size + 1) (by omega) (by simp; omega)).trans HX1.out
    have d0 := cell5_0 hy
    have d1 := cell5_1 hy
    have d2 := cell5_2 hy
    have d3 := cell5_3 hy
    have d4 := cell5_4 hy
    have f0 := cell3_f hy 0
    have f1 := cell3_f hy 1
    have f2 := cell3_f hy 2
    have f3 := cell3_f hy 3
    have f4 := cell3_f hy 4
    have hl := cell_lt hy
    have hrl := hr.le
    clear hr hy
    go_wp2_with (fail)
    refine bodyPost_ret (v := .tuple #[.agg #[.int .i64 2, .int .i64 ((n : Int) - 9223372036854775808), .string ⟨#[]⟩, .complex .f64 0 0, .slice none 0 0], .bool true]) (by simp [results, Tryd.results19, go_sem, d0, d1, d2, d3, d4]) rfl ?_
    rw [HF.out]
    have hOO := (Only.of_below hb2).trans ho
    have hBX := HR2.out.box
    refine out_good (VAt.of_leaf float_zero float_zero) ?_ (fun hO => HR.out.moved hO ?_ hrl) hsz
    · (repeat' (first | with_reducible assumption | with_reducible refine Only.more ?_ | with_reducible refine Only.far ?_ ?_ | (show w.heap.size ≤ w.heap.size + 1; omega)))
    · (repeat' (first | with_reducible assumption | with_reducible refine heap_alloc_some ?_ | with_reducible refine heap_set_some ?_ ?_ | (show R ≠ w.heap.size + 1; omega)))

set_option maxRecDepth 100000 in
set_option maxHeartbeats 2000000 in
theorem val_text (r R : Nat) (A : Option Addr) (c : Nat) (l : List UInt8) (m sz : Nat) (A0 : Option Addr) (n0 c0 : Nat) (w : World) (h : Rdr w R A c l m sz) (hsz : sz ≤ 2000) :
    Calls Tryd.prog 19 #[.pointer (some ⟨R, 0, none⟩), .agg #[.int .i64 3, .slice A0 n0 c0]] w fun e w' => ROut R A c l (fun w' S v V => VAt w' S (r + 1) v V) JunkV w e w' (leafV (textV 3) sz (textL l (l.length + 1 - m) [] false m)) := by
  have hRl := h.lt
  have HR := Lib.hid h
  have hb2 := ((Below.refl w.heap.size w).alloc (Nat.le_refl _) (.cells #[.int .i64 3, .slice A0 n0 c0] 38)).alloc (by simp) (.cells #[.int .i64 3, .int .i64 0, .string ⟨#[]⟩, .complex .f64 0 0, .slice none 0 0] 32)
  have hx1 : ((w.alloc (.cells #[.int .i64 3, .slice A0 n0 c0] 38)).alloc (.cells #[.int .i64 3, .int .i64 0, .string ⟨#[]⟩, .complex .f64 0 0, .slice none 0 0] 32)).heap[w.heap.size + 1]? = some (.cells #[.int .i64 3, .int .i64 0, .string ⟨#[]⟩, .complex .f64 0 0, .slice none 0 0] 32 (0, 0)) := heap_new_at (by simp)
  have HX1 := Lib.hid hx1
  clear h hx1
  go_enter Tryd.func19, Tryd.ntmps19
  go_wp2_with (fail)
  obtain ⟨w0, hw0⟩ : ∃ w0, w0 = (w.alloc (.cells #[.int .i64 3, .slice A0 n0 c0] 38)).alloc (.cells #[.int .i64 3, .int .i64 0, .string ⟨#[]⟩, .complex .f64 0 0, .slice none 0 0] 32) := ⟨_, rfl⟩
  have hsz0 : w0.heap.size = w.heap.size + 2 := by rw [hw0]; simp
  rw [← hw0] at hb2 HX1
  rw [← hw0]
  clear hw0
  refine (text_any R A c l m sz w0 (HR.out.below hb2)).mono ?_
  cases hg : textL l (l.length + 1 - m) [] false m with
  | mk m' o =>
  cases o with
  | none =>
    have HF : Hid (leafV (textV 3) sz (textL l (l.length + 1 - m) [] false m) = (m', none)) := by show _ = _; rw [hg]; rfl
    clear hg
    rintro e w2 ⟨⟨v, ⟨s, rfl⟩, rfl⟩, ho, hr⟩
    have HR2 := Lib.hid hr
    have hs2 := ho.size
    have hy := (ho.block (w.heap.size + 1) (by omega) (by simp; omega)).trans HX1.out
    have d0 := cell5_0 hy
    have d1 := cell5_1 hy
    have d2 := cell5_2 hy
    have d3 := cell5_3 hy
    have d4 := cell5_4 hy
    have f0 := cell3_f hy 0
    have f1 := cell3_f hy 1
    have f2 := cell3_f hy 2
    have f3 := cell3_f hy 3
    have f4 := cell3_f hy 4
    have hl := cell_lt hy
    have hrl := hr.le
    clear hr hy
    go_wp2_with (fail)
    refine bodyPost_ret (v := .tuple #[.agg #[.int .i64 3, .int .i64 0, .string s, .complex .f64 0 0, .slice none 0 0], .bool false]) (by simp [results, Tryd.results19, go_sem, d0, d1, d2, d3, d4]) rfl ?_
    rw [HF.out]
    have hOO := (Only.of_below hb2).trans ho
    have hBX := HR2.out.box
    refine out_bad (sz' := sz) ⟨_, _, _, _, _, _, _, _, rfl⟩ ?_ (fun hO => HR.out.moved hO ?_ hrl)
    · (repeat' (first | with_reducible assumption | with_reducible refine Only.more ?_ | with_reducible refine Only.far ?_ ?_ | (show w.heap.size ≤ w.heap.size + 1; omega)))
    · (repeat' (first | with_reducible assumption | with_reducible refine heap_alloc_some ?_ | with_reducible refine heap_set_some ?_ ?_ | (show R ≠ w.heap.size + 1; omega)))
  | some n =>
    have HF : Hid (leafV (textV 3) sz (textL l (l.length + 1 - m) [] false m) = (m', some ((textV 3) n, sz))) := by show _ = _; rw [hg]; rfl
    clear hg
    rintro e w2 ⟨⟨v, rfl, rfl⟩, ho, hr⟩
    have HR2 := Lib.hid hr
    have hs2 := ho.size
    have hy := (ho.block (w.heap.size + 1) (by omega) (by simp; omega)).trans HX1.out
    have d0 := cell5_0 hy
    have d1 := cell5_1 hy
    have d2 := cell5_2 hy
    have d3 := cell5_3 hy
    have d4 := cell5_4 hy
    have f0 := cell3_f hy 0
    have f1 := cell3_f hy 1
    have f2 := cell3_f hy 2
    have f3 := cell3_f hy 3
    have f4 := cell3_f hy 4
    have hl := cell_lt hy
    have hrl := hr.le
    clear hr hy
    go_wp2_with (fail)
    refine bodyPost_ret (v := .tuple #[.agg #[.int .i64 3, .int .i64 0, .string ⟨n.toArray⟩, .complex .f64 0 0, .slice none 0 0], .bool true]) (by simp [results, Tryd.results19, go_sem, d0, d1, d2, d3, d4]) rfl ?_
    rw [HF.out]
    have hOO := (Only.of_below hb2).trans ho
    have hBX := HR2.out.box
    refine out_good (VAt.of_leaf float_zero float_zero) ?_ (fun hO => HR.out.moved hO ?_ hrl) hsz
    · (repeat' (first | with_reducible assumption | with_reducible refine Only.more ?_ | with_reducible refine Only.far ?_ ?_ | (show w.heap.size ≤ w.heap.size + 1; omega)))
    · (repeat' (first | with_reducible assumption | with_reducible refine heap_alloc_some ?_ | with_reducible refine heap_set_some ?_ ?_ | (show R ≠ w.heap.size + 1; omega)))

set_option maxRecDepth 100000 in
set_option maxHeartbeats 2000000 in
theorem val_bytes (r R : Nat) (A : Option Addr) (c : Nat) (l : List UInt8) (m sz : Nat) (A0 : Option Addr) (n0 c0 : Nat) (w : World) (h : Rdr w R A c l m sz) (hsz : sz ≤ 2000) :
    Calls Tryd.prog 19 #[.pointer (some ⟨R, 0, none⟩), .agg #[.int .i64 4, .slice A0 n0 c0]] w fun e w' => ROut R A c l (fun w' S v V => VAt w' S (r + 1) v V) JunkV w e w' (leafV (textV 4) sz (textL l (l.length + 1 - m) [] false m)) := by
  have hRl := h.lt
  have HR := Lib.hid h
  have hb2 := ((Below.refl w.heap.size w).alloc (Nat.le_refl _) (.cells #[.int .i64 4, .slice A0 n0 c0] 38)).alloc (by simp) (.cells #[.int .i64 4, .int .i64 0, .string ⟨#[]⟩, .complex .f64 0 0, .slice none 0 0] 32)
  have hx1 : ((w.alloc (.cells #[.int .i64 4, .slice A0 n0 c0] 38)).alloc (.cells #[.int .i64 4, .int .i64 0, .string ⟨#[]⟩, .complex .f64 0 0, .slice none 0 0] 32)).heap[w.heap.size + 1]? = some (.cells #[.int .i64 4, .int .i64 0, .string ⟨#[]⟩, .complex .f64 0 0, .slice none 0 0] 32 (0, 0)) := heap_new_at (by simp)
  have HX1 := Lib.hid hx1
  clear h hx1
  go_enter Tryd.func19, Tryd.ntmps19
  go_wp2_with (fail)
  obtain ⟨w0, hw0⟩ : ∃ w0, w0 = (w.alloc (.cells #[.int .i64 4, .slice A0 n0 c0] 38)).alloc (.cells #[.int .i64 4, .int .i64 0, .string ⟨#[]⟩, .complex .f64 0 0, .slice none 0 0] 32) := ⟨_, rfl⟩
  have hsz0 : w0.heap.size = w.heap.size + 2 := by rw [hw0]; simp
  rw [← hw0] at hb2 HX1
  rw [← hw0]
  clear hw0
  refine (text_any R A c l m sz w0 (HR.out.below hb2)).mono ?_
  cases hg : textL l (l.length + 1 - m) [] false m with
  | mk m' o =>
  cases o with
  | none =>
    have HF : Hid (leafV (textV 4) sz (textL l (l.length + 1 - m) [] false m) = (m', none)) := by show _ = _; rw [hg]; rfl
    clear hg
    rintro e w2 ⟨⟨v, ⟨s, rfl⟩, rfl⟩, ho, hr⟩
    have HR2 := Lib.hid hr
    have hs2 := ho.size
    have hy := (ho.block (w.heap.size + 1) (by omega) (by simp; omega)).trans HX1.out
    have d0 := cell5_0 hy
    have d1 := cell5_1 hy
    have d2 := cell5_2 hy
    have d3 := cell5_3 hy
    have d4 := cell5_4 hy
    have f0 := cell3_f hy 0
    have f1 := cell3_f hy 1
    have f2 := cell3_f hy 2
    have f3 := cell3_f hy 3
    have f4 := cell3_f hy 4
    have hl := cell_lt hy
    have hrl := hr.le
    clear hr hy
    go_wp2_with (fail)
    refine bodyPost_ret (v := .tuple #[.agg #[.int .i64 4, .int .i64 0, .string s, .complex .f64 0 0, .slice none 0 0], .bool false]) (by simp [results, Tryd.results19, go_sem, d0, d1, d2, d3, d4]) rfl ?_
    rw [HF.out]
    have hOO := (Only.of_below hb2).trans ho
    have hBX := HR2.out.box
    refine out_bad (sz' := sz) ⟨_, _, _, _, _, _, _, _, rfl⟩ ?_ (fun hO => HR.out.moved hO ?_ hrl)
    · (repeat' (first | with_reducible assumption | with_reducible refine Only.more ?_ | with_reducible refine Only.far ?_ ?_ | (show w.heap.size ≤ w.heap.size + 1; omega)))
    · (repeat' (first | with_reducible assumption | with_reducible refine heap_alloc_some ?_ | with_reducible refine heap_set_some ?_ ?_ | (show R ≠ w.heap.size + 1; omega)))
  | some n =>
    have HF : Hid (leafV (textV 4) sz (textL l (l.length + 1 - m) [] false m) = (m', some ((textV 4) n, sz))) := by show _ = _; rw [hg]; rfl
    clear hg
    rintro e w2 ⟨⟨v, rfl, rfl⟩, ho, hr⟩
    have HR2 := Lib.hid hr
    have hs2 := ho.size
    have hy := (ho.block (w.heap.size + 1) (by omega) (by simp; omega)).trans HX1.out
    have d0 := cell5_0 hy
    have d1 := cell5_1 hy
    have d2 := cell5_2 hy
    have d3 := cell5_3 hy
    have d4 := cell5_4 hy
    have f0 := cell3_f hy 0
    have f1 := cell3_f hy 1
    have f2 := cell3_f hy 2
    have f3 := cell3_f hy 3
    have f4 := cell3_f hy 4
    have hl := cell_lt hy
    have hrl := hr.le
    clear hr hy
    go_wp2_with (fail)
    refine bodyPost_ret (v := .tuple #[.agg #[.int .i64 4, .int .i64 0, .string ⟨n.toArray⟩, .complex .f64 0 0, .slice none 0 0], .bool true]) (by simp [results, Tryd.results19, go_sem, d0, d1, d2, d3, d4]) rfl ?_
    rw [HF.out]
    have hOO := (Only.of_below hb2).trans ho
    have hBX := HR2.out.box
    refine out_good (VAt.of_leaf float_zero float_zero) ?_ (fun hO => HR.out.moved hO ?_ hrl) hsz
    · (repeat' (first | with_reducible assumption | with_reducible refine Only.more ?_ | with_reducible refine Only.far ?_ ?_ | (show w.heap.size ≤ w.heap.size + 1; omega)))
    · (repeat' (first | with_reducible assumption | with_reducible refine heap_alloc_some ?_ | with_reducible refine heap_set_some ?_ ?_ | (show R ≠ w.heap.size + 1; omega)))

set_option maxRecDepth 100000 in
set_option maxHeartbeats 2000000 in
theorem val_point (r R : Nat) (A : Option Addr) (c : Nat) (l : List UInt8) (m sz : Nat) (A0 : Option Addr) (n0 c0 : Nat) (w : World) (h : Rdr w R A c l m sz) (hsz : sz ≤ 2000) :
    Calls Tryd.prog 19 #[.pointer (some ⟨R, 0, none⟩), .agg #[.int .i64 5, .slice A0 n0 c0]] w fun e w' => ROut R A c l (fun w' S v V => VAt w' S (r + 1) v V) JunkV w e w' (leafV pointV sz (pointL l m)) := by
  have hRl := h.lt
  have HR := Lib.hid h
  have hb2 := ((Below.refl w.heap.size w).alloc (Nat.le_refl _) (.cells #[.int .i64 5, .slice A0 n0 c0] 38)).alloc (by simp) (.cells #[.int .i64 5, .int .i64 0, .string ⟨#[]⟩, .complex .f64 0 0, .slice none 0 0] 32)
  have hx1 : ((w.alloc (.cells #[.int .i64 5, .slice A0 n0 c0] 38)).alloc (.cells #[.int .i64 5, .int .i64 0, .string ⟨#[]⟩, .complex .f64 0 0, .slice none 0 0] 32)).heap[w.heap.size + 1]? = some (.cells #[.int .i64 5, .int .i64 0, .string ⟨#[]⟩, .complex .f64 0 0, .slice none 0 0] 32 (0, 0)) := heap_new_at (by simp)
  have HX1 := Lib.hid hx1
  clear h hx1
  go_enter Tryd.func19, Tryd.ntmps19
  go_wp2_with (fail)
  obtain ⟨w0, hw0⟩ : ∃ w0, w0 = (w.alloc (.cells #[.int .i64 5, .slice A0 n0 c0] 38)).alloc (.cells #[.int .i64 5, .int .i64 0, .string ⟨#[]⟩, .complex .f64 0 0, .slice none 0 0] 32) := ⟨_, rfl⟩
  have hsz0 : w0.heap.size = w.heap.size + 2 := by rw [hw0]; simp
  rw [← hw0] at hb2 HX1
  rw [← hw0]
  clear hw0
  refine (point_any R A c l m sz w0 (HR.out.below hb2)).mono ?_
  cases hg : pointL l m with
  | mk m' o =>
  cases o with
  | none =>
    have HF : Hid (leafV pointV sz (pointL l m) = (m', none)) := by show _ = _; rw [hg]; rfl
    clear hg
    rintro e w2 ⟨⟨v, ⟨x, y, rfl⟩, rfl⟩, ho, hr⟩
    have HR2 := Lib.hid hr
    have hs2 := ho.size
    have hy := (ho.block (w.heap.size + 1) (by omega) (by simp; omega)).trans HX1.out
    have d0 := cell5_0 hy
    have d1 := cell5_1 hy
    have d2 := cell5_2 hy
    have d3 := cell5_3 hy
    have d4 := cell5_4 hy
    have f0 := cell3_f hy 0
    have f1 := cell3_f hy 1
    have f2 := cell3_f hy 2
    have f3 := cell3_f hy 3
    have f4 := cell3_f hy 4
    have hl := cell_lt hy
    have hrl := hr.le
    clear hr hy
    go_wp2_with (fail)
    refine bodyPost_ret (v := .tuple #[.agg #[.int .i64 5, .int .i64 0, .string ⟨#[]⟩, .complex .f64 x y, .slice none 0 0], .bool false]) (by simp [results, Tryd.results19, go_sem, d0, d1, d2, d3, d4]) rfl ?_
    rw [HF.out]
    have hOO := (Only.of_below hb2).trans ho
    have hBX := HR2.out.box
    refine out_bad (sz' := sz) ⟨_, _, _, _, _, _, _, _, rfl⟩ ?_ (fun hO => HR.out.moved hO ?_ hrl)
    · (repeat' (first | with_reducible assumption | with_reducible refine Only.more ?_ | with_reducible refine Only.far ?_ ?_ | (show w.heap.size ≤ w.heap.size + 1; omega)))
    · (repeat' (first | with_reducible assumption | with_reducible refine heap_alloc_some ?_ | with_reducible refine heap_set_some ?_ ?_ | (show R ≠ w.heap.size + 1; omega)))
  | some n =>
    have HF : Hid (leafV pointV sz (pointL l m) = (m', some (pointV n, sz))) := by show _ = _; rw [hg]; rfl
    clear hg
    rintro e w2 ⟨⟨v, ⟨x, y, rfl, hx, hyy⟩, rfl⟩, ho, hr⟩
    have HXX := Lib.hid hx
    have HYY := Lib.hid hyy
    clear hx hyy
    have HR2 := Lib.hid hr
    have hs2 := ho.size
    have hy := (ho.block (w.heap.size + 1) (by omega) (by simp; omega)).trans HX1.out
    have d0 := cell5_0 hy
    have d1 := cell5_1 hy
    have d2 := cell5_2 hy
    have d3 := cell5_3 hy
    have d4 := cell5_4 hy
    have f0 := cell3_f hy 0
    have f1 := cell3_f hy 1
    have f2 := cell3_f hy 2
    have f3 := cell3_f hy 3
    have f4 := cell3_f hy 4
    have hl := cell_lt hy
    have hrl := hr.le
    clear hr hy
    go_wp2_with (fail)
    refine bodyPost_ret (v := .tuple #[.agg #[.int .i64 5, .int .i64 0, .string ⟨#[]⟩, .complex .f64 x y, .slice none 0 0], .bool true]) (by simp [results, Tryd.results19, go_sem, d0, d1, d2, d3, d4]) rfl ?_
    rw [HF.out]
    have hOO := (Only.of_below hb2).trans ho
    have hBX := HR2.out.box
    refine out_good (VAt.of_leaf HXX.out HYY.out) ?_ (fun hO => HR.out.moved hO ?_ hrl) hsz
    · (repeat' (first | with_reducible assumption | with_reducible refine Only.more ?_ | with_reducible refine Only.far ?_ ?_ | (show w.heap.size ≤ w.heap.size + 1; omega)))
    · (repeat' (first | with_reducible assumption | with_reducible refine heap_alloc_some ?_ | with_reducible refine heap_set_some ?_ ?_ | (show R ≠ w.heap.size + 1; omega)))
end Go.Proofs.YtbafplnolmdlnaaDoor
