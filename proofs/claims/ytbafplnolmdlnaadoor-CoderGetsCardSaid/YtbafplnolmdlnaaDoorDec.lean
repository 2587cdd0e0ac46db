/-
Decode of package coder.
-/
import Derived.Test.YtbafplnolmdlnaaDoorNxt
namespace Go.Proofs.YtbafplnolmdlnaaDoor
open Go.RowKit

/-- What Decode answers with. -/
def DcOut (w : World) (l : List UInt8) (e : Ending) (w' : World) : Option (Nat × Option (Val × Nat)) → Prop
  | none => e = .returned (.tuple #[.agg #[.int .i64 0, .int .i64 0, .string ⟨#[]⟩, .complex .f64 0 0, .slice none 0 0], .int .i64 0, .int .i64 20])
  | some (m', none) => e = .returned (.tuple #[.agg #[.int .i64 0, .int .i64 0, .string ⟨#[]⟩, .complex .f64 0 0, .slice none 0 0], .int .i64 (m' : Int), .int .i64 (errA l m')])
  | some (m', some (V, _)) => if m' < l.length then e = .returned (.tuple #[.agg #[.int .i64 0, .int .i64 0, .string ⟨#[]⟩, .complex .f64 0 0, .slice none 0 0], .int .i64 (m' : Int), .int .i64 31])
      else ∃ v, VAt w' (fun b => w.heap.size ≤ b) 6 v V ∧ e = .returned (.tuple #[v, .int .i64 0, .int .i64 0])

theorem errA_ne (l : List UInt8) (m : Nat) : (errA l m != 0) = true := by unfold errA; split <;> decide
theorem set5_block' {w : World} {g b : Nat} {b0 b1 b2 b3 b4 : Value} (hne : b ≠ g) : (((((w.setCell ⟨g, 0, none⟩ b0).setCell ⟨g, 1, none⟩ b1).setCell ⟨g, 2, none⟩ b2).setCell ⟨g, 3, none⟩ b3).setCell ⟨g, 4, none⟩ b4).heap[b]? = w.heap[b]? := by
  rw [Below.heap_setCell _ _ _ _ hne, Below.heap_setCell _ _ _ _ hne, Below.heap_setCell _ _ _ _ hne, Below.heap_setCell _ _ _ _ hne, Below.heap_setCell _ _ _ _ hne]

set_option maxRecDepth 100000 in
set_option maxHeartbeats 2000000 in
theorem decode_any (d : Nat) (S : Nat → Prop) (v : Value) (t : Ty) (A : Option Addr) (c : Nat) (l : List UInt8) (w : World) (hT : TyAt w S d v t) (hG : Glob w) (hB : BAt w (fun _ => True) A l) (hlen : l.length ≤ 1000000) :
    Calls Tryd.prog 7 #[v, .slice A l.length c] w fun e w' => DcOut w l e w' (nextR t l) ∧ Below w.heap.size w w' := by
  have hGl := hG.lt
  have HT := Lib.hid hT
  have HB := Lib.hid hB
  obtain ⟨A0, c0, rfl⟩ := hT.form
  have hb2 := ((Below.refl w.heap.size w).alloc (Nat.le_refl _) (.cells #[.int .i64 t.kind, .slice A0 t.args.length c0] 38)).alloc (by simp) (.cells #[.int .i64 0, .int .i64 0, .string ⟨#[]⟩, .complex .f64 0 0, .slice none 0 0] 32)
  have hx1 : ((w.alloc (.cells #[.int .i64 t.kind, .slice A0 t.args.length c0] 38)).alloc (.cells #[.int .i64 0, .int .i64 0, .string ⟨#[]⟩, .complex .f64 0 0, .slice none 0 0] 32)).heap[w.heap.size + 1]? = some (.cells #[.int .i64 0, .int .i64 0, .string ⟨#[]⟩, .complex .f64 0 0, .slice none 0 0] 32 (0, 0)) := heap_new_at (by simp)
  have HX1 := Lib.hid hx1
  clear hT hB hx1
  go_enter Tryd.func7, Tryd.ntmps7
  go_wp2_with (fail)
  obtain ⟨w0, hw0⟩ : ∃ w0, w0 = (w.alloc (.cells #[.int .i64 t.kind, .slice A0 t.args.length c0] 38)).alloc (.cells #[.int .i64 0, .int .i64 0, .string ⟨#[]⟩, .complex .f64 0 0, .slice none 0 0] 32) := ⟨_, rfl⟩
  have hsz0 : w0.heap.size = w.heap.size + 2 := by rw [hw0]; simp
  rw [← hw0] at hb2 HX1
  rw [← hw0]
  clear hw0
  refine (next_any d S _ t A c l w0 (HT.out.below hb2) (hG.kept (hb2.block 0 hGl)) (HB.out.move fun b _ hl => ⟨trivial, fun _ => hb2.cell (p := ⟨b, _, none⟩) hl⟩) hlen).mono ?_
  cases hn : nextR t l with
  | none =>
    have HN := Lib.hid hn
    clear hn
    rintro e w2 ⟨he, hb3⟩
    obtain rfl : e = .returned (.tuple #[.agg #[.int .i64 0, .int .i64 0, .string ⟨#[]⟩, .complex .f64 0 0, .slice none 0 0], .int .i64 0, .int .i64 20]) := he
    have HB2 := hb2.trans (hb3.mono hb2.size)
    have hs2 := hb3.size
    have hy := (hb3.block (w.heap.size + 1) (by omega)).trans HX1.out
    have d0 := cell5_0 hy
    have d1 := cell5_1 hy
    have d2 := cell5_2 hy
    have d3 := cell5_3 hy
    have d4 := cell5_4 hy
    have f0 := cell3_f hy 0
    have f1 := cell3_f hy 1
    have f2 := cell3_f hy 2
    have f3 := cell3_f hy 3
    have f4 := cell3_f hy 4
    have hlz := cell_lt hy
    have HY := put5_heap (b0 := .int .i64 0) (b1 := .int .i64 0) (b2 := .string ⟨#[]⟩) (b3 := .complex .f64 0 0) (b4 := .slice none 0 0) hy
    have x0 := cell5_0 HY
    have x1 := cell5_1 HY
    have x2 := cell5_2 HY
    have x3 := cell5_3 HY
    have x4 := cell5_4 HY
    clear hy HY
    go_wp2_with (fail)
    refine bodyPost_ret (v := .tuple #[.agg #[.int .i64 0, .int .i64 0, .string ⟨#[]⟩, .complex .f64 0 0, .slice none 0 0], .int .i64 0, .int .i64 20]) (by simp [results, Tryd.results7, go_sem, d0, d1, d2, d3, d4, x0, x1, x2, x3, x4]) rfl ?_
    rw [HN.out]
    refine ⟨rfl, ?_⟩
    (repeat' (first | with_reducible assumption | with_reducible refine Below.set_own ?_ ?_ | (dsimp only; omega)))
  | some p =>
    obtain ⟨m', o⟩ := p
    cases o with
    | none =>
      have HN := Lib.hid hn
      clear hn
      rintro e w2 ⟨⟨he, hle⟩, hb3⟩
      subst he
      have hne := errA_ne l m'
      have HB2 := hb2.trans (hb3.mono hb2.size)
      have hs2 := hb3.size
      have hy := (hb3.block (w.heap.size + 1) (by omega)).trans HX1.out
      have d0 := cell5_0 hy
      have d1 := cell5_1 hy
      have d2 := cell5_2 hy
      have d3 := cell5_3 hy
      have d4 := cell5_4 hy
      have f0 := cell3_f hy 0
      have f1 := cell3_f hy 1
      have f2 := cell3_f hy 2
      have f3 := cell3_f hy 3
      have f4 := cell3_f hy 4
      have hlz := cell_lt hy
      have HY := put5_heap (b0 := .int .i64 0) (b1 := .int .i64 0) (b2 := .string ⟨#[]⟩) (b3 := .complex .f64 0 0) (b4 := .slice none 0 0) hy
      have x0 := cell5_0 HY
      have x1 := cell5_1 HY
      have x2 := cell5_2 HY
      have x3 := cell5_3 HY
      have x4 := cell5_4 HY
      clear hy HY
      go_wp2_with (fail)
      refine bodyPost_ret (v := .tuple #[.agg #[.int .i64 0, .int .i64 0, .string ⟨#[]⟩, .complex .f64 0 0, .slice none 0 0], .int .i64 (m' : Int), .int .i64 (errA l m')]) (by simp [results, Tryd.results7, go_sem, d0, d1, d2, d3, d4, x0, x1, x2, x3, x4]) rfl ?_
      rw [HN.out]
      refine ⟨rfl, ?_⟩
      (repeat' (first | with_reducible assumption | with_reducible refine Below.set_own ?_ ?_ | (dsimp only; omega)))
    | some q =>
      obtain ⟨V, sz⟩ := q
      have HN := Lib.hid hn
      clear hn
      rintro e w2 ⟨⟨⟨v, hv, rfl⟩, hle⟩, hb3⟩
      obtain ⟨Av, cv, xv, yv, rfl, _, _⟩ := hv.form
      have HV := Lib.hid hv
      have HB2 := hb2.trans (hb3.mono hb2.size)
      have hs2 := hb3.size
      have hy := (hb3.block (w.heap.size + 1) (by omega)).trans HX1.out
      have d0 := cell5_0 hy
      have d1 := cell5_1 hy
      have d2 := cell5_2 hy
      have d3 := cell5_3 hy
      have d4 := cell5_4 hy
      have f0 := cell3_f hy 0
      have f1 := cell3_f hy 1
      have f2 := cell3_f hy 2
      have f3 := cell3_f hy 3
      have f4 := cell3_f hy 4
      have hlz := cell_lt hy
      have HY := put5_heap (b0 := .int .i64 V.kind) (b1 := .int .i64 V.int) (b2 := .string V.text) (b3 := .complex .f64 xv yv) (b4 := .slice Av V.list.length cv) hy
      have x0 := cell5_0 HY
      have x1 := cell5_1 HY
      have x2 := cell5_2 HY
      have x3 := cell5_3 HY
      have x4 := cell5_4 HY
      clear hy HY hv
      by_cases hlt : m' < l.length
      · have HLT := Lib.hid hlt
        go_wp2_with (fail)
        refine bodyPost_ret (v := .tuple #[.agg #[.int .i64 0, .int .i64 0, .string ⟨#[]⟩, .complex .f64 0 0, .slice none 0 0], .int .i64 (m' : Int), .int .i64 31]) (by simp [results, Tryd.results7, go_sem, d0, d1, d2, d3, d4, x0, x1, x2, x3, x4]) rfl ?_
        rw [HN.out]
        refine ⟨?_, ?_⟩
        · show (if m' < l.length then _ else _)
          rw [if_pos HLT.out]
        · (repeat' (first | with_reducible assumption | with_reducible refine Below.set_own ?_ ?_ | (dsimp only; omega)))
      · have HLT := Lib.hid hlt
        go_wp2_with (fail)
        refine bodyPost_ret (v := .tuple #[.agg #[.int .i64 V.kind, .int .i64 V.int, .string V.text, .complex .f64 xv yv, .slice Av V.list.length cv], .int .i64 0, .int .i64 0]) (by simp [results, Tryd.results7, go_sem, d0, d1, d2, d3, d4, x0, x1, x2, x3, x4]) rfl ?_
        rw [HN.out]
        refine ⟨?_, ?_⟩
        · show (if m' < l.length then _ else _)
          rw [if_neg HLT.out]
          refine ⟨_, HV.out.move fun b hb hl => ⟨by have hb' : w0.heap.size ≤ b := hb; show w.heap.size ≤ b; omega, fun o => World.cell?_of_block ?_⟩, rfl⟩
          have hne : b ≠ w.heap.size + 1 := by have hb' : w0.heap.size ≤ b := hb; omega
          exact (set5_block' hne).trans (set5_block' hne)
        · (repeat' (first | with_reducible assumption | with_reducible refine Below.set_own ?_ ?_ | (dsimp only; omega)))
end Go.Proofs.YtbafplnolmdlnaaDoor
