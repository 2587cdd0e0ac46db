/-
Stage 11: the document's Read: window.
-/
import Derived.Test.YtllnamhgnbdkmaaGreatDoorGh
set_option linter.unusedVariables false
set_option linter.unusedSimpArgs false
namespace Go.Proofs.YtllnamhgnbdkmaaGreatDoor
open Go.RowKit Go.Shelf Go.Sort
set_option maxRecDepth 100000 in
set_option maxHeartbeats 4000000 in
theorem rread_window_none (s rest r1 : List UInt8) (v : Int) (w : World) (o : Option Gn) (h : RdC s [119, 105, 110, 100, 111, 119] rest true) (h1 : OneC rest r1 true (some v)) (hnu : ∀ W, Calls Tryz.prog 62 #[.string ⟨r1.toArray⟩, .int .u8 32, .int .i64 7] W fun e w' => NumsOut W w' e none ∧ Below W.heap.size W w') (ho : o = none) :
    Calls Tryz.prog 38 #[.string ⟨s.toArray⟩] w fun e w' => LineOut w w' e o := by
  have HCUT := Lib.hid h.cut
  have HONE := Lib.hid h1.one
  have HNU := Lib.hid hnu
  have HE := Lib.hid ho
  clear h h1 hnu ho
  go_enter Tryz.func38, Tryz.ntmps38
  go_wp2_with (first
    | (go_at_call 58; (with_reducible refine (HCUT.out _).mono ?_); rintro e w1 ⟨rfl, nd, rfl⟩; have HW := Lib.hid ((RdW.start w).dr nd))
    | (go_at_call 64; (with_reducible refine (HONE.out _).mono ?_); rintro e w2 ⟨⟨A, c, he, hia⟩, hb2⟩; obtain rfl : e = _ := he; have HIN : Hid (IntsAt w2 (fun b => w.heap.size + 1 ≤ b) (.slice A ([v] : List Int).length c) [v]) := Lib.hid (hia.move fun b hb hl => ⟨up1 HW.out hb, hl, fun o => rfl⟩); have HW := Lib.hid (HW.out.on hb2); have hx2 := HW.out.hx; have e2 := HW.out.lt; have c0 := cellN (i := 0) hx2 rfl; have d0 := frozN (i := 0) hx2; have c1 := cellN (i := 1) hx2 rfl; have d1 := frozN (i := 1) hx2; have c2 := cellN (i := 2) hx2 rfl; have d2 := frozN (i := 2) hx2; have c3 := cellN (i := 3) hx2 rfl; have d3 := frozN (i := 3) hx2; have c4 := cellN (i := 4) hx2 rfl; have d4 := frozN (i := 4) hx2; have c5 := cellN (i := 5) hx2 rfl; have d5 := frozN (i := 5) hx2; have c6 := cellN (i := 6) hx2 rfl; have d6 := frozN (i := 6) hx2; have c7 := cellN (i := 7) hx2 rfl; have d7 := frozN (i := 7) hx2; have c8 := cellN (i := 8) hx2 rfl; have d8 := frozN (i := 8) hx2; have c9 := cellN (i := 9) hx2 rfl; have d9 := frozN (i := 9) hx2; have c10 := cellN (i := 10) hx2 rfl; have d10 := frozN (i := 10) hx2; have c11 := cellN (i := 11) hx2 rfl; have d11 := frozN (i := 11) hx2; have c12 := cellN (i := 12) hx2 rfl; have d12 := frozN (i := 12) hx2; have c13 := cellN (i := 13) hx2 rfl; have d13 := frozN (i := 13) hx2; clear hx2; clear hb2 hia)
    | (go_at_call 62; (with_reducible refine (HNU.out _).mono ?_); rintro e w5 ⟨he, hb5⟩; obtain rfl : e = _ := he; have HW := Lib.hid (HW.out.on hb5); have hx2 := HW.out.hx; have e2 := HW.out.lt; have c0 := cellN (i := 0) hx2 rfl; have d0 := frozN (i := 0) hx2; have c1 := cellN (i := 1) hx2 rfl; have d1 := frozN (i := 1) hx2; have c2 := cellN (i := 2) hx2 rfl; have d2 := frozN (i := 2) hx2; have c3 := cellN (i := 3) hx2 rfl; have d3 := frozN (i := 3) hx2; have c4 := cellN (i := 4) hx2 rfl; have d4 := frozN (i := 4) hx2; have c5 := cellN (i := 5) hx2 rfl; have d5 := frozN (i := 5) hx2; have c6 := cellN (i := 6) hx2 rfl; have d6 := frozN (i := 6) hx2; have c7 := cellN (i := 7) hx2 rfl; have d7 := frozN (i := 7) hx2; have c8 := cellN (i := 8) hx2 rfl; have d8 := frozN (i := 8) hx2; have c9 := cellN (i := 9) hx2 rfl; have d9 := frozN (i := 9) hx2; have c10 := cellN (i := 10) hx2 rfl; have d10 := frozN (i := 10) hx2; have c11 := cellN (i := 11) hx2 rfl; have d11 := frozN (i := 11) hx2; have c12 := cellN (i := 12) hx2 rfl; have d12 := frozN (i := 12) hx2; have c13 := cellN (i := 13) hx2 rfl; have d13 := frozN (i := 13) hx2; clear hx2; clear hb5)
    | fail)
  refine bodyPost_ret (v := .tuple #[.agg #[.int .i64 0, .slice none 0 0, .slice none 0 0, .string ⟨#[]⟩, .int .i64 0, .slice none 0 0, .int .i64 0, .int .i64 0, .int .i64 0, .int .i64 0, .int .i64 0, .int .i64 0, .int .i64 0, .bool false], .bool false]) (results_rd Tryz.results38 rfl rfl (node_told HW.out.hx)) rfl ?_
  refine ⟨⟨gz 0, none, none, none, 0, 0, 0, by rw [HE.out]; rfl, (fun v hv => by rw [HE.out] at hv; cases hv), ?_⟩, node_told_bl HW.out.hb (Nat.le_refl _)⟩
  exact (rd_end HW.out (gz_at _ _ 0)).1
set_option maxRecDepth 100000 in
set_option maxHeartbeats 4000000 in
theorem rread_window_len (s rest r1 : List UInt8) (v : Int) (w : World) (o : Option Gn) (h : RdC s [119, 105, 110, 100, 111, 119] rest true) (h1 : OneC rest r1 true (some v)) (l : List Int) (hl : l.length ≠ 4) (hnu : ∀ W, Calls Tryz.prog 62 #[.string ⟨r1.toArray⟩, .int .u8 32, .int .i64 7] W fun e w' => NumsOut W w' e (some l) ∧ Below W.heap.size W w') (ho : o = none) :
    Calls Tryz.prog 38 #[.string ⟨s.toArray⟩] w fun e w' => LineOut w w' e o := by
  have HCUT := Lib.hid h.cut
  have HONE := Lib.hid h1.one
  have HNU := Lib.hid hnu
  have HE := Lib.hid ho
  have hl4 : ((l.length : Int) == 4) = false := by simpa using (fun e : (l.length : Int) = 4 => hl (by omega))
  clear h h1 hnu ho hl
  go_enter Tryz.func38, Tryz.ntmps38
  go_wp2_with (first
    | (go_at_call 58; (with_reducible refine (HCUT.out _).mono ?_); rintro e w1 ⟨rfl, nd, rfl⟩; have HW := Lib.hid ((RdW.start w).dr nd))
    | (go_at_call 64; (with_reducible refine (HONE.out _).mono ?_); rintro e w2 ⟨⟨A, c, he, hia⟩, hb2⟩; obtain rfl : e = _ := he; have HIN : Hid (IntsAt w2 (fun b => w.heap.size + 1 ≤ b) (.slice A ([v] : List Int).length c) [v]) := Lib.hid (hia.move fun b hb hl => ⟨up1 HW.out hb, hl, fun o => rfl⟩); have HW := Lib.hid (HW.out.on hb2); have hx2 := HW.out.hx; have e2 := HW.out.lt; have c0 := cellN (i := 0) hx2 rfl; have d0 := frozN (i := 0) hx2; have c1 := cellN (i := 1) hx2 rfl; have d1 := frozN (i := 1) hx2; have c2 := cellN (i := 2) hx2 rfl; have d2 := frozN (i := 2) hx2; have c3 := cellN (i := 3) hx2 rfl; have d3 := frozN (i := 3) hx2; have c4 := cellN (i := 4) hx2 rfl; have d4 := frozN (i := 4) hx2; have c5 := cellN (i := 5) hx2 rfl; have d5 := frozN (i := 5) hx2; have c6 := cellN (i := 6) hx2 rfl; have d6 := frozN (i := 6) hx2; have c7 := cellN (i := 7) hx2 rfl; have d7 := frozN (i := 7) hx2; have c8 := cellN (i := 8) hx2 rfl; have d8 := frozN (i := 8) hx2; have c9 := cellN (i := 9) hx2 rfl; have d9 := frozN (i := 9) hx2; have c10 := cellN (i := 10) hx2 rfl; have d10 := frozN (i := 10) hx2; have c11 := cellN (i := 11) hx2 rfl; have d11 := frozN (i := 11) hx2; have c12 := cellN (i := 12) hx2 rfl; have d12 := frozN (i := 12) hx2; have c13 := cellN (i := 13) hx2 rfl; have d13 := frozN (i := 13) hx2; clear hx2; clear hb2 hia)
    | (go_at_call 62; (with_reducible refine (HNU.out _).mono ?_); rintro e w5 ⟨⟨SA, sc, he, hia⟩, hb5⟩; obtain rfl : e = _ := he; have HIA := Lib.hid hia; have HIN := Lib.hid (HIN.out.below hb5); have HW := Lib.hid (HW.out.on hb5); have hx2 := HW.out.hx; have e2 := HW.out.lt; have c0 := cellN (i := 0) hx2 rfl; have d0 := frozN (i := 0) hx2; have c1 := cellN (i := 1) hx2 rfl; have d1 := frozN (i := 1) hx2; have c2 := cellN (i := 2) hx2 rfl; have d2 := frozN (i := 2) hx2; have c3 := cellN (i := 3) hx2 rfl; have d3 := frozN (i := 3) hx2; have c4 := cellN (i := 4) hx2 rfl; have d4 := frozN (i := 4) hx2; have c5 := cellN (i := 5) hx2 rfl; have d5 := frozN (i := 5) hx2; have c6 := cellN (i := 6) hx2 rfl; have d6 := frozN (i := 6) hx2; have c7 := cellN (i := 7) hx2 rfl; have d7 := frozN (i := 7) hx2; have c8 := cellN (i := 8) hx2 rfl; have d8 := frozN (i := 8) hx2; have c9 := cellN (i := 9) hx2 rfl; have d9 := frozN (i := 9) hx2; have c10 := cellN (i := 10) hx2 rfl; have d10 := frozN (i := 10) hx2; have c11 := cellN (i := 11) hx2 rfl; have d11 := frozN (i := 11) hx2; have c12 := cellN (i := 12) hx2 rfl; have d12 := frozN (i := 12) hx2; have c13 := cellN (i := 13) hx2 rfl; have d13 := frozN (i := 13) hx2; clear hx2; clear hb5 hia)
    | fail)
  refine bodyPost_ret (v := .tuple #[.agg #[.int .i64 0, .slice none 0 0, .slice none 0 0, .string ⟨#[]⟩, .int .i64 0, .slice none 0 0, .int .i64 0, .int .i64 0, .int .i64 0, .int .i64 0, .int .i64 0, .int .i64 0, .int .i64 0, .bool false], .bool false]) (results_rd Tryz.results38 rfl rfl (node_told HW.out.hx)) rfl ?_
  refine ⟨⟨gz 0, none, none, none, 0, 0, 0, by rw [HE.out]; rfl, (fun v hv => by rw [HE.out] at hv; cases hv), ?_⟩, node_told_bl HW.out.hb (Nat.le_refl _)⟩
  exact (rd_end HW.out (gz_at _ _ 0)).1
set_option maxRecDepth 100000 in
set_option maxHeartbeats 4000000 in
theorem rread_window_four (s rest r1 : List UInt8) (v : Int) (w : World) (o : Option Gn) (h : RdC s [119, 105, 110, 100, 111, 119] rest true) (h1 : OneC rest r1 true (some v)) (x0 x1 x2 x3 : Int) (hnu : ∀ W, Calls Tryz.prog 62 #[.string ⟨r1.toArray⟩, .int .u8 32, .int .i64 7] W fun e w' => NumsOut W w' e (some [x0, x1, x2, x3]) ∧ Below W.heap.size W w') (ho : o = some { gz 3 with ins := [v], f0 := x0, f1 := x1, f2 := x2, f3 := x3 }) :
    Calls Tryz.prog 38 #[.string ⟨s.toArray⟩] w fun e w' => LineOut w w' e o := by
  have HCUT := Lib.hid h.cut
  have HONE := Lib.hid h1.one
  have HNU := Lib.hid hnu
  have HE := Lib.hid ho
  clear h h1 hnu ho
  go_enter Tryz.func38, Tryz.ntmps38
  go_upto_region 30 with (first
    | (go_at_call 58; (with_reducible refine (HCUT.out _).mono ?_); rintro e w1 ⟨rfl, nd, rfl⟩; have HW := Lib.hid ((RdW.start w).dr nd))
    | (go_at_call 64; (with_reducible refine (HONE.out _).mono ?_); rintro e w2 ⟨⟨A, c, he, hia⟩, hb2⟩; obtain rfl : e = _ := he; have HIN : Hid (IntsAt w2 (fun b => w.heap.size + 1 ≤ b) (.slice A ([v] : List Int).length c) [v]) := Lib.hid (hia.move fun b hb hl => ⟨up1 HW.out hb, hl, fun o => rfl⟩); have HW := Lib.hid (HW.out.on hb2); have hx2 := HW.out.hx; have e2 := HW.out.lt; have c0 := cellN (i := 0) hx2 rfl; have d0 := frozN (i := 0) hx2; have c1 := cellN (i := 1) hx2 rfl; have d1 := frozN (i := 1) hx2; have c2 := cellN (i := 2) hx2 rfl; have d2 := frozN (i := 2) hx2; have c3 := cellN (i := 3) hx2 rfl; have d3 := frozN (i := 3) hx2; have c4 := cellN (i := 4) hx2 rfl; have d4 := frozN (i := 4) hx2; have c5 := cellN (i := 5) hx2 rfl; have d5 := frozN (i := 5) hx2; have c6 := cellN (i := 6) hx2 rfl; have d6 := frozN (i := 6) hx2; have c7 := cellN (i := 7) hx2 rfl; have d7 := frozN (i := 7) hx2; have c8 := cellN (i := 8) hx2 rfl; have d8 := frozN (i := 8) hx2; have c9 := cellN (i := 9) hx2 rfl; have d9 := frozN (i := 9) hx2; have c10 := cellN (i := 10) hx2 rfl; have d10 := frozN (i := 10) hx2; have c11 := cellN (i := 11) hx2 rfl; have d11 := frozN (i := 11) hx2; have c12 := cellN (i := 12) hx2 rfl; have d12 := frozN (i := 12) hx2; have c13 := cellN (i := 13) hx2 rfl; have d13 := frozN (i := 13) hx2; clear hx2; clear hb2 hia)
    | (go_at_call 62; (with_reducible refine (HNU.out _).mono ?_); rintro e w5 ⟨⟨SA, sc, he, hia⟩, hb5⟩; obtain rfl : e = _ := he; obtain ⟨ib, io, rfl, i0, _, _⟩ := hia.cell (j := 0) (by simp); obtain ⟨_, _, e1, i1, _, _⟩ := hia.cell (j := 1) (by simp); cases e1; obtain ⟨_, _, e1, i2, _, _⟩ := hia.cell (j := 2) (by simp); cases e1; obtain ⟨_, _, e1, i3, _, _⟩ := hia.cell (j := 3) (by simp); cases e1; have i0 : w5.cell? ⟨ib, io, none⟩ = some (.int .i64 x0) := i0; have i1 : w5.cell? ⟨ib, io + 1, none⟩ = some (.int .i64 x1) := i1; have i2 : w5.cell? ⟨ib, io + 2, none⟩ = some (.int .i64 x2) := i2; have i3 : w5.cell? ⟨ib, io + 3, none⟩ = some (.int .i64 x3) := i3; have HIN := Lib.hid (HIN.out.below hb5); have HW := Lib.hid (HW.out.on hb5); have hx2 := HW.out.hx; have e2 := HW.out.lt; have c0 := cellN (i := 0) hx2 rfl; have d0 := frozN (i := 0) hx2; have c1 := cellN (i := 1) hx2 rfl; have d1 := frozN (i := 1) hx2; have c2 := cellN (i := 2) hx2 rfl; have d2 := frozN (i := 2) hx2; have c3 := cellN (i := 3) hx2 rfl; have d3 := frozN (i := 3) hx2; have c4 := cellN (i := 4) hx2 rfl; have d4 := frozN (i := 4) hx2; have c5 := cellN (i := 5) hx2 rfl; have d5 := frozN (i := 5) hx2; have c6 := cellN (i := 6) hx2 rfl; have d6 := frozN (i := 6) hx2; have c7 := cellN (i := 7) hx2 rfl; have d7 := frozN (i := 7) hx2; have c8 := cellN (i := 8) hx2 rfl; have d8 := frozN (i := 8) hx2; have c9 := cellN (i := 9) hx2 rfl; have d9 := frozN (i := 9) hx2; have c10 := cellN (i := 10) hx2 rfl; have d10 := frozN (i := 10) hx2; have c11 := cellN (i := 11) hx2 rfl; have d11 := frozN (i := 11) hx2; have c12 := cellN (i := 12) hx2 rfl; have d12 := frozN (i := 12) hx2; have c13 := cellN (i := 13) hx2 rfl; have d13 := frozN (i := 13) hx2; clear hx2; clear hb5 hia)
    | fail)
  go_region
  all_goals
    go_wp2
    refine bodyPost_ret (v := .tuple #[.agg #[.int .i64 3, .slice A 1 c, .slice none 0 0, .string ⟨#[]⟩, .int .i64 0, .slice none 0 0, .int .i64 x0, .int .i64 x1, .int .i64 x2, .int .i64 x3, .int .i64 0, .int .i64 0, .int .i64 0, .bool false], .bool true]) (results_rd_drew Tryz.results38 rfl rfl (node_told HW.out.hx)) rfl ?_
    refine ⟨⟨{ gz 3 with ins := [v], f0 := x0, f1 := x1, f2 := x2, f3 := x3 }, A, none, none, c, 0, 0, by rw [HE.out]; rfl, (fun v hv => by rw [HE.out] at hv; exact Option.some.inj hv), ?_⟩, bl_dr (node_told_bl HW.out.hb (Nat.le_refl _))⟩
    exact (rd_end HW.out (⟨A, none, none, c, 0, 0, rfl, HIN.out, IntsAt.nil _ _, tyZ_at _ _⟩)).1.below (bl_dr (Below.refl _ _))
end Go.Proofs.YtllnamhgnbdkmaaGreatDoor
