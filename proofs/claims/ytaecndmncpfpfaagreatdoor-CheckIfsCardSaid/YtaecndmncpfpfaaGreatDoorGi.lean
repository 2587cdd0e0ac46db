import Derived.Test.YtaecndmncpfpfaaGreatDoorGh
set_option linter.unusedVariables false
set_option linter.unusedSimpArgs false
namespace Go.Proofs.YtaecndmncpfpfaaGreatDoor.L5
open Go.RowKit
set_option maxRecDepth 100000 in
set_option maxHeartbeats 40000000 in
theorem ifs_any (w : World) (c x y : Nd) (it : Ty) (sides : List Ty) (Ac Kc Ax Kx Ay Ky EA SA : Option Addr) (cc kc cx kx cy ky ek sk : Nat) (dc dx dy : Nat) (hC : NdL w (.agg #[.string ⟨c.op.toArray⟩, .int .i64 c.int, .string ⟨c.text.toArray⟩, .int .i64 c.ty.kind, .slice Ac c.ty.args.length cc, .slice Kc c.kids.length kc]) c) (hX : NdL w (.agg #[.string ⟨x.op.toArray⟩, .int .i64 x.int, .string ⟨x.text.toArray⟩, .int .i64 x.ty.kind, .slice Ax x.ty.args.length cx, .slice Kx x.kids.length kx]) x) (hY : NdL w (.agg #[.string ⟨y.op.toArray⟩, .int .i64 y.int, .string ⟨y.text.toArray⟩, .int .i64 y.ty.kind, .slice Ay y.ty.args.length cy, .slice Ky y.kids.length ky]) y) (hE : EvL w (.agg #[.int .i64 it.kind, .slice EA it.args.length ek, .slice SA sides.length sk]) it sides) (hIc : IntN dc c) (hIx : IntN dx x) (hIy : IntN dy y) (hG : Gl w) :
    Calls Tryz.prog 7 #[.agg #[.string ⟨c.op.toArray⟩, .int .i64 c.int, .string ⟨c.text.toArray⟩, .int .i64 c.ty.kind, .slice Ac c.ty.args.length cc, .slice Kc c.kids.length kc, .string ⟨x.op.toArray⟩, .int .i64 x.int, .string ⟨x.text.toArray⟩, .int .i64 x.ty.kind, .slice Ax x.ty.args.length cx, .slice Kx x.kids.length kx, .string ⟨y.op.toArray⟩, .int .i64 y.int, .string ⟨y.text.toArray⟩, .int .i64 y.ty.kind, .slice Ay y.ty.args.length cy, .slice Ky y.kids.length ky, .int .i64 it.kind, .slice EA it.args.length ek, .slice SA sides.length sk]] w fun e w' => e = .returned (.bool true) ∧ Below w.heap.size w w' := by
 have hGl := hG.lt2
 have HG := Lib.hid hG
 have HIc := Lib.hid hIc
 have HIx := Lib.hid hIx
 have HIy := Lib.hid hIy
 have HAWK := Lib.hid (fun (W : World) (h : Below w.heap.size w W) => awake_any W (hG.below h hGl))
 obtain ⟨W0, hW0⟩ : ∃ W0, w.alloc (.cells #[.string ⟨c.op.toArray⟩, .int .i64 c.int, .string ⟨c.text.toArray⟩, .int .i64 c.ty.kind, .slice Ac c.ty.args.length cc, .slice Kc c.kids.length kc, .string ⟨x.op.toArray⟩, .int .i64 x.int, .string ⟨x.text.toArray⟩, .int .i64 x.ty.kind, .slice Ax x.ty.args.length cx, .slice Kx x.kids.length kx, .string ⟨y.op.toArray⟩, .int .i64 y.int, .string ⟨y.text.toArray⟩, .int .i64 y.ty.kind, .slice Ay y.ty.args.length cy, .slice Ky y.kids.length ky, .int .i64 it.kind, .slice EA it.args.length ek, .slice SA sides.length sk] 68) = W0 := ⟨_, rfl⟩
 have b0 : W0.heap[w.heap.size]? = some (.cells #[.string ⟨c.op.toArray⟩, .int .i64 c.int, .string ⟨c.text.toArray⟩, .int .i64 c.ty.kind, .slice Ac c.ty.args.length cc, .slice Kc c.kids.length kc, .string ⟨x.op.toArray⟩, .int .i64 x.int, .string ⟨x.text.toArray⟩, .int .i64 x.ty.kind, .slice Ax x.ty.args.length cx, .slice Kx x.kids.length kx, .string ⟨y.op.toArray⟩, .int .i64 y.int, .string ⟨y.text.toArray⟩, .int .i64 y.ty.kind, .slice Ay y.ty.args.length cy, .slice Ky y.kids.length ky, .int .i64 it.kind, .slice EA it.args.length ek, .slice SA sides.length sk] 68 (0, 0)) := by
  rw [← hW0]
  exact heap_alloc_new w _
 have hB0 : Below w.heap.size w W0 := by
  rw [← hW0]
  exact (Below.refl _ w).alloc (Nat.le_refl _) _
 have hs0 : w.heap.size < W0.heap.size := cell_lt b0
 have HW0 := Lib.hid hW0
 have HCL := Lib.hid (hC.below hB0)
 have HXL := Lib.hid (hX.below hB0)
 have HYL := Lib.hid (hY.below hB0)
 have HEL := Lib.hid (hE.below hB0)
 have HB0 := Lib.hid hB0
 have z0 : W0.cell? ⟨w.heap.size, 0, none⟩ = some (.string ⟨c.op.toArray⟩) := cellN (i := 0) b0 rfl
 have z1 : W0.cell? ⟨w.heap.size, 1, none⟩ = some (.int .i64 c.int) := cellN (i := 1) b0 rfl
 have z2 : W0.cell? ⟨w.heap.size, 2, none⟩ = some (.string ⟨c.text.toArray⟩) := cellN (i := 2) b0 rfl
 have z3 : W0.cell? ⟨w.heap.size, 3, none⟩ = some (.int .i64 c.ty.kind) := cellN (i := 3) b0 rfl
 have z4 : W0.cell? ⟨w.heap.size, 4, none⟩ = some (.slice Ac c.ty.args.length cc) := cellN (i := 4) b0 rfl
 have z5 : W0.cell? ⟨w.heap.size, 5, none⟩ = some (.slice Kc c.kids.length kc) := cellN (i := 5) b0 rfl
 have z6 : W0.cell? ⟨w.heap.size, 6, none⟩ = some (.string ⟨x.op.toArray⟩) := cellN (i := 6) b0 rfl
 have z7 : W0.cell? ⟨w.heap.size, 7, none⟩ = some (.int .i64 x.int) := cellN (i := 7) b0 rfl
 have z8 : W0.cell? ⟨w.heap.size, 8, none⟩ = some (.string ⟨x.text.toArray⟩) := cellN (i := 8) b0 rfl
 have z9 : W0.cell? ⟨w.heap.size, 9, none⟩ = some (.int .i64 x.ty.kind) := cellN (i := 9) b0 rfl
 have z10 : W0.cell? ⟨w.heap.size, 10, none⟩ = some (.slice Ax x.ty.args.length cx) := cellN (i := 10) b0 rfl
 have z11 : W0.cell? ⟨w.heap.size, 11, none⟩ = some (.slice Kx x.kids.length kx) := cellN (i := 11) b0 rfl
 have z12 : W0.cell? ⟨w.heap.size, 12, none⟩ = some (.string ⟨y.op.toArray⟩) := cellN (i := 12) b0 rfl
 have z13 : W0.cell? ⟨w.heap.size, 13, none⟩ = some (.int .i64 y.int) := cellN (i := 13) b0 rfl
 have z14 : W0.cell? ⟨w.heap.size, 14, none⟩ = some (.string ⟨y.text.toArray⟩) := cellN (i := 14) b0 rfl
 have z15 : W0.cell? ⟨w.heap.size, 15, none⟩ = some (.int .i64 y.ty.kind) := cellN (i := 15) b0 rfl
 have z16 : W0.cell? ⟨w.heap.size, 16, none⟩ = some (.slice Ay y.ty.args.length cy) := cellN (i := 16) b0 rfl
 have z17 : W0.cell? ⟨w.heap.size, 17, none⟩ = some (.slice Ky y.kids.length ky) := cellN (i := 17) b0 rfl
 have z18 : W0.cell? ⟨w.heap.size, 18, none⟩ = some (.int .i64 it.kind) := cellN (i := 18) b0 rfl
 have z19 : W0.cell? ⟨w.heap.size, 19, none⟩ = some (.slice EA it.args.length ek) := cellN (i := 19) b0 rfl
 have z20 : W0.cell? ⟨w.heap.size, 20, none⟩ = some (.slice SA sides.length sk) := cellN (i := 20) b0 rfl
 clear b0 hW0 hB0 hC hX hY hE hIc hIx hIy hG
 go_enter Tryz.func7, Tryz.ntmps7
 go_upto_region 1 with (fail)
 rw [HW0.out]
 clear HW0
 go_cut [3, 4, 5, 6] from 20 to 27 (fun s3 s4 s5 s6 wx => Bx4 W0 wx s3 s4 s5 s6 #[.string ⟨c.op.toArray⟩, .int .i64 c.int, .string ⟨c.text.toArray⟩, .int .i64 c.ty.kind, .slice Ac c.ty.args.length cc, .slice Kc c.kids.length kc] #[.string ⟨x.op.toArray⟩, .int .i64 x.int, .string ⟨x.text.toArray⟩, .int .i64 x.ty.kind, .slice Ax x.ty.args.length cx, .slice Kx x.kids.length kx] #[.string ⟨y.op.toArray⟩, .int .i64 y.int, .string ⟨y.text.toArray⟩, .int .i64 y.ty.kind, .slice Ay y.ty.args.length cy, .slice Ky y.kids.length ky] #[.int .i64 it.kind, .slice EA it.args.length ek, .slice SA sides.length sk])
 case first =>
  go_region_held3 (fun W => W.cell? ⟨w.heap.size, 0, none⟩ = some (.string ⟨c.op.toArray⟩) ∧ W.cell? ⟨w.heap.size, 1, none⟩ = some (.int .i64 c.int) ∧ W.cell? ⟨w.heap.size, 2, none⟩ = some (.string ⟨c.text.toArray⟩) ∧ W.cell? ⟨w.heap.size, 3, none⟩ = some (.int .i64 c.ty.kind) ∧ W.cell? ⟨w.heap.size, 4, none⟩ = some (.slice Ac c.ty.args.length cc) ∧ W.cell? ⟨w.heap.size, 5, none⟩ = some (.slice Kc c.kids.length kc) ∧ W.cell? ⟨w.heap.size, 6, none⟩ = some (.string ⟨x.op.toArray⟩) ∧ W.cell? ⟨w.heap.size, 7, none⟩ = some (.int .i64 x.int) ∧ W.cell? ⟨w.heap.size, 8, none⟩ = some (.string ⟨x.text.toArray⟩) ∧ W.cell? ⟨w.heap.size, 9, none⟩ = some (.int .i64 x.ty.kind) ∧ W.cell? ⟨w.heap.size, 10, none⟩ = some (.slice Ax x.ty.args.length cx) ∧ W.cell? ⟨w.heap.size, 11, none⟩ = some (.slice Kx x.kids.length kx) ∧ W.cell? ⟨w.heap.size, 12, none⟩ = some (.string ⟨y.op.toArray⟩) ∧ W.cell? ⟨w.heap.size, 13, none⟩ = some (.int .i64 y.int) ∧ W.cell? ⟨w.heap.size, 14, none⟩ = some (.string ⟨y.text.toArray⟩) ∧ W.cell? ⟨w.heap.size, 15, none⟩ = some (.int .i64 y.ty.kind) ∧ W.cell? ⟨w.heap.size, 16, none⟩ = some (.slice Ay y.ty.args.length cy) ∧ W.cell? ⟨w.heap.size, 17, none⟩ = some (.slice Ky y.kids.length ky) ∧ W.cell? ⟨w.heap.size, 18, none⟩ = some (.int .i64 it.kind) ∧ W.cell? ⟨w.heap.size, 19, none⟩ = some (.slice EA it.args.length ek) ∧ W.cell? ⟨w.heap.size, 20, none⟩ = some (.slice SA sides.length sk))
   (exact ⟨by first | exact z0 | (repeat' (first | with_reducible assumption | with_reducible refine cell_drew_some ?_ | with_reducible refine cell_alloc_some ?_ | with_reducible refine cell_set_some ?_ ?_ | (dsimp only; omega))), by first | exact z1 | (repeat' (first | with_reducible assumption | with_reducible refine cell_drew_some ?_ | with_reducible refine cell_alloc_some ?_ | with_reducible refine cell_set_some ?_ ?_ | (dsimp only; omega))), by first | exact z2 | (repeat' (first | with_reducible assumption | with_reducible refine cell_drew_some ?_ | with_reducible refine cell_alloc_some ?_ | with_reducible refine cell_set_some ?_ ?_ | (dsimp only; omega))), by first | exact z3 | (repeat' (first | with_reducible assumption | with_reducible refine cell_drew_some ?_ | with_reducible refine cell_alloc_some ?_ | with_reducible refine cell_set_some ?_ ?_ | (dsimp only; omega))), by first | exact z4 | (repeat' (first | with_reducible assumption | with_reducible refine cell_drew_some ?_ | with_reducible refine cell_alloc_some ?_ | with_reducible refine cell_set_some ?_ ?_ | (dsimp only; omega))), by first | exact z5 | (repeat' (first | with_reducible assumption | with_reducible refine cell_drew_some ?_ | with_reducible refine cell_alloc_some ?_ | with_reducible refine cell_set_some ?_ ?_ | (dsimp only; omega))), by first | exact z6 | (repeat' (first | with_reducible assumption | with_reducible refine cell_drew_some ?_ | with_reducible refine cell_alloc_some ?_ | with_reducible refine cell_set_some ?_ ?_ | (dsimp only; omega))), by first | exact z7 | (repeat' (first | with_reducible assumption | with_reducible refine cell_drew_some ?_ | with_reducible refine cell_alloc_some ?_ | with_reducible refine cell_set_some ?_ ?_ | (dsimp only; omega))), by first | exact z8 | (repeat' (first | with_reducible assumption | with_reducible refine cell_drew_some ?_ | with_reducible refine cell_alloc_some ?_ | with_reducible refine cell_set_some ?_ ?_ | (dsimp only; omega))), by first | exact z9 | (repeat' (first | with_reducible assumption | with_reducible refine cell_drew_some ?_ | with_reducible refine cell_alloc_some ?_ | with_reducible refine cell_set_some ?_ ?_ | (dsimp only; omega))), by first | exact z10 | (repeat' (first | with_reducible assumption | with_reducible refine cell_drew_some ?_ | with_reducible refine cell_alloc_some ?_ | with_reducible refine cell_set_some ?_ ?_ | (dsimp only; omega))), by first | exact z11 | (repeat' (first | with_reducible assumption | with_reducible refine cell_drew_some ?_ | with_reducible refine cell_alloc_some ?_ | with_reducible refine cell_set_some ?_ ?_ | (dsimp only; omega))), by first | exact z12 | (repeat' (first | with_reducible assumption | with_reducible refine cell_drew_some ?_ | with_reducible refine cell_alloc_some ?_ | with_reducible refine cell_set_some ?_ ?_ | (dsimp only; omega))), by first | exact z13 | (repeat' (first | with_reducible assumption | with_reducible refine cell_drew_some ?_ | with_reducible refine cell_alloc_some ?_ | with_reducible refine cell_set_some ?_ ?_ | (dsimp only; omega))), by first | exact z14 | (repeat' (first | with_reducible assumption | with_reducible refine cell_drew_some ?_ | with_reducible refine cell_alloc_some ?_ | with_reducible refine cell_set_some ?_ ?_ | (dsimp only; omega))), by first | exact z15 | (repeat' (first | with_reducible assumption | with_reducible refine cell_drew_some ?_ | with_reducible refine cell_alloc_some ?_ | with_reducible refine cell_set_some ?_ ?_ | (dsimp only; omega))), by first | exact z16 | (repeat' (first | with_reducible assumption | with_reducible refine cell_drew_some ?_ | with_reducible refine cell_alloc_some ?_ | with_reducible refine cell_set_some ?_ ?_ | (dsimp only; omega))), by first | exact z17 | (repeat' (first | with_reducible assumption | with_reducible refine cell_drew_some ?_ | with_reducible refine cell_alloc_some ?_ | with_reducible refine cell_set_some ?_ ?_ | (dsimp only; omega))), by first | exact z18 | (repeat' (first | with_reducible assumption | with_reducible refine cell_drew_some ?_ | with_reducible refine cell_alloc_some ?_ | with_reducible refine cell_set_some ?_ ?_ | (dsimp only; omega))), by first | exact z19 | (repeat' (first | with_reducible assumption | with_reducible refine cell_drew_some ?_ | with_reducible refine cell_alloc_some ?_ | with_reducible refine cell_set_some ?_ ?_ | (dsimp only; omega))), by first | exact z20 | (repeat' (first | with_reducible assumption | with_reducible refine cell_drew_some ?_ | with_reducible refine cell_alloc_some ?_ | with_reducible refine cell_set_some ?_ ?_ | (dsimp only; omega)))⟩)
   (fail)
  all_goals (
   go_wp2_with (fail)
   go_meet
   refine ⟨_, _, _, _, rfl, rfl, rfl, rfl, Bxs.drew ⟨?_, ?_, ?_, ?_⟩, bl_dr (bl_al (bl_al (bl_al (bl_al (Below.refl _ _) _) _) _) _)⟩ <;> first | exact heap_new_at (by simp) | exact alloc_old (heap_new_at (by simp)) | exact alloc_old (alloc_old (heap_new_at (by simp))) | exact alloc_old (alloc_old (alloc_old (heap_new_at (by simp)))))
 case rest =>
 obtain ⟨q1, q2, q3, q4, rfl, rfl, rfl, rfl, hbx, hb1⟩ := hcut
 obtain ⟨W1, hW1⟩ : ∃ W1 : World, W1 = wc := ⟨_, rfl⟩
 subst hW1
 have HBX := Lib.hid hbx
 have HB1 := Lib.hid (HB0.out.trans (hb1.mono (Nat.le_of_lt hs0)))
 have HCL1 := Lib.hid (HCL.out.below hb1)
 have HXL1 := Lib.hid (HXL.out.below hb1)
 have HYL1 := Lib.hid (HYL.out.below hb1)
 have HEL1 := Lib.hid (HEL.out.below hb1)
 clear hbx hb1 HCL HXL HYL HEL HB0 z0 z1 z2 z3 z4 z5 z6 z7 z8 z9 z10 z11 z12 z13 z14 z15 z16 z17 z18 z19 z20
 have n0 := cell6_0 HBX.out.b1
 have n1 := cell6_1 HBX.out.b1
 have n2 := cell6_2 HBX.out.b1
 have n3 := cell6_3 HBX.out.b1
 have n4 := cell6_4 HBX.out.b1
 have n5 := cell6_5 HBX.out.b1
 have nl := cell_lt HBX.out.b1
 have m0 := cell3_0 HBX.out.b4
 have m1 := cell3_1 HBX.out.b4
 have m2 := cell3_2 HBX.out.b4
 have ml := cell_lt HBX.out.b4
 go_wp2_with (fail)
 refine (small_law HCL1.out HEL1.out).mono ?_
 rintro e V1 ⟨⟨b1, rfl, hf1⟩, hb⟩
 have HBX := Lib.hid (HBX.out.below hb)
 have HCL1 := Lib.hid (HCL1.out.below hb)
 have HXL1 := Lib.hid (HXL1.out.below hb)
 have HYL1 := Lib.hid (HYL1.out.below hb)
 have HEL1 := Lib.hid (HEL1.out.below hb)
 have HBA := Lib.hid (HB1.out.trans (hb.mono HB1.out.size))
 clear hb n0 n1 n2 n3 n4 n5 nl m0 m1 m2 ml
 cases b1 with
 | false =>
   clear hf1
   go_wp2_with (fail)
   refine (HAWK.out _ HBA.out).mono ?_
   rintro e wz ⟨rfl, hbz⟩
   have HBZ := Lib.hid (HBA.out.trans (hbz.mono HBA.out.size))
   clear hbz
   go_wp2_with (fail)
   go_ret
   exact ⟨rfl, HBZ.out⟩
 | true =>
 have HF1 := Lib.hid (hf1 rfl)
 clear hf1
 have n0 := cell6_0 HBX.out.b2
 have n1 := cell6_1 HBX.out.b2
 have n2 := cell6_2 HBX.out.b2
 have n3 := cell6_3 HBX.out.b2
 have n4 := cell6_4 HBX.out.b2
 have n5 := cell6_5 HBX.out.b2
 have nl := cell_lt HBX.out.b2
 have m0 := cell3_0 HBX.out.b4
 have m1 := cell3_1 HBX.out.b4
 have m2 := cell3_2 HBX.out.b4
 have ml := cell_lt HBX.out.b4
 go_wp2_with (fail)
 refine (small_law HXL1.out HEL1.out).mono ?_
 rintro e V2 ⟨⟨b2, rfl, hf2⟩, hb⟩
 have HBX := Lib.hid (HBX.out.below hb)
 have HCL1 := Lib.hid (HCL1.out.below hb)
 have HXL1 := Lib.hid (HXL1.out.below hb)
 have HYL1 := Lib.hid (HYL1.out.below hb)
 have HEL1 := Lib.hid (HEL1.out.below hb)
 have HBA := Lib.hid (HBA.out.trans (hb.mono HBA.out.size))
 clear hb n0 n1 n2 n3 n4 n5 nl m0 m1 m2 ml
 cases b2 with
 | false =>
   clear hf2
   go_wp2_with (fail)
   refine (HAWK.out _ HBA.out).mono ?_
   rintro e wz ⟨rfl, hbz⟩
   have HBZ := Lib.hid (HBA.out.trans (hbz.mono HBA.out.size))
   clear hbz
   go_wp2_with (fail)
   go_ret
   exact ⟨rfl, HBZ.out⟩
 | true =>
 have HF2 := Lib.hid (hf2 rfl)
 clear hf2
 have n0 := cell6_0 HBX.out.b3
 have n1 := cell6_1 HBX.out.b3
 have n2 := cell6_2 HBX.out.b3
 have n3 := cell6_3 HBX.out.b3
 have n4 := cell6_4 HBX.out.b3
 have n5 := cell6_5 HBX.out.b3
 have nl := cell_lt HBX.out.b3
 have m0 := cell3_0 HBX.out.b4
 have m1 := cell3_1 HBX.out.b4
 have m2 := cell3_2 HBX.out.b4
 have ml := cell_lt HBX.out.b4
 go_wp2_with (fail)
 refine (small_law HYL1.out HEL1.out).mono ?_
 rintro e V3 ⟨⟨b3, rfl, hf3⟩, hb⟩
 have HBX := Lib.hid (HBX.out.below hb)
 have HCL1 := Lib.hid (HCL1.out.below hb)
 have HXL1 := Lib.hid (HXL1.out.below hb)
 have HYL1 := Lib.hid (HYL1.out.below hb)
 have HEL1 := Lib.hid (HEL1.out.below hb)
 have HBA := Lib.hid (HBA.out.trans (hb.mono HBA.out.size))
 clear hb n0 n1 n2 n3 n4 n5 nl m0 m1 m2 ml
 cases b3 with
 | false =>
   clear hf3
   go_wp2_with (fail)
   refine (HAWK.out _ HBA.out).mono ?_
   rintro e wz ⟨rfl, hbz⟩
   have HBZ := Lib.hid (HBA.out.trans (hbz.mono HBA.out.size))
   clear hbz
   go_wp2_with (fail)
   go_ret
   exact ⟨rfl, HBZ.out⟩
 | true =>
 have HF3 := Lib.hid (hf3 rfl)
 clear hf3
 have HNc := Lib.hid (few_nar 60 c HF1.out.1)
 have HNx := Lib.hid (few_nar 60 x HF2.out.1)
 have HNy := Lib.hid (few_nar 60 y HF3.out.1)
 have HSE := Lib.hid HF1.out.2
 have HNDc : Hid (∀ W, Below V3.heap.size V3 W → Calls Tryz.prog 12 #[.agg #[.string ⟨c.op.toArray⟩, .int .i64 c.int, .string ⟨c.text.toArray⟩, .int .i64 c.ty.kind, .slice Ac c.ty.args.length cc, .slice Kc c.kids.length kc]] W fun e w' => (∃ A c' K k, e = .returned (.agg #[.string ⟨c.op.toArray⟩, .int .i64 c.int, .string ⟨c.text.toArray⟩, .int .i64 c.ty.kind, .slice A c.ty.args.length c', .slice K c.kids.length k]) ∧ NdR W.heap.size w'.heap.size w' (.agg #[.string ⟨c.op.toArray⟩, .int .i64 c.int, .string ⟨c.text.toArray⟩, .int .i64 c.ty.kind, .slice A c.ty.args.length c', .slice K c.kids.length k]) c) ∧ Below W.heap.size W w') := fun W h => node_law2 (HCL1.out.below h) HNc.out
 have HNDx : Hid (∀ W, Below V3.heap.size V3 W → Calls Tryz.prog 12 #[.agg #[.string ⟨x.op.toArray⟩, .int .i64 x.int, .string ⟨x.text.toArray⟩, .int .i64 x.ty.kind, .slice Ax x.ty.args.length cx, .slice Kx x.kids.length kx]] W fun e w' => (∃ A c' K k, e = .returned (.agg #[.string ⟨x.op.toArray⟩, .int .i64 x.int, .string ⟨x.text.toArray⟩, .int .i64 x.ty.kind, .slice A x.ty.args.length c', .slice K x.kids.length k]) ∧ NdR W.heap.size w'.heap.size w' (.agg #[.string ⟨x.op.toArray⟩, .int .i64 x.int, .string ⟨x.text.toArray⟩, .int .i64 x.ty.kind, .slice A x.ty.args.length c', .slice K x.kids.length k]) x) ∧ Below W.heap.size W w') := fun W h => node_law2 (HXL1.out.below h) HNx.out
 have HNDy : Hid (∀ W, Below V3.heap.size V3 W → Calls Tryz.prog 12 #[.agg #[.string ⟨y.op.toArray⟩, .int .i64 y.int, .string ⟨y.text.toArray⟩, .int .i64 y.ty.kind, .slice Ay y.ty.args.length cy, .slice Ky y.kids.length ky]] W fun e w' => (∃ A c' K k, e = .returned (.agg #[.string ⟨y.op.toArray⟩, .int .i64 y.int, .string ⟨y.text.toArray⟩, .int .i64 y.ty.kind, .slice A y.ty.args.length c', .slice K y.kids.length k]) ∧ NdR W.heap.size w'.heap.size w' (.agg #[.string ⟨y.op.toArray⟩, .int .i64 y.int, .string ⟨y.text.toArray⟩, .int .i64 y.ty.kind, .slice A y.ty.args.length c', .slice K y.kids.length k]) y) ∧ Below W.heap.size W w') := fun W h => node_law2 (HYL1.out.below h) HNy.out
 go_upto_region 4 with (fail)
 go_cut [7] from 45 to 52 (fun s7 wx => Below V3.heap.size V3 wx ∧ OutA V3.heap.size wx s7 (ndI c x y))
 case first =>
  have n0 := cell6_0 HBX.out.b1
  have n1 := cell6_1 HBX.out.b1
  have n2 := cell6_2 HBX.out.b1
  have n3 := cell6_3 HBX.out.b1
  have n4 := cell6_4 HBX.out.b1
  have n5 := cell6_5 HBX.out.b1
  have nl := cell_lt HBX.out.b1
  have o0 := cell6_0 HBX.out.b2
  have o1 := cell6_1 HBX.out.b2
  have o2 := cell6_2 HBX.out.b2
  have o3 := cell6_3 HBX.out.b2
  have o4 := cell6_4 HBX.out.b2
  have o5 := cell6_5 HBX.out.b2
  have ol := cell_lt HBX.out.b2
  have p0 := cell6_0 HBX.out.b3
  have p1 := cell6_1 HBX.out.b3
  have p2 := cell6_2 HBX.out.b3
  have p3 := cell6_3 HBX.out.b3
  have p4 := cell6_4 HBX.out.b3
  have p5 := cell6_5 HBX.out.b3
  have pl := cell_lt HBX.out.b3
  go_region_held3 (fun W => W.cell? ⟨q1, 0, none⟩ = some (.string ⟨c.op.toArray⟩) ∧ W.cell? ⟨q1, 1, none⟩ = some (.int .i64 c.int) ∧ W.cell? ⟨q1, 2, none⟩ = some (.string ⟨c.text.toArray⟩) ∧ W.cell? ⟨q1, 3, none⟩ = some (.int .i64 c.ty.kind) ∧ W.cell? ⟨q1, 4, none⟩ = some (.slice Ac c.ty.args.length cc) ∧ W.cell? ⟨q1, 5, none⟩ = some (.slice Kc c.kids.length kc) ∧ W.cell? ⟨q2, 0, none⟩ = some (.string ⟨x.op.toArray⟩) ∧ W.cell? ⟨q2, 1, none⟩ = some (.int .i64 x.int) ∧ W.cell? ⟨q2, 2, none⟩ = some (.string ⟨x.text.toArray⟩) ∧ W.cell? ⟨q2, 3, none⟩ = some (.int .i64 x.ty.kind) ∧ W.cell? ⟨q2, 4, none⟩ = some (.slice Ax x.ty.args.length cx) ∧ W.cell? ⟨q2, 5, none⟩ = some (.slice Kx x.kids.length kx) ∧ W.cell? ⟨q3, 0, none⟩ = some (.string ⟨y.op.toArray⟩) ∧ W.cell? ⟨q3, 1, none⟩ = some (.int .i64 y.int) ∧ W.cell? ⟨q3, 2, none⟩ = some (.string ⟨y.text.toArray⟩) ∧ W.cell? ⟨q3, 3, none⟩ = some (.int .i64 y.ty.kind) ∧ W.cell? ⟨q3, 4, none⟩ = some (.slice Ay y.ty.args.length cy) ∧ W.cell? ⟨q3, 5, none⟩ = some (.slice Ky y.kids.length ky) ∧ Below V3.heap.size V3 W)
   (exact keep18 HBX.out (by repeat' (first | with_reducible exact HBY.out | with_reducible exact HBX2.out | with_reducible exact HBC.out | with_reducible exact Below.refl _ _ | with_reducible refine bl_al ?_ _ | with_reducible refine bl_dr ?_ | (with_reducible refine bl_set ?_ ?_) | first | omega | (simp; done) | (simp; omega))))
   (first
   | (go_at_call 12; (with_reducible refine (HNDc.out _ ?_).mono ?_); (focus repeat' (first | with_reducible exact Below.refl _ _ | with_reducible refine bl_al ?_ _ | with_reducible refine bl_dr ?_)); rintro e wA ⟨⟨Dc, dc, Fc, fc, rfl, hr⟩, hb⟩; have HRc := Lib.hid hr; have HBC : Hid (Below V3.heap.size V3 wA) := bl_tr (by repeat' (first | with_reducible exact Below.refl _ _ | with_reducible refine bl_al ?_ _ | with_reducible refine bl_dr ?_)) hb; have hsc := hb.size; have htc := HBC.out.size; (first | (have HZ := Lib.hid ((hb.block V3.heap.size (by simp)).trans (heap_alloc_new V3 (.cells #[.string ⟨#[]⟩, .int .i64 0, .string ⟨#[]⟩, .int .i64 0, .slice none 0 0, .slice none 0 0] 41)))) | skip); clear hr hb)
   | (go_at_call 12; (with_reducible refine (HNDx.out _ ?_).mono ?_); (focus repeat' (first | with_reducible exact HBC.out | with_reducible refine bl_al ?_ _ | with_reducible refine bl_dr ?_)); rintro e wB ⟨⟨Dx, dx, Fx, fx, rfl, hr⟩, hb⟩; have HRc := Lib.hid ((HRc.out.below (by repeat' (first | with_reducible exact Below.refl _ _ | with_reducible refine bl_al ?_ _ | with_reducible refine bl_dr ?_))).below hb); have HRx := Lib.hid hr; have HBX2 : Hid (Below V3.heap.size V3 wB) := bl_tr (by repeat' (first | with_reducible exact HBC.out | with_reducible refine bl_al ?_ _ | with_reducible refine bl_dr ?_)) hb; have hsx := hb.size; have htx := HBX2.out.size; (first | (have HZx := Lib.hid ((hb.block _ (cell_lt HZ.out)).trans HZ.out)) | (have HZx := Lib.hid ((hb.block wA.heap.size (by simp)).trans (heap_alloc_new wA (.cells #[.string ⟨#[]⟩, .int .i64 0, .string ⟨#[]⟩, .int .i64 0, .slice none 0 0, .slice none 0 0] 41)))) | skip); clear hr hb)
   | (go_at_call 12; (with_reducible refine (HNDy.out _ ?_).mono ?_); (focus repeat' (first | with_reducible exact HBX2.out | with_reducible refine bl_al ?_ _ | with_reducible refine bl_dr ?_)); rintro e wC ⟨⟨Dy, dy, Fy, fy, rfl, hr⟩, hb⟩; have HRc := Lib.hid ((HRc.out.below (by repeat' (first | with_reducible exact Below.refl _ _ | with_reducible refine bl_al ?_ _ | with_reducible refine bl_dr ?_))).below hb); have HRx := Lib.hid ((HRx.out.below (by repeat' (first | with_reducible exact Below.refl _ _ | with_reducible refine bl_al ?_ _ | with_reducible refine bl_dr ?_))).below hb); have HRy := Lib.hid hr; have HBY : Hid (Below V3.heap.size V3 wC) := bl_tr (by repeat' (first | with_reducible exact HBX2.out | with_reducible refine bl_al ?_ _ | with_reducible refine bl_dr ?_)) hb; have hsy := hb.size; have hty := HBY.out.size; (first | (have HZy := Lib.hid ((hb.block _ (cell_lt HZx.out)).trans HZx.out)) | (have HZy := Lib.hid ((hb.block wB.heap.size (by simp)).trans (heap_alloc_new wB (.cells #[.string ⟨#[]⟩, .int .i64 0, .string ⟨#[]⟩, .int .i64 0, .slice none 0 0, .slice none 0 0] 41)))) | skip); (first | (have y0 := cell6_0 HZy.out; have y1 := cell6_1 HZy.out; have y2 := cell6_2 HZy.out; have y3 := cell6_3 HZy.out; have y4 := cell6_4 HZy.out; have y5 := cell6_5 HZy.out; have yf0 := cell3_f HZy.out 0; have yf1 := cell3_f HZy.out 1; have yf2 := cell3_f HZy.out 2; have yf3 := cell3_f HZy.out 3; have yf4 := cell3_f HZy.out 4; have yf5 := cell3_f HZy.out 5; have yl := cell_lt HZy.out) | skip); clear hr hb)
   | fail)
  all_goals (
   go_wp2_with (fail)
   go_meet
   have hux : wA.heap.size ≤ wB.heap.size := (by first | exact hsx | (simp at hsx; omega) | omega)
   have huy : wB.heap.size ≤ wC.heap.size := (by first | exact hsy | (simp at hsy; omega) | omega)
   have hvA := HBC.out.size
   first
   | (with_reducible exact leaf1 HBY.out HRc.out HRx.out HRy.out hux huy)
   | (with_reducible exact leaf2 HBY.out HRc.out HRx.out HRy.out hux huy)
   | (with_reducible refine leaf3 (zs := #[]) HZy.out ?_ HBY.out HRc.out HRx.out HRy.out hux huy ?_ ?_ ?_) <;> first | omega | (left; simp; done) | (left; simp; omega) | (right; simp; omega) | ((try simp at hsc); (try simp at hsx); (try simp at hsy); first | omega | (left; simp; done) | (left; simp; omega))
   | trace_state)
 case rest =>
 have HV3 := HBA
 obtain ⟨hb4, hO⟩ := hcut
 obtain ⟨V4, hV4⟩ : ∃ W : World, W = wc := ⟨_, rfl⟩
 subst hV4
 obtain ⟨q7, g7, rfl, hq7, ho7, hn7⟩ := hO
 have HW3 := Lib.hid hb4
 have HBX := Lib.hid (HBX.out.below hb4)
 have HOX := Lib.hid ho7
 have HNO := Lib.hid hn7
 have HB4 := Lib.hid (HBA.out.trans (hb4.mono HBA.out.size))
 have HRGO := Lib.hid (show RgN 24 (ndI c x y) from ⟨by show (-9223372036854775808 : Int) ≤ 0; decide, by show (0 : Int) ≤ 9223372036854775807; decide, Nat.zero_le _, fun k hk => by
  rcases List.mem_cons.1 hk with rfl | hk
  · exact few_rg 23 dc 60 _ HIc.out HF1.out.1
  · rcases List.mem_cons.1 hk with rfl | hk
    · exact few_rg 23 dx 60 _ HIx.out HF2.out.1
    · rcases List.mem_cons.1 hk with rfl | hk
      · exact few_rg 23 dy 60 _ HIy.out HF3.out.1
      · cases hk⟩)
 have n0 := cell6_0 ho7
 have n1 := cell6_1 ho7
 have n2 := cell6_2 ho7
 have n3 := cell6_3 ho7
 have n4 := cell6_4 ho7
 have n5 := cell6_5 ho7
 have nl := cell_lt ho7
 clear hb4 ho7 hn7
 go_wp2_with (fail)
 obtain ⟨dO, hNO⟩ := HNO.out
 refine (exprCheck_any dO _ _ (ndI c x y) V4 hNO HRGO.out (HG.out.below HB4.out hGl)).mono ?_
 rintro e V5 ⟨hck, hb⟩
 have HBX := Lib.hid (HBX.out.below hb)
 have HW3 := Lib.hid (bl_tr HW3.out hb)
 have HOX := Lib.hid ((hb.block _ nl).trans HOX.out)
 have HNO := Lib.hid (HNO.out.below hb)
 have HBA := Lib.hid (HB4.out.trans (hb.mono HB4.out.size))
 clear hb hNO n0 n1 n2 n3 n4 n5 nl HB4
 cases hsn : showW (ndI c x y) with
 | none =>
   rw [hsn] at hck
   subst hck
   clear hsn
   go_wp2_with (fail)
   refine (HAWK.out _ HBA.out).mono ?_
   rintro e wz ⟨rfl, hbz⟩
   have HBZ := Lib.hid (HBA.out.trans (hbz.mono HBA.out.size))
   clear hbz
   go_wp2_with (fail)
   go_ret
   exact ⟨rfl, HBZ.out⟩
 | some st =>
 rw [hsn] at hck
 subst hck
 have HSHO := Lib.hid (show (showW (ndI c x y)).isSome = true by rw [hsn]; rfl)
 have HSHc := Lib.hid (show (showW c).isSome = true from (sizes_pure hsn).1 c (by simp [ndI, Nd.kids]))
 have HSHx := Lib.hid (show (showW x).isSome = true from (sizes_pure hsn).1 x (by simp [ndI, Nd.kids]))
 have HSHy := Lib.hid (show (showW y).isSome = true from (sizes_pure hsn).1 y (by simp [ndI, Nd.kids]))
 clear hsn
 have m0 := cell3_0 HBX.out.b4
 have m1 := cell3_1 HBX.out.b4
 have m2 := cell3_2 HBX.out.b4
 have ml := cell_lt HBX.out.b4
 go_wp2_with (fail)
 refine (right_law (HEL1.out.below HW3.out) HSE.out).mono ?_
 rintro e V6 ⟨rfl, hb⟩
 have HBX := Lib.hid (HBX.out.below hb)
 have HW3 := Lib.hid (bl_tr HW3.out hb)
 have HOX := Lib.hid ((hb.block _ (cell_lt HOX.out)).trans HOX.out)
 have HNO := Lib.hid (HNO.out.below hb)
 have HBA := Lib.hid (HBA.out.trans (hb.mono HBA.out.size))
 clear hb m0 m1 m2 ml
 cases hri : rightE it sides with
 | false =>
   clear hri
   go_wp2_with (fail)
   refine (HAWK.out _ HBA.out).mono ?_
   rintro e wz ⟨rfl, hbz⟩
   have HBZ := Lib.hid (HBA.out.trans (hbz.mono HBA.out.size))
   clear hbz
   go_wp2_with (fail)
   go_ret
   exact ⟨rfl, HBZ.out⟩
 | true =>
 have HRI := Lib.hid hri
 have HCS := Lib.hid (if_cases hri ((show_inf HSHO.out).2.2.2.2.2.2 0 c rfl) ((show_inf HSHO.out).2.2.2.2.2.2 1 x rfl) ((show_inf HSHO.out).2.2.2.2.2.2 2 y rfl))
 clear hri
 obtain ⟨RO, hRO⟩ : ∃ R, resI it sides (ndI c x y) = R := ⟨_, rfl⟩
 obtain ⟨Rc, hRc⟩ : ∃ R, resI it sides c = R := ⟨_, rfl⟩
 obtain ⟨Rx, hRx⟩ : ∃ R, resI it sides x = R := ⟨_, rfl⟩
 obtain ⟨Ry, hRy⟩ : ∃ R, resI it sides y = R := ⟨_, rfl⟩
 have HLN : Hid (∀ (n : Nd) (R : Except (Int × List Int) Ty) (no : Int) (qs : List Int), resI it sides n = R → R = .error (no, qs) → qs.length ≤ 24) := Lib.hid fun n R no qs h1 h2 => res_len (ck := true) (by rw [infR_true HRI.out]; exact h1.trans h2)
 have HLc := Lib.hid (HLN.out c Rc · · hRc)
 have HLx := Lib.hid (HLN.out x Rx · · hRx)
 have HLy := Lib.hid (HLN.out y Ry · · hRy)
 have HEV : Hid (∀ W, Below V3.heap.size V3 W → Calls Tryz.prog 13 #[.agg #[.int .i64 it.kind, .slice EA it.args.length ek, .slice SA sides.length sk]] W fun e w' => (∃ v', e = .returned v' ∧ EvL w' v' it sides) ∧ Below W.heap.size W w') := fun W h => env_law (HEL1.out.below h) HSE.out
 have HG3 : Hid (∀ W, Below V3.heap.size V3 W → Gl W) := Lib.hid fun W h => HG.out.below (HV3.out.trans (h.mono HV3.out.size)) hGl
 have HIFO : Hid (∀ (W : World) (v u : Value), Below V3.heap.size V3 W → NdL W v (ndI c x y) → EvL W u it sides → Calls Tryz.prog 11 #[v, u] W fun e w' => InfL RO W.heap.size w' e ∧ Below W.heap.size W w') := Lib.hid fun W v u h h1 h2 => by
  have h3 := infer_law h1 h2 HRGO.out (HG3.out W h)
  rw [HSHO.out, infR_true HRI.out, hRO] at h3
  exact h3
 have HIFc : Hid (∀ (W : World) (v u : Value), Below V3.heap.size V3 W → NdL W v c → EvL W u it sides → Calls Tryz.prog 11 #[v, u] W fun e w' => InfL Rc W.heap.size w' e ∧ Below W.heap.size W w') := Lib.hid fun W v u h h1 h2 => by
  have h3 := infer_law h1 h2 (few_rg 24 dc 60 _ HIc.out HF1.out.1) (HG3.out W h)
  rw [HSHc.out, infR_true HRI.out, hRc] at h3
  exact h3
 have HIFx : Hid (∀ (W : World) (v u : Value), Below V3.heap.size V3 W → NdL W v x → EvL W u it sides → Calls Tryz.prog 11 #[v, u] W fun e w' => InfL Rx W.heap.size w' e ∧ Below W.heap.size W w') := Lib.hid fun W v u h h1 h2 => by
  have h3 := infer_law h1 h2 (few_rg 24 dx 60 _ HIx.out HF2.out.1) (HG3.out W h)
  rw [HSHx.out, infR_true HRI.out, hRx] at h3
  exact h3
 have HIFy : Hid (∀ (W : World) (v u : Value), Below V3.heap.size V3 W → NdL W v y → EvL W u it sides → Calls Tryz.prog 11 #[v, u] W fun e w' => InfL Ry W.heap.size w' e ∧ Below W.heap.size W w') := Lib.hid fun W v u h h1 h2 => by
  have h3 := infer_law h1 h2 (few_rg 24 dy 60 _ HIy.out HF3.out.1) (HG3.out W h)
  rw [HSHy.out, infR_true HRI.out, hRy] at h3
  exact h3
 have HCS : Hid (IfC RO Rc Rx Ry) := Lib.hid (by rw [← hRO, ← hRc, ← hRx, ← hRy]; exact HCS.out)
 clear hRO hRc hRx hRy HLN
 go_upto_region 7 with (fail)
 go_cut [8, 9, 10] from 62 to 69 (fun s1 s2 s3 wx => Below V6.heap.size V6 wx ∧ InfA RO V6.heap.size wx s2 s3 ∧ BoxA RO V6.heap.size wx s1)
 case first =>
  have n0 := cell6_0 HOX.out
  have n1 := cell6_1 HOX.out
  have n2 := cell6_2 HOX.out
  have n3 := cell6_3 HOX.out
  have n4 := cell6_4 HOX.out
  have n5 := cell6_5 HOX.out
  have m0 := cell3_0 HBX.out.b4
  have m1 := cell3_1 HBX.out.b4
  have m2 := cell3_2 HBX.out.b4
  have l0 := cell_lt HOX.out
  have l1 := cell_lt HBX.out.b4
  go_region_held3 (fun W => W.cell? ⟨q7, 0, none⟩ = some (.string ⟨#[105, 102]⟩) ∧ W.cell? ⟨q7, 1, none⟩ = some (.int .i64 0) ∧ W.cell? ⟨q7, 2, none⟩ = some (.string ⟨#[]⟩) ∧ W.cell? ⟨q7, 3, none⟩ = some (.int .i64 0) ∧ W.cell? ⟨q7, 4, none⟩ = some (.slice none 0 0) ∧ W.cell? ⟨q7, 5, none⟩ = some (.slice (some ⟨g7, 0, none⟩) 3 3) ∧ W.cell? ⟨q4, 0, none⟩ = some (.int .i64 it.kind) ∧ W.cell? ⟨q4, 1, none⟩ = some (.slice EA it.args.length ek) ∧ W.cell? ⟨q4, 2, none⟩ = some (.slice SA sides.length sk) ∧ Below V6.heap.size V6 W)
   (exact keep9b HOX.out HBX.out.b4 (by repeat' (first | with_reducible exact HBC3.out | with_reducible exact HBB3.out | with_reducible exact HBA3.out | with_reducible exact Below.refl _ _ | with_reducible refine bl_al ?_ _ | with_reducible refine bl_dr ?_ | (with_reducible refine bl_set ?_ ?_) | first | omega | (simp; done) | (simp; omega))))
   (first
   | (go_at_call 13; (with_reducible refine (HEV.out _ ?_).mono ?_); (focus exact bl_tr HW3.out (by repeat' (first | with_reducible exact Below.refl _ _ | with_reducible refine bl_al ?_ _ | with_reducible refine bl_dr ?_))); rintro e wB ⟨⟨vB, rfl, hA⟩, hbA⟩; have HNB := Lib.hid ((HNO.out.below (by repeat' (first | with_reducible exact Below.refl _ _ | with_reducible refine bl_al ?_ _ | with_reducible refine bl_dr ?_))).below hbA); have HEB := Lib.hid hA; have HBB3 : Hid (Below V6.heap.size V6 wB) := bl_tr (by repeat' (first | with_reducible exact Below.refl _ _ | with_reducible refine bl_al ?_ _ | with_reducible refine bl_dr ?_)) hbA; have hsB := HBB3.out.size; (first | (have HZ2 := Lib.hid ((hbA.block V6.heap.size (by simp)).trans (heap_alloc_new V6 (.cells #[.int .i64 0, .slice none 0 0] 34)))) | skip); clear hA hbA)
   | (go_at_call 11; (with_reducible refine (HIFO.out _ _ _ ?_ ?_ ?_).mono ?_); (focus exact bl_tr HW3.out (by repeat' (first | with_reducible exact HBB3.out | with_reducible refine bl_al ?_ _ | with_reducible refine bl_dr ?_))); (focus exact HNB.out.below (by repeat' (first | with_reducible exact Below.refl _ _ | with_reducible refine bl_al ?_ _ | with_reducible refine bl_dr ?_))); (focus exact HEB.out.below (by repeat' (first | with_reducible exact Below.refl _ _ | with_reducible refine bl_al ?_ _ | with_reducible refine bl_dr ?_))); rintro e wC ⟨hi, hbA⟩; obtain ⟨kd, TA', tl', tc', av, no, rfl, hiA, hiT, hkd⟩ := hi.open; have HIC := Lib.hid hiA; have HIT := Lib.hid hiT; have HKD := Lib.hid hkd; clear hkd; have HBC3 : Hid (Below V6.heap.size V6 wC) := bl_tr (by repeat' (first | with_reducible exact HBB3.out | with_reducible refine bl_al ?_ _ | with_reducible refine bl_dr ?_)) hbA; have hsC := HBC3.out.size; (first | (have HZ3 := Lib.hid ((hbA.block _ (cell_lt HZ2.out)).trans HZ2.out); have hq := cell_lt HZ2.out) | (have HZ3 := Lib.hid ((hbA.block wB.heap.size (by simp)).trans (heap_alloc_new wB (.cells #[.int .i64 0, .slice none 0 0] 34)))) | skip); (first | (have z0 := cell2_0 HZ3.out; have z1 := cell2_1 HZ3.out; have zf0 := cell3_f HZ3.out 0; have zf1 := cell3_f HZ3.out 1; have zl := cell_lt HZ3.out) | skip); clear hi hiA hiT hbA)
   | fail)
  all_goals (
   go_wp2_with (fail)
   go_meet
   exact ⟨by repeat' (first | with_reducible exact HBC3.out | with_reducible refine bl_al ?_ _ | (with_reducible refine bl_set ?_ ?_) | first | omega | (simp; done) | (simp; omega)), (by first | exact (HIC.out.below (bl_al (Below.refl _ _) _)).down (by omega) | exact ((HIC.out.set (by first | omega | (simp; done) | (simp; omega))).set (by first | omega | (simp; done) | (simp; omega))).down (by first | omega | (simp; done) | (simp; omega))), (by first | exact ⟨_, kd, TA', tl', tc', rfl, (by first | omega | (simp; done) | (simp; omega)), heap_alloc_new wC _, HKD.out, (HIT.out.below (bl_al (Below.refl _ _) _)).tyL⟩ | exact ⟨_, kd, TA', tl', tc', rfl, (by first | omega | (simp; done) | (simp; omega)), put2_box HZ3.out _ _, HKD.out, ((HIT.out.set (by first | omega | (simp; done) | (simp; omega))).set (by first | omega | (simp; done) | (simp; omega))).tyL⟩)⟩)
 case rest =>
 obtain ⟨hbc, hia, hbx⟩ := hcut
 obtain ⟨V7, hV7⟩ : ∃ W : World, W = wc := ⟨_, rfl⟩
 subst hV7
 have HBX := Lib.hid (HBX.out.below hbc)
 have HW3 := Lib.hid (bl_tr HW3.out hbc)
 have HIARO := Lib.hid hia
 have HBORO := Lib.hid hbx
 clear hbc hia hbx
 go_upto_region 8 with (fail)
 go_cut [11, 12, 13] from 70 to 78 (fun s1 s2 s3 wx => Below V7.heap.size V7 wx ∧ InfA Rc V7.heap.size wx s2 s3 ∧ BoxA Rc V7.heap.size wx s1)
 case first =>
  have n0 := cell6_0 HBX.out.b1
  have n1 := cell6_1 HBX.out.b1
  have n2 := cell6_2 HBX.out.b1
  have n3 := cell6_3 HBX.out.b1
  have n4 := cell6_4 HBX.out.b1
  have n5 := cell6_5 HBX.out.b1
  have m0 := cell3_0 HBX.out.b4
  have m1 := cell3_1 HBX.out.b4
  have m2 := cell3_2 HBX.out.b4
  have l0 := cell_lt HBX.out.b1
  have l1 := cell_lt HBX.out.b4
  go_region_held3 (fun W => W.cell? ⟨q1, 0, none⟩ = some (.string ⟨c.op.toArray⟩) ∧ W.cell? ⟨q1, 1, none⟩ = some (.int .i64 c.int) ∧ W.cell? ⟨q1, 2, none⟩ = some (.string ⟨c.text.toArray⟩) ∧ W.cell? ⟨q1, 3, none⟩ = some (.int .i64 c.ty.kind) ∧ W.cell? ⟨q1, 4, none⟩ = some (.slice Ac c.ty.args.length cc) ∧ W.cell? ⟨q1, 5, none⟩ = some (.slice Kc c.kids.length kc) ∧ W.cell? ⟨q4, 0, none⟩ = some (.int .i64 it.kind) ∧ W.cell? ⟨q4, 1, none⟩ = some (.slice EA it.args.length ek) ∧ W.cell? ⟨q4, 2, none⟩ = some (.slice SA sides.length sk) ∧ Below V7.heap.size V7 W)
   (exact keep9b HBX.out.b1 HBX.out.b4 (by repeat' (first | with_reducible exact HBC3.out | with_reducible exact HBB3.out | with_reducible exact HBA3.out | with_reducible exact Below.refl _ _ | with_reducible refine bl_al ?_ _ | with_reducible refine bl_dr ?_ | (with_reducible refine bl_set ?_ ?_) | first | omega | (simp; done) | (simp; omega))))
   (first
   | (go_at_call 12; (with_reducible refine (HNDc.out _ ?_).mono ?_); (focus exact bl_tr HW3.out (by repeat' (first | with_reducible exact Below.refl _ _ | with_reducible refine bl_al ?_ _ | with_reducible refine bl_dr ?_))); rintro e wA ⟨⟨Dn, dn, Fn, fn, rfl, hr⟩, hbA⟩; have HNA := Lib.hid (hr.toL (Nat.le_refl _)); have HBA3 : Hid (Below V7.heap.size V7 wA) := bl_tr (by repeat' (first | with_reducible exact Below.refl _ _ | with_reducible refine bl_al ?_ _ | with_reducible refine bl_dr ?_)) hbA; have hsA := HBA3.out.size; (first | (have HZ := Lib.hid ((hbA.block V7.heap.size (by simp)).trans (heap_alloc_new V7 (.cells #[.int .i64 0, .slice none 0 0] 34)))) | skip); clear hr hbA)
   | (go_at_call 13; (with_reducible refine (HEV.out _ ?_).mono ?_); (focus exact bl_tr HW3.out (by repeat' (first | with_reducible exact HBA3.out | with_reducible refine bl_al ?_ _ | with_reducible refine bl_dr ?_))); rintro e wB ⟨⟨vB, rfl, hA⟩, hbA⟩; have HNB := Lib.hid (HNA.out.below (bl_tr (by repeat' (first | with_reducible exact Below.refl _ _ | with_reducible refine bl_al ?_ _ | with_reducible refine bl_dr ?_)) hbA)); have HEB := Lib.hid hA; have HBB3 : Hid (Below V7.heap.size V7 wB) := bl_tr (by repeat' (first | with_reducible exact HBA3.out | with_reducible refine bl_al ?_ _ | with_reducible refine bl_dr ?_)) hbA; have hsB := HBB3.out.size; (first | (have HZ2 := Lib.hid ((hbA.block _ (cell_lt HZ.out)).trans HZ.out)) | (have HZ2 := Lib.hid ((hbA.block wA.heap.size (by simp)).trans (heap_alloc_new wA (.cells #[.int .i64 0, .slice none 0 0] 34)))) | skip); clear hA hbA)
   | (go_at_call 11; (with_reducible refine (HIFc.out _ _ _ ?_ ?_ ?_).mono ?_); (focus exact bl_tr HW3.out (by repeat' (first | with_reducible exact HBB3.out | with_reducible refine bl_al ?_ _ | with_reducible refine bl_dr ?_))); (focus exact HNB.out.below (by repeat' (first | with_reducible exact Below.refl _ _ | with_reducible refine bl_al ?_ _ | with_reducible refine bl_dr ?_))); (focus exact HEB.out.below (by repeat' (first | with_reducible exact Below.refl _ _ | with_reducible refine bl_al ?_ _ | with_reducible refine bl_dr ?_))); rintro e wC ⟨hi, hbA⟩; obtain ⟨kd, TA', tl', tc', av, no, rfl, hiA, hiT, hkd⟩ := hi.open; have HIC := Lib.hid hiA; have HIT := Lib.hid hiT; have HKD := Lib.hid hkd; clear hkd; have HBC3 : Hid (Below V7.heap.size V7 wC) := bl_tr (by repeat' (first | with_reducible exact HBB3.out | with_reducible refine bl_al ?_ _ | with_reducible refine bl_dr ?_)) hbA; have hsC := HBC3.out.size; (first | (have HZ3 := Lib.hid ((hbA.block _ (cell_lt HZ2.out)).trans HZ2.out); have hq := cell_lt HZ2.out) | (have HZ3 := Lib.hid ((hbA.block wB.heap.size (by simp)).trans (heap_alloc_new wB (.cells #[.int .i64 0, .slice none 0 0] 34)))) | skip); (first | (have z0 := cell2_0 HZ3.out; have z1 := cell2_1 HZ3.out; have zf0 := cell3_f HZ3.out 0; have zf1 := cell3_f HZ3.out 1; have zl := cell_lt HZ3.out) | skip); clear hi hiA hiT hbA)
   | fail)
  all_goals (
   go_wp2_with (fail)
   go_meet
   exact ⟨by repeat' (first | with_reducible exact HBC3.out | with_reducible refine bl_al ?_ _ | (with_reducible refine bl_set ?_ ?_) | first | omega | (simp; done) | (simp; omega)), (by first | exact (HIC.out.below (bl_al (Below.refl _ _) _)).down (by omega) | exact ((HIC.out.set (by first | omega | (simp; done) | (simp; omega))).set (by first | omega | (simp; done) | (simp; omega))).down (by first | omega | (simp; done) | (simp; omega))), (by first | exact ⟨_, kd, TA', tl', tc', rfl, (by first | omega | (simp; done) | (simp; omega)), heap_alloc_new wC _, HKD.out, (HIT.out.below (bl_al (Below.refl _ _) _)).tyL⟩ | exact ⟨_, kd, TA', tl', tc', rfl, (by first | omega | (simp; done) | (simp; omega)), put2_box HZ3.out _ _, HKD.out, ((HIT.out.set (by first | omega | (simp; done) | (simp; omega))).set (by first | omega | (simp; done) | (simp; omega))).tyL⟩)⟩)
 case rest =>
 obtain ⟨hbc, hia, hbx⟩ := hcut
 obtain ⟨V8, hV8⟩ : ∃ W : World, W = wc := ⟨_, rfl⟩
 subst hV8
 have HBX := Lib.hid (HBX.out.below hbc)
 have HW3 := Lib.hid (bl_tr HW3.out hbc)
 have HIARc := Lib.hid hia
 have HBORc := Lib.hid hbx
 have HIARO := Lib.hid (HIARO.out.below hbc)
 have HBORO := Lib.hid (HBORO.out.below hbc)
 clear hbc hia hbx
 go_upto_region 9 with (fail)
 go_cut [14, 15, 16] from 79 to 87 (fun s1 s2 s3 wx => Below V8.heap.size V8 wx ∧ InfA Rx V8.heap.size wx s2 s3 ∧ BoxA Rx V8.heap.size wx s1)
 case first =>
  have n0 := cell6_0 HBX.out.b2
  have n1 := cell6_1 HBX.out.b2
  have n2 := cell6_2 HBX.out.b2
  have n3 := cell6_3 HBX.out.b2
  have n4 := cell6_4 HBX.out.b2
  have n5 := cell6_5 HBX.out.b2
  have m0 := cell3_0 HBX.out.b4
  have m1 := cell3_1 HBX.out.b4
  have m2 := cell3_2 HBX.out.b4
  have l0 := cell_lt HBX.out.b2
  have l1 := cell_lt HBX.out.b4
  go_region_held3 (fun W => W.cell? ⟨q2, 0, none⟩ = some (.string ⟨x.op.toArray⟩) ∧ W.cell? ⟨q2, 1, none⟩ = some (.int .i64 x.int) ∧ W.cell? ⟨q2, 2, none⟩ = some (.string ⟨x.text.toArray⟩) ∧ W.cell? ⟨q2, 3, none⟩ = some (.int .i64 x.ty.kind) ∧ W.cell? ⟨q2, 4, none⟩ = some (.slice Ax x.ty.args.length cx) ∧ W.cell? ⟨q2, 5, none⟩ = some (.slice Kx x.kids.length kx) ∧ W.cell? ⟨q4, 0, none⟩ = some (.int .i64 it.kind) ∧ W.cell? ⟨q4, 1, none⟩ = some (.slice EA it.args.length ek) ∧ W.cell? ⟨q4, 2, none⟩ = some (.slice SA sides.length sk) ∧ Below V8.heap.size V8 W)
   (exact keep9b HBX.out.b2 HBX.out.b4 (by repeat' (first | with_reducible exact HBC3.out | with_reducible exact HBB3.out | with_reducible exact HBA3.out | with_reducible exact Below.refl _ _ | with_reducible refine bl_al ?_ _ | with_reducible refine bl_dr ?_ | (with_reducible refine bl_set ?_ ?_) | first | omega | (simp; done) | (simp; omega))))
   (first
   | (go_at_call 12; (with_reducible refine (HNDx.out _ ?_).mono ?_); (focus exact bl_tr HW3.out (by repeat' (first | with_reducible exact Below.refl _ _ | with_reducible refine bl_al ?_ _ | with_reducible refine bl_dr ?_))); rintro e wA ⟨⟨Dn, dn, Fn, fn, rfl, hr⟩, hbA⟩; have HNA := Lib.hid (hr.toL (Nat.le_refl _)); have HBA3 : Hid (Below V8.heap.size V8 wA) := bl_tr (by repeat' (first | with_reducible exact Below.refl _ _ | with_reducible refine bl_al ?_ _ | with_reducible refine bl_dr ?_)) hbA; have hsA := HBA3.out.size; (first | (have HZ := Lib.hid ((hbA.block V8.heap.size (by simp)).trans (heap_alloc_new V8 (.cells #[.int .i64 0, .slice none 0 0] 34)))) | skip); clear hr hbA)
   | (go_at_call 13; (with_reducible refine (HEV.out _ ?_).mono ?_); (focus exact bl_tr HW3.out (by repeat' (first | with_reducible exact HBA3.out | with_reducible refine bl_al ?_ _ | with_reducible refine bl_dr ?_))); rintro e wB ⟨⟨vB, rfl, hA⟩, hbA⟩; have HNB := Lib.hid (HNA.out.below (bl_tr (by repeat' (first | with_reducible exact Below.refl _ _ | with_reducible refine bl_al ?_ _ | with_reducible refine bl_dr ?_)) hbA)); have HEB := Lib.hid hA; have HBB3 : Hid (Below V8.heap.size V8 wB) := bl_tr (by repeat' (first | with_reducible exact HBA3.out | with_reducible refine bl_al ?_ _ | with_reducible refine bl_dr ?_)) hbA; have hsB := HBB3.out.size; (first | (have HZ2 := Lib.hid ((hbA.block _ (cell_lt HZ.out)).trans HZ.out)) | (have HZ2 := Lib.hid ((hbA.block wA.heap.size (by simp)).trans (heap_alloc_new wA (.cells #[.int .i64 0, .slice none 0 0] 34)))) | skip); clear hA hbA)
   | (go_at_call 11; (with_reducible refine (HIFx.out _ _ _ ?_ ?_ ?_).mono ?_); (focus exact bl_tr HW3.out (by repeat' (first | with_reducible exact HBB3.out | with_reducible refine bl_al ?_ _ | with_reducible refine bl_dr ?_))); (focus exact HNB.out.below (by repeat' (first | with_reducible exact Below.refl _ _ | with_reducible refine bl_al ?_ _ | with_reducible refine bl_dr ?_))); (focus exact HEB.out.below (by repeat' (first | with_reducible exact Below.refl _ _ | with_reducible refine bl_al ?_ _ | with_reducible refine bl_dr ?_))); rintro e wC ⟨hi, hbA⟩; obtain ⟨kd, TA', tl', tc', av, no, rfl, hiA, hiT, hkd⟩ := hi.open; have HIC := Lib.hid hiA; have HIT := Lib.hid hiT; have HKD := Lib.hid hkd; clear hkd; have HBC3 : Hid (Below V8.heap.size V8 wC) := bl_tr (by repeat' (first | with_reducible exact HBB3.out | with_reducible refine bl_al ?_ _ | with_reducible refine bl_dr ?_)) hbA; have hsC := HBC3.out.size; (first | (have HZ3 := Lib.hid ((hbA.block _ (cell_lt HZ2.out)).trans HZ2.out); have hq := cell_lt HZ2.out) | (have HZ3 := Lib.hid ((hbA.block wB.heap.size (by simp)).trans (heap_alloc_new wB (.cells #[.int .i64 0, .slice none 0 0] 34)))) | skip); (first | (have z0 := cell2_0 HZ3.out; have z1 := cell2_1 HZ3.out; have zf0 := cell3_f HZ3.out 0; have zf1 := cell3_f HZ3.out 1; have zl := cell_lt HZ3.out) | skip); clear hi hiA hiT hbA)
   | fail)
  all_goals (
   go_wp2_with (fail)
   go_meet
   exact ⟨by repeat' (first | with_reducible exact HBC3.out | with_reducible refine bl_al ?_ _ | (with_reducible refine bl_set ?_ ?_) | first | omega | (simp; done) | (simp; omega)), (by first | exact (HIC.out.below (bl_al (Below.refl _ _) _)).down (by omega) | exact ((HIC.out.set (by first | omega | (simp; done) | (simp; omega))).set (by first | omega | (simp; done) | (simp; omega))).down (by first | omega | (simp; done) | (simp; omega))), (by first | exact ⟨_, kd, TA', tl', tc', rfl, (by first | omega | (simp; done) | (simp; omega)), heap_alloc_new wC _, HKD.out, (HIT.out.below (bl_al (Below.refl _ _) _)).tyL⟩ | exact ⟨_, kd, TA', tl', tc', rfl, (by first | omega | (simp; done) | (simp; omega)), put2_box HZ3.out _ _, HKD.out, ((HIT.out.set (by first | omega | (simp; done) | (simp; omega))).set (by first | omega | (simp; done) | (simp; omega))).tyL⟩)⟩)
 case rest =>
 obtain ⟨hbc, hia, hbx⟩ := hcut
 obtain ⟨V9, hV9⟩ : ∃ W : World, W = wc := ⟨_, rfl⟩
 subst hV9
 have HBX := Lib.hid (HBX.out.below hbc)
 have HW3 := Lib.hid (bl_tr HW3.out hbc)
 have HIARx := Lib.hid hia
 have HBORx := Lib.hid hbx
 have HIARO := Lib.hid (HIARO.out.below hbc)
 have HBORO := Lib.hid (HBORO.out.below hbc)
 have HIARc := Lib.hid (HIARc.out.below hbc)
 have HBORc := Lib.hid (HBORc.out.below hbc)
 clear hbc hia hbx
 go_upto_region 10 with (fail)
 go_cut [17, 18, 19] from 88 to 96 (fun s1 s2 s3 wx => Below V9.heap.size V9 wx ∧ InfA Ry V9.heap.size wx s2 s3 ∧ BoxA Ry V9.heap.size wx s1)
 case first =>
  have n0 := cell6_0 HBX.out.b3
  have n1 := cell6_1 HBX.out.b3
  have n2 := cell6_2 HBX.out.b3
  have n3 := cell6_3 HBX.out.b3
  have n4 := cell6_4 HBX.out.b3
  have n5 := cell6_5 HBX.out.b3
  have m0 := cell3_0 HBX.out.b4
  have m1 := cell3_1 HBX.out.b4
  have m2 := cell3_2 HBX.out.b4
  have l0 := cell_lt HBX.out.b3
  have l1 := cell_lt HBX.out.b4
  go_region_held3 (fun W => W.cell? ⟨q3, 0, none⟩ = some (.string ⟨y.op.toArray⟩) ∧ W.cell? ⟨q3, 1, none⟩ = some (.int .i64 y.int) ∧ W.cell? ⟨q3, 2, none⟩ = some (.string ⟨y.text.toArray⟩) ∧ W.cell? ⟨q3, 3, none⟩ = some (.int .i64 y.ty.kind) ∧ W.cell? ⟨q3, 4, none⟩ = some (.slice Ay y.ty.args.length cy) ∧ W.cell? ⟨q3, 5, none⟩ = some (.slice Ky y.kids.length ky) ∧ W.cell? ⟨q4, 0, none⟩ = some (.int .i64 it.kind) ∧ W.cell? ⟨q4, 1, none⟩ = some (.slice EA it.args.length ek) ∧ W.cell? ⟨q4, 2, none⟩ = some (.slice SA sides.length sk) ∧ Below V9.heap.size V9 W)
   (exact keep9b HBX.out.b3 HBX.out.b4 (by repeat' (first | with_reducible exact HBC3.out | with_reducible exact HBB3.out | with_reducible exact HBA3.out | with_reducible exact Below.refl _ _ | with_reducible refine bl_al ?_ _ | with_reducible refine bl_dr ?_ | (with_reducible refine bl_set ?_ ?_) | first | omega | (simp; done) | (simp; omega))))
   (first
   | (go_at_call 12; (with_reducible refine (HNDy.out _ ?_).mono ?_); (focus exact bl_tr HW3.out (by repeat' (first | with_reducible exact Below.refl _ _ | with_reducible refine bl_al ?_ _ | with_reducible refine bl_dr ?_))); rintro e wA ⟨⟨Dn, dn, Fn, fn, rfl, hr⟩, hbA⟩; have HNA := Lib.hid (hr.toL (Nat.le_refl _)); have HBA3 : Hid (Below V9.heap.size V9 wA) := bl_tr (by repeat' (first | with_reducible exact Below.refl _ _ | with_reducible refine bl_al ?_ _ | with_reducible refine bl_dr ?_)) hbA; have hsA := HBA3.out.size; (first | (have HZ := Lib.hid ((hbA.block V9.heap.size (by simp)).trans (heap_alloc_new V9 (.cells #[.int .i64 0, .slice none 0 0] 34)))) | skip); clear hr hbA)
   | (go_at_call 13; (with_reducible refine (HEV.out _ ?_).mono ?_); (focus exact bl_tr HW3.out (by repeat' (first | with_reducible exact HBA3.out | with_reducible refine bl_al ?_ _ | with_reducible refine bl_dr ?_))); rintro e wB ⟨⟨vB, rfl, hA⟩, hbA⟩; have HNB := Lib.hid (HNA.out.below (bl_tr (by repeat' (first | with_reducible exact Below.refl _ _ | with_reducible refine bl_al ?_ _ | with_reducible refine bl_dr ?_)) hbA)); have HEB := Lib.hid hA; have HBB3 : Hid (Below V9.heap.size V9 wB) := bl_tr (by repeat' (first | with_reducible exact HBA3.out | with_reducible refine bl_al ?_ _ | with_reducible refine bl_dr ?_)) hbA; have hsB := HBB3.out.size; (first | (have HZ2 := Lib.hid ((hbA.block _ (cell_lt HZ.out)).trans HZ.out)) | (have HZ2 := Lib.hid ((hbA.block wA.heap.size (by simp)).trans (heap_alloc_new wA (.cells #[.int .i64 0, .slice none 0 0] 34)))) | skip); clear hA hbA)
   | (go_at_call 11; (with_reducible refine (HIFy.out _ _ _ ?_ ?_ ?_).mono ?_); (focus exact bl_tr HW3.out (by repeat' (first | with_reducible exact HBB3.out | with_reducible refine bl_al ?_ _ | with_reducible refine bl_dr ?_))); (focus exact HNB.out.below (by repeat' (first | with_reducible exact Below.refl _ _ | with_reducible refine bl_al ?_ _ | with_reducible refine bl_dr ?_))); (focus exact HEB.out.below (by repeat' (first | with_reducible exact Below.refl _ _ | with_reducible refine bl_al ?_ _ | with_reducible refine bl_dr ?_))); rintro e wC ⟨hi, hbA⟩; obtain ⟨kd, TA', tl', tc', av, no, rfl, hiA, hiT, hkd⟩ := hi.open; have HIC := Lib.hid hiA; have HIT := Lib.hid hiT; have HKD := Lib.hid hkd; clear hkd; have HBC3 : Hid (Below V9.heap.size V9 wC) := bl_tr (by repeat' (first | with_reducible exact HBB3.out | with_reducible refine bl_al ?_ _ | with_reducible refine bl_dr ?_)) hbA; have hsC := HBC3.out.size; (first | (have HZ3 := Lib.hid ((hbA.block _ (cell_lt HZ2.out)).trans HZ2.out); have hq := cell_lt HZ2.out) | (have HZ3 := Lib.hid ((hbA.block wB.heap.size (by simp)).trans (heap_alloc_new wB (.cells #[.int .i64 0, .slice none 0 0] 34)))) | skip); (first | (have z0 := cell2_0 HZ3.out; have z1 := cell2_1 HZ3.out; have zf0 := cell3_f HZ3.out 0; have zf1 := cell3_f HZ3.out 1; have zl := cell_lt HZ3.out) | skip); clear hi hiA hiT hbA)
   | fail)
  all_goals (
   go_wp2_with (fail)
   go_meet
   exact ⟨by repeat' (first | with_reducible exact HBC3.out | with_reducible refine bl_al ?_ _ | (with_reducible refine bl_set ?_ ?_) | first | omega | (simp; done) | (simp; omega)), (by first | exact (HIC.out.below (bl_al (Below.refl _ _) _)).down (by omega) | exact ((HIC.out.set (by first | omega | (simp; done) | (simp; omega))).set (by first | omega | (simp; done) | (simp; omega))).down (by first | omega | (simp; done) | (simp; omega))), (by first | exact ⟨_, kd, TA', tl', tc', rfl, (by first | omega | (simp; done) | (simp; omega)), heap_alloc_new wC _, HKD.out, (HIT.out.below (bl_al (Below.refl _ _) _)).tyL⟩ | exact ⟨_, kd, TA', tl', tc', rfl, (by first | omega | (simp; done) | (simp; omega)), put2_box HZ3.out _ _, HKD.out, ((HIT.out.set (by first | omega | (simp; done) | (simp; omega))).set (by first | omega | (simp; done) | (simp; omega))).tyL⟩)⟩)
 case rest =>
 obtain ⟨hbc, hia, hbx⟩ := hcut
 obtain ⟨V10, hV10⟩ : ∃ W : World, W = wc := ⟨_, rfl⟩
 subst hV10
 have HBX := Lib.hid (HBX.out.below hbc)
 have HW3 := Lib.hid (bl_tr HW3.out hbc)
 have HIARy := Lib.hid hia
 have HBORy := Lib.hid hbx
 have HIARO := Lib.hid (HIARO.out.below hbc)
 have HBORO := Lib.hid (HBORO.out.below hbc)
 have HIARc := Lib.hid (HIARc.out.below hbc)
 have HBORc := Lib.hid (HBORc.out.below hbc)
 have HIARx := Lib.hid (HIARx.out.below hbc)
 have HBORx := Lib.hid (HBORx.out.below hbc)
 clear hbc hia hbx
 have HBA := Lib.hid (HV3.out.trans (HW3.out.mono HV3.out.size))
 clear HIFO HIFc HIFx HIFy HEV HNDc HNDx HNDy
 obtain ⟨qt, kt, At, lt, ct, rfl, hqt, hbt, hkt, htt⟩ := HBORO.out
 obtain ⟨qa, ka, Aa, la, ca, rfl, hqa, hba, hka, hta⟩ := HBORc.out
 obtain ⟨qb, kb, Ab, lb, cb, rfl, hqb, hbb, hkb, htb⟩ := HBORx.out
 obtain ⟨qd, kd, Ad, ld, cd, rfl, hqd, hbd, hkd, htd⟩ := HBORy.out
 have HTT := Lib.hid htt
 have HTB := Lib.hid htb
 have HTD := Lib.hid htd
 have HKA := Lib.hid hka
 have T0 := Lib.hid hbt
 have A0 := Lib.hid hba
 have B0 := Lib.hid hbb
 have D0 := Lib.hid hbd
 clear hbt hkt htt hba hka hta hbb hkb htb hbd hkd htd hqt hqa hqb hqd
 have hio := HIARO.out
 have hic := HIARc.out
 have hix := HIARx.out
 have hiy := HIARy.out
 rcases HCS.out with ⟨no, qs, h1, h2⟩ | ⟨a, no, qs, h0, h1, h2⟩ | ⟨a, b, no, qs, h0, h3, h1, h2⟩ | ⟨a, b, d, h0, h3, h1, h2, h4⟩ | ⟨a, b, d, h0, h3, h1, h2, h4, h5, h6⟩
 · have hl := HLc.out no qs h1
   rw [h1] at hic
   rw [h2] at hio
   obtain ⟨rfl, hc0, hI1⟩ := hic
   obtain ⟨rfl, _, hI2⟩ := hio
   have H0 := Lib.hid hc0
   have HI1 := Lib.hid hI1
   have HI2 := Lib.hid hI2
   have HL := Lib.hid hl
   have hc0 : (no == 0) = false := by simp [H0.out]
   have hc1 : (no != 0) = true := by simp [H0.out]
   have hcc : (no == no) = true := by simp
   obtain ⟨v', w', hr, hI3, hb7⟩ := app_one 0 HI1.out (by have := HL.out; omega)
   have HB7 := Lib.hid hb7
   have HSM := Lib.hid (same_eq _ _ _ _ (0 :: qs) w' (by have := HL.out; simp; omega) (HI2.out.below HB7.out) hI3)
   have HRN := Lib.hid hr
   clear hI1 hI2 hl hI3 hb7 hr h1 h2  hix hiy
   go_wp2_with (first
    | (at_builtin; refine wpList_append_guard (by rfl) _ _ _ rfl _ _ rfl rfl _ _ HRN.out ?_)
    | (go_at_call 18; refine HSM.out.mono ?_; rintro e w8 ⟨rfl, hb8⟩; have HB8 : Hid (Below w.heap.size w w8) := HBA.out.trans ((HB7.out.mono HBA.out.size).trans (hb8.mono (by have := HBA.out.size; have := HB7.out.size; omega))); clear hb8)
    | (go_at_call 10; refine (HAWK.out _ HB8.out).mono ?_; rintro e w6 ⟨rfl, hb6⟩; have HB6 := Lib.hid (HB8.out.trans (hb6.mono HB8.out.size)); clear hb6)
    | fail)
   go_ret
   exact ⟨rfl, HB6.out⟩
 · have hl := HLx.out no qs h1
   rw [h1] at hix
   rw [h2] at hio
   rw [h0] at hic
   obtain ⟨rfl, rfl⟩ := hic
   obtain ⟨rfl, hc0, hI1⟩ := hix
   obtain ⟨rfl, _, hI2⟩ := hio
   have H0 := Lib.hid hc0
   have HI1 := Lib.hid hI1
   have HI2 := Lib.hid hI2
   have HL := Lib.hid hl
   have hc0 : (no == 0) = false := by simp [H0.out]
   have hc1 : (no != 0) = true := by simp [H0.out]
   have hcc : (no == no) = true := by simp
   obtain ⟨v', w', hr, hI3, hb7⟩ := app_one 1 HI1.out (by have := HL.out; omega)
   have HB7 := Lib.hid hb7
   have HSM := Lib.hid (same_eq _ _ _ _ (1 :: qs) w' (by have := HL.out; simp; omega) (HI2.out.below HB7.out) hI3)
   have HRN := Lib.hid hr
   clear hI1 hI2 hl hI3 hb7 hr h1 h2 h0 hiy
   go_wp2_with (first
    | (at_builtin; refine wpList_append_guard (by rfl) _ _ _ rfl _ _ rfl rfl _ _ HRN.out ?_)
    | (go_at_call 18; refine HSM.out.mono ?_; rintro e w8 ⟨rfl, hb8⟩; have HB8 : Hid (Below w.heap.size w w8) := HBA.out.trans ((HB7.out.mono HBA.out.size).trans (hb8.mono (by have := HBA.out.size; have := HB7.out.size; omega))); clear hb8)
    | (go_at_call 10; refine (HAWK.out _ HB8.out).mono ?_; rintro e w6 ⟨rfl, hb6⟩; have HB6 := Lib.hid (HB8.out.trans (hb6.mono HB8.out.size)); clear hb6)
    | fail)
   go_ret
   exact ⟨rfl, HB6.out⟩
 · have hl := HLy.out no qs h1
   rw [h1] at hiy
   rw [h2] at hio
   rw [h0] at hic
   obtain ⟨rfl, rfl⟩ := hic
   rw [h3] at hix
   obtain ⟨rfl, rfl⟩ := hix
   obtain ⟨rfl, hc0, hI1⟩ := hiy
   obtain ⟨rfl, _, hI2⟩ := hio
   have H0 := Lib.hid hc0
   have HI1 := Lib.hid hI1
   have HI2 := Lib.hid hI2
   have HL := Lib.hid hl
   have hc0 : (no == 0) = false := by simp [H0.out]
   have hc1 : (no != 0) = true := by simp [H0.out]
   have hcc : (no == no) = true := by simp
   obtain ⟨v', w', hr, hI3, hb7⟩ := app_one 2 HI1.out (by have := HL.out; omega)
   have HB7 := Lib.hid hb7
   have HSM := Lib.hid (same_eq _ _ _ _ (2 :: qs) w' (by have := HL.out; simp; omega) (HI2.out.below HB7.out) hI3)
   have HRN := Lib.hid hr
   clear hI1 hI2 hl hI3 hb7 hr h1 h2 h0 h3 
   go_wp2_with (first
    | (at_builtin; refine wpList_append_guard (by rfl) _ _ _ rfl _ _ rfl rfl _ _ HRN.out ?_)
    | (go_at_call 18; refine HSM.out.mono ?_; rintro e w8 ⟨rfl, hb8⟩; have HB8 : Hid (Below w.heap.size w w8) := HBA.out.trans ((HB7.out.mono HBA.out.size).trans (hb8.mono (by have := HBA.out.size; have := HB7.out.size; omega))); clear hb8)
    | (go_at_call 10; refine (HAWK.out _ HB8.out).mono ?_; rintro e w6 ⟨rfl, hb6⟩; have HB6 := Lib.hid (HB8.out.trans (hb6.mono HB8.out.size)); clear hb6)
    | fail)
   go_ret
   exact ⟨rfl, HB6.out⟩
 · rw [h2] at hio
   rw [h0] at hic
   obtain ⟨rfl, rfl⟩ := hic
   rw [h3] at hix
   obtain ⟨rfl, rfl⟩ := hix
   rw [h1] at hiy
   obtain ⟨rfl, rfl⟩ := hiy
   obtain ⟨rfl, _, hI2⟩ := hio
   obtain ⟨a9, c9, rfl, _, _⟩ := hI2
   have hka : ka = a.kind := HKA.out.trans (by rw [h0]; rfl)
   have H4 := Lib.hid h4
   have HSM : Hid (∀ W, Below V10.heap.size V10 W → Calls Tryz.prog 25 #[.agg #[.int .i64 kb, .slice Ab lb cb], .agg #[.int .i64 kd, .slice Ad ld cd]] W fun e w' => e = .returned (.bool (Knd.sameT b d)) ∧ Below W.heap.size W w') := Lib.hid fun W h => by
    obtain ⟨x1, k1⟩ := HTB.out.below h
    obtain ⟨x2, k2⟩ := HTD.out.below h
    rw [h3] at k1
    rw [h1] at k2
    exact Knd.same_any x1 x2 _ _ _ _ b d W k1 k2 (HG3.out W (bl_tr HW3.out h)).kd
   by_cases hk1 : ka = 1
   · have hs : Knd.sameT b d = false := by
       cases hs : Knd.sameT b d with
       | false => rfl
       | true => exact absurd ⟨hka.symm.trans hk1, hs⟩ H4.out
     rw [hs] at HSM
     subst hk1
     have t0 := cell2_0 T0.out
     have t1 := cell2_1 T0.out
     have tl := cell_lt T0.out
     have a0 := cell2_0 A0.out
     have a1 := cell2_1 A0.out
     have al := cell_lt A0.out
     have b0 := cell2_0 B0.out
     have b1 := cell2_1 B0.out
     have bl' := cell_lt B0.out
     have d0 := cell2_0 D0.out
     have d1 := cell2_1 D0.out
     have dl := cell_lt D0.out
     clear h0 h1 h2 h3 h4 hka hs
     go_wp2_with (first
      | (go_at_call 25; refine (HSM.out _ (Below.refl _ _)).mono ?_; rintro e w8 ⟨rfl, hb8⟩; have HB8 : Hid (Below w.heap.size w w8) := HBA.out.trans (hb8.mono HBA.out.size); clear hb8)
      | (go_at_call 10; refine (HAWK.out _ HB8.out).mono ?_; rintro e w6 ⟨rfl, hb6⟩; have HB6 := Lib.hid (HB8.out.trans (hb6.mono HB8.out.size)); clear hb6)
      | fail)
     go_ret
     exact ⟨rfl, HB6.out⟩
   · have hk2 : (ka == 1) = false := by simp [hk1]
     have hk3 : (ka != 1) = true := by simp [hk1]
     have t0 := cell2_0 T0.out
     have t1 := cell2_1 T0.out
     have tl := cell_lt T0.out
     have a0 := cell2_0 A0.out
     have a1 := cell2_1 A0.out
     have al := cell_lt A0.out
     have b0 := cell2_0 B0.out
     have b1 := cell2_1 B0.out
     have bl' := cell_lt B0.out
     have d0 := cell2_0 D0.out
     have d1 := cell2_1 D0.out
     have dl := cell_lt D0.out
     clear h0 h1 h2 h3 h4 hka hk1
     go_wp2_with (first
      | (go_at_call 10; refine (HAWK.out _ HBA.out).mono ?_; rintro e w6 ⟨rfl, hb6⟩; have HB6 := Lib.hid (HBA.out.trans (hb6.mono HBA.out.size)); clear hb6)
      | fail)
     go_ret
     exact ⟨rfl, HB6.out⟩
 · rw [h2] at hio
   rw [h0] at hic
   obtain ⟨rfl, rfl⟩ := hic
   rw [h3] at hix
   obtain ⟨rfl, rfl⟩ := hix
   rw [h1] at hiy
   obtain ⟨rfl, rfl⟩ := hiy
   obtain ⟨rfl, rfl⟩ := hio
   have hka : ka = 1 := HKA.out.trans (by rw [h0]; exact h4)
   subst hka
   have HSM : Hid (∀ W, Below V10.heap.size V10 W → Calls Tryz.prog 25 #[.agg #[.int .i64 kb, .slice Ab lb cb], .agg #[.int .i64 kd, .slice Ad ld cd]] W fun e w' => e = .returned (.bool (Knd.sameT b d)) ∧ Below W.heap.size W w') := Lib.hid fun W h => by
    obtain ⟨x1, k1⟩ := HTB.out.below h
    obtain ⟨x2, k2⟩ := HTD.out.below h
    rw [h3] at k1
    rw [h1] at k2
    exact Knd.same_any x1 x2 _ _ _ _ b d W k1 k2 (HG3.out W (bl_tr HW3.out h)).kd
   rw [h5] at HSM
   have HSM2 : Hid (∀ W, Below V10.heap.size V10 W → Calls Tryz.prog 25 #[.agg #[.int .i64 kt, .slice At lt ct], .agg #[.int .i64 kb, .slice Ab lb cb]] W fun e w' => e = .returned (.bool true) ∧ Below W.heap.size W w') := Lib.hid fun W h => by
    obtain ⟨x1, k1⟩ := HTT.out.below h
    obtain ⟨x2, k2⟩ := HTB.out.below h
    rw [h2] at k1
    rw [h3] at k2
    have k3 := Knd.same_any x1 x2 _ _ _ _ b b W k1 k2 (HG3.out W (bl_tr HW3.out h)).kd
    rw [rt_same h6] at k3
    exact k3
   have t0 := cell2_0 T0.out
   have t1 := cell2_1 T0.out
   have tl := cell_lt T0.out
   have a0 := cell2_0 A0.out
   have a1 := cell2_1 A0.out
   have al := cell_lt A0.out
   have b0 := cell2_0 B0.out
   have b1 := cell2_1 B0.out
   have bl' := cell_lt B0.out
   have d0 := cell2_0 D0.out
   have d1 := cell2_1 D0.out
   have dl := cell_lt D0.out
   clear h0 h1 h2 h3 h4 h5 h6
   go_wp2_with (first
    | (go_at_call 25; (with_reducible refine (HSM2.out w8 HB8.out).mono ?_); rintro e w9 ⟨rfl, hb9⟩; have HB9 : Hid (Below w.heap.size w w9) := HBA.out.trans ((HB8.out.mono HBA.out.size).trans (hb9.mono (by have := HBA.out.size; omega))); clear hb9)
    | (go_at_call 25; (with_reducible refine (HSM.out V10 (Below.refl _ _)).mono ?_); rintro e w8 ⟨rfl, hb8⟩; have HB8 := Lib.hid hb8; have hs8 := hb8.size; have tt := (hb8.block _ tl).trans T0.out; have bb := (hb8.block _ bl').trans B0.out; have f0 := cell2_0 tt; have f1 := cell2_1 tt; have f2 := cell_lt tt; have f3 := cell2_0 bb; have f4 := cell2_1 bb; have f5 := cell_lt bb; clear hb8 tt bb)
    | (go_at_call 10; refine (HAWK.out _ HB9.out).mono ?_; rintro e w6 ⟨rfl, hb6⟩; have HB6 := Lib.hid (HB9.out.trans (hb6.mono HB9.out.size)); clear hb6)
    | fail)
   go_ret
   exact ⟨rfl, HB6.out⟩
