/-
Stage 11: a node's line.
-/
import Derived.Test.YtllnamhgnbdkmaaGreatDoorJn
set_option linter.unusedVariables false
set_option linter.unusedSimpArgs false
namespace Go.Proofs.YtllnamhgnbdkmaaGreatDoor
open Go.RowKit Go.Shelf Go.Sort

def opWord (k : Int) : List UInt8 := match opP k with
  | some o => o.word
  | none => []
/-- A node's line. -/
def lineP (n : Gn) : List UInt8 := opWord n.op ++ ([32] ++ Lib.join (partsP n) [32])
theorem partsP_few (n : Gn) : (partsP n).length ≤ 6 := by
  unfold partsP
  split
  · simp
  split
  · simp
  split
  · simp
  split
  · simp
  · simp

theorem keepo {w0 W : World} {p q : Nat} {a0 a1 a2 a3 a4 a5 a6 a7 a8 a9 a10 a11 a12 a13 b1 : Value} (h0 : w0.cell? ⟨p, 0, none⟩ = some a0) (h1 : w0.cell? ⟨p, 1, none⟩ = some a1) (h2 : w0.cell? ⟨p, 2, none⟩ = some a2) (h3 : w0.cell? ⟨p, 3, none⟩ = some a3) (h4 : w0.cell? ⟨p, 4, none⟩ = some a4) (h5 : w0.cell? ⟨p, 5, none⟩ = some a5) (h6 : w0.cell? ⟨p, 6, none⟩ = some a6) (h7 : w0.cell? ⟨p, 7, none⟩ = some a7) (h8 : w0.cell? ⟨p, 8, none⟩ = some a8) (h9 : w0.cell? ⟨p, 9, none⟩ = some a9) (h10 : w0.cell? ⟨p, 10, none⟩ = some a10) (h11 : w0.cell? ⟨p, 11, none⟩ = some a11) (h12 : w0.cell? ⟨p, 12, none⟩ = some a12) (h13 : w0.cell? ⟨p, 13, none⟩ = some a13) (g1 : w0.cell? ⟨q, 1, none⟩ = some b1) (hp : p < w0.heap.size) (hq : q < w0.heap.size) (h : Below w0.heap.size w0 W) : W.cell? ⟨p, 0, none⟩ = some a0 ∧ W.cell? ⟨p, 1, none⟩ = some a1 ∧ W.cell? ⟨p, 2, none⟩ = some a2 ∧ W.cell? ⟨p, 3, none⟩ = some a3 ∧ W.cell? ⟨p, 4, none⟩ = some a4 ∧ W.cell? ⟨p, 5, none⟩ = some a5 ∧ W.cell? ⟨p, 6, none⟩ = some a6 ∧ W.cell? ⟨p, 7, none⟩ = some a7 ∧ W.cell? ⟨p, 8, none⟩ = some a8 ∧ W.cell? ⟨p, 9, none⟩ = some a9 ∧ W.cell? ⟨p, 10, none⟩ = some a10 ∧ W.cell? ⟨p, 11, none⟩ = some a11 ∧ W.cell? ⟨p, 12, none⟩ = some a12 ∧ W.cell? ⟨p, 13, none⟩ = some a13 ∧ W.cell? ⟨q, 1, none⟩ = some b1 ∧ Below w0.heap.size w0 W :=
  ⟨(World.cell?_of_block (h.block _ hp)).trans h0, (World.cell?_of_block (h.block _ hp)).trans h1, (World.cell?_of_block (h.block _ hp)).trans h2, (World.cell?_of_block (h.block _ hp)).trans h3, (World.cell?_of_block (h.block _ hp)).trans h4, (World.cell?_of_block (h.block _ hp)).trans h5, (World.cell?_of_block (h.block _ hp)).trans h6, (World.cell?_of_block (h.block _ hp)).trans h7, (World.cell?_of_block (h.block _ hp)).trans h8, (World.cell?_of_block (h.block _ hp)).trans h9, (World.cell?_of_block (h.block _ hp)).trans h10, (World.cell?_of_block (h.block _ hp)).trans h11, (World.cell?_of_block (h.block _ hp)).trans h12, (World.cell?_of_block (h.block _ hp)).trans h13, (World.cell?_of_block (h.block _ hq)).trans g1, h⟩

set_option maxRecDepth 100000 in
set_option maxHeartbeats 8000000 in
theorem line_any (w : World) (S : Nat → Prop) (d : Nat) (n : Gn) (IA SA A : Option Addr) (ic sc c : Nat) (hN : GnAt w S d (n.val IA SA A ic sc c) n) (hI : n.ins.length ≤ 1000) (hS : n.side.length ≤ 1000) (hR : GnR n) (hT1 : n.op = 1 → (Knd.measureT 6 n.ty).isSome = true) (hop : (opP n.op).isSome = true) (hJ : (Lib.join (partsP n) [32]).length ≤ 1000000) (hG : Gk w) :
    Calls Tryz.prog 44 #[.agg #[.int .i64 n.op, .slice IA n.ins.length ic, .slice SA n.side.length sc, .string ⟨n.text.toArray⟩, .int .i64 n.ty.kind, .slice A n.ty.args.length c, .int .i64 n.f0, .int .i64 n.f1, .int .i64 n.f2, .int .i64 n.f3, .int .i64 n.e, .int .i64 n.l, .int .i64 n.lt, .bool n.acc]] w fun e w' => e = .returned (.string ⟨(lineP n).toArray⟩) ∧ Below w.heap.size w w' := by
  obtain ⟨o, ho⟩ := Option.isSome_iff_exists.1 hop
  have hnf : n.val IA SA A ic sc c = .agg #[.int .i64 n.op, .slice IA n.ins.length ic, .slice SA n.side.length sc, .string ⟨n.text.toArray⟩, .int .i64 n.ty.kind, .slice A n.ty.args.length c, .int .i64 n.f0, .int .i64 n.f1, .int .i64 n.f2, .int .i64 n.f3, .int .i64 n.e, .int .i64 n.l, .int .i64 n.lt, .bool n.acc] := rfl
  obtain ⟨W0, hW0⟩ : ∃ W0, w.alloc (.cells #[.int .i64 n.op, .slice IA n.ins.length ic, .slice SA n.side.length sc, .string ⟨n.text.toArray⟩, .int .i64 n.ty.kind, .slice A n.ty.args.length c, .int .i64 n.f0, .int .i64 n.f1, .int .i64 n.f2, .int .i64 n.f3, .int .i64 n.e, .int .i64 n.l, .int .i64 n.lt, .bool n.acc] 83) = W0 := ⟨_, rfl⟩
  have hx : W0.heap[w.heap.size]? = some (.cells #[.int .i64 n.op, .slice IA n.ins.length ic, .slice SA n.side.length sc, .string ⟨n.text.toArray⟩, .int .i64 n.ty.kind, .slice A n.ty.args.length c, .int .i64 n.f0, .int .i64 n.f1, .int .i64 n.f2, .int .i64 n.f3, .int .i64 n.e, .int .i64 n.l, .int .i64 n.lt, .bool n.acc] 83 (0, 0)) := by rw [← hW0]; exact heap_alloc_new w _
  have hB0 : Below w.heap.size w W0 := by rw [← hW0]; exact bl_al (Below.refl _ _) _
  obtain ⟨WD, hWD⟩ : ∃ B : ByteArray, (⟨o.word.toArray⟩ : ByteArray) = B := ⟨_, rfl⟩
  obtain ⟨J, hJe⟩ : ∃ B : ByteArray, (⟨(Lib.join (partsP n) [32]).toArray⟩ : ByteArray) = B := ⟨_, rfl⟩
  have hwl : o.word.length ≤ 7 := (show ∀ o ∈ gops, o.word.length ≤ 7 by decide) o (opP_mem ho).1
  have sW : WD.size ≤ 7 := by rw [← hWD]; simpa [ByteArray.size] using hwl
  have sJ : J.size ≤ 1000000 := by rw [← hJe]; simpa [ByteArray.size] using hJ
  have HE : Hid ((⟨(lineP n).toArray⟩ : ByteArray) = WD ++ ⟨#[32]⟩ ++ J) := Lib.hid (by
    rw [← hWD, ← hJe]
    apply ByteArray.ext
    unfold lineP opWord
    rw [ho]
    simp [ByteArray.data_append])
  have n1 : ¬ 9223372036854775807 < WD.size + 1 := by omega
  have n2 : ¬ 9223372036854775807 < WD.size + 1 + J.size := by omega
  have HO0 := Lib.hid (opOf_any n.op W0 (hG.below hB0).op)
  rw [ho] at HO0
  have HO : Hid (Calls Tryz.prog 66 #[.int .i64 n.op] W0 fun e w' => e = .returned (.tuple #[.agg #[.int .i64 o.number, .string WD, .int .i64 o.parts, .int .i64 o.least, .int .i64 o.most, .int .i64 o.side], .bool true]) ∧ Below W0.heap.size W0 w') := Lib.hid (by
    have h := HO0.out
    simp only [Option.getD_some, Option.isSome_some, Gop.val] at h
    rw [hWD] at h
    exact h)
  have HPA : Hid (∀ W, Below w.heap.size w W → Calls Tryz.prog 76 #[.agg #[.int .i64 n.op, .slice IA n.ins.length ic, .slice SA n.side.length sc, .string ⟨n.text.toArray⟩, .int .i64 n.ty.kind, .slice A n.ty.args.length c, .int .i64 n.f0, .int .i64 n.f1, .int .i64 n.f2, .int .i64 n.f3, .int .i64 n.e, .int .i64 n.l, .int .i64 n.lt, .bool n.acc]] W fun e w' => (∃ v', e = .returned v' ∧ StrsAt w' (fun b => W.heap.size ≤ b) v' (partsP n)) ∧ Below W.heap.size W w') := Lib.hid fun W hb => parts_any W S d n IA SA A ic sc c (hN.below hb) hI hS hR hT1 (hG.below hb)
  have HJO : Hid (∀ (W : World) (v : Value), (∃ P, StrsAt W P v (partsP n)) → Calls Tryz.prog 75 #[v, .string ⟨#[32]⟩] W fun e w' => e = .returned (.string J) ∧ Below W.heap.size W w') := Lib.hid fun W v ⟨P, h⟩ => by
    have := join_any P v (partsP n) [32] W h (Nat.le_trans (partsP_few n) (by omega)) (by omega)
    rw [hJe] at this
    exact this
  have HW0 := Lib.hid hW0
  have HX := Lib.hid hx
  have HB0 := Lib.hid hB0
  rw [HE.out]
  clear hN hG hW0 hx hB0 hR hT1 hI hS hop ho hWD hJe hwl hJ hnf HO0
  go_enter Tryz.func44, Tryz.ntmps44
  go_upto_region 1 with (fail)
  rw [HW0.out]
  clear HW0
  have c0 := cellN (i := 0) HX.out rfl
  have cl := cell_lt HX.out
  go_upto_region 2 with (go_at_call 66; (with_reducible refine HO.out.mono ?_); rintro e w1 ⟨rfl, hb1⟩; have HB1 := Lib.hid (HB0.out.trans (hb1.mono HB0.out.size)); have hx1 := bl_blk hb1 HX.out; clear hb1 c0)
  have hz := heap_alloc_new w1 (.cells #[.int .i64 o.number, .string WD, .int .i64 o.parts, .int .i64 o.least, .int .i64 o.most, .int .i64 o.side] 121)
  have hx2 := alloc_old (o := .cells #[.int .i64 o.number, .string WD, .int .i64 o.parts, .int .i64 o.least, .int .i64 o.most, .int .i64 o.side] 121) hx1
  have hB2 : Below w.heap.size w (w1.alloc (.cells #[.int .i64 o.number, .string WD, .int .i64 o.parts, .int .i64 o.least, .int .i64 o.most, .int .i64 o.side] 121)) := HB1.out.alloc HB1.out.size _
  generalize w1.alloc (.cells #[.int .i64 o.number, .string WD, .int .i64 o.parts, .int .i64 o.least, .int .i64 o.most, .int .i64 o.side] 121) = W2 at *
  have HB2 := Lib.hid hB2
  have y0 := cellN (i := 0) hx2 rfl
  have y1 := cellN (i := 1) hx2 rfl
  have y2 := cellN (i := 2) hx2 rfl
  have y3 := cellN (i := 3) hx2 rfl
  have y4 := cellN (i := 4) hx2 rfl
  have y5 := cellN (i := 5) hx2 rfl
  have y6 := cellN (i := 6) hx2 rfl
  have y7 := cellN (i := 7) hx2 rfl
  have y8 := cellN (i := 8) hx2 rfl
  have y9 := cellN (i := 9) hx2 rfl
  have y10 := cellN (i := 10) hx2 rfl
  have y11 := cellN (i := 11) hx2 rfl
  have y12 := cellN (i := 12) hx2 rfl
  have y13 := cellN (i := 13) hx2 rfl
  have yl := cell_lt hx2
  have z1 := cellN (i := 1) hz rfl
  have zl := cell_lt hz
  have HBC : Hid (Below W2.heap.size W2 W2) := Lib.hid (Below.refl _ _)
  clear hz hx2 hx1 hB2
  go_region_held3 (fun W => W.cell? ⟨w.heap.size, 0, none⟩ = some (.int .i64 n.op) ∧ W.cell? ⟨w.heap.size, 1, none⟩ = some (.slice IA n.ins.length ic) ∧ W.cell? ⟨w.heap.size, 2, none⟩ = some (.slice SA n.side.length sc) ∧ W.cell? ⟨w.heap.size, 3, none⟩ = some (.string ⟨n.text.toArray⟩) ∧ W.cell? ⟨w.heap.size, 4, none⟩ = some (.int .i64 n.ty.kind) ∧ W.cell? ⟨w.heap.size, 5, none⟩ = some (.slice A n.ty.args.length c) ∧ W.cell? ⟨w.heap.size, 6, none⟩ = some (.int .i64 n.f0) ∧ W.cell? ⟨w.heap.size, 7, none⟩ = some (.int .i64 n.f1) ∧ W.cell? ⟨w.heap.size, 8, none⟩ = some (.int .i64 n.f2) ∧ W.cell? ⟨w.heap.size, 9, none⟩ = some (.int .i64 n.f3) ∧ W.cell? ⟨w.heap.size, 10, none⟩ = some (.int .i64 n.e) ∧ W.cell? ⟨w.heap.size, 11, none⟩ = some (.int .i64 n.l) ∧ W.cell? ⟨w.heap.size, 12, none⟩ = some (.int .i64 n.lt) ∧ W.cell? ⟨w.heap.size, 13, none⟩ = some (.bool n.acc) ∧ W.cell? ⟨w1.heap.size, 1, none⟩ = some (.string WD) ∧ Below W2.heap.size W2 W)
    (exact keepo y0 y1 y2 y3 y4 y5 y6 y7 y8 y9 y10 y11 y12 y13 z1 yl zl (by repeat' (first | with_reducible exact HBC.out | with_reducible exact Below.refl _ _ | with_reducible refine bl_al ?_ _ | with_reducible refine bl_dr ?_)))
    (first
    | (go_at_call 76; (with_reducible refine (HPA.out _ ?_).mono ?_); (focus exact HB2.out.trans (Below.mono (by repeat' (first | with_reducible exact HBC.out | with_reducible exact Below.refl _ _ | with_reducible refine bl_al ?_ _ | with_reducible refine bl_dr ?_)) HB2.out.size)); rintro e wx ⟨⟨pv, rfl, hp⟩, hbx⟩; have HP := Lib.hid hp; have HBC : Hid (Below W2.heap.size W2 wx) := Lib.hid (bl_tr (by repeat' (first | with_reducible exact HBC.out | with_reducible exact Below.refl _ _ | with_reducible refine bl_al ?_ _ | with_reducible refine bl_dr ?_)) hbx); clear hbx hp)
    | (go_at_call 75; (with_reducible refine (HJO.out _ _ ?_).mono ?_); (focus exact ⟨_, HP.out⟩); rintro e wx ⟨rfl, hbx⟩; have HBC : Hid (Below W2.heap.size W2 wx) := Lib.hid (bl_tr (by repeat' (first | with_reducible exact HBC.out | with_reducible exact Below.refl _ _ | with_reducible refine bl_al ?_ _ | with_reducible refine bl_dr ?_)) hbx); clear hbx)
    | fail)
  all_goals (
    go_wp2_with (fail)
    go_ret
    exact ⟨rfl, HB2.out.trans (HBC.out.mono HB2.out.size)⟩)

end Go.Proofs.YtllnamhgnbdkmaaGreatDoor
