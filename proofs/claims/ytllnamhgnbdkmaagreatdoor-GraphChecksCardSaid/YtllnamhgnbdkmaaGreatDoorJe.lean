/-
Stage 11: check and Check.
-/
import Derived.Test.YtllnamhgnbdkmaaGreatDoorJd
import Derived.Lib.LaidTab
set_option linter.unusedVariables false
set_option linter.unusedSimpArgs false
namespace Go.Proofs.YtllnamhgnbdkmaaGreatDoor
open Go.RowKit

/-- The table of powers lies in its package's variable. -/
def Tb (w : World) : Prop := Lib.TabIs Tryz.prog w "internal/strconv.uint64pow10" .u64 Lib.pow10Tab
theorem gPow : Tryz.prog.globalNamed "internal/strconv.uint64pow10" = some 3 := by kernel_rfl
theorem Tb.kept {w w' : World} (h : Tb w) (hw : w'.heap[3]? = w.heap[3]?) : Tb w' := by
  unfold Tb Lib.TabIs World.var? at *
  rw [gPow] at *
  simp only [Option.bind_some] at *
  rw [hw]
  exact h
theorem Tb.lt {w : World} (h : Tb w) : 3 < w.heap.size := by
  unfold Tb Lib.TabIs World.var? at h
  rw [gPow] at h
  simp only [Option.bind_some] at h
  split at h
  · rename_i hb
    exact (Array.getElem?_eq_some_iff.1 hb).1
  · cases h
/-- An error lies in a variable. -/
def ErG (w : World) (g : Nat) : Prop := ∃ ev, w.cell? ⟨g, 0, none⟩ = some ev ∧ (ev = .nilIface ∨ ∃ te pe, ev = .iface te pe)
theorem ErG.below {w w' : World} {g : Nat} (h : ErG w g) (hb : Below w.heap.size w w') : ErG w' g := by
  obtain ⟨ev, h1, h2⟩ := h
  exact ⟨ev, (World.cell?_of_block (hb.block g (World.block_lt_of_cell? w _ h1))).trans h1, h2⟩

/-- The packages' variables. -/
structure Gk (w : World) : Prop where
  kd : Knd.Glob w
  op : OpsG w
  tb : Tb w
  mx : ∃ m, w.cell? ⟨1, 0, none⟩ = some (.int .i64 m)
  es : ErG w 6
  er : ErG w 7
theorem Gk.below {w w' : World} (h : Gk w) (hb : Below w.heap.size w w') : Gk w' := ⟨h.kd.kept (hb.block _ h.kd.lt), h.op.kept (hb.block _ h.op.lt), h.tb.kept (hb.block _ h.tb.lt), by
  obtain ⟨m, hm⟩ := h.mx
  exact ⟨m, (World.cell?_of_block (hb.block _ (World.block_lt_of_cell? w _ hm))).trans hm⟩, h.es.below hb, h.er.below hb⟩

/-- What is wrong with a node behind these. -/
def chkN (ahead : List Gn) (n : Gn) : Int := match opP n.op with
  | none => 110
  | some o => if decide (o.least ≤ (n.ins.length : Int) ∧ (n.ins.length : Int) ≤ o.most) = true ∧ decide (0 ≤ (n.side.length : Int) ∧ (n.side.length : Int) ≤ o.side) = true then
      (if readP ahead n.ins (-1) = true ∧ readP ahead n.side (-1) = true then (if formP n = true then 0 else 112) else 111) else 111

set_option maxRecDepth 100000 in
set_option maxHeartbeats 2000000 in
theorem check_any (w : World) (S : Nat → Prop) (d : Nat) (n : Gn) (IA SA A : Option Addr) (ic sc c : Nat) (gv : Value) (ahead : List Gn) (hN : GnAt w S d (n.val IA SA A ic sc c) n) (hA : GsAt w S d gv ahead) (hI : n.ins.length ≤ 1000000) (hS : n.side.length ≤ 1000000) (hal : ahead.length ≤ 1000000) (hG : Gk w) :
    Calls Tryz.prog 40 #[.agg #[.int .i64 n.op, .slice IA n.ins.length ic, .slice SA n.side.length sc, .string ⟨n.text.toArray⟩, .int .i64 n.ty.kind, .slice A n.ty.args.length c, .int .i64 n.f0, .int .i64 n.f1, .int .i64 n.f2, .int .i64 n.f3, .int .i64 n.e, .int .i64 n.l, .int .i64 n.lt, .bool n.acc], gv] w fun e w' => e = .returned (.int .i64 (chkN ahead n)) ∧ Below w.heap.size w w' := by
  obtain ⟨IA', SA', A', ic', sc', c', e, h1, h2, h3⟩ := hN
  unfold Gn.val at e
  injection e with e
  simp only [Array.mk.injEq, List.cons.injEq, Value.slice.injEq, and_true, true_and] at e
  obtain ⟨⟨rfl, rfl⟩, ⟨rfl, rfl⟩, rfl, rfl⟩ := e
  obtain ⟨GA, gc, rfl⟩ := hA.form
  obtain ⟨W0, hW0⟩ : ∃ W0, w.alloc (.cells #[.int .i64 n.op, .slice IA n.ins.length ic, .slice SA n.side.length sc, .string ⟨n.text.toArray⟩, .int .i64 n.ty.kind, .slice A n.ty.args.length c, .int .i64 n.f0, .int .i64 n.f1, .int .i64 n.f2, .int .i64 n.f3, .int .i64 n.e, .int .i64 n.l, .int .i64 n.lt, .bool n.acc] 83) = W0 := ⟨_, rfl⟩
  have hx : W0.heap[w.heap.size]? = some (.cells #[.int .i64 n.op, .slice IA n.ins.length ic, .slice SA n.side.length sc, .string ⟨n.text.toArray⟩, .int .i64 n.ty.kind, .slice A n.ty.args.length c, .int .i64 n.f0, .int .i64 n.f1, .int .i64 n.f2, .int .i64 n.f3, .int .i64 n.e, .int .i64 n.l, .int .i64 n.lt, .bool n.acc] 83 (0, 0)) := by rw [← hW0]; exact heap_alloc_new w _
  have hB0 : Below w.heap.size w W0 := by rw [← hW0]; exact bl_al (Below.refl _ _) _
  have HO := Lib.hid (opOf_any n.op W0 (hG.below hB0).op)
  have HIN := Lib.hid h1
  have HSD := Lib.hid h2
  have HTY := Lib.hid h3
  have HA := Lib.hid hA
  have HG := Lib.hid hG
  have HW0 := Lib.hid hW0
  have HX := Lib.hid hx
  have HB0 := Lib.hid hB0
  have HLI := Lib.hid hI
  have HLS := Lib.hid hS
  clear h1 h2 h3 hA hG hW0 hx hB0 hI hS
  go_enter Tryz.func40, Tryz.ntmps40
  go_upto_region 1 with (fail)
  rw [HW0.out]
  clear HW0
  have c0 := cellN (i := 0) HX.out rfl
  have cl := cell_lt HX.out
  cases hop : opP n.op with
  | none =>
    rw [hop] at HO
    have HO : Hid (Calls Tryz.prog 66 #[.int .i64 n.op] W0 fun e w' => e = .returned (.tuple #[.agg #[.int .i64 0, .string ⟨#[]⟩, .int .i64 0, .int .i64 0, .int .i64 0, .int .i64 0], .bool false]) ∧ Below W0.heap.size W0 w') := HO
    have HC : Hid (chkN ahead n = 110) := Lib.hid (by unfold chkN; rw [hop])
    clear hop
    go_wp2_with (go_at_call 66; (with_reducible refine HO.out.mono ?_); rintro e w1 ⟨rfl, hb1⟩; have HB1 := Lib.hid (HB0.out.trans (hb1.mono HB0.out.size)); clear hb1)
    go_ret
    rw [HC.out]
    exact ⟨rfl, HB1.out.alloc HB1.out.size _⟩
  | some o =>
  rw [hop] at HO
  have HO : Hid (Calls Tryz.prog 66 #[.int .i64 n.op] W0 fun e w' => e = .returned (.tuple #[.agg #[.int .i64 o.number, .string ⟨o.word.toArray⟩, .int .i64 o.parts, .int .i64 o.least, .int .i64 o.most, .int .i64 o.side], .bool true]) ∧ Below W0.heap.size W0 w') := HO
  obtain ⟨b1, h1⟩ : ∃ b, decide (o.least ≤ (n.ins.length : Int) ∧ (n.ins.length : Int) ≤ o.most) = b := ⟨_, rfl⟩
  obtain ⟨b2, h2⟩ : ∃ b, decide (0 ≤ (n.side.length : Int) ∧ (n.side.length : Int) ≤ o.side) = b := ⟨_, rfl⟩
  obtain ⟨r1, h3⟩ : ∃ b, readP ahead n.ins (-1) = b := ⟨_, rfl⟩
  obtain ⟨r2, h4⟩ : ∃ b, readP ahead n.side (-1) = b := ⟨_, rfl⟩
  obtain ⟨f, h5⟩ : ∃ b, formP n = b := ⟨_, rfl⟩
  have HC : Hid (chkN ahead n = if b1 = true ∧ b2 = true then (if r1 = true ∧ r2 = true then (if f = true then 0 else 112) else 111) else 111) := Lib.hid (by unfold chkN; simp only [hop, h1, h2, h3, h4, h5])
  have HW1 := fun (W : World) => Lib.hid (gwithin_any (n.ins.length : Int) o.least o.most W)
  have HW2 := fun (W : World) => Lib.hid (gwithin_any (n.side.length : Int) 0 o.side W)
  rw [h1] at HW1
  rw [h2] at HW2
  have HR1 := fun (W : World) (hb : Below w.heap.size w W) => Lib.hid (readable_any W S d _ _ n.ins ahead (HIN.out.below hb) (HA.out.below hb) HLI.out hal)
  have HR2 := fun (W : World) (hb : Below w.heap.size w W) => Lib.hid (readable_any W S d _ _ n.side ahead (HSD.out.below hb) (HA.out.below hb) HLS.out hal)
  rw [h3] at HR1
  rw [h4] at HR2
  have HF := fun (W : World) (hb : Below w.heap.size w W) => Lib.hid (formed_any W S d n IA SA A ic sc c (HTY.out.below hb) (HG.out.below hb).kd)
  rw [h5] at HF
  clear h1 h2 h3 h4 h5 hop
  go_upto_region 2 with (go_at_call 66; (with_reducible refine HO.out.mono ?_); rintro e w1 ⟨rfl, hb1⟩; have HB1 := Lib.hid (HB0.out.trans (hb1.mono HB0.out.size)); have hx1 := bl_blk hb1 HX.out; clear hb1 c0)
  have HX1 := Lib.hid hx1
  clear hx1
  have hz : (w1.alloc (.cells #[.int .i64 o.number, .string ⟨o.word.toArray⟩, .int .i64 o.parts, .int .i64 o.least, .int .i64 o.most, .int .i64 o.side] 121)).heap[w1.heap.size]? = some (.cells #[.int .i64 o.number, .string ⟨o.word.toArray⟩, .int .i64 o.parts, .int .i64 o.least, .int .i64 o.most, .int .i64 o.side] 121 (0, 0)) := heap_alloc_new w1 _
  have hx2 : (w1.alloc (.cells #[.int .i64 o.number, .string ⟨o.word.toArray⟩, .int .i64 o.parts, .int .i64 o.least, .int .i64 o.most, .int .i64 o.side] 121)).heap[w.heap.size]? = some _ := alloc_old HX1.out
  have hB2 : Below w.heap.size w (w1.alloc (.cells #[.int .i64 o.number, .string ⟨o.word.toArray⟩, .int .i64 o.parts, .int .i64 o.least, .int .i64 o.most, .int .i64 o.side] 121)) := HB1.out.alloc HB1.out.size _
  generalize w1.alloc (.cells #[.int .i64 o.number, .string ⟨o.word.toArray⟩, .int .i64 o.parts, .int .i64 o.least, .int .i64 o.most, .int .i64 o.side] 121) = W2 at *
  have HB2 := Lib.hid hB2
  have d1 := cellN (i := 1) hx2 rfl
  have d2 := cellN (i := 2) hx2 rfl
  have dl := cell_lt hx2
  have z3 := cellN (i := 3) hz rfl
  have z4 := cellN (i := 4) hz rfl
  have z5 := cellN (i := 5) hz rfl
  have zl := cell_lt hz
  have y0 := cellN (i := 0) hx2 rfl
  have y3 := cellN (i := 3) hx2 rfl
  have y4 := cellN (i := 4) hx2 rfl
  have y5 := cellN (i := 5) hx2 rfl
  have y6 := cellN (i := 6) hx2 rfl
  have y7 := cellN (i := 7) hx2 rfl
  have y8 := cellN (i := 8) hx2 rfl
  have y9 := cellN (i := 9) hx2 rfl
  have y10 := cellN (i := 10) hx2 rfl
  have y11 := cellN (i := 11) hx2 rfl
  have y12 := cellN (i := 12) hx2 rfl
  have y13 := cellN (i := 13) hx2 rfl
  clear hz hx2 hB2 HX1 HX cl
  go_wp2_with (first
    | (go_at_call 67; (with_reducible refine (HW1 _).out.mono ?_); rintro e w3 ⟨rfl, rfl⟩; cases b1)
    | (go_at_call 67; (with_reducible refine (HW2 _).out.mono ?_); rintro e w3 ⟨rfl, rfl⟩; cases b2)
    | (go_at_call 68; (with_reducible refine (HR1 _ HB2.out).out.mono ?_); rintro e w3 ⟨rfl, m3, rfl⟩; have HB2 := Lib.hid (bl_drn HB2.out m3); cases r1)
    | (go_at_call 68; (with_reducible refine (HR2 _ HB2.out).out.mono ?_); rintro e w3 ⟨rfl, m4, rfl⟩; have hb3 := bl_drn HB2.out m4; simp only [World.drewN_drewN] at hb3; have HB2 := Lib.hid hb3; clear hb3; cases r2)
    | (go_at_call 69; (with_reducible refine (HF _ HB2.out).out.mono ?_); rintro e w3 ⟨rfl, hb3⟩; have HB2 := Lib.hid (HB2.out.trans (hb3.mono HB2.out.size)); cases f)
    | fail)
  all_goals (
    go_ret
    rw [HC.out]
    exact ⟨rfl, HB2.out⟩)

end Go.Proofs.YtllnamhgnbdkmaaGreatDoor
