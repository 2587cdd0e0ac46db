/-
Stage 11: check and Check.
-/
import Derived.Test.YtllnamhgnbdkmaaGreatDoorJd
import Derived.Lib.LaidTab
set_option linter.unusedVariables false
set_option linter.unusedSimpArgs false
namespace Go.Proofs.YtllnamhgnbdkmaaGreatDoor
open Go.RowKit
def Tb (w : World) : Prop := Lib.TabIs Tryz.prog w "internal/strconv.uint64pow10" .u64 Lib.pow10Tab
theorem gPow : Tryz.prog.globalNamed "internal/strconv.uint64pow10" = some 3 := by kernel_rfl
theorem Tb.kept {w w' : World} (h : Tb w) (hw : w'.heap[3]? = w.heap[3]?) : Tb w' := by
  unfold Tb Lib.TabIs World.var? at *
  rw [gPow] at *
  simp only [Option.bind_some] at *
  rw [hw]
  exact h
theorem Tb.lt {w : World} (h : Tb w) : 3 < w.heap.size := by
  unfold Tb Lib.TabIs World.var? at h
  rw [gPow] at h
  simp only [Option.bind_some] at h
  split at h
  · rename_i hb
    exact (Array.getElem?_eq_some_iff.1 hb).1
  · cases h
def ErG (w : World) (g : Nat) : Prop := ∃ ev, w.cell? ⟨g, 0, none⟩ = some ev ∧ (ev = .nilIface ∨ ∃ te pe, ev = .iface te pe)
theorem ErG.below {w w' : World} {g : Nat} (h : ErG w g) (hb : Below w.heap.size w w') : ErG w' g := by
  obtain ⟨ev, h1, h2⟩ := h
  exact ⟨ev, (World.cell?_of_block (hb.block g (World.block_lt_of_cell? w _ h1))).trans h1, h2⟩
structure Gk (w : World) : Prop where
  kd : Knd.Glob w
  op : OpsG w
  tb : Tb w
  mx : ∃ m, w.cell? ⟨1, 0, none⟩ = some (.int .i64 m)
  es : ErG w 6
  er : ErG w 7
theorem Gk.below {w w' : World} (h : Gk w) (hb : Below w.heap.size w w') : Gk w' := ⟨h.kd.kept (hb.block _ h.kd.lt), h.op.kept (hb.block _ h.op.lt), h.tb.kept (hb.block _ h.tb.lt), by
  obtain ⟨m, hm⟩ := h.mx
  exact ⟨m, (World.cell?_of_block (hb.block _ (World.block_lt_of_cell? w _ hm))).trans hm⟩, h.es.below hb, h.er.below hb⟩
def chkN (ahead : List Gn) (n : Gn) : Int := match opP n.op with
  | none => 110
  | some o => if decide (o.least ≤ (n.ins.length : Int) ∧ (n.ins.length : Int) ≤ o.most) = true ∧ decide (0 ≤ (n.side.length : Int) ∧ (n.side.length : Int) ≤ o.side) = true then
      (if readP ahead n.ins (-1) = true ∧ readP ahead n.side (-1) = true then (if formP n = true then 0 else 112) else 111) else 111
set_option maxRecDepth 100000 in
set_option maxHeartbeats 2000000 in
theorem check_any (w : World) (S : Nat → Prop) (d : Nat) (n : Gn) (IA SA A : Option Addr) (ic sc c : Nat) (gv : Value) (ahead : List Gn) (hN : GnAt w S d (n.val IA SA A ic sc c) n) (hA : GsAt w S d gv ahead) (hI : n.ins.length ≤ 1000000) (hS : n.side.length ≤ 1000000) (hal : ahead.length ≤ 1000000) (hG : Gk w) :
    Calls Tryz.prog 40 #[.agg #[.int .i64 n.op, .slice IA n.ins.length ic, .slice SA n.side.length sc, .string ⟨n.text.toArray⟩, .int .i64 n.ty.kind, .slice A n.ty.args.length c, .int .i64 n.f0, .int .i64 n.f1, .int .i64 n.f2, .int .i64 n.f3, .int .i64 n.e, .int .i64 n.l, .int .i64 n.lt, .bool n.acc], gv] w fun e w' => e = .returned (.int .i64 (chkN ahead n)) ∧ Below w.heap.size w w' := by
  obtain ⟨IA', SA', A', ic', sc', c', e, h1, h2, h3⟩ := hN
  unfold Gn.val at e
  injection e with e
  simp only [Array.mk.injEq, List.cons.injEq, Value.slice.injEq, and_true, true_and] at e
  obtain ⟨⟨rfl, rfl⟩, ⟨rfl, rfl⟩, rfl, rfl⟩ := e
  obtain ⟨GA, gc, rfl⟩ := hA.form
  obtain ⟨W0, hW0⟩ : ∃ W0, w.alloc (.cells #[.int .i64 n.op, .slice IA n.ins.length ic, .slice SA n.side.length sc, .string ⟨n.text.toArray⟩, .int .i64 n.ty.kind, .slice A n.ty.args.length c, .int .i64 n.f0, .int .i64 n.f1, .int .i64 n.f2, .int .i64 n.f3, .int .i64 n.e, .int .i64 n.l, .int .i64 n.lt, .bool n.acc] 83) = W0 := ⟨_, rfl⟩
  have hx : W0.heap[w.heap.size]? = some (.cells #[.int .i64 n.op, .slice IA n.ins.length ic, .slice SA n.side.length sc, .string ⟨n.text.toArray⟩, .int .i64 n.ty.kind, .slice A n.ty.args.length c, .int .i64 n.f0, .int .i64 n.f1, .int .i64 n.f2, .int .i64 n.f3, .int .i64 n.e, .int .i64 n.l, .int .i64 n.lt, .bool n.acc] 83 (0, 0)) := by rw [← hW0]; exact heap_alloc_new w _
  have hB0 : Below w.heap.size w W0 := by rw [← hW0]; exact bl_al (Below.refl _ _) _
  have HO := Lib.hid (opOf_any n.op W0 (hG.below hB0).op)
  have HIN := Lib.hid h1
  have HSD := Lib.hid h2
  have HTY := Lib.hid h3
  have HA := Lib.hid hA
  have HG := Lib.hid hG
  have HW0 := Lib.hid hW0
  have HX := Lib.hid hx
  have HB0 := Lib.hid hB0
  have HLI := Lib.hid hI
  have HLS := Lib.hid hS
  clear h1 h2 h3 hA hG hW0 hx hB0 hI hS
  go_enter Tryz.func40, Tryz.ntmps40
  go_upto_region 1 with (fail)
  rw [HW0.out]
  clear HW0
  have c0 := cellN (i := 0) HX.out rfl
  have cl := cell_lt HX.out
  cases hop : opP n.op with
  | none =>
    rw [hop] at HO
    have HO : Hid (Calls Tryz.prog 66 #[.int .i64 n.op] W0 fun e w' => e = .returned (.tuple #[.agg #[.int .i64 0, .string ⟨#[]⟩, .int .i64 0, .int .i64 0, .int .i64 0, .int .i64 0], .bool false]) ∧ Below W0.heap.size W0 w') := HO
    have HC : Hid (chkN ahead n = 110) := Lib.hid (by unfold chkN; rw [hop])
    clear hop
    go_wp2_with (go_at_call 66; (with_reducible refine HO.out.mono ?_); rintro e w1 ⟨rfl, hb1⟩; have HB1 := Lib.hid (HB0.out.trans (hb1.mono HB0.out.size)); clear hb1)
    go_ret
    rw [HC.out]
    exact ⟨rfl, HB1.out.alloc HB1.out.size _⟩
  | some o =>
  rw [hop] at HO
  have HO : Hid (Calls Tryz.prog 66 #[.int .i64 n.op] W0 fun e w' => e = .returned (.tuple #[.agg #[.int .i64 o.number, .string ⟨o.word.toArray⟩, .int .i64 o.parts, .int .i64 o.least, .int .i64 o.most, .int .i64 o.side], .bool true]) ∧ Below W0.heap.size W0 w') := HO
  obtain ⟨b1, h1⟩ : ∃ b, decide (o.least ≤ (n.ins.length : Int) ∧ (n.ins.length : Int) ≤ o.most) = b := ⟨_, rfl⟩
  obtain ⟨b2, h2⟩ : ∃ b, decide (0 ≤ (n.side.length : Int) ∧ (n.side.length : Int) ≤ o.side) = b := ⟨_, rfl⟩
  obtain ⟨r1, h3⟩ : ∃ b, readP ahead n.ins (-1) = b := ⟨_, rfl⟩
  obtain ⟨r2, h4⟩ : ∃ b, readP ahead n.side (-1) = b := ⟨_, rfl⟩
  obtain ⟨f, h5⟩ : ∃ b, formP n = b := ⟨_, rfl⟩
  have HC : Hid (chkN ahead n = if b1 = true ∧ b2 = true then (if r1 = true ∧ r2 = true then (if f = true then 0 else 112) else 111) else 111) := Lib.hid (by unfold chkN; simp only [hop, h1, h2, h3, h4, h5])
  have HW1 := fun (W : World) => Lib.hid (gwithin_any (n.ins.length : Int) o.least o.most W)
  have HW2 := fun (W : World) => Lib.hid (gwithin_any (n.side.length : Int) 0 o.side W)
  rw [h1] at HW1
  rw [h2] at HW2
  have HR1 := fun (W : World) (hb : Below w.heap.size w W) => Lib.hid (readable_any W S d _ _ n.ins ahead (HIN.out.below hb) (HA.out.below hb) HLI.out hal)
  have HR2 := fun (W : World) (hb : Below w.heap.size w W) => Lib.hid (readable_any W S d _ _ n.side ahead (HSD.out.below hb) (HA.out.below hb) HLS.out hal)
  rw [h3] at HR1
  rw [h4] at HR2
  have HF := fun (W : World) (hb : Below w.heap.size w W) => Lib.hid (formed_any W S d n IA SA A ic sc c (HTY.out.below hb) (HG.out.below hb).kd)
  rw [h5] at HF
  clear h1 h2 h3 h4 h5 hop
  go_upto_region 2 with (go_at_call 66; (with_reducible refine HO.out.mono ?_); rintro e w1 ⟨rfl, hb1⟩; have HB1 := Lib.hid (HB0.out.trans (hb1.mono HB0.out.size)); have hx1 := bl_blk hb1 HX.out; clear hb1 c0)
  have HX1 := Lib.hid hx1
  clear hx1
  have hz : (w1.alloc (.cells #[.int .i64 o.number, .string ⟨o.word.toArray⟩, .int .i64 o.parts, .int .i64 o.least, .int .i64 o.most, .int .i64 o.side] 121)).heap[w1.heap.size]? = some (.cells #[.int .i64 o.number, .string ⟨o.word.toArray⟩, .int .i64 o.parts, .int .i64 o.least, .int .i64 o.most, .int .i64 o.side] 121 (0, 0)) := heap_alloc_new w1 _
  have hx2 : (w1.alloc (.cells #[.int .i64 o.number, .string ⟨o.word.toArray⟩, .int .i64 o.parts, .int .i64 o.least, .int .i64 o.most, .int .i64 o.side] 121)).heap[w.heap.size]? = some _ := alloc_old HX1.out
  have hB2 : Below w.heap.size w (w1.alloc (.cells #[.int .i64 o.number, .string ⟨o.word.toArray⟩, .int .i64 o.parts, .int .i64 o.least, .int .i64 o.most, .int .i64 o.side] 121)) := HB1.out.alloc HB1.out.size _
  generalize w1.alloc (.cells #[.int .i64 o.number, .string ⟨o.word.toArray⟩, .int .i64 o.parts, .int .i64 o.least, .int .i64 o.most, .int .i64 o.side] 121) = W2 at *
  have HB2 := Lib.hid hB2
  have d1 := cellN (i := 1) hx2 rfl
  have d2 := cellN (i := 2) hx2 rfl
  have dl := cell_lt hx2
  have z3 := cellN (i := 3) hz rfl
  have z4 := cellN (i := 4) hz rfl
  have z5 := cellN (i := 5) hz rfl
  have zl := cell_lt hz
  have y0 := cellN (i := 0) hx2 rfl
  have y3 := cellN (i := 3) hx2 rfl
  have y4 := cellN (i := 4) hx2 rfl
  have y5 := cellN (i := 5) hx2 rfl
  have y6 := cellN (i := 6) hx2 rfl
  have y7 := cellN (i := 7) hx2 rfl
  have y8 := cellN (i := 8) hx2 rfl
  have y9 := cellN (i := 9) hx2 rfl
  have y10 := cellN (i := 10) hx2 rfl
  have y11 := cellN (i := 11) hx2 rfl
  have y12 := cellN (i := 12) hx2 rfl
  have y13 := cellN (i := 13) hx2 rfl
  clear hz hx2 hB2 HX1 HX cl
  go_wp2_with (first
    | (go_at_call 67; (with_reducible refine (HW1 _).out.mono ?_); rintro e w3 ⟨rfl, rfl⟩; cases b1)
    | (go_at_call 67; (with_reducible refine (HW2 _).out.mono ?_); rintro e w3 ⟨rfl, rfl⟩; cases b2)
    | (go_at_call 68; (with_reducible refine (HR1 _ HB2.out).out.mono ?_); rintro e w3 ⟨rfl, m3, rfl⟩; have HB2 := Lib.hid (bl_drn HB2.out m3); cases r1)
    | (go_at_call 68; (with_reducible refine (HR2 _ HB2.out).out.mono ?_); rintro e w3 ⟨rfl, m4, rfl⟩; have hb3 := bl_drn HB2.out m4; simp only [World.drewN_drewN] at hb3; have HB2 := Lib.hid hb3; clear hb3; cases r2)
    | (go_at_call 69; (with_reducible refine (HF _ HB2.out).out.mono ?_); rintro e w3 ⟨rfl, hb3⟩; have HB2 := Lib.hid (HB2.out.trans (hb3.mono HB2.out.size)); cases f)
    | fail)
  all_goals (
    go_ret
    rw [HC.out]
    exact ⟨rfl, HB2.out⟩)
end Go.Proofs.YtllnamhgnbdkmaaGreatDoor
set_option linter.unusedVariables false
set_option linter.unusedSimpArgs false
namespace Go.Proofs.YtllnamhgnbdkmaaGreatDoor
open Go.RowKit
def okN (l : List Gn) (i : Nat) : Int := match l[i]? with
  | some n => chkN (l.take i) n
  | none => 0
def chkAll (l : List Gn) : Nat × Int := if l.length = 0 ∨ 32 < l.length then (0, 112) else match (List.range l.length).find? (fun i => okN l i != 0) with
  | some i => (i, okN l i)
  | none => (0, 0)
theorem chkAll_bad {l : List Gn} {j : Nat} (h0 : l.length ≠ 0) (h1 : l.length ≤ 32) (hj : j < l.length) (hb : ∀ i, i < j → okN l i = 0) (hx : okN l j ≠ 0) : chkAll l = (j, okN l j) := by
  unfold chkAll
  rw [if_neg (by omega), List.find?_range_eq_some.2 ⟨by simpa using hx, by simpa using hj, fun i hi => by simp [hb i hi]⟩]
theorem chkAll_ok {l : List Gn} (h0 : l.length ≠ 0) (h1 : l.length ≤ 32) (hb : ∀ i, i < l.length → okN l i = 0) : chkAll l = (0, 0) := by
  unfold chkAll
  rw [if_neg (by omega), List.find?_eq_none.2 fun i hi => by simp [hb i (List.mem_range.1 hi)]]
def FewG (l : List Gn) : Prop := ∀ n ∈ l, n.ins.length ≤ 1000000 ∧ n.side.length ≤ 1000000
theorem keep14 {w0 W : World} {q p : Nat} {a0 a1 a2 a3 a4 a5 a6 a7 a8 a9 a10 a11 a12 a13 b0 : Value} {t u : TypeId} (hq : w0.heap[q]? = some (.cells #[a0, a1, a2, a3, a4, a5, a6, a7, a8, a9, a10, a11, a12, a13] t (0, 0))) (hp : w0.heap[p]? = some (.cells #[b0] u (0, 0))) (hb : Below w0.heap.size w0 W) :
    W.cell? ⟨q, 0, none⟩ = some a0 ∧ W.cell? ⟨q, 1, none⟩ = some a1 ∧ W.cell? ⟨q, 2, none⟩ = some a2 ∧ W.cell? ⟨q, 3, none⟩ = some a3 ∧ W.cell? ⟨q, 4, none⟩ = some a4 ∧ W.cell? ⟨q, 5, none⟩ = some a5 ∧ W.cell? ⟨q, 6, none⟩ = some a6 ∧ W.cell? ⟨q, 7, none⟩ = some a7 ∧ W.cell? ⟨q, 8, none⟩ = some a8 ∧ W.cell? ⟨q, 9, none⟩ = some a9 ∧ W.cell? ⟨q, 10, none⟩ = some a10 ∧ W.cell? ⟨q, 11, none⟩ = some a11 ∧ W.cell? ⟨q, 12, none⟩ = some a12 ∧ W.cell? ⟨q, 13, none⟩ = some a13 ∧ W.cell? ⟨p, 0, none⟩ = some b0 ∧ Below w0.heap.size w0 W := by
  have g := bl_blk hb hq
  have g2 := bl_blk hb hp
  exact ⟨cellN (i := 0) g rfl, cellN (i := 1) g rfl, cellN (i := 2) g rfl, cellN (i := 3) g rfl, cellN (i := 4) g rfl, cellN (i := 5) g rfl, cellN (i := 6) g rfl, cellN (i := 7) g rfl, cellN (i := 8) g rfl, cellN (i := 9) g rfl, cellN (i := 10) g rfl, cellN (i := 11) g rfl, cellN (i := 12) g rfl, cellN (i := 13) g rfl, cellN (i := 0) g2 rfl, hb⟩
set_option maxRecDepth 100000 in
set_option maxHeartbeats 4000000 in
theorem checkAll_any (w : World) (S : Nat → Prop) (d : Nat) (gv : Value) (l : List Gn) (hL : GsAt w S d gv l) (hf : FewG l) (hlen : l.length ≤ 1000000) (hG : Gk w) :
    Calls Tryz.prog 13 #[.agg #[gv]] w fun e w' => e = .returned (.tuple #[.int .i64 ((chkAll l).1 : Int), .int .i64 (chkAll l).2]) ∧ Below w.heap.size w w' := by
  obtain ⟨GA, gc, rfl⟩ := hL.form
  have hx : (w.alloc (.cells #[.slice GA l.length gc] 27)).heap[w.heap.size]? = some (.cells #[.slice GA l.length gc] 27 (0, 0)) := heap_alloc_new w _
  have hB0 : Below w.heap.size w (w.alloc (.cells #[.slice GA l.length gc] 27)) := bl_al (Below.refl _ _) _
  have HL := Lib.hid hL
  have HF := Lib.hid hf
  have HG := Lib.hid hG
  have HX := Lib.hid hx
  have HB0 := Lib.hid hB0
  have hp0 := cellN (i := 0) hx rfl
  have hpl := cell_lt hx
  clear hL hf hG hx hB0
  by_cases h0 : l.length = 0
  · have HC : Hid (chkAll l = (0, 112)) := Lib.hid (by unfold chkAll; rw [if_pos (.inl h0)])
    have hz : ((l.length : Int) == 0) = true := by simp [h0]
    clear h0
    go_enter Tryz.func13, Tryz.ntmps13
    go_wp2_with (fail)
    refine bodyPost_ret (v := .tuple #[.int .i64 0, .int .i64 112]) (by simp [results, Tryz.results13, go_sem]) rfl ?_
    rw [HC.out]
    exact ⟨rfl, HB0.out⟩
  have hz : ((l.length : Int) == 0) = false := by simp [h0]
  by_cases h32 : 32 < l.length
  · have HC : Hid (chkAll l = (0, 112)) := Lib.hid (by unfold chkAll; rw [if_pos (.inr h32)])
    have hgt : (32 : Int) < (l.length : Int) := by omega
    clear h0
    go_enter Tryz.func13, Tryz.ntmps13
    go_wp2_with (fail)
    refine bodyPost_ret (v := .tuple #[.int .i64 0, .int .i64 112]) (by simp [results, Tryz.results13, go_sem]) rfl ?_
    rw [HC.out]
    exact ⟨rfl, HB0.out⟩
  have hgt : ¬ ((32 : Int) < (l.length : Int)) := by omega
  have H0 := Lib.hid h0
  have h32' : l.length ≤ 32 := by omega
  clear h0 h32
  go_enter Tryz.func13, Tryz.ntmps13
  go_wp2_with (fail)
  go_loopw [20] (fun i wr => ∃ j : Nat, i = .int .i64 j ∧ j ≤ l.length ∧ Hid (∀ i, i < j → okN l i = 0) ∧ Hid (Below w.heap.size w wr) ∧ wr.heap[w.heap.size]? = some (.cells #[.slice GA l.length gc] 27 (0, 0))) (fun i _ => l.length - (intOf i).toNat)
  case atStart => exact ⟨0, rfl, Nat.zero_le _, Lib.hid (fun i hi => by omega), HB0, HX.out⟩
  case round =>
    obtain ⟨j, rfl, hj, HK, HBR, hpx⟩ := hrel
    have hp1 := cellN (i := 0) hpx rfl
    have hp2 := cell_lt hpx
    clear hp0 hpl
    by_cases hlt : j < l.length
    · have hjl : (j : Int) < (l.length : Int) := by omega
      have hat := (HL.out.below HBR.out).at hlt
      have hjn : okN l j = chkN (l.take j) l[j] := by unfold okN; rw [List.getElem?_eq_getElem hlt]
      have hfn := HF.out _ (List.getElem_mem hlt)
      generalize l[j] = n at *
      obtain ⟨b, o, rfl, hbl, hS, IA, SA, A, ic, sc, c, hN, a0, a1, a2, a3, a4, a5, a6, a7, a8, a9, a10, a11, a12, a13⟩ := hat
      have HJ := Lib.hid hjn
      have HFN := Lib.hid hfn
      have HN := Lib.hid hN
      obtain ⟨W1, hW1⟩ : ∃ W, wr.alloc (.cells #[.int .i64 n.op, .slice IA n.ins.length ic, .slice SA n.side.length sc, .string ⟨n.text.toArray⟩, .int .i64 n.ty.kind, .slice A n.ty.args.length c, .int .i64 n.f0, .int .i64 n.f1, .int .i64 n.f2, .int .i64 n.f3, .int .i64 n.e, .int .i64 n.l, .int .i64 n.lt, .bool n.acc] 83) = W := ⟨_, rfl⟩
      have hq : W1.heap[wr.heap.size]? = some (.cells #[.int .i64 n.op, .slice IA n.ins.length ic, .slice SA n.side.length sc, .string ⟨n.text.toArray⟩, .int .i64 n.ty.kind, .slice A n.ty.args.length c, .int .i64 n.f0, .int .i64 n.f1, .int .i64 n.f2, .int .i64 n.f3, .int .i64 n.e, .int .i64 n.l, .int .i64 n.lt, .bool n.acc] 83 (0, 0)) := by rw [← hW1]; exact heap_alloc_new wr _
      have hpw : W1.heap[w.heap.size]? = some (.cells #[.slice (some ⟨b, o, none⟩) l.length gc] 27 (0, 0)) := by rw [← hW1]; exact alloc_old hpx
      have hbw : Below wr.heap.size wr W1 := by rw [← hW1]; exact bl_al (Below.refl _ _) _
      have HBW := Lib.hid (HBR.out.trans (hbw.mono HBR.out.size))
      have HQ := Lib.hid hq
      have HP := Lib.hid hpw
      have HW1 := Lib.hid hW1
      have hwl := cell_lt hpw
      have hql := cell_lt hq
      have hjle : j ≤ l.length := hj
      have hjc : (j : Int) ≤ (gc : Int) := by
        obtain ⟨_, _, e, hc, _⟩ := HL.out
        injection e with _ _ e3
        omega
      have hj0 : (0 : Int) ≤ (j : Int) := by omega
      have HT := Lib.hid (HL.out.take j hjle)
      have HC : Hid (∀ W, Below W1.heap.size W1 W → Calls Tryz.prog 40 #[.agg #[.int .i64 n.op, .slice IA n.ins.length ic, .slice SA n.side.length sc, .string ⟨n.text.toArray⟩, .int .i64 n.ty.kind, .slice A n.ty.args.length c, .int .i64 n.f0, .int .i64 n.f1, .int .i64 n.f2, .int .i64 n.f3, .int .i64 n.e, .int .i64 n.l, .int .i64 n.lt, .bool n.acc], .slice (some ⟨b, o, none⟩) j gc] W fun e w' => e = .returned (.int .i64 (okN l j)) ∧ Below W.heap.size W w') := Lib.hid fun W hb => by
        have hbb := HBW.out.trans (hb.mono HBW.out.size)
        rw [HJ.out]
        exact check_any W S d n IA SA A ic sc c _ (l.take j) ((HN.out.below hbw).below hb) (HT.out.below hbb) HFN.out.1 HFN.out.2 (by simp only [List.length_take]; omega) (HG.out.below hbb)
      clear hjn hfn hN hq hpw hbw hW1
      go_upto_region 6 with (fail)
      rw [HW1.out]
      go_cut [6] from 25 to 31 (fun s6 wx => s6 = .int .i64 (okN l j) ∧ Below W1.heap.size W1 wx)
      case first =>
        go_region_held3 (fun W => W.cell? ⟨wr.heap.size, 0, none⟩ = some (.int .i64 n.op) ∧ W.cell? ⟨wr.heap.size, 1, none⟩ = some (.slice IA n.ins.length ic) ∧ W.cell? ⟨wr.heap.size, 2, none⟩ = some (.slice SA n.side.length sc) ∧ W.cell? ⟨wr.heap.size, 3, none⟩ = some (.string ⟨n.text.toArray⟩) ∧ W.cell? ⟨wr.heap.size, 4, none⟩ = some (.int .i64 n.ty.kind) ∧ W.cell? ⟨wr.heap.size, 5, none⟩ = some (.slice A n.ty.args.length c) ∧ W.cell? ⟨wr.heap.size, 6, none⟩ = some (.int .i64 n.f0) ∧ W.cell? ⟨wr.heap.size, 7, none⟩ = some (.int .i64 n.f1) ∧ W.cell? ⟨wr.heap.size, 8, none⟩ = some (.int .i64 n.f2) ∧ W.cell? ⟨wr.heap.size, 9, none⟩ = some (.int .i64 n.f3) ∧ W.cell? ⟨wr.heap.size, 10, none⟩ = some (.int .i64 n.e) ∧ W.cell? ⟨wr.heap.size, 11, none⟩ = some (.int .i64 n.l) ∧ W.cell? ⟨wr.heap.size, 12, none⟩ = some (.int .i64 n.lt) ∧ W.cell? ⟨wr.heap.size, 13, none⟩ = some (.bool n.acc) ∧ W.cell? ⟨w.heap.size, 0, none⟩ = some (.slice (some ⟨b, o, none⟩) l.length gc) ∧ Below W1.heap.size W1 W)
          (exact keep14 HQ.out HP.out (by repeat' (first | with_reducible exact HB3.out | with_reducible exact Below.refl _ _ | with_reducible refine bl_al ?_ _ | with_reducible refine bl_dr ?_)))
          (first
          | (go_at_call 40; (with_reducible refine (HC.out _ ?_).mono ?_); (focus exact (by repeat' (first | with_reducible exact Below.refl _ _ | with_reducible refine bl_al ?_ _ | with_reducible refine bl_dr ?_))); rintro e w3 ⟨rfl, hb3⟩; have HB3 : Hid (Below W1.heap.size W1 w3) := Lib.hid (bl_tr (by repeat' (first | with_reducible exact Below.refl _ _ | with_reducible refine bl_al ?_ _ | with_reducible refine bl_dr ?_)) hb3); clear hb3)
          | fail)
        all_goals (
          go_wp2_with (fail)
          go_meet
          exact ⟨rfl, HB3.out⟩)
      case rest =>
      obtain ⟨rfl, hbc⟩ := hcut
      have hpc := bl_blk hbc HP.out
      have HBC := Lib.hid (HBW.out.trans (hbc.mono HBW.out.size))
      clear hbc hwl hql hp1 hp2 hpx
      by_cases hok : okN l j = 0
      · have hok1 : (okN l j == 0) = true := by simp [hok]
        have hok2 : (okN l j != 0) = false := by simp [hok]
        have HK' : Hid (∀ i, i < j + 1 → okN l i = 0) := Lib.hid fun i hi => by
          rcases Nat.lt_or_ge i j with h | h
          · exact HK.out i h
          · obtain rfl : i = j := by omega
            exact hok
        clear hok
        go_wp2_with (fail)
        go_roundw
        case rel => exact ⟨j + 1, by go_num, by omega, HK', HBC, hpc⟩
        case measure => simp [intOf]; omega
      · have hok1 : (okN l j == 0) = false := by simp [hok]
        have hok2 : (okN l j != 0) = true := by simp [hok]
        have HE : Hid (chkAll l = (j, okN l j)) := Lib.hid (chkAll_bad H0.out h32' hlt HK.out hok)
        clear hok
        go_wp2_with (fail)
        refine bodyPost_ret (v := .tuple #[.int .i64 (j : Int), .int .i64 (okN l j)]) (by simp [results, Tryz.results13, go_sem]) rfl ?_
        rw [HE.out]
        exact ⟨rfl, HBC.out⟩
    · obtain rfl : j = l.length := by omega
      have HC : Hid (chkAll l = (0, 0)) := Lib.hid (chkAll_ok H0.out h32' HK.out)
      have hjl : ¬ ((l.length : Int) < (l.length : Int)) := by omega
      go_wp2_with (fail)
      refine bodyPost_ret (v := .tuple #[.int .i64 0, .int .i64 0]) (by simp [results, Tryz.results13, go_sem]) rfl ?_
      rw [HC.out]
      exact ⟨rfl, HBR.out⟩
end Go.Proofs.YtllnamhgnbdkmaaGreatDoor
