/-
Stage 11: Live and Above.
-/
import Derived.Test.YtllnamhgnbdkmaaGreatDoorJj
set_option linter.unusedVariables false
set_option linter.unusedSimpArgs false
namespace Go.Proofs.YtllnamhgnbdkmaaGreatDoor
open Go.RowKit Go.Shelf Go.Sort

theorem keepA {w1 W : World} {p b o k : Nat} {u x0 x1 x2 x3 x4 x5 x6 x7 x8 x9 x10 x11 x12 x13 : Value} (p0 : w1.cell? ⟨p, 0, none⟩ = some u) (pl : p < w1.heap.size) (hb : b < w1.heap.size) (a0 : w1.cell? ⟨b, o + k * 14, none⟩ = some x0) (a1 : w1.cell? ⟨b, o + k * 14 + 1, none⟩ = some x1) (a2 : w1.cell? ⟨b, o + k * 14 + 2, none⟩ = some x2) (a3 : w1.cell? ⟨b, o + k * 14 + 3, none⟩ = some x3) (a4 : w1.cell? ⟨b, o + k * 14 + 4, none⟩ = some x4) (a5 : w1.cell? ⟨b, o + k * 14 + 5, none⟩ = some x5) (a6 : w1.cell? ⟨b, o + k * 14 + 6, none⟩ = some x6) (a7 : w1.cell? ⟨b, o + k * 14 + 7, none⟩ = some x7) (a8 : w1.cell? ⟨b, o + k * 14 + 8, none⟩ = some x8) (a9 : w1.cell? ⟨b, o + k * 14 + 9, none⟩ = some x9) (a10 : w1.cell? ⟨b, o + k * 14 + 10, none⟩ = some x10) (a11 : w1.cell? ⟨b, o + k * 14 + 11, none⟩ = some x11) (a12 : w1.cell? ⟨b, o + k * 14 + 12, none⟩ = some x12) (a13 : w1.cell? ⟨b, o + k * 14 + 13, none⟩ = some x13) (h : Below w1.heap.size w1 W) :
    W.cell? ⟨p, 0, none⟩ = some u ∧ W.cell? ⟨b, o + k * 14, none⟩ = some x0 ∧ W.cell? ⟨b, o + k * 14 + 1, none⟩ = some x1 ∧ W.cell? ⟨b, o + k * 14 + 2, none⟩ = some x2 ∧ W.cell? ⟨b, o + k * 14 + 3, none⟩ = some x3 ∧ W.cell? ⟨b, o + k * 14 + 4, none⟩ = some x4 ∧ W.cell? ⟨b, o + k * 14 + 5, none⟩ = some x5 ∧ W.cell? ⟨b, o + k * 14 + 6, none⟩ = some x6 ∧ W.cell? ⟨b, o + k * 14 + 7, none⟩ = some x7 ∧ W.cell? ⟨b, o + k * 14 + 8, none⟩ = some x8 ∧ W.cell? ⟨b, o + k * 14 + 9, none⟩ = some x9 ∧ W.cell? ⟨b, o + k * 14 + 10, none⟩ = some x10 ∧ W.cell? ⟨b, o + k * 14 + 11, none⟩ = some x11 ∧ W.cell? ⟨b, o + k * 14 + 12, none⟩ = some x12 ∧ W.cell? ⟨b, o + k * 14 + 13, none⟩ = some x13 ∧ Below w1.heap.size w1 W :=
  ⟨(World.cell?_of_block (h.block _ pl)).trans p0, (World.cell?_of_block (h.block _ hb)).trans a0, (World.cell?_of_block (h.block _ hb)).trans a1, (World.cell?_of_block (h.block _ hb)).trans a2, (World.cell?_of_block (h.block _ hb)).trans a3, (World.cell?_of_block (h.block _ hb)).trans a4, (World.cell?_of_block (h.block _ hb)).trans a5, (World.cell?_of_block (h.block _ hb)).trans a6, (World.cell?_of_block (h.block _ hb)).trans a7, (World.cell?_of_block (h.block _ hb)).trans a8, (World.cell?_of_block (h.block _ hb)).trans a9, (World.cell?_of_block (h.block _ hb)).trans a10, (World.cell?_of_block (h.block _ hb)).trans a11, (World.cell?_of_block (h.block _ hb)).trans a12, (World.cell?_of_block (h.block _ hb)).trans a13, h⟩

def aboveP (l : List Gn) (i : Int) : List Int := if 0 ≤ i ∧ i < (l.length : Int) then leadP l (rdAt l i.toNat) else []
theorem aboveP_out {l : List Gn} {i : Int} (h : ¬ (0 ≤ i ∧ i < (l.length : Int))) : aboveP l i = [] := if_neg h
theorem aboveP_in {l : List Gn} {i : Nat} (h : i < l.length) : aboveP l (i : Int) = leadP l (rdAt l i) := by
  unfold aboveP
  rw [if_pos (by omega), Int.toNat_natCast]
theorem sinks_in {l : List Gn} : ∀ x ∈ sinksP l, 0 ≤ x ∧ x.toNat < l.length := fun x hx => by
  have := mem_plF.1 hx
  exact ⟨this.1, this.2.1⟩

set_option maxRecDepth 100000 in
set_option maxHeartbeats 8000000 in
theorem live_any (w : World) (S : Nat → Prop) (d : Nat) (gv : Value) (l : List Gn) (hL : GsAt w S d gv l) (hf : FewG l) (hlen : l.length ≤ 1000000) (hG : Gk w) :
    Calls Tryz.prog 25 #[.agg #[gv]] w fun e w' => (∃ v', e = .returned v' ∧ IntsAt w' (fun b => w.heap.size ≤ b) v' (okR l (leadP l (sinksP l)))) ∧ Below w.heap.size w w' := by
  obtain ⟨i0, hi, hq0, hq1, hq2⟩ := info_parts info3
  obtain ⟨GA, gc, rfl⟩ := hL.form
  obtain ⟨W0, hW0⟩ : ∃ W0, w.alloc (.cells #[.slice GA l.length gc] 27) = W0 := ⟨_, rfl⟩
  have hx : W0.heap[w.heap.size]? = some (.cells #[.slice GA l.length gc] 27 (0, 0)) := by rw [← hW0]; exact heap_alloc_new w _
  have hB0 : Below w.heap.size w W0 := by rw [← hW0]; exact bl_al (Below.refl _ _) _
  have hs0 : W0.heap.size = w.heap.size + 1 := by rw [← hW0]; simp
  have HCK := Lib.hid (checkAll_any W0 S d _ l (hL.below hB0) hf hlen (hG.below hB0))
  have HL := Lib.hid hL
  have HX := Lib.hid hx
  have HB0 := Lib.hid hB0
  have HW0 := Lib.hid hW0
  have HS0 := Lib.hid hs0
  have p0 := cellN (i := 0) hx rfl
  have pl := cell_lt hx
  clear hL hG hx hB0 hW0 hs0
  go_enter Tryz.func25, Tryz.ntmps25
  go_upto_region 1 with (fail)
  rw [HW0.out]
  clear HW0
  go_wp2_with (fail)
  refine HCK.out.mono ?_
  rintro e w1 ⟨rfl, hb1⟩
  have HX1 := Lib.hid (bl_blk hb1 HX.out)
  have HB1 := Lib.hid (HB0.out.trans (hb1.mono HB0.out.size))
  have hs1 := hb1.size
  have hs1' : w.heap.size + 1 ≤ w1.heap.size := by have := HS0.out; omega
  clear hb1 p0 pl hs1 HX HB0
  by_cases hok : (chkAll l).2 = 0
  case neg =>
    have hk1 : ((chkAll l).2 == 0) = false := by simp [hok]
    have hk2 : ((chkAll l).2 != 0) = true := by simp [hok]
    have HR : Hid (okR l (leadP l (sinksP l)) = []) := Lib.hid (if_neg hok)
    clear hok
    go_wp2_with (fail)
    go_ret
    rw [HR.out]
    exact ⟨⟨_, rfl, IntsAt.nil _ _⟩, HB1.out⟩
  have HR : Hid (okR l (leadP l (sinksP l)) = leadP l (sinksP l)) := Lib.hid (if_pos hok)
  obtain ⟨hg, he⟩ := okG hok
  have HOK := Lib.hid hg
  have h32 := hg.few
  rw [he]
  clear hok he hg
  have p0 := cellN (i := 0) HX1.out rfl
  have pl := cell_lt HX1.out
  go_wp2_with (fail)
  obtain ⟨PF, hPF⟩ : ∃ p : Nat → Bool, p = sinkB l := ⟨_, rfl⟩
  have HPF := Lib.hid hPF
  clear hPF
  have hown0 : w1.ownsRow (w.heap.size + 1) 3 1 (.slice none 0 0) 0 [] := World.ownsRow_nil _ _ _ _
  go_loopw [5, 18] (fun pv iv wr => ∃ j : Nat, iv = .int .i64 (j : Int) ∧ j ≤ l.length ∧ Hid (wr.ownsRow (w.heap.size + 1) 3 1 pv (plF PF j).length ((plF PF j).map (Value.int .i64))) ∧ Hid (Below w.heap.size w wr) ∧ w.heap.size + 1 ≤ wr.heap.size ∧ Hid (wr.heap[w.heap.size]? = some (.cells #[.slice GA l.length gc] 27 (0, 0)))) (fun _ iv _ => l.length - (intOf iv).toNat)
  case atStart => exact ⟨0, rfl, Nat.zero_le _, Lib.hid hown0, HB1, hs1', HX1⟩
  case round =>
    obtain ⟨j, rfl, hj, HO, HBR, hsr, HXR⟩ := hrel
    have hpl := plF_len PF j
    by_cases hlt : j < l.length
    · have hjl : (j : Int) < (l.length : Int) := by omega
      have hat := (HL.out.below HBR.out).at hlt
      have hrd : sinkB l j = (l[j].op == 6) := by unfold sinkB; rw [List.getElem?_eq_getElem hlt]
      generalize l[j] = n at *
      obtain ⟨b, o, rfl, hbl, hS, IA, SA, A, ic, sc, c, hN, a0, a1, a2, a3, a4, a5, a6, a7, a8, a9, a10, a11, a12, a13⟩ := hat
      obtain ⟨W1, hW1⟩ : ∃ W, wr.alloc (.cells #[.int .i64 n.op, .slice IA n.ins.length ic, .slice SA n.side.length sc, .string ⟨n.text.toArray⟩, .int .i64 n.ty.kind, .slice A n.ty.args.length c, .int .i64 n.f0, .int .i64 n.f1, .int .i64 n.f2, .int .i64 n.f3, .int .i64 n.e, .int .i64 n.l, .int .i64 n.lt, .bool n.acc] 83) = W := ⟨_, rfl⟩
      have hq : W1.heap[wr.heap.size]? = some (.cells #[.int .i64 n.op, .slice IA n.ins.length ic, .slice SA n.side.length sc, .string ⟨n.text.toArray⟩, .int .i64 n.ty.kind, .slice A n.ty.args.length c, .int .i64 n.f0, .int .i64 n.f1, .int .i64 n.f2, .int .i64 n.f3, .int .i64 n.e, .int .i64 n.l, .int .i64 n.lt, .bool n.acc] 83 (0, 0)) := by rw [← hW1]; exact heap_alloc_new wr _
      have hbw : Below wr.heap.size wr W1 := by rw [← hW1]; exact bl_al (Below.refl _ _) _
      have hxw := bl_blk hbw HXR.out
      have HRD := Lib.hid hrd
      have HW1 := Lib.hid hW1
      have HXW := Lib.hid hxw
      have y0 := cellN (i := 0) hq rfl
      have yl := cell_lt hq
      have HO2 := Lib.hid (HO.out.kept (row := none) ⟨hbw.os, hbw.tape, hbw.output, hbw.size, fun k hk _ => hbw.block k hk⟩ (Classical.em _))
      have HBR2 := Lib.hid (HBR.out.trans (hbw.mono HBR.out.size))
      have hs2 := hbw.size
      have hle := HO2.out.lt
      clear hN hrd hW1 hbw hq hxw
      go_upto_region 8 with (fail)
      rw [HW1.out]
      clear HW1
      cases hm : (n.op == 6) with
      | false =>
        have HP : Hid (plF PF (j + 1) = plF PF j) := Lib.hid (plF_no (by rw [HPF.out, HRD.out]; exact hm))
        go_wp2_with (fail)
        go_roundw
        case rel => exact ⟨j + 1, by go_num, by omega, by rw [HP.out]; exact HO2, HBR2, by omega, HXW⟩
        case measure => simp [intOf]; omega
      | true =>
        have HP : Hid (plF PF (j + 1) = plF PF j ++ [(j : Int)]) := Lib.hid (plF_yes (by rw [HPF.out, HRD.out]; exact hm))
        have hpb : w.heap.size + 1 ≤ W1.heap.size := by omega
        obtain ⟨PA, pc, rfl⟩ := own_slice HO2.out
        go_wp2_with (at_builtin; refine wpList_append_own_at _ rfl _ _ 41 rfl (w.heap.size + 1) 3 i0 (.int .i64 0) 1 8 Tryz.underlying41 hi hq0 hq1 hq2 rfl (by decide) _ (plF PF j).length ((plF PF j).map (Value.int .i64)) rfl (HO2.out.alloc _) ⟨W1.heap.size, 0, none⟩ 1 1 [.int .i64 (j : Int)] rfl rfl (World.news_of_block (cs := #[.int .i64 (j : Int)]) (t := 3) (fr := (0, 0)) (heap_alloc_new W1 _)) (by simp [Value.oneCell']) (by unfold maxLen; omega) (by omega) (by simp; omega) ?_; intro v7 w7 hown7 hg7 _ hat7)
        have H7O : Hid (w7.ownsRow (w.heap.size + 1) 3 1 v7 (plF PF (j + 1)).length ((plF PF (j + 1)).map (Value.int .i64))) := Lib.hid (by
          rw [HP.out]
          simpa using hown7)
        have H7B : Hid (Below w.heap.size w w7) := Lib.hid ((HBR2.out.alloc HBR2.out.size _).grown hg7 (by simp; omega) (fun k hk => by have := (hle k hk).1; omega))
        have h7s : w.heap.size + 1 ≤ w7.heap.size := by have := hg7.size; simp at this; omega
        have H7X := Lib.hid ((hg7.block w.heap.size (by simp; omega) (fun e => by have := (hle _ e.symm).1; omega)).trans (alloc_old HXW.out))
        go_roundw
        case rel => exact ⟨j + 1, by go_num, by omega, H7O, H7B, h7s, H7X⟩
        case measure => simp [intOf]; omega
    · obtain rfl : j = l.length := by omega
      have hjl : ¬ ((l.length : Int) < (l.length : Int)) := by omega
      have hpl2 : (sinksP l).length ≤ 1000000 := Nat.le_trans (plF_len _ _) hlen
      have hE : IntsAt wr (fun b => w.heap.size + 1 ≤ b) _ (sinksP l) := IntsAt.of_own (show wr.ownsRow (w.heap.size + 1) 3 1 _ (sinksP l).length ((sinksP l).map (Value.int .i64)) by unfold sinksP; rw [← HPF.out]; exact HO.out)
      have HLD := Lib.hid (leading_any wr S _ d _ _ l (sinksP l) (HL.out.below HBR.out) hE h32 (fun x hx => by have := sinks_in x hx; omega) hpl2 HOK.out.inG HOK.out.fewG)
      have q0 := cellN (i := 0) HXR.out rfl
      have ql := cell_lt HXR.out
      clear hE hpl2
      go_wp2_with (fail)
      refine HLD.out.mono ?_
      rintro e w9 ⟨⟨v', rfl, hI⟩, hb9⟩
      have HI := Lib.hid (hI.move (S' := fun b => w.heap.size ≤ b) fun b hb1 hl => ⟨by have := HBR.out.size; omega, hl, fun _ => rfl⟩)
      have HB9 := Lib.hid (HBR.out.trans (hb9.mono HBR.out.size))
      clear hI hb9
      go_wp2_with (fail)
      go_ret
      rw [HR.out]
      exact ⟨⟨_, rfl, HI.out⟩, HB9.out⟩

set_option maxRecDepth 100000 in
set_option maxHeartbeats 8000000 in
theorem above_any (w : World) (S : Nat → Prop) (d : Nat) (gv : Value) (l : List Gn) (i : Int) (hL : GsAt w S d gv l) (hf : FewG l) (hlen : l.length ≤ 1000000) (hG : Gk w) :
    Calls Tryz.prog 24 #[.agg #[gv], .int .i64 i] w fun e w' => (∃ v', e = .returned v' ∧ IntsAt w' (fun b => w.heap.size ≤ b) v' (okR l (aboveP l i))) ∧ Below w.heap.size w w' := by
  obtain ⟨i0, hi, hq0, hq1, hq2⟩ := info_parts info3
  obtain ⟨GA, gc, rfl⟩ := hL.form
  obtain ⟨W0, hW0⟩ : ∃ W0, w.alloc (.cells #[.slice GA l.length gc] 27) = W0 := ⟨_, rfl⟩
  have hx : W0.heap[w.heap.size]? = some (.cells #[.slice GA l.length gc] 27 (0, 0)) := by rw [← hW0]; exact heap_alloc_new w _
  have hB0 : Below w.heap.size w W0 := by rw [← hW0]; exact bl_al (Below.refl _ _) _
  have hs0 : W0.heap.size = w.heap.size + 1 := by rw [← hW0]; simp
  have HCK := Lib.hid (checkAll_any W0 S d _ l (hL.below hB0) hf hlen (hG.below hB0))
  have HL := Lib.hid hL
  have HX := Lib.hid hx
  have HB0 := Lib.hid hB0
  have HW0 := Lib.hid hW0
  have HS0 := Lib.hid hs0
  have p0 := cellN (i := 0) hx rfl
  have pl := cell_lt hx
  clear hL hG hx hB0 hW0 hs0
  go_enter Tryz.func24, Tryz.ntmps24
  go_upto_region 1 with (fail)
  rw [HW0.out]
  clear HW0
  go_wp2_with (fail)
  refine HCK.out.mono ?_
  rintro e w1 ⟨rfl, hb1⟩
  have HX1 := Lib.hid (bl_blk hb1 HX.out)
  have HB1 := Lib.hid (HB0.out.trans (hb1.mono HB0.out.size))
  have hs1 := hb1.size
  have hs1' : w.heap.size + 1 ≤ w1.heap.size := by have := HS0.out; omega
  clear hb1 p0 pl hs1 HX HB0
  by_cases hok : (chkAll l).2 = 0
  case neg =>
    have hk1 : ((chkAll l).2 == 0) = false := by simp [hok]
    have hk2 : ((chkAll l).2 != 0) = true := by simp [hok]
    have HR : Hid (okR l (aboveP l i) = []) := Lib.hid (if_neg hok)
    clear hok
    go_wp2_with (fail)
    go_ret
    rw [HR.out]
    exact ⟨⟨_, rfl, IntsAt.nil _ _⟩, HB1.out⟩
  have HR : Hid (okR l (aboveP l i) = aboveP l i) := Lib.hid (if_pos hok)
  obtain ⟨hg, he⟩ := okG hok
  have HOK := Lib.hid hg
  have h32 := hg.few
  rw [he]
  clear hok he hg
  have p0 := cellN (i := 0) HX1.out rfl
  have pl := cell_lt HX1.out
  by_cases hi0 : i < 0
  · have HA := Lib.hid (aboveP_out (l := l) (i := i) (by omega))
    go_wp2_with (fail)
    go_ret
    rw [HR.out, HA.out]
    exact ⟨⟨_, rfl, IntsAt.nil _ _⟩, HB1.out⟩
  by_cases hi1 : (l.length : Int) ≤ i
  · have HA := Lib.hid (aboveP_out (l := l) (i := i) (by omega))
    go_wp2_with (fail)
    go_ret
    rw [HR.out, HA.out]
    exact ⟨⟨_, rfl, IntsAt.nil _ _⟩, HB1.out⟩
  obtain ⟨k, rfl⟩ : ∃ k : Nat, i = (k : Int) := ⟨i.toNat, by omega⟩
  have hlt : k < l.length := by omega
  have HA := Lib.hid (aboveP_in hlt)
  have hk0 : (0 : Int) ≤ (k : Int) := by omega
  have hk1 : (k : Int) < (l.length : Int) := by omega
  have hat := (HL.out.below HB1.out).at hlt
  have hrd : rdAt l k = readsN l[k] := by unfold rdAt; rw [List.getElem?_eq_getElem hlt]
  have hln := HOK.out.fewG _ (List.getElem_mem hlt)
  have hrn := HOK.out.inG _ (List.getElem_mem hlt)
  generalize l[k] = n at *
  obtain ⟨b, o, rfl, hbl, hS, IA, SA, A, ic, sc, c, hN, a0, a1, a2, a3, a4, a5, a6, a7, a8, a9, a10, a11, a12, a13⟩ := hat
  have hrl : (readsN n).length ≤ 1000000 := by unfold readsN; rw [List.length_append]; exact hln
  have HC : Hid (∀ W, Below w1.heap.size w1 W → Calls Tryz.prog 56 #[.agg #[.int .i64 n.op, .slice IA n.ins.length ic, .slice SA n.side.length sc, .string ⟨n.text.toArray⟩, .int .i64 n.ty.kind, .slice A n.ty.args.length c, .int .i64 n.f0, .int .i64 n.f1, .int .i64 n.f2, .int .i64 n.f3, .int .i64 n.e, .int .i64 n.l, .int .i64 n.lt, .bool n.acc]] W fun e w' => (∃ v', e = .returned v' ∧ IntsAt w' (fun b => W.heap.size ≤ b) v' (readsN n)) ∧ Below W.heap.size W w') := Lib.hid fun W hb => reads_any W S d n IA SA A ic sc c (hN.below hb) hln
  have HLD : Hid (∀ (W : World) (v : Value), Below w1.heap.size w1 W → (∃ P, IntsAt W P v (readsN n)) → Calls Tryz.prog 57 #[.agg #[.slice (some ⟨b, o, none⟩) l.length gc], v] W fun e w' => (∃ v', e = .returned v' ∧ IntsAt w' (fun b => W.heap.size ≤ b) v' (leadP l (readsN n))) ∧ Below W.heap.size W w') := Lib.hid fun W v hb ⟨P, hE⟩ => leading_any W S P d _ v l (readsN n) (HL.out.below (HB1.out.trans (hb.mono HB1.out.size))) hE h32 hrn hrl HOK.out.inG HOK.out.fewG
  have HRD := Lib.hid hrd
  clear hN hrd hln hrn hrl
  go_upto_region 4 with (fail)
  go_region_held3 (fun W => W.cell? ⟨w.heap.size, 0, none⟩ = some (.slice (some ⟨b, o, none⟩) l.length gc) ∧ W.cell? ⟨b, o + k * 14, none⟩ = some (.int .i64 n.op) ∧ W.cell? ⟨b, o + k * 14 + 1, none⟩ = some (.slice IA n.ins.length ic) ∧ W.cell? ⟨b, o + k * 14 + 2, none⟩ = some (.slice SA n.side.length sc) ∧ W.cell? ⟨b, o + k * 14 + 3, none⟩ = some (.string ⟨n.text.toArray⟩) ∧ W.cell? ⟨b, o + k * 14 + 4, none⟩ = some (.int .i64 n.ty.kind) ∧ W.cell? ⟨b, o + k * 14 + 5, none⟩ = some (.slice A n.ty.args.length c) ∧ W.cell? ⟨b, o + k * 14 + 6, none⟩ = some (.int .i64 n.f0) ∧ W.cell? ⟨b, o + k * 14 + 7, none⟩ = some (.int .i64 n.f1) ∧ W.cell? ⟨b, o + k * 14 + 8, none⟩ = some (.int .i64 n.f2) ∧ W.cell? ⟨b, o + k * 14 + 9, none⟩ = some (.int .i64 n.f3) ∧ W.cell? ⟨b, o + k * 14 + 10, none⟩ = some (.int .i64 n.e) ∧ W.cell? ⟨b, o + k * 14 + 11, none⟩ = some (.int .i64 n.l) ∧ W.cell? ⟨b, o + k * 14 + 12, none⟩ = some (.int .i64 n.lt) ∧ W.cell? ⟨b, o + k * 14 + 13, none⟩ = some (.bool n.acc) ∧ Below w1.heap.size w1 W)
    (exact keepA p0 pl hbl a0 a1 a2 a3 a4 a5 a6 a7 a8 a9 a10 a11 a12 a13 (by repeat' (first | with_reducible exact HB3.out | with_reducible exact HB2.out | with_reducible exact Below.refl _ _ | with_reducible refine bl_dr ?_)))
    (first
    | (go_at_call 56; (with_reducible refine (HC.out _ ?_).mono ?_); (focus exact (by repeat' (first | with_reducible exact Below.refl _ _ | with_reducible refine bl_dr ?_))); rintro e w2 ⟨⟨rv, rfl, hI⟩, hb2⟩; have HB2 : Hid (Below w1.heap.size w1 w2) := Lib.hid (bl_tr (by repeat' (first | with_reducible exact Below.refl _ _ | with_reducible refine bl_dr ?_)) hb2); have HI := Lib.hid hI; clear hI hb2)
    | (go_at_call 57; (with_reducible refine (HLD.out _ _ ?_ ?_).mono ?_); (focus exact HB2.out); (focus exact ⟨_, HI.out⟩); rintro e w3 ⟨⟨v3, rfl, hI3⟩, hb3⟩; have HB3 : Hid (Below w1.heap.size w1 w3) := Lib.hid (bl_tr HB2.out hb3); have HI3 := Lib.hid (hI3.move (S' := fun b => w.heap.size ≤ b) fun b hb1 hl => ⟨by have := HB2.out.size; have := HB1.out.size; omega, hl, fun _ => rfl⟩); clear hI3 hb3)
    | fail)
  all_goals (
    go_wp2_with (fail)
    go_ret
    rw [HR.out, HA.out, HRD.out]
    exact ⟨⟨_, rfl, HI3.out⟩, HB1.out.trans (HB3.out.mono HB1.out.size)⟩)

end Go.Proofs.YtllnamhgnbdkmaaGreatDoor
