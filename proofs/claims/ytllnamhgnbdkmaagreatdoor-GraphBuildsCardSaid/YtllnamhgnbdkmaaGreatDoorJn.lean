/-
Stage 11: placesText. Stage 11: parts and line.
-/
import Derived.Test.YtllnamhgnbdkmaaGreatDoorKp
set_option linter.unusedVariables false
set_option linter.unusedSimpArgs false
namespace Go.Proofs.YtllnamhgnbdkmaaGreatDoor
open Go.RowKit Go.Shelf Go.Sort
theorem info9 : (Tryz.prog.info? 9).map (fun i => (i.zero, i.size, i.bytes)) = some (some (.string ⟨#[]⟩), 1, 16) := by kernel_rfl
def InR (l : List Int) : Prop := ∀ x ∈ l, -9223372036854775808 ≤ x ∧ x ≤ 9223372036854775807
set_option maxRecDepth 100000 in
set_option maxHeartbeats 4000000 in
theorem placesText_any (w : World) (S : Nat → Prop) (v : Value) (l : List Int) (h : IntsAt w S v l) (hl : l.length ≤ 1000) (hr : InR l) (hT : Tb w) :
    Calls Tryz.prog 100 #[v] w fun e w' => e = .returned (.string ⟨(placeT l).toArray⟩) ∧ Below w.heap.size w w' := by
  obtain ⟨i0, hi, hq0, hq1, hq2⟩ := info_parts info9
  obtain ⟨A, c, rfl⟩ := h.form
  have HI := Lib.hid h
  have HR := Lib.hid hr
  have HT := Lib.hid hT
  by_cases h0 : l.length = 0
  · have hz : ((l.length : Int) == 0) = true := by simp [h0]
    have HP : Hid (placeT l = [45]) := Lib.hid (by unfold placeT; rw [if_pos h0])
    clear h hr hT h0
    go_enter Tryz.func100, Tryz.ntmps100
    go_wp2_with (fail)
    go_ret
    rw [HP.out]
    exact ⟨rfl, Below.refl _ _⟩
  have hz : ((l.length : Int) == 0) = false := by simp [h0]
  have HP : Hid (placeT l = Lib.join (l.map Lib.itoa) [44]) := Lib.hid (by unfold placeT; rw [if_neg h0])
  have hjl : (Lib.join (l.map Lib.itoa) [44]).length ≤ 30000 := by rw [← HP.out]; exact placeT_len hl hr
  clear h hr hT h0
  go_enter Tryz.func100, Tryz.ntmps100
  go_wp2_with (fail)
  have hown0 : w.ownsRow w.heap.size 9 1 (.slice none 0 0) 0 [] := World.ownsRow_nil _ _ _ _
  go_loopw [3, 11] (fun pv iv wr => ∃ j : Nat, iv = .int .i64 (j : Int) ∧ j ≤ l.length ∧ Hid (wr.ownsRow w.heap.size 9 1 pv j (((l.take j).map Lib.itoa).map encT)) ∧ Hid (Below w.heap.size w wr)) (fun _ iv _ => l.length - (intOf iv).toNat)
  case atStart => exact ⟨0, rfl, Nat.zero_le _, Lib.hid (by simpa using hown0), Below.refl _ _⟩
  case round =>
    obtain ⟨j, rfl, hj, HO, HBR⟩ := hrel
    have hsr := HBR.out.size
    by_cases hlt : j < l.length
    · have hjl2 : (j : Int) < (l.length : Int) := by omega
      obtain ⟨b, o, rfl, hc, hbl, hS⟩ := (HI.out.below HBR.out).cell hlt
      have htk : l.take (j + 1) = l.take j ++ [l[j]] := by simp
      obtain ⟨hx0, hx1⟩ := HR.out _ (List.getElem_mem hlt)
      generalize l[j] = x at *
      have HC := Lib.hid (itoa_b x hx0 hx1 wr (HT.out.kept (HBR.out.block _ HT.out.lt)))
      have HTK := Lib.hid htk
      clear htk
      go_wp2_with (fail)
      refine HC.out.mono ?_
      rintro e w2 ⟨rfl, hb2⟩
      have HO2 := Lib.hid (HO.out.kept (row := none) ⟨hb2.os, hb2.tape, hb2.output, hb2.size, fun k hk _ => hb2.block k hk⟩ (Classical.em _))
      have HBR2 := Lib.hid (HBR.out.trans (hb2.mono hsr))
      have hs2 := hb2.size
      have hle := HO2.out.lt
      clear hb2
      obtain ⟨PA, pc, rfl⟩ := own_slice HO2.out
      go_wp2_with (at_builtin; refine wpList_append_own_at _ rfl _ _ 131 rfl w.heap.size 9 i0 (.string ⟨#[]⟩) 1 16 Tryz.underlying131 hi hq0 hq1 hq2 rfl (by decide) _ j (((l.take j).map Lib.itoa).map encT) rfl (HO2.out.alloc _) ⟨w2.heap.size, 0, none⟩ 1 1 [.string ⟨(Lib.itoa x).toArray⟩] rfl rfl (World.news_of_block (cs := #[.string ⟨(Lib.itoa x).toArray⟩]) (t := 9) (fr := (0, 0)) (heap_alloc_new w2 _)) (by simp [Value.oneCell']) (by unfold maxLen; omega) (by omega) (by simp; omega) ?_; intro v7 w7 hown7 hg7 _ hat7)
      have H7O : Hid (w7.ownsRow w.heap.size 9 1 v7 (j + 1) (((l.take (j + 1)).map Lib.itoa).map encT)) := Lib.hid (by
        rw [HTK.out]
        simpa [encT] using hown7)
      have H7B : Hid (Below w.heap.size w w7) := Lib.hid ((HBR2.out.alloc HBR2.out.size _).grown hg7 (by simp; omega) (fun k hk => (hle k hk).1))
      go_roundw
      case rel => exact ⟨j + 1, by go_num, by omega, H7O, H7B⟩
      case measure => simp [intOf]; omega
    · obtain rfl : j = l.length := by omega
      have hjl2 : ¬ ((l.length : Int) < (l.length : Int)) := by omega
      have hown := HO.out
      rw [List.take_length] at hown
      have hln : (l.map Lib.itoa).length ≤ 1000000 := by simp; omega
      have HJ := Lib.hid (join_any _ _ (l.map Lib.itoa) [44] wr (StrsAt.of_own (by simpa using hown)) hln (by omega))
      clear hown hln
      go_wp2_with (fail)
      refine HJ.out.mono ?_
      rintro e w9 ⟨rfl, hb9⟩
      have HB9 := Lib.hid (HBR.out.trans (hb9.mono hsr))
      clear hb9
      go_wp2_with (fail)
      go_ret
      rw [HP.out]
      exact ⟨rfl, HB9.out⟩
end Go.Proofs.YtllnamhgnbdkmaaGreatDoor
namespace Go.Proofs.YtllnamhgnbdkmaaGreatDoor
open Go.RowKit Go.Shelf Go.Sort
def partsP (n : Gn) : List (List UInt8) :=
  if n.op = 1 then [Knd.textT 6 n.ty] else if n.op = 2 then [placeT n.ins, placeT n.side, n.text] else if n.op = 3 then [placeT n.ins, Lib.itoa n.f0, Lib.itoa n.f1, Lib.itoa n.f2, Lib.itoa n.f3]
  else if n.op = 4 then [placeT n.ins, Lib.itoa n.e, Lib.itoa n.l, Lib.itoa n.lt, if n.acc = true then [97, 99, 99] else [100, 105, 115], n.text] else [placeT n.ins]
def i64R (x : Int) : Prop := -9223372036854775808 ≤ x ∧ x ≤ 9223372036854775807
structure GnR (n : Gn) : Prop where
  ins : InR n.ins
  side : InR n.side
  f0 : i64R n.f0
  f1 : i64R n.f1
  f2 : i64R n.f2
  f3 : i64R n.f3
  e : i64R n.e
  l : i64R n.l
  lt : i64R n.lt
theorem keep3n {w0 W : World} {p : Nat} {a b c : Value} (h1 : w0.cell? ⟨p, 1, none⟩ = some a) (h2 : w0.cell? ⟨p, 2, none⟩ = some b) (h3 : w0.cell? ⟨p, 3, none⟩ = some c) (hp : p < w0.heap.size) (h : Below w0.heap.size w0 W) : W.cell? ⟨p, 1, none⟩ = some a ∧ W.cell? ⟨p, 2, none⟩ = some b ∧ W.cell? ⟨p, 3, none⟩ = some c ∧ Below w0.heap.size w0 W :=
  ⟨(World.cell?_of_block (h.block _ hp)).trans h1, (World.cell?_of_block (h.block _ hp)).trans h2, (World.cell?_of_block (h.block _ hp)).trans h3, h⟩
theorem keepf {w0 W : World} {p q : Nat} {a1 b0 b1 b2 b3 : Value} (h1 : w0.cell? ⟨p, 1, none⟩ = some a1) (g0 : w0.cell? ⟨q, 0, none⟩ = some b0) (g1 : w0.cell? ⟨q, 1, none⟩ = some b1) (g2 : w0.cell? ⟨q, 2, none⟩ = some b2) (g3 : w0.cell? ⟨q, 3, none⟩ = some b3) (hp : p < w0.heap.size) (hq : q < w0.heap.size) (h : Below w0.heap.size w0 W) : W.cell? ⟨p, 1, none⟩ = some a1 ∧ W.cell? ⟨q, 0, none⟩ = some b0 ∧ W.cell? ⟨q, 1, none⟩ = some b1 ∧ W.cell? ⟨q, 2, none⟩ = some b2 ∧ W.cell? ⟨q, 3, none⟩ = some b3 ∧ Below w0.heap.size w0 W :=
  ⟨(World.cell?_of_block (h.block _ hp)).trans h1, (World.cell?_of_block (h.block _ hq)).trans g0, (World.cell?_of_block (h.block _ hq)).trans g1, (World.cell?_of_block (h.block _ hq)).trans g2, (World.cell?_of_block (h.block _ hq)).trans g3, h⟩
theorem keept {w0 W : World} {p q : Nat} {a1 a3 b0 b1 b2 : Value} (h1 : w0.cell? ⟨p, 1, none⟩ = some a1) (h3 : w0.cell? ⟨p, 3, none⟩ = some a3) (g0 : w0.cell? ⟨q, 0, none⟩ = some b0) (g1 : w0.cell? ⟨q, 1, none⟩ = some b1) (g2 : w0.cell? ⟨q, 2, none⟩ = some b2) (hp : p < w0.heap.size) (hq : q < w0.heap.size) (h : Below w0.heap.size w0 W) : W.cell? ⟨p, 1, none⟩ = some a1 ∧ W.cell? ⟨p, 3, none⟩ = some a3 ∧ W.cell? ⟨q, 0, none⟩ = some b0 ∧ W.cell? ⟨q, 1, none⟩ = some b1 ∧ W.cell? ⟨q, 2, none⟩ = some b2 ∧ Below w0.heap.size w0 W :=
  ⟨(World.cell?_of_block (h.block _ hp)).trans h1, (World.cell?_of_block (h.block _ hp)).trans h3, (World.cell?_of_block (h.block _ hq)).trans g0, (World.cell?_of_block (h.block _ hq)).trans g1, (World.cell?_of_block (h.block _ hq)).trans g2, h⟩
set_option maxRecDepth 100000 in
set_option maxHeartbeats 8000000 in
theorem parts_any (w : World) (S : Nat → Prop) (d : Nat) (n : Gn) (IA SA A : Option Addr) (ic sc c : Nat) (hN : GnAt w S d (n.val IA SA A ic sc c) n) (hI : n.ins.length ≤ 1000) (hS : n.side.length ≤ 1000) (hR : GnR n) (hT1 : n.op = 1 → (Knd.measureT 6 n.ty).isSome = true) (hG : Gk w) :
    Calls Tryz.prog 76 #[.agg #[.int .i64 n.op, .slice IA n.ins.length ic, .slice SA n.side.length sc, .string ⟨n.text.toArray⟩, .int .i64 n.ty.kind, .slice A n.ty.args.length c, .int .i64 n.f0, .int .i64 n.f1, .int .i64 n.f2, .int .i64 n.f3, .int .i64 n.e, .int .i64 n.l, .int .i64 n.lt, .bool n.acc]] w fun e w' => (∃ v', e = .returned v' ∧ StrsAt w' (fun b => w.heap.size ≤ b) v' (partsP n)) ∧ Below w.heap.size w w' := by
  obtain ⟨IA', SA', A', ic', sc', c', e, h1, h2, h3⟩ := hN
  unfold Gn.val at e
  injection e with e
  simp only [Array.mk.injEq, List.cons.injEq, Value.slice.injEq, and_true, true_and] at e
  obtain ⟨⟨rfl, rfl⟩, ⟨rfl, rfl⟩, rfl, rfl⟩ := e
  obtain ⟨W0, hW0⟩ : ∃ W0, w.alloc (.cells #[.int .i64 n.op, .slice IA n.ins.length ic, .slice SA n.side.length sc, .string ⟨n.text.toArray⟩, .int .i64 n.ty.kind, .slice A n.ty.args.length c, .int .i64 n.f0, .int .i64 n.f1, .int .i64 n.f2, .int .i64 n.f3, .int .i64 n.e, .int .i64 n.l, .int .i64 n.lt, .bool n.acc] 83) = W0 := ⟨_, rfl⟩
  have hx : W0.heap[w.heap.size]? = some (.cells #[.int .i64 n.op, .slice IA n.ins.length ic, .slice SA n.side.length sc, .string ⟨n.text.toArray⟩, .int .i64 n.ty.kind, .slice A n.ty.args.length c, .int .i64 n.f0, .int .i64 n.f1, .int .i64 n.f2, .int .i64 n.f3, .int .i64 n.e, .int .i64 n.l, .int .i64 n.lt, .bool n.acc] 83 (0, 0)) := by rw [← hW0]; exact heap_alloc_new w _
  have hB0 : Below w.heap.size w W0 := by rw [← hW0]; exact bl_al (Below.refl _ _) _
  have hs0 : W0.heap.size = w.heap.size + 1 := by rw [← hW0]; simp
  have HP1 : Hid (∀ W, Below W0.heap.size W0 W → Calls Tryz.prog 100 #[.slice IA n.ins.length ic] W fun e w' => e = .returned (.string ⟨(placeT n.ins).toArray⟩) ∧ Below W.heap.size W w') := Lib.hid fun W hb => placesText_any W S _ n.ins ((h1.below hB0).below hb) hI hR.ins ((hG.below hB0).below hb).tb
  have HP2 : Hid (∀ W, Below W0.heap.size W0 W → Calls Tryz.prog 100 #[.slice SA n.side.length sc] W fun e w' => e = .returned (.string ⟨(placeT n.side).toArray⟩) ∧ Below W.heap.size W w') := Lib.hid fun W hb => placesText_any W S _ n.side ((h2.below hB0).below hb) hS hR.side ((hG.below hB0).below hb).tb
  have HIT : Hid (∀ (W : World) (x : Int), i64R x → Below W0.heap.size W0 W → Calls Tryz.prog 101 #[.int .i64 x] W fun e w' => e = .returned (.string ⟨(Lib.itoa x).toArray⟩) ∧ Below W.heap.size W w') := Lib.hid fun W x hx hb => itoa_b x hx.1 hx.2 W ((hG.below hB0).below hb).tb
  have HSH := Lib.hid (Knd.show_any d S _ n.ty W0 (h3.below hB0) (hG.below hB0).kd)
  have HT1 := Lib.hid hT1
  have HW0 := Lib.hid hW0
  have HX := Lib.hid hx
  have HB0 := Lib.hid hB0
  have HR := Lib.hid hR
  have HS0 := Lib.hid hs0
  clear h1 h2 h3 hG hW0 hx hB0 hR hT1 hs0 hI hS
  go_enter Tryz.func76, Tryz.ntmps76
  go_upto_region 1 with (fail)
  rw [HW0.out]
  clear HW0
  have c0 := cellN (i := 0) HX.out rfl
  have c1 := cellN (i := 1) HX.out rfl
  have c2 := cellN (i := 2) HX.out rfl
  have c3 := cellN (i := 3) HX.out rfl
  have c4 := cellN (i := 4) HX.out rfl
  have c5 := cellN (i := 5) HX.out rfl
  have c6 := cellN (i := 6) HX.out rfl
  have c7 := cellN (i := 7) HX.out rfl
  have c8 := cellN (i := 8) HX.out rfl
  have c9 := cellN (i := 9) HX.out rfl
  have c10 := cellN (i := 10) HX.out rfl
  have c11 := cellN (i := 11) HX.out rfl
  have c12 := cellN (i := 12) HX.out rfl
  have c13 := cellN (i := 13) HX.out rfl
  have cl := cell_lt HX.out
  have HBC : Hid (Below W0.heap.size W0 W0) := Lib.hid (Below.refl _ _)
  by_cases h1 : n.op = 1
  · have hm := HT1.out h1
    have HPP : Hid (partsP n = [Knd.textT 6 n.ty]) := Lib.hid (if_pos h1)
    have o1 : (n.op == 1) = true := by simp [h1]
    have o2 : (n.op == 2) = false := by simp [h1]
    have o3 : (n.op == 3) = false := by simp [h1]
    have o4 : (n.op == 4) = false := by simp [h1]
    clear h1
    obtain ⟨q, hq⟩ := Option.isSome_iff_exists.1 hm
    rw [hq] at HSH
    clear hm
    go_wp2_with (go_at_call 99; (with_reducible refine HSH.out.mono ?_); rintro e wx ⟨he, hbx⟩; obtain rfl := he; have HBC := Lib.hid hbx; clear hbx)
    all_goals (
      go_ret
      rw [HPP.out]
      exact ⟨⟨_, rfl, (StrsAt.built (l := [Knd.textT 6 n.ty]) (heap_alloc_new _ _) rfl).move fun b hb1 hl => ⟨by have h1 := HS0.out; have h2 := HBC.out.size; omega, hl, fun _ => rfl⟩⟩, HB0.out.trans ((bl_al HBC.out _).mono HB0.out.size)⟩)
  by_cases h2 : n.op = 2
  · have HPP : Hid (partsP n = [placeT n.ins, placeT n.side, n.text]) := Lib.hid (by unfold partsP; rw [if_neg h1, if_pos h2])
    have o1 : (n.op == 1) = false := by simp [h2]
    have o2 : (n.op == 2) = true := by simp [h2]
    have o3 : (n.op == 3) = false := by simp [h2]
    have o4 : (n.op == 4) = false := by simp [h2]
    clear h1 h2
    go_upto_region 6 with (fail)
    go_region_held3 (fun W => W.cell? ⟨w.heap.size, 1, none⟩ = some (.slice IA n.ins.length ic) ∧ W.cell? ⟨w.heap.size, 2, none⟩ = some (.slice SA n.side.length sc) ∧ W.cell? ⟨w.heap.size, 3, none⟩ = some (.string ⟨n.text.toArray⟩) ∧ Below W0.heap.size W0 W)
      (exact keep3n c1 c2 c3 cl (by repeat' (first | with_reducible exact HBC.out | with_reducible exact Below.refl _ _ | with_reducible refine bl_al ?_ _ | with_reducible refine bl_dr ?_)))
      (first
      | (go_at_call 100; (with_reducible refine (HP1.out _ ?_).mono ?_); (focus exact (by repeat' (first | with_reducible exact HBC.out | with_reducible exact Below.refl _ _ | with_reducible refine bl_al ?_ _ | with_reducible refine bl_dr ?_))); rintro e wx ⟨rfl, hbx⟩; have HBC : Hid (Below W0.heap.size W0 wx) := Lib.hid (bl_tr (by repeat' (first | with_reducible exact HBC.out | with_reducible exact Below.refl _ _ | with_reducible refine bl_al ?_ _ | with_reducible refine bl_dr ?_)) hbx); clear hbx)
      | (go_at_call 100; (with_reducible refine (HP2.out _ ?_).mono ?_); (focus exact (by repeat' (first | with_reducible exact HBC.out | with_reducible exact Below.refl _ _ | with_reducible refine bl_al ?_ _ | with_reducible refine bl_dr ?_))); rintro e wx ⟨rfl, hbx⟩; have HBC : Hid (Below W0.heap.size W0 wx) := Lib.hid (bl_tr (by repeat' (first | with_reducible exact HBC.out | with_reducible exact Below.refl _ _ | with_reducible refine bl_al ?_ _ | with_reducible refine bl_dr ?_)) hbx); clear hbx)
      | fail)
    all_goals (
      go_wp2_with (fail)
      go_ret
      rw [HPP.out]
      exact ⟨⟨_, rfl, (StrsAt.built (l := [placeT n.ins, placeT n.side, n.text]) (heap_alloc_new _ _) rfl).move fun b hb1 hl => ⟨by have h1 := HS0.out; have h2 := HBC.out.size; omega, hl, fun _ => rfl⟩⟩, HB0.out.trans ((bl_al HBC.out _).mono HB0.out.size)⟩)
  by_cases h3 : n.op = 3
  · have HPP : Hid (partsP n = [placeT n.ins, Lib.itoa n.f0, Lib.itoa n.f1, Lib.itoa n.f2, Lib.itoa n.f3]) := Lib.hid (by unfold partsP; rw [if_neg h1, if_neg h2, if_pos h3])
    have o1 : (n.op == 1) = false := by simp [h3]
    have o2 : (n.op == 2) = false := by simp [h3]
    have o3 : (n.op == 3) = true := by simp [h3]
    have o4 : (n.op == 4) = false := by simp [h3]
    clear h1 h2 h3
    obtain ⟨W1, hW1⟩ : ∃ W, W0.alloc (.cells #[.int .i64 n.f0, .int .i64 n.f1, .int .i64 n.f2, .int .i64 n.f3] 69) = W := ⟨_, rfl⟩
    have hq : W1.heap[W0.heap.size]? = some (.cells #[.int .i64 n.f0, .int .i64 n.f1, .int .i64 n.f2, .int .i64 n.f3] 69 (0, 0)) := by rw [← hW1]; exact heap_alloc_new W0 _
    have hbw : Below W0.heap.size W0 W1 := by rw [← hW1]; exact bl_al (Below.refl _ _) _
    have HP1 : Hid (∀ W, Below W1.heap.size W1 W → Calls Tryz.prog 100 #[.slice IA n.ins.length ic] W fun e w' => e = .returned (.string ⟨(placeT n.ins).toArray⟩) ∧ Below W.heap.size W w') := Lib.hid fun W hb => HP1.out W (bl_tr hbw hb)
    have HIT : Hid (∀ (W : World) (x : Int), i64R x → Below W1.heap.size W1 W → Calls Tryz.prog 101 #[.int .i64 x] W fun e w' => e = .returned (.string ⟨(Lib.itoa x).toArray⟩) ∧ Below W.heap.size W w') := Lib.hid fun W x hx hb => HIT.out W x hx (bl_tr hbw hb)
    have hs1 := hbw.size
    have HS0 : Hid (w.heap.size + 1 ≤ W1.heap.size) := Lib.hid (by have := HS0.out; omega)
    have HB0 := Lib.hid (HB0.out.trans (hbw.mono HB0.out.size))
    have HBC : Hid (Below W1.heap.size W1 W1) := Lib.hid (Below.refl _ _)
    have HXA := Lib.hid (bl_blk hbw HX.out)
    have HQ := Lib.hid hq
    have HW1 := Lib.hid hW1
    have d1 := cellN (i := 1) HXA.out rfl
    have dl := cell_lt HXA.out
    have e0 := cellN (i := 0) HQ.out rfl
    have e1 := cellN (i := 1) HQ.out rfl
    have e2 := cellN (i := 2) HQ.out rfl
    have e3 := cellN (i := 3) HQ.out rfl
    have el := cell_lt HQ.out
    clear hq hbw hW1
    go_upto_region 9 with (fail)
    rw [HW1.out]
    clear HW1 c0 c1 c2 c3 c4 c5 c6 c7 c8 c9 c10 c11 c12 c13 cl
    go_region_held3 (fun W => W.cell? ⟨w.heap.size, 1, none⟩ = some (.slice IA n.ins.length ic) ∧ W.cell? ⟨W0.heap.size, 0, none⟩ = some (.int .i64 n.f0) ∧ W.cell? ⟨W0.heap.size, 1, none⟩ = some (.int .i64 n.f1) ∧ W.cell? ⟨W0.heap.size, 2, none⟩ = some (.int .i64 n.f2) ∧ W.cell? ⟨W0.heap.size, 3, none⟩ = some (.int .i64 n.f3) ∧ Below W1.heap.size W1 W)
      (exact keepf d1 e0 e1 e2 e3 dl el (by repeat' (first | with_reducible exact HBC.out | with_reducible exact Below.refl _ _ | with_reducible refine bl_al ?_ _ | with_reducible refine bl_dr ?_)))
      (first
      | (go_at_call 100; (with_reducible refine (HP1.out _ ?_).mono ?_); (focus exact (by repeat' (first | with_reducible exact HBC.out | with_reducible exact Below.refl _ _ | with_reducible refine bl_al ?_ _ | with_reducible refine bl_dr ?_))); rintro e wx ⟨rfl, hbx⟩; have HBC : Hid (Below W1.heap.size W1 wx) := Lib.hid (bl_tr (by repeat' (first | with_reducible exact HBC.out | with_reducible exact Below.refl _ _ | with_reducible refine bl_al ?_ _ | with_reducible refine bl_dr ?_)) hbx); clear hbx)
      | (go_at_call 101; (with_reducible refine (HIT.out _ _ ?_ ?_).mono ?_); (focus (first | exact HR.out.f0 | exact HR.out.f1 | exact HR.out.f2 | exact HR.out.f3)); (focus exact (by repeat' (first | with_reducible exact HBC.out | with_reducible exact Below.refl _ _ | with_reducible refine bl_al ?_ _ | with_reducible refine bl_dr ?_))); rintro e wx ⟨rfl, hbx⟩; have HBC : Hid (Below W1.heap.size W1 wx) := Lib.hid (bl_tr (by repeat' (first | with_reducible exact HBC.out | with_reducible exact Below.refl _ _ | with_reducible refine bl_al ?_ _ | with_reducible refine bl_dr ?_)) hbx); clear hbx)
      | fail)
    all_goals (
      go_wp2_with (fail)
      go_ret
      rw [HPP.out]
      exact ⟨⟨_, rfl, (StrsAt.built (l := [placeT n.ins, Lib.itoa n.f0, Lib.itoa n.f1, Lib.itoa n.f2, Lib.itoa n.f3]) (heap_alloc_new _ _) rfl).move fun b hb1 hl => ⟨by have h1 := HS0.out; have h2 := HBC.out.size; omega, hl, fun _ => rfl⟩⟩, HB0.out.trans ((bl_al HBC.out _).mono HB0.out.size)⟩)
  by_cases h4 : n.op = 4
  · have HPP : Hid (partsP n = [placeT n.ins, Lib.itoa n.e, Lib.itoa n.l, Lib.itoa n.lt, if n.acc = true then [97, 99, 99] else [100, 105, 115], n.text]) := Lib.hid (by unfold partsP; rw [if_neg h1, if_neg h2, if_neg h3, if_pos h4])
    have o1 : (n.op == 1) = false := by simp [h4]
    have o2 : (n.op == 2) = false := by simp [h4]
    have o3 : (n.op == 3) = false := by simp [h4]
    have o4 : (n.op == 4) = true := by simp [h4]
    clear h1 h2 h3 h4
    obtain ⟨W1, hW1⟩ : ∃ W, W0.alloc (.cells #[.int .i64 n.e, .int .i64 n.l, .int .i64 n.lt, .bool n.acc] 71) = W := ⟨_, rfl⟩
    have hq : W1.heap[W0.heap.size]? = some (.cells #[.int .i64 n.e, .int .i64 n.l, .int .i64 n.lt, .bool n.acc] 71 (0, 0)) := by rw [← hW1]; exact heap_alloc_new W0 _
    have hbw : Below W0.heap.size W0 W1 := by rw [← hW1]; exact bl_al (Below.refl _ _) _
    have HP1 : Hid (∀ W, Below W1.heap.size W1 W → Calls Tryz.prog 100 #[.slice IA n.ins.length ic] W fun e w' => e = .returned (.string ⟨(placeT n.ins).toArray⟩) ∧ Below W.heap.size W w') := Lib.hid fun W hb => HP1.out W (bl_tr hbw hb)
    have HIT : Hid (∀ (W : World) (x : Int), i64R x → Below W1.heap.size W1 W → Calls Tryz.prog 101 #[.int .i64 x] W fun e w' => e = .returned (.string ⟨(Lib.itoa x).toArray⟩) ∧ Below W.heap.size W w') := Lib.hid fun W x hx hb => HIT.out W x hx (bl_tr hbw hb)
    have hs1 := hbw.size
    have HS0 : Hid (w.heap.size + 1 ≤ W1.heap.size) := Lib.hid (by have := HS0.out; omega)
    have HB0 := Lib.hid (HB0.out.trans (hbw.mono HB0.out.size))
    have HBC : Hid (Below W1.heap.size W1 W1) := Lib.hid (Below.refl _ _)
    have HXA := Lib.hid (bl_blk hbw HX.out)
    have HQ := Lib.hid hq
    have HW1 := Lib.hid hW1
    have d1 := cellN (i := 1) HXA.out rfl
    have d3 := cellN (i := 3) HXA.out rfl
    have dl := cell_lt HXA.out
    have e0 := cellN (i := 0) HQ.out rfl
    have e1 := cellN (i := 1) HQ.out rfl
    have e2 := cellN (i := 2) HQ.out rfl
    have e3 := cellN (i := 3) HQ.out rfl
    have el := cell_lt HQ.out
    clear hq hbw hW1
    go_upto_region 12 with (fail)
    rw [HW1.out]
    clear HW1 c0 c1 c2 c3 c4 c5 c6 c7 c8 c9 c10 c11 c12 c13 cl
    cases hacc : n.acc
    · have HPP : Hid (partsP n = [placeT n.ins, Lib.itoa n.e, Lib.itoa n.l, Lib.itoa n.lt, [100, 105, 115], n.text]) := Lib.hid (by rw [HPP.out, hacc]; rfl)
      rw [hacc] at e3
      clear hacc
      go_upto_region 15 with (fail)
      go_region_held3 (fun W => W.cell? ⟨w.heap.size, 1, none⟩ = some (.slice IA n.ins.length ic) ∧ W.cell? ⟨w.heap.size, 3, none⟩ = some (.string ⟨n.text.toArray⟩) ∧ W.cell? ⟨W0.heap.size, 0, none⟩ = some (.int .i64 n.e) ∧ W.cell? ⟨W0.heap.size, 1, none⟩ = some (.int .i64 n.l) ∧ W.cell? ⟨W0.heap.size, 2, none⟩ = some (.int .i64 n.lt) ∧ Below W1.heap.size W1 W)
        (exact keept d1 d3 e0 e1 e2 dl el (by repeat' (first | with_reducible exact HBC.out | with_reducible exact Below.refl _ _ | with_reducible refine bl_al ?_ _ | with_reducible refine bl_dr ?_)))
        (first
        | (go_at_call 100; (with_reducible refine (HP1.out _ ?_).mono ?_); (focus exact (by repeat' (first | with_reducible exact HBC.out | with_reducible exact Below.refl _ _ | with_reducible refine bl_al ?_ _ | with_reducible refine bl_dr ?_))); rintro e wx ⟨rfl, hbx⟩; have HBC : Hid (Below W1.heap.size W1 wx) := Lib.hid (bl_tr (by repeat' (first | with_reducible exact HBC.out | with_reducible exact Below.refl _ _ | with_reducible refine bl_al ?_ _ | with_reducible refine bl_dr ?_)) hbx); clear hbx)
        | (go_at_call 101; (with_reducible refine (HIT.out _ _ ?_ ?_).mono ?_); (focus (first | exact HR.out.e | exact HR.out.l | exact HR.out.lt)); (focus exact (by repeat' (first | with_reducible exact HBC.out | with_reducible exact Below.refl _ _ | with_reducible refine bl_al ?_ _ | with_reducible refine bl_dr ?_))); rintro e wx ⟨rfl, hbx⟩; have HBC : Hid (Below W1.heap.size W1 wx) := Lib.hid (bl_tr (by repeat' (first | with_reducible exact HBC.out | with_reducible exact Below.refl _ _ | with_reducible refine bl_al ?_ _ | with_reducible refine bl_dr ?_)) hbx); clear hbx)
        | fail)
      all_goals (
        go_wp2_with (fail)
        go_ret
        rw [HPP.out]
        exact ⟨⟨_, rfl, (StrsAt.built (l := [placeT n.ins, Lib.itoa n.e, Lib.itoa n.l, Lib.itoa n.lt, [100, 105, 115], n.text]) (heap_alloc_new _ _) rfl).move fun b hb1 hl => ⟨by have h1 := HS0.out; have h2 := HBC.out.size; omega, hl, fun _ => rfl⟩⟩, HB0.out.trans ((bl_al HBC.out _).mono HB0.out.size)⟩)
    · have HPP : Hid (partsP n = [placeT n.ins, Lib.itoa n.e, Lib.itoa n.l, Lib.itoa n.lt, [97, 99, 99], n.text]) := Lib.hid (by rw [HPP.out, hacc]; rfl)
      rw [hacc] at e3
      clear hacc
      go_upto_region 15 with (fail)
      go_region_held3 (fun W => W.cell? ⟨w.heap.size, 1, none⟩ = some (.slice IA n.ins.length ic) ∧ W.cell? ⟨w.heap.size, 3, none⟩ = some (.string ⟨n.text.toArray⟩) ∧ W.cell? ⟨W0.heap.size, 0, none⟩ = some (.int .i64 n.e) ∧ W.cell? ⟨W0.heap.size, 1, none⟩ = some (.int .i64 n.l) ∧ W.cell? ⟨W0.heap.size, 2, none⟩ = some (.int .i64 n.lt) ∧ Below W1.heap.size W1 W)
        (exact keept d1 d3 e0 e1 e2 dl el (by repeat' (first | with_reducible exact HBC.out | with_reducible exact Below.refl _ _ | with_reducible refine bl_al ?_ _ | with_reducible refine bl_dr ?_)))
        (first
        | (go_at_call 100; (with_reducible refine (HP1.out _ ?_).mono ?_); (focus exact (by repeat' (first | with_reducible exact HBC.out | with_reducible exact Below.refl _ _ | with_reducible refine bl_al ?_ _ | with_reducible refine bl_dr ?_))); rintro e wx ⟨rfl, hbx⟩; have HBC : Hid (Below W1.heap.size W1 wx) := Lib.hid (bl_tr (by repeat' (first | with_reducible exact HBC.out | with_reducible exact Below.refl _ _ | with_reducible refine bl_al ?_ _ | with_reducible refine bl_dr ?_)) hbx); clear hbx)
        | (go_at_call 101; (with_reducible refine (HIT.out _ _ ?_ ?_).mono ?_); (focus (first | exact HR.out.e | exact HR.out.l | exact HR.out.lt)); (focus exact (by repeat' (first | with_reducible exact HBC.out | with_reducible exact Below.refl _ _ | with_reducible refine bl_al ?_ _ | with_reducible refine bl_dr ?_))); rintro e wx ⟨rfl, hbx⟩; have HBC : Hid (Below W1.heap.size W1 wx) := Lib.hid (bl_tr (by repeat' (first | with_reducible exact HBC.out | with_reducible exact Below.refl _ _ | with_reducible refine bl_al ?_ _ | with_reducible refine bl_dr ?_)) hbx); clear hbx)
        | fail)
      all_goals (
        go_wp2_with (fail)
        go_ret
        rw [HPP.out]
        exact ⟨⟨_, rfl, (StrsAt.built (l := [placeT n.ins, Lib.itoa n.e, Lib.itoa n.l, Lib.itoa n.lt, [97, 99, 99], n.text]) (heap_alloc_new _ _) rfl).move fun b hb1 hl => ⟨by have h1 := HS0.out; have h2 := HBC.out.size; omega, hl, fun _ => rfl⟩⟩, HB0.out.trans ((bl_al HBC.out _).mono HB0.out.size)⟩)
  have HPP : Hid (partsP n = [placeT n.ins]) := Lib.hid (by unfold partsP; rw [if_neg h1, if_neg h2, if_neg h3, if_neg h4])
  have o1 : (n.op == 1) = false := by simp [h1]
  have o2 : (n.op == 2) = false := by simp [h2]
  have o3 : (n.op == 3) = false := by simp [h3]
  have o4 : (n.op == 4) = false := by simp [h4]
  clear h1 h2 h3 h4
  go_wp2_with ((go_at_call 100; (with_reducible refine (HP1.out _ ?_).mono ?_); (focus exact (by repeat' (first | with_reducible exact HBC.out | with_reducible exact Below.refl _ _ | with_reducible refine bl_al ?_ _ | with_reducible refine bl_dr ?_))); rintro e wx ⟨rfl, hbx⟩; have HBC : Hid (Below W0.heap.size W0 wx) := Lib.hid (bl_tr (by repeat' (first | with_reducible exact HBC.out | with_reducible exact Below.refl _ _ | with_reducible refine bl_al ?_ _ | with_reducible refine bl_dr ?_)) hbx); clear hbx))
  all_goals (
    go_ret
    rw [HPP.out]
    exact ⟨⟨_, rfl, (StrsAt.built (l := [placeT n.ins]) (heap_alloc_new _ _) rfl).move fun b hb1 hl => ⟨by have h1 := HS0.out; have h2 := HBC.out.size; omega, hl, fun _ => rfl⟩⟩, HB0.out.trans ((bl_al HBC.out _).mono HB0.out.size)⟩)
end Go.Proofs.YtllnamhgnbdkmaaGreatDoor
