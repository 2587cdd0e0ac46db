/-
Stage 11: GraphBuilds.
-/
import Derived.Test.YtllnamhgnbdkmaaGreatDoorHg
import Derived.Deep.CutBlock
import Derived.Test.YtllnamhgnbdkmaaGreatDoorHf
set_option linter.unusedVariables false
set_option linter.unusedSimpArgs false
namespace Go.Proofs.YtllnamhgnbdkmaaGreatDoor
open Go.RowKit Go.Shelf Go.Sort
set_option maxRecDepth 100000 in
set_option maxHeartbeats 8000000 in
theorem builds_any (w : World) (S : Nat → Prop) (d : Nat) (v : Value) (l : List Gn) (h : GsAt w S d v l) (hl : l.length ≤ 9223372036854775807) (hr : ∀ n ∈ l, GnR n) (hG : Gk w) :
    Calls Tryz.prog 6 #[v] w fun e w' => e = .returned (.bool true) ∧ Below w.heap.size w w' := by
  obtain ⟨GA, gc, rfl⟩ := h.form
  have HAW : Hid (∀ W, Below w.heap.size w W → Calls Tryz.prog 11 #[] W fun e w' => e = .returned (.bool true) ∧ Below W.heap.size W w') := Lib.hid fun W hb => awake_any placesOf_any placesP_ok.two W (hG.below hb)
  have HSL := Lib.hid (small_any w S d _ l h hl)
  have H := Lib.hid h
  have HR := Lib.hid hr
  have HG := Lib.hid hG
  clear h hr hG
  go_enter Tryz.func6, Tryz.ntmps6
  go_wp2_with (fail)
  refine HSL.out.mono ?_
  rintro e w1 ⟨⟨b, rfl, hsm⟩, hb1⟩
  have HB1 := Lib.hid hb1
  cases b with
  | false =>
    clear hsm hb1
    go_wp2_with (first
      | (go_at_call 11; (with_reducible refine (HAW.out _ HB1.out).mono ?_); rintro e w9 ⟨rfl, hb9⟩; have HB9 := Lib.hid (HB1.out.trans (hb9.mono HB1.out.size)); clear hb9)
      | fail)
    go_ret
    exact ⟨rfl, HB9.out⟩
  | true =>
    obtain ⟨hl100, hsn⟩ := hsm rfl
    have HSN := Lib.hid hsn
    clear hsm hb1 hsn
    go_wp2_with (first
      | (go_at_call 27; (with_reducible refine (new_any w1).mono ?_); rintro e w2 ⟨rfl, hbd, hb2⟩; have HBD := Lib.hid hbd; have HB2 := Lib.hid (HB1.out.trans (hb2.mono HB1.out.size)); clear hbd hb2)
      | fail)
    have hbb0 : w.heap.size ≤ w1.heap.size := HB1.out.size
    obtain ⟨i0, hi, hq0, hq1, hq2⟩ := info_parts infoR
    have HIF := Lib.hid (show ∃ i : TypeInfo, Tryz.prog.info? 51 = some i ∧ i.zero = some (.agg #[.int .i64 0, .slice none 0 0, .slice none 0 0, .string ⟨#[]⟩, .int .i64 0, .slice none 0 0, .int .i64 0, .int .i64 0, .int .i64 0, .int .i64 0, .int .i64 0, .int .i64 0, .int .i64 0, .bool false]) ∧ i.size = 14 ∧ i.bytes = 168 from ⟨i0, hi, hq0, hq1, hq2⟩)
    clear hi hq0 hq1 hq2
    go_loopw [4, 30] (fun pv iv wr => ∃ (j : Nat) (L : List Gn) (bv : Value), iv = .int .i64 (j : Int) ∧ j ≤ l.length ∧ L.length ≤ 100 ∧ Hid (L = (l.take j).filterMap lawN) ∧ Hid (PlR wr w.heap.size wr.heap.size d pv L) ∧ Hid (Bld wr w1.heap.size (w1.heap.size + 1) (fun b => Value.ownBlock pv = some b) bv ((L.map madeN).take 33) ((L.map madeN).length : Int)) ∧ Hid (Below w.heap.size w wr)) (fun _ iv _ => l.length - (intOf iv).toNat)
    case atStart => exact ⟨0, [], .slice none 0 0, rfl, Nat.zero_le _, by simp, Lib.hid rfl, Lib.hid (PlR.nil HB2.out.size (Nat.le_refl _)), Lib.hid (HBD.out.move (P := fun _ => False) (Tn.refl _ _) (fun g h => h.elim) (fun b h => by cases h)), HB2⟩
    case round =>
      obtain ⟨j, L, bv, rfl, hj, hL100, HL, HPL, HBL, HBR⟩ := hrel
      obtain ⟨PA, pc, rfl⟩ := HPL.out.form
      by_cases hlt : j < l.length
      · have hjl : (j : Int) < (l.length : Int) := by omega
        have hat := H.out.at hlt
        have htk : l.take (j + 1) = l.take j ++ [l[j]] := by rw [List.take_add_one, List.getElem?_eq_getElem hlt]; rfl
        have HLN := Lib.hid (law_next htk)
        have HSj := Lib.hid (HSN.out _ (List.getElem_mem hlt))
        have HRj := Lib.hid (HR.out _ (List.getElem_mem hlt))
        clear htk
        generalize l[j] = n at *
        obtain ⟨b, o, rfl, hbl, hS, IA, SA, A, ic, sc, c, hN, a0, a1, a2, a3, a4, a5, a6, a7, a8, a9, a10, a11, a12, a13⟩ := hat
        have a0 := (HBR.out.cell (p := ⟨b, o + j * 14, none⟩) hbl).trans a0
        have a1 := (HBR.out.cell (p := ⟨b, o + j * 14 + 1, none⟩) hbl).trans a1
        have a2 := (HBR.out.cell (p := ⟨b, o + j * 14 + 2, none⟩) hbl).trans a2
        have a3 := (HBR.out.cell (p := ⟨b, o + j * 14 + 3, none⟩) hbl).trans a3
        have a4 := (HBR.out.cell (p := ⟨b, o + j * 14 + 4, none⟩) hbl).trans a4
        have a5 := (HBR.out.cell (p := ⟨b, o + j * 14 + 5, none⟩) hbl).trans a5
        have a6 := (HBR.out.cell (p := ⟨b, o + j * 14 + 6, none⟩) hbl).trans a6
        have a7 := (HBR.out.cell (p := ⟨b, o + j * 14 + 7, none⟩) hbl).trans a7
        have a8 := (HBR.out.cell (p := ⟨b, o + j * 14 + 8, none⟩) hbl).trans a8
        have a9 := (HBR.out.cell (p := ⟨b, o + j * 14 + 9, none⟩) hbl).trans a9
        have a10 := (HBR.out.cell (p := ⟨b, o + j * 14 + 10, none⟩) hbl).trans a10
        have a11 := (HBR.out.cell (p := ⟨b, o + j * 14 + 11, none⟩) hbl).trans a11
        have a12 := (HBR.out.cell (p := ⟨b, o + j * 14 + 12, none⟩) hbl).trans a12
        have a13 := (HBR.out.cell (p := ⟨b, o + j * 14 + 13, none⟩) hbl).trans a13
        have hgi : IntsAt w S (.slice IA n.ins.length ic) n.ins ∧ IntsAt w S (.slice SA n.side.length sc) n.side ∧ TyAt w S d (.agg #[.int .i64 n.ty.kind, .slice A n.ty.args.length c]) n.ty := by
          obtain ⟨_, _, _, _, _, _, e, h1, h2, h3⟩ := hN
          unfold Gn.val at e
          injection e with e
          simp only [Array.mk.injEq, List.cons.injEq, Value.slice.injEq, and_true, true_and] at e
          obtain ⟨⟨rfl, rfl⟩, ⟨rfl, rfl⟩, rfl, rfl⟩ := e
          exact ⟨h1, h2, h3⟩
        have HGI := Lib.hid hgi
        clear hN hgi hS
        go_upto_region 10 with (fail)
        clear a0 a1 a2 a3 a4 a5 a6 a7 a8 a9 a10 a11 a12 a13
        have hnx := heap_alloc_new wr (.cells #[.int .i64 n.op, .slice IA n.ins.length ic, .slice SA n.side.length sc, .string ⟨n.text.toArray⟩, .int .i64 n.ty.kind, .slice A n.ty.args.length c, .int .i64 n.f0, .int .i64 n.f1, .int .i64 n.f2, .int .i64 n.f3, .int .i64 n.e, .int .i64 n.l, .int .i64 n.lt, .bool n.acc] 51)
        have HW1 : Hid (Below wr.heap.size wr (wr.alloc (.cells #[.int .i64 n.op, .slice IA n.ins.length ic, .slice SA n.side.length sc, .string ⟨n.text.toArray⟩, .int .i64 n.ty.kind, .slice A n.ty.args.length c, .int .i64 n.f0, .int .i64 n.f1, .int .i64 n.f2, .int .i64 n.f3, .int .i64 n.e, .int .i64 n.l, .int .i64 n.lt, .bool n.acc] 51))) := Lib.hid (bl_al (Below.refl _ _) _)
        have HW1S : Hid (wr.heap.size < (wr.alloc (.cells #[.int .i64 n.op, .slice IA n.ins.length ic, .slice SA n.side.length sc, .string ⟨n.text.toArray⟩, .int .i64 n.ty.kind, .slice A n.ty.args.length c, .int .i64 n.f0, .int .i64 n.f1, .int .i64 n.f2, .int .i64 n.f3, .int .i64 n.e, .int .i64 n.l, .int .i64 n.lt, .bool n.acc] 51)).heap.size) := Lib.hid (by rw [World.size_alloc]; omega)
        have HB1' : Hid (Below w.heap.size w (wr.alloc (.cells #[.int .i64 n.op, .slice IA n.ins.length ic, .slice SA n.side.length sc, .string ⟨n.text.toArray⟩, .int .i64 n.ty.kind, .slice A n.ty.args.length c, .int .i64 n.f0, .int .i64 n.f1, .int .i64 n.f2, .int .i64 n.f3, .int .i64 n.e, .int .i64 n.l, .int .i64 n.lt, .bool n.acc] 51))) := Lib.hid (HBR.out.trans ((bl_al (Below.refl _ _) _).mono HBR.out.size))
        obtain ⟨NB, hNB⟩ : ∃ NB, wr.heap.size = NB := ⟨_, rfl⟩
        have HNB := Lib.hid hNB
        generalize wr.alloc (.cells #[.int .i64 n.op, .slice IA n.ins.length ic, .slice SA n.side.length sc, .string ⟨n.text.toArray⟩, .int .i64 n.ty.kind, .slice A n.ty.args.length c, .int .i64 n.f0, .int .i64 n.f1, .int .i64 n.f2, .int .i64 n.f3, .int .i64 n.e, .int .i64 n.l, .int .i64 n.lt, .bool n.acc] 51) = W1 at *
        rw [hNB] at hnx
        (try rw [hNB])
        clear hNB
        have HNX := Lib.hid hnx
        have n0 := cellN (i := 0) (x := .int .i64 n.op) hnx rfl
        have n1 := cellN (i := 1) (x := .slice IA n.ins.length ic) hnx rfl
        have n2 := cellN (i := 2) (x := .slice SA n.side.length sc) hnx rfl
        have n3 := cellN (i := 3) (x := .string ⟨n.text.toArray⟩) hnx rfl
        have n4 := cellN (i := 4) (x := .int .i64 n.ty.kind) hnx rfl
        have n5 := cellN (i := 5) (x := .slice A n.ty.args.length c) hnx rfl
        have n6 := cellN (i := 6) (x := .int .i64 n.f0) hnx rfl
        have n7 := cellN (i := 7) (x := .int .i64 n.f1) hnx rfl
        have n8 := cellN (i := 8) (x := .int .i64 n.f2) hnx rfl
        have n9 := cellN (i := 9) (x := .int .i64 n.f3) hnx rfl
        have n10 := cellN (i := 10) (x := .int .i64 n.e) hnx rfl
        have n11 := cellN (i := 11) (x := .int .i64 n.l) hnx rfl
        have n12 := cellN (i := 12) (x := .int .i64 n.lt) hnx rfl
        have n13 := cellN (i := 13) (x := .bool n.acc) hnx rfl
        have nl := cell_lt hnx
        clear hnx
        have HTY : Hid (∀ W, Below W1.heap.size W1 W → Calls Tryz.prog 28 #[.agg #[.int .i64 n.ty.kind, .slice A n.ty.args.length c]] W fun e w' => (∃ A' c' cs, e = .returned (.agg #[.int .i64 n.ty.kind, .slice A' n.ty.args.length c']) ∧ TyAt w' (fun b => W.heap.size ≤ b) d (.agg #[.int .i64 n.ty.kind, .slice A' n.ty.args.length c']) n.ty ∧ w'.ownsRow (W.heap.size + 2) 64 2 (.slice A' n.ty.args.length c') n.ty.args.length cs) ∧ Below W.heap.size W w') := Lib.hid fun W hb => Lw5.typ_own_any d 30 (fun _ => True) _ n.ty W HSj.out.ty (ty_below HGI.out.2.2 (HB1'.out.trans (hb.mono HB1'.out.size)))
        have HI0 : Hid (∀ x, n.ins[0]? = some x → x = inOf n) := Lib.hid fun x hx => by unfold inOf; cases hq : n.ins with | nil => rw [hq] at hx; cases hx | cons y ys => rw [hq] at hx; cases hx; rfl
        go_upto_if 37 with (fail)
        go_cut [7] (fun s7 wx => s7 = .int .i64 (inOf n) ∧ W1 = wx)
        case first =>
          rcases Nat.eq_zero_or_pos n.ins.length with h0 | h0
          · have h0' : ¬ (0 < (n.ins.length : Int)) := by omega
            have hin : (0 : Int) = inOf n := by unfold inOf; rw [List.eq_nil_of_length_eq_zero h0]; rfl
            have HIN := Lib.hid hin
            clear h0 hin
            go_wp2_with (fail)
            go_meet
            exact ⟨congrArg (Value.int .i64) HIN.out, rfl⟩
          · have h0' : 0 < (n.ins.length : Int) := by omega
            obtain ⟨bi, oi, rfl, hci, hbi, _⟩ := HGI.out.1.cell h0
            have hci := (HB1'.out.cell (p := ⟨bi, oi + 0, none⟩) hbi).trans hci
            rw [Nat.add_zero, HI0.out _ (List.getElem?_eq_getElem h0)] at hci
            go_wp2_with (fail)
            go_meet
            exact ⟨rfl, rfl⟩
        case rest =>
          obtain ⟨rfl, rfl⟩ := hcut
          go_upto_region 14 with (first
            | (go_at_call 28; (with_reducible refine (HTY.out _ (Below.refl _ _)).mono ?_); rintro e w3 ⟨⟨A3, c3, cs3, rfl, hT3, ho3⟩, hb3⟩; have HT3 := Lib.hid hT3; have HO3 := Lib.hid ho3; have HB3 := Lib.hid hb3; clear hT3 ho3 hb3)
            | fail)
          clear n0 n1 n2 n3 n4 n5 n6 n7 n8 n9 n10 n11 n12 n13
          have htb := HB3.out.size
          have HB3W := HB3
          have HO3W := HO3
          obtain ⟨TB, hTB⟩ : ∃ TB, w3.heap.size = TB := ⟨_, rfl⟩
          have HTB := Lib.hid hTB
          have HW3 : Hid (Below w3.heap.size w3 (w3.alloc (.cells #[.int .i64 n.ty.kind, .slice A3 n.ty.args.length c3] 64))) := Lib.hid (bl_al (Below.refl _ _) _)
          have hx8 := heap_alloc_new w3 (.cells #[.int .i64 n.ty.kind, .slice A3 n.ty.args.length c3] 64)
          have HT3 := Lib.hid (ty_below HT3.out (bl_al (Below.refl _ _) (.cells #[.int .i64 n.ty.kind, .slice A3 n.ty.args.length c3] 64)))
          have HB3 := Lib.hid (bl_al HB3.out (.cells #[.int .i64 n.ty.kind, .slice A3 n.ty.args.length c3] 64))
          generalize w3.alloc (.cells #[.int .i64 n.ty.kind, .slice A3 n.ty.args.length c3] 64) = W3 at *
          rw [hTB] at hx8 htb
          (try rw [hTB])
          clear hTB
          have HX8 := Lib.hid hx8
          have h3l := cell_lt hx8
          clear hx8
          have HN3 := Lib.hid ((HB3.out.block NB nl).trans HNX.out)
          have n1 := cellN (i := 1) (x := .slice IA n.ins.length ic) HN3.out rfl
          have n2 := cellN (i := 2) (x := .slice SA n.side.length sc) HN3.out rfl
          have nl3 := cell_lt HN3.out
          have HSD : Hid (∀ W, Below W1.heap.size W1 W → IntsAt W (fun _ => True) (.slice SA n.side.length sc) n.side) := Lib.hid fun W hb => (HGI.out.2.1.below (HB1'.out.trans (hb.mono HB1'.out.size))).any
          have HIS : Hid (∀ W, Below W1.heap.size W1 W → IntsAt W (fun _ => True) (.slice IA n.ins.length ic) n.ins) := Lib.hid fun W hb => (HGI.out.1.below (HB1'.out.trans (hb.mono HB1'.out.size))).any
          have HZ : Hid (n.side.length ≤ 1000000 ∧ n.ins.length ≤ 1000000) := Lib.hid ⟨by have := HSj.out.side; omega, by have := HSj.out.ins; omega⟩
          go_upto_region 16 with (first
            | (at_builtin; refine wpList_copyO _ rfl _ _ rfl _ rfl (fun _ => True) (.slice SA n.side.length sc) rfl n.side (HSD.out _ (bl_al HB3.out _)) HZ.out.1 ?_; intro v4 w4 ho4 hb4; obtain ⟨VA, vc, rfl⟩ := ho4.form; have HO4 := Lib.hid ho4; have HBX4 := Lib.hid hb4; have HB4 := Lib.hid (bl_tr (bl_al HB3.out _) hb4); have hb34 := bl_tr (bl_al (Below.refl _ _) _) hb4; have n1 := cellN (i := 1) (x := .slice IA n.ins.length ic) ((hb34.block NB nl3).trans HN3.out) rfl; have nl4 := Nat.lt_of_lt_of_le nl3 hb34.size; have HB34 := Lib.hid hb34; clear ho4 hb4 hb34)
            | (at_builtin; refine wpList_copyO _ rfl _ _ rfl _ rfl (fun _ => True) (.slice IA n.ins.length ic) rfl n.ins (HIS.out _ (bl_al HB4.out _)) HZ.out.2 ?_; intro v5 w5 ho5 hb5; obtain ⟨UA, uc, rfl⟩ := ho5.form; have HO5 := Lib.hid ho5; have HBX5 := Lib.hid hb5; have HB5 := Lib.hid (bl_tr (bl_al HB4.out _) hb5); have HB45 := Lib.hid (bl_tr (bl_al (Below.refl _ _) _) hb5); clear ho5 hb5)
            | fail)
          clear n1 n2
          have HN5 := Lib.hid ((HB5.out.block NB nl).trans HNX.out)
          have n0 := cellN (i := 0) (x := .int .i64 n.op) HN5.out rfl
          have nl5 := cell_lt HN5.out
          have HX85 := Lib.hid ((HB45.out.block TB (Nat.lt_of_lt_of_le h3l HB34.out.size)).trans ((HB34.out.block TB h3l).trans HX8.out))
          have hz34 := HB34.out.size
          have hz45 := HB45.out.size
          go_upto_region 18 with (fail)
          have HXL := Lib.hid (alloc_old (o := (.cells #[.int .i64 n.op, .slice (some ⟨w5.heap.size, 0, none⟩) 1 1, .slice none 0 0, .string ⟨#[]⟩, .int .i64 0, .slice none 0 0, .int .i64 0, .int .i64 0, .int .i64 0, .int .i64 0, .int .i64 0, .int .i64 0, .int .i64 0, .bool false] 51)) (heap_alloc_new w5 (.cells #[.int .i64 (inOf n)] 3)))
          have HXM := Lib.hid (heap_alloc_new (w5.alloc (.cells #[.int .i64 (inOf n)] 3)) (.cells #[.int .i64 n.op, .slice (some ⟨w5.heap.size, 0, none⟩) 1 1, .slice none 0 0, .string ⟨#[]⟩, .int .i64 0, .slice none 0 0, .int .i64 0, .int .i64 0, .int .i64 0, .int .i64 0, .int .i64 0, .int .i64 0, .int .i64 0, .bool false] 51))
          have HB56 : Hid (Below w5.heap.size w5 ((w5.alloc (.cells #[.int .i64 (inOf n)] 3)).alloc (.cells #[.int .i64 n.op, .slice (some ⟨w5.heap.size, 0, none⟩) 1 1, .slice none 0 0, .string ⟨#[]⟩, .int .i64 0, .slice none 0 0, .int .i64 0, .int .i64 0, .int .i64 0, .int .i64 0, .int .i64 0, .int .i64 0, .int .i64 0, .bool false] 51))) := Lib.hid (bl_al (bl_al (Below.refl _ _) _) _)
          have HMB : Hid ((w5.alloc (.cells #[.int .i64 (inOf n)] 3)).heap.size = w5.heap.size + 1) := Lib.hid (World.size_alloc _ _)
          have hx86 := (HB56.out.block TB (cell_lt HX85.out)).trans HX85.out
          have hn6 := (HB56.out.block NB nl5).trans HN5.out
          clear n0
          generalize ((w5.alloc (.cells #[.int .i64 (inOf n)] 3)).alloc (.cells #[.int .i64 n.op, .slice (some ⟨w5.heap.size, 0, none⟩) 1 1, .slice none 0 0, .string ⟨#[]⟩, .int .i64 0, .slice none 0 0, .int .i64 0, .int .i64 0, .int .i64 0, .int .i64 0, .int .i64 0, .int .i64 0, .int .i64 0, .bool false] 51)) = W6 at *
          rw [HMB.out] at HXM
          have hxm := HXM.out
          have HX86 := Lib.hid hx86
          have HN6 := Lib.hid hn6
          have HB6 := Lib.hid (bl_tr HB5.out HB56.out)
          have HG6 := Lib.hid (HG.out.below (HB1'.out.trans (HB6.out.mono HB1'.out.size)))
          have t0 := cellN (i := 0) (x := .int .i64 n.ty.kind) hx86 rfl
          have t1 := cellN (i := 1) (x := .slice A3 n.ty.args.length c3) hx86 rfl
          have n0 := cellN (i := 0) (x := .int .i64 n.op) hn6 rfl
          have n4 := cellN (i := 4) (x := .int .i64 n.ty.kind) hn6 rfl
          have n5 := cellN (i := 5) (x := .slice A n.ty.args.length c) hn6 rfl
          have HT6 := Lib.hid (ty_below HT3.out (bl_tr HB34.out (bl_tr HB45.out HB56.out)))
          clear hx86 hn6
          have HMID : Hid (Mid w W6 NB TB w5.heap.size w1.heap.size (w1.heap.size + 1) d n IA SA A ic sc c (inOf n) (.slice PA L.length pc) bv (.slice VA n.side.length vc) (.slice UA n.ins.length uc) (.slice A3 n.ty.args.length c3) cs3 L L) := Lib.hid (mid_make HNB.out HTB.out HPL.out HBL.out HBR.out hbb0 HW1.out (by have := HW1S.out; have := HNB.out; omega) HB3W.out HW3.out h3l HB34.out (Below.refl _ _) HB45.out HB56.out HN6.out HX86.out HO3W.out ⟨_, by first | (rw [World.size_alloc]; omega) | omega, HO4.out⟩ ⟨_, by first | (rw [World.size_alloc]; omega) | omega, HO5.out⟩ HXL.out)
          have HBL6 := Lib.hid HMID.out.bld
          have HLL : Hid ((L.map madeN).length ≤ 1000) := Lib.hid (by rw [List.length_map]; omega)
          have HCC : Hid (∀ b, ((NB ≤ b ∧ b ≤ w5.heap.size + 1) ∨ (Value.slice PA L.length pc).ownBlock = some b) → b < W6.heap.size) := Lib.hid fun b hb => by
            have h1 := cell_lt HXM.out
            rcases hb with hb | hb
            · omega
            · have h2 := HMID.out.pl.2.2.1 b hb
              have h3 := HMID.out.pl.2.1
              omega
          have HVS6 := Lib.hid HMID.out.fs
          have HVI6 := Lib.hid HMID.out.fi
          have HTX := Lib.hid HSj.out.text
          rcases op_cases n with ⟨hln, e1, e2, e3, e4, e5, e6⟩ | hops
          · have HLZ : Hid (L = (l.take (j + 1)).filterMap lawN) := Lib.hid (by rw [HLN.out, hln]; simp only [Option.toList, List.append_nil]; exact HL.out)
            clear hln
            go_wp2_with (fail)
            go_roundw
            case rel => exact ⟨j + 1, L, bv, by go_num, by omega, hL100, HLZ, Lib.hid (HMID.out.pl.up HMID.out.pl.2.1 (Nat.le_refl _)), Lib.hid (HMID.out.bld.move (P := fun _ => False) (Tn.refl _ _) (fun g h => h.elim) (fun b hb => .inl (.inr hb))), Lib.hid HMID.out.below⟩
            case measure => simp [intOf]; omega
          · clear t0 t1 n4 n5
            go_upto_block 2 with (fail)
            go_cut [11] (fun s11 wx => s11 = .int .i64 (L.length : Int) ∧ Hid (Sw w NB TB w5.heap.size w1.heap.size (w1.heap.size + 1) d n IA SA A ic sc c (inOf n) (.slice PA L.length pc) (.slice VA n.side.length vc) (.slice UA n.ins.length uc) (.slice A3 n.ty.args.length c3) cs3 L wx))
            case first =>
              rcases hops with ho | ho | ho | ho | ho | ho
              · refine way1_any HMID.out HXM.out HLL.out HCC.out HT6.out HG6.out HSj.out HGI.out ho ?_
                intros
                rename_i hswx
                (try dsimp only)
                go_wp2_with (fail)
                go_meet
                exact ⟨rfl, Lib.hid hswx⟩
              · refine way2_any HMID.out HXM.out HLL.out HCC.out HT6.out HG6.out HSj.out HGI.out ho ?_
                intros
                rename_i hswx
                (try dsimp only)
                go_wp2_with (fail)
                go_meet
                exact ⟨rfl, Lib.hid hswx⟩
              · refine way3_any HMID.out HXM.out HLL.out HCC.out HT6.out HG6.out HSj.out HGI.out ho ?_
                intros
                rename_i hswx
                (try dsimp only)
                go_wp2_with (fail)
                go_meet
                exact ⟨rfl, Lib.hid hswx⟩
              · refine way4_any HMID.out HXM.out HLL.out HCC.out HT6.out HG6.out HSj.out HGI.out ho ?_
                intros
                rename_i hswx
                (try dsimp only)
                go_wp2_with (fail)
                go_meet
                exact ⟨rfl, Lib.hid hswx⟩
              · refine way5_any HMID.out HXM.out HLL.out HCC.out HT6.out HG6.out HSj.out HGI.out ho ?_
                intros
                rename_i hswx
                (try dsimp only)
                go_wp2_with (fail)
                go_meet
                exact ⟨rfl, Lib.hid hswx⟩
              · refine way6_any HMID.out HXM.out HLL.out HCC.out HT6.out HG6.out HSj.out HGI.out ho ?_
                intros
                rename_i hswx
                (try dsimp only)
                go_wp2_with (fail)
                go_meet
                exact ⟨rfl, Lib.hid hswx⟩
            case rest =>
              obtain ⟨rfl, HSW⟩ := hcut
              rename World => w8
              obtain ⟨m, I1, S1, A1, k1, k2, k3, bv8, hlaw, hmid8, hbox8, hgn8⟩ := HSW.out
              have HLN2 : Hid (L ++ [m] = (l.take (j + 1)).filterMap lawN) := Lib.hid (by rw [HLN.out, hlaw, ← HL.out]; rfl)
              have HL100 : Hid ((L ++ [m]).length ≤ 100) := Lib.hid (by rw [HLN2.out]; refine Nat.le_trans (List.length_filterMap_le _ _) ?_; rw [List.length_take]; omega)
              have HAFT := Lib.hid (hmid8.aft hgn8 hbox8)
              have HVS := Lib.hid hmid8.fs
              have HVI := Lib.hid hmid8.fi
              have HTA := Lib.hid hmid8.ta
              have HTBX := Lib.hid hmid8.tb
              have HVZ := Lib.hid hmid8.vz
              have HVY := Lib.hid hmid8.vy
              have HVN := Lib.hid hmid8.vn
              have HTZ := Lib.hid hmid8.tz
              have HNT := Lib.hid hmid8.nt
              have HTL := Lib.hid hmid8.tl
              have HSL1 : n.side.length ≤ 1000000 := by have := HSj.out.side; omega
              have HSL2 : n.ins.length ≤ 1000000 := by have := HSj.out.ins; omega
              have HSL3 : n.ty.args.length ≤ 1000000 := by obtain ⟨h9, _⟩ := HSj.out.ty; omega
              clear hlaw hmid8 hbox8 hgn8 hops
              go_wp2_with (fail)
              go_loopw [122] (fun iv wr => ∃ (q : Nat), iv = .int .i64 (q : Int) ∧ q ≤ n.side.length ∧ Hid (∃ l' : List Int, l'.length = n.side.length ∧ IntsO wr (TB + 1) (.slice VA n.side.length vc) l') ∧ Hid (Tn (fun g => 0 < n.side.length ∧ (Value.slice VA n.side.length vc).ownBlock = some g) w8 wr)) (fun iv _ => n.side.length - (intOf iv).toNat)
              case atStart => exact ⟨0, rfl, Nat.zero_le _, Lib.hid ⟨_, rfl, HVS.out⟩, Lib.hid (Tn.refl _ _)⟩
              case round =>
                obtain ⟨q, rfl, hq, HIO, HTN⟩ := hrel
                rename World => w9
                by_cases hql : q < n.side.length
                · have hqi : (q : Int) < (n.side.length : Int) := by omega
                  obtain ⟨l', hl', hio⟩ := HIO.out
                  obtain ⟨g, rfl, hg1, hg2, hc, hf, hs⟩ := hio.at (j := q) (by omega)
                  have HHS := Lib.hid hs
                  have HHL := Lib.hid hl'
                  generalize l'[q]'(by omega) = y at hc
                  clear hs hio hl'
                  go_wp2_with (fail)
                  go_roundw
                  case rel => exact ⟨q + 1, by go_num, by omega, Lib.hid ⟨l'.set q (-1), by rw [List.length_set]; exact HHL.out, (HHS.out (-1)).1⟩, Lib.hid (HTN.out.set ⟨by omega, rfl⟩)⟩
                  case measure => simp [intOf]; omega
                · obtain rfl : q = n.side.length := by omega
                  have hqi : ¬ ((n.side.length : Int) < (n.side.length : Int)) := by omega
                  have HVI9 : Hid (IntsO w9 (TB + 1) (.slice UA n.ins.length uc) n.ins) := Lib.hid (HVI.out.keepP fun g h0 hg => HTN.out.block g (HVI.out.kind h0 hg).2.1 fun hp => HVN.out g hp.1 h0 hp.2 hg)
                  have HTA9 : Hid (w9.ownsRow (NB + 1) 64 2 (.slice A3 n.ty.args.length c3) n.ty.args.length cs3) := Lib.hid (own_keep HTA.out fun g hg => HTN.out.block g (HTA.out.lt g hg).2 fun hp => by have h1 := (HVS.out.kind hp.1 hp.2).1; have h2 := HTZ.out g hg; omega)
                  have HTB9 := Lib.hid ((HTN.out.block TB (cell_lt HTBX.out) fun hp => by have h1 := (HVS.out.kind hp.1 hp.2).1; omega).trans HTBX.out)
                  have HAFT9 := Lib.hid (HAFT.out.turn HTN.out fun g hp => by
                    obtain ⟨h1, _, cc, h2⟩ := HVS.out.kind hp.1 hp.2
                    have h3 := HVZ.out g hp.1 hp.2
                    have h4 := HNT.out
                    exact ⟨by omega, h3, cc, _, _, h2, by decide, by decide⟩)
                  clear HIO HTN
                  go_wp2_with (fail)
                  go_loopw [131] (fun iv wr => ∃ (q : Nat), iv = .int .i64 (q : Int) ∧ q ≤ n.ins.length ∧ Hid (∃ l' : List Int, l'.length = n.ins.length ∧ IntsO wr (TB + 1) (.slice UA n.ins.length uc) l') ∧ Hid (Tn (fun g => 0 < n.ins.length ∧ (Value.slice UA n.ins.length uc).ownBlock = some g) w9 wr)) (fun iv _ => n.ins.length - (intOf iv).toNat)
                  case atStart => exact ⟨0, rfl, Nat.zero_le _, Lib.hid ⟨_, rfl, HVI9.out⟩, Lib.hid (Tn.refl _ _)⟩
                  case round =>
                    obtain ⟨q, rfl, hq, HIO, HTN⟩ := hrel
                    rename World => w10
                    by_cases hql : q < n.ins.length
                    · have hqi : (q : Int) < (n.ins.length : Int) := by omega
                      obtain ⟨l', hl', hio⟩ := HIO.out
                      obtain ⟨g, rfl, hg1, hg2, hc, hf, hs⟩ := hio.at (j := q) (by omega)
                      have HHS := Lib.hid hs
                      have HHL := Lib.hid hl'
                      generalize l'[q]'(by omega) = y at hc
                      clear hs hio hl'
                      go_wp2_with (fail)
                      go_roundw
                      case rel => exact ⟨q + 1, by go_num, by omega, Lib.hid ⟨l'.set q (-1), by rw [List.length_set]; exact HHL.out, (HHS.out (-1)).1⟩, Lib.hid (HTN.out.set ⟨by omega, rfl⟩)⟩
                      case measure => simp [intOf]; omega
                    · obtain rfl : q = n.ins.length := by omega
                      have hqi : ¬ ((n.ins.length : Int) < (n.ins.length : Int)) := by omega
                      have HTAX : Hid (w10.ownsRow (NB + 1) 64 2 (.slice A3 n.ty.args.length c3) n.ty.args.length cs3) := Lib.hid (own_keep HTA9.out fun g hg => HTN.out.block g (HTA9.out.lt g hg).2 fun hp => by have h1 := (HVI9.out.kind hp.1 hp.2).1; have h2 := HTZ.out g hg; omega)
                      have HTBX2 := Lib.hid ((HTN.out.block TB (cell_lt HTB9.out) fun hp => by have h1 := (HVI9.out.kind hp.1 hp.2).1; omega).trans HTB9.out)
                      have HAFTX := Lib.hid (HAFT9.out.turn HTN.out fun g hp => by
                        obtain ⟨h1, _, cc, h2⟩ := HVI9.out.kind hp.1 hp.2
                        have h3 := HVY.out g hp.1 hp.2
                        have h4 := HNT.out
                        exact ⟨by omega, h3, cc, _, _, h2, by decide, by decide⟩)
                      clear HIO HTN
                      go_upto_region 46 with (fail)
                      go_cut [139] (fun s wx => ∃ b : Bool, s = .bool b ∧ Hid (Below w10.heap.size w10 wx))
                      case first =>
                        go_region_law (fail)
                        all_goals (
                          go_wp2_with (fail)
                          go_meet
                          refine ⟨_, rfl, Lib.hid ?_⟩
                          repeat' (first | with_reducible exact Below.refl _ _ | with_reducible refine bl_al ?_ _ | with_reducible refine bl_dr ?_ | (refine bl_set ?_ (by omega))))
                      case rest =>
                        obtain ⟨b, rfl, HBW⟩ := hcut
                        rename World => w11
                        have HTA11 : Hid (w11.ownsRow (NB + 1) 64 2 (.slice A3 n.ty.args.length c3) n.ty.args.length cs3) := Lib.hid (own_keep HTAX.out fun g hg => HBW.out.block g (HTAX.out.lt g hg).2)
                        have HTB11 := Lib.hid (bl_blk HBW.out HTBX2.out)
                        have HAFT11 := Lib.hid (HAFTX.out.turn (P := fun _ => False) (Tn.of_below HBW.out) fun g hp => hp.elim)
                        have HTP : Hid (∀ g, (Value.slice A3 n.ty.args.length c3).ownBlock = some g → NB < g ∧ g < w5.heap.size ∧ ∃ c t fr, w11.heap[g]? = some (.cells c t fr) ∧ t ≠ 83 ∧ t ≠ 109) := Lib.hid fun g hg => by
                          obtain ⟨cc, h1⟩ := own_kind HTA11.out hg
                          have h2 := (HTA11.out.lt g hg).1
                          have h3 := HTZ.out g hg
                          have h4 := HTL.out
                          exact ⟨by omega, by omega, cc, _, _, h1, by decide, by decide⟩
                        go_upto_if 139 with (fail)
                        go_cut [] (fun wx => Hid (Aft w wx NB w5.heap.size w1.heap.size (w1.heap.size + 1) d (inOf n) (.slice PA L.length pc) bv8 (m.val I1 S1 A1 k1 k2 k3) L (L ++ [m]) m))
                        case first =>
                          have t1 := cellN (i := 1) (x := .slice A3 n.ty.args.length c3) HTB11.out rfl
                          have tl := cell_lt HTB11.out
                          cases b with
                          | true =>
                            by_cases hz : n.ty.args.length = 0
                            · have hzi : ((n.ty.args.length : Int) != 0) = false := by simp [hz]
                              clear hz
                              go_wp2_with (fail)
                              go_meet
                              exact HAFT11
                            · have hzi : ((n.ty.args.length : Int) != 0) = true := by
                                rw [bne_iff_ne]; omega
                              clear hz
                              go_wp2_with (fail)
                              go_loopw [144] (fun iv wr => ∃ (q : Nat) (cs' : List Value), iv = .int .i64 (q : Int) ∧ q ≤ n.ty.args.length ∧ Hid (wr.ownsRow (NB + 1) 64 2 (.slice A3 n.ty.args.length c3) n.ty.args.length cs') ∧ Hid (Tn (fun g => (Value.slice A3 n.ty.args.length c3).ownBlock = some g) w11 wr)) (fun iv _ => n.ty.args.length - (intOf iv).toNat)
                              case atStart => exact ⟨0, _, rfl, Nat.zero_le _, HTA11, Lib.hid (Tn.refl _ _)⟩
                              case round =>
                                obtain ⟨q, cs', rfl, hq, HOW, HTN⟩ := hrel
                                rename World => wq
                                by_cases hql : q < n.ty.args.length
                                · have hqi : (q : Int) < (n.ty.args.length : Int) := by omega
                                  obtain ⟨g, rfl, hg1, hg2, ⟨u0, hc0⟩, ⟨u1, hc1⟩, hf0, hf1, hs⟩ := tyrow_at HOW.out hql
                                  have HHS := Lib.hid hs
                                  clear hs
                                  go_wp2_with (fail)
                                  go_roundw
                                  case rel =>
                                    obtain ⟨cs2, h2⟩ := HHS.out (.int .i64 0) (.slice none 0 0)
                                    exact ⟨q + 1, cs2, by go_num, by omega, Lib.hid h2, Lib.hid ((HTN.out.set rfl).set rfl)⟩
                                  case measure => simp [intOf]; omega
                                · obtain rfl : q = n.ty.args.length := by omega
                                  have hqi : ¬ ((n.ty.args.length : Int) < (n.ty.args.length : Int)) := by omega
                                  go_wp2_with (fail)
                                  go_meet
                                  exact Lib.hid (HAFT11.out.turn HTN.out HTP.out)
                          | false =>
                            go_wp2_with (fail)
                            go_loopw [152] (fun iv wr => ∃ (q : Nat) (cs' : List Value), iv = .int .i64 (q : Int) ∧ q ≤ n.ty.args.length ∧ Hid (wr.ownsRow (NB + 1) 64 2 (.slice A3 n.ty.args.length c3) n.ty.args.length cs') ∧ Hid (Tn (fun g => (Value.slice A3 n.ty.args.length c3).ownBlock = some g) w11 wr)) (fun iv _ => n.ty.args.length - (intOf iv).toNat)
                            case atStart => exact ⟨0, _, rfl, Nat.zero_le _, HTA11, Lib.hid (Tn.refl _ _)⟩
                            case round =>
                              obtain ⟨q, cs', rfl, hq, HOW, HTN⟩ := hrel
                              rename World => wq
                              by_cases hql : q < n.ty.args.length
                              · have hqi : (q : Int) < (n.ty.args.length : Int) := by omega
                                obtain ⟨g, rfl, hg1, hg2, ⟨u0, hc0⟩, ⟨u1, hc1⟩, hf0, hf1, hs⟩ := tyrow_at HOW.out hql
                                have HHS := Lib.hid hs
                                clear hs
                                have hne : g ≠ TB := fun e => by have := HTZ.out g rfl; omega
                                have hbq := (HTN.out.block TB (cell_lt HTB11.out) (fun hp => by have := HTZ.out TB hp; omega)).trans HTB11.out
                                have t1 := cellN (i := 1) (x := .slice (some ⟨g, 0, none⟩) n.ty.args.length c3) hbq rfl
                                have tl := cell_lt hbq
                                clear hbq
                                go_wp2_with (fail)
                                go_roundw
                                case rel =>
                                  obtain ⟨cs2, h2⟩ := HHS.out (.int .i64 0) (.slice none 0 0)
                                  exact ⟨q + 1, cs2, by go_num, by omega, Lib.hid h2, Lib.hid ((HTN.out.set rfl).set rfl)⟩
                                case measure => simp [intOf]; omega
                              · obtain rfl : q = n.ty.args.length := by omega
                                have hqi : ¬ ((n.ty.args.length : Int) < (n.ty.args.length : Int)) := by omega
                                go_wp2_with (fail)
                                go_meet
                                exact Lib.hid (HAFT11.out.turn HTN.out HTP.out)
                        case rest =>
                          rename World => w12
                          have HAFT12 := hcut
                          have hbx := HAFT12.out.box
                          have b0 := cellN (i := 0) (x := .int .i64 m.op) hbx rfl
                          have b1 := cellN (i := 1) (x := .slice I1 m.ins.length k1) hbx rfl
                          have b2 := cellN (i := 2) (x := .slice S1 m.side.length k2) hbx rfl
                          have b3 := cellN (i := 3) (x := .string ⟨m.text.toArray⟩) hbx rfl
                          have b4 := cellN (i := 4) (x := .int .i64 m.ty.kind) hbx rfl
                          have b5 := cellN (i := 5) (x := .slice A1 m.ty.args.length k3) hbx rfl
                          have b6 := cellN (i := 6) (x := .int .i64 m.f0) hbx rfl
                          have b7 := cellN (i := 7) (x := .int .i64 m.f1) hbx rfl
                          have b8 := cellN (i := 8) (x := .int .i64 m.f2) hbx rfl
                          have b9 := cellN (i := 9) (x := .int .i64 m.f3) hbx rfl
                          have b10 := cellN (i := 10) (x := .int .i64 m.e) hbx rfl
                          have b11 := cellN (i := 11) (x := .int .i64 m.l) hbx rfl
                          have b12 := cellN (i := 12) (x := .int .i64 m.lt) hbx rfl
                          have b13 := cellN (i := 13) (x := .bool m.acc) hbx rfl
                          have bl := cell_lt hbx
                          clear hbx
                          obtain ⟨i0, hi, hq0, hq1, hq2⟩ := HIF.out
                          have HZS : Hid (w.heap.size ≤ w12.heap.size) := Lib.hid HAFT12.out.below.size
                          have HOX : Hid (∃ xs, w12.ownsRow w.heap.size 51 14 (.slice PA L.length pc) L.length xs) := Lib.hid (by obtain ⟨_, _, _, xs, ho, _⟩ := HAFT12.out.pl; exact ⟨xs, ho⟩)
                          obtain ⟨xs, hox⟩ := HOX.out
                          have HOS := Lib.hid hox
                          clear hox
                          have HZQ := HZS.out
                          go_wp2_with (at_builtin; refine wpList_append_own_at _ rfl _ _ 22 rfl w.heap.size 51 i0 (.agg #[.int .i64 0, .slice none 0 0, .slice none 0 0, .string ⟨#[]⟩, .int .i64 0, .slice none 0 0, .int .i64 0, .int .i64 0, .int .i64 0, .int .i64 0, .int .i64 0, .int .i64 0, .int .i64 0, .bool false]) 14 168 Tryz.underlying22 hi hq0 hq1 hq2 rfl (by decide) (.slice PA L.length pc) L.length xs rfl (HOS.out.alloc _) ⟨w12.heap.size, 0, none⟩ 1 1 [.int .i64 m.op, .slice I1 m.ins.length k1, .slice S1 m.side.length k2, .string ⟨m.text.toArray⟩, .int .i64 m.ty.kind, .slice A1 m.ty.args.length k3, .int .i64 m.f0, .int .i64 m.f1, .int .i64 m.f2, .int .i64 m.f3, .int .i64 m.e, .int .i64 m.l, .int .i64 m.lt, .bool m.acc] rfl rfl (World.news_of_block (cs := #[.int .i64 m.op, .slice I1 m.ins.length k1, .slice S1 m.side.length k2, .string ⟨m.text.toArray⟩, .int .i64 m.ty.kind, .slice A1 m.ty.args.length k3, .int .i64 m.f0, .int .i64 m.f1, .int .i64 m.f2, .int .i64 m.f3, .int .i64 m.e, .int .i64 m.l, .int .i64 m.lt, .bool m.acc]) (t := 51) (fr := (0, 0)) (heap_alloc_new w12 _)) (by simp [Value.oneCell']) (by unfold maxLen; omega) (by omega) (by rw [World.size_alloc]; omega) ?_; intro v7 w14 hown7 hg7 _ hat7; have HO7 := Lib.hid hown7; have HG7 := Lib.hid hg7; have HT7 := Lib.hid hat7; clear hown7 hg7 hat7)
                          go_roundw
                          case rel =>
                            obtain ⟨hr1, hr2, hr3⟩ := aft_next HAFT12.out (bl_al (Below.refl _ _) _) (HOS.out.alloc _) HO7.out HG7.out HT7.out
                            exact ⟨j + 1, L ++ [m], bv8, by go_num, by omega, HL100.out, HLN2, Lib.hid hr1, Lib.hid hr2, Lib.hid hr3⟩
                          case measure => simp [intOf]; omega
      · obtain rfl : j = l.length := by omega
        have hjl : ¬ ((l.length : Int) < (l.length : Int)) := by omega
        have hLl : L = l.filterMap lawN := by have := HL.out; rwa [List.take_length] at this
        have hlaw : ∀ m ∈ L, LawOk m := by rw [hLl]; exact law_all l
        have hsmall : ∀ m ∈ L, SmN m := by rw [hLl]; exact law_small HSN.out
        have hfew : FewG L := fun n hn => by have := hsmall n hn; have h1 := this.ins; have h2 := this.side; omega
        have HSMA := Lib.hid hsmall
        have HFEW := Lib.hid hfew
        have HDN : Hid (Calls Tryz.prog 35 #[.pointer (some ⟨w1.heap.size, 0, none⟩)] wr fun e w' => (∃ v, e = .returned (.tuple #[.agg #[v], .int .i64 ((chkAll L).1 : Int), .int .i64 (chkAll L).2]) ∧ GsAt w' (fun b => wr.heap.size ≤ b) 6 v (if (chkAll L).2 = 0 then L else [])) ∧ Below wr.heap.size wr w') := Lib.hid ((done_any wr _ _ _ bv _ _ HBL.out (by rw [List.length_take]; omega) (fun n hn => by
          obtain ⟨m, hm, rfl⟩ := List.mem_map.1 (List.mem_of_mem_take hn)
          have hs := hsmall m hm
          have h1 := hs.ins
          have h2 := hs.side
          have h3 := hs.text
          exact ⟨by show m.ins.length ≤ _; omega, by show m.side.length ≤ _; omega, by show m.text.length ≤ _; omega⟩) (HG.out.below HBR.out)).mono (by
            rintro e w' ⟨⟨v, rfl, hg⟩, hb⟩
            rw [chk_kept hlaw] at hg
            rw [chk_kept hlaw]
            refine ⟨⟨v, rfl, ?_⟩, hb⟩
            by_cases hz : (chkAll L).2 = 0
            · rw [if_pos hz] at hg ⊢
              rw [done_list hlaw hz] at hg
              exact hg
            · rw [if_neg hz] at hg ⊢
              exact hg))
        have HRC : Hid (∀ W, Below wr.heap.size wr W → Calls Tryz.prog 14 #[.slice PA L.length pc] W fun e w' => e = .returned (.tuple #[.int .i64 ((chkAll L).1 : Int), .int .i64 (chkAll L).2]) ∧ Below W.heap.size W w') := Lib.hid fun W hb => rcheck_any W (fun _ => True) d _ L (HPL.out.gs.below hb) hsmall (by omega)
        have HPG := Lib.hid HPL.out.gs
        clear hLl hlaw hsmall hfew HL HPL HBL
        by_cases hz : (chkAll L).2 = 0
        · obtain ⟨_, hck2⟩ := okG hz
          have HDN := HDN.out
          have HRC := HRC.out
          rw [if_pos hz] at HDN
          rw [hck2] at HDN HRC
          have HDN := Lib.hid HDN
          have HRC := Lib.hid HRC
          have HND : Hid (∀ W S d v, GsAt W S d v L → Calls Tryz.prog 19 #[.agg #[v]] W fun e w' => (∃ v', e = .returned v' ∧ GsAt w' (fun _ => True) d v' L) ∧ Below W.heap.size W w') := Lib.hid fun W S d v hg => nodes_any W S d v L hg hL100 (fun n hn => (HSMA.out n hn).ty)
          have HSA : Hid (∀ W S' d' v, GsAt W S' d' v L → Below wr.heap.size wr W → Calls Tryz.prog 18 #[v, .slice PA L.length pc] W fun e w' => e = .returned (.bool true) ∧ Below W.heap.size W w') := Lib.hid fun W S' d' v hg hb => rsame_any W S' (fun _ => True) d' d v _ L hg (HPG.out.below hb) (by omega) (fun n hn => ⟨(HSMA.out n hn).ty, HFEW.out n hn⟩)
          clear hz hck2
          go_wp2_with (first
            | (go_at_call 35; (with_reducible refine HDN.out.mono ?_); rintro e w2 ⟨⟨v2, rfl, hg2⟩, hb2⟩; obtain ⟨DA, dc, rfl⟩ := hg2.form; have HG2 := Lib.hid hg2; have HBD := Lib.hid hb2; clear hg2 hb2)
            | (go_at_call 14; (with_reducible refine (HRC.out _ (bl_al HBD.out _)).mono ?_); rintro e w3 ⟨rfl, hb3⟩; have hx3 := bl_blk hb3 (heap_alloc_new w2 _); have px := cellN (i := 0) (x := .slice DA L.length dc) hx3 rfl; have pl := cell_lt hx3; have HG3 := Lib.hid (HG2.out.below (bl_tr (bl_al (Below.refl _ _) _) hb3)); have HB3 := Lib.hid (bl_tr (bl_al HBD.out _) hb3); clear hb3 hx3)
            | (go_at_call 19; (with_reducible refine (HND.out _ _ _ _ HG3.out).mono ?_); rintro e w4 ⟨⟨v4, rfl, hg4⟩, hb4⟩; have HG4 := Lib.hid hg4; have HB4 := Lib.hid (bl_tr HB3.out hb4); clear hg4 hb4)
            | (go_at_call 18; (with_reducible refine (HSA.out _ _ _ _ HG4.out HB4.out).mono ?_); rintro e w5 ⟨rfl, hb5⟩; have HB5 := Lib.hid (HBR.out.trans ((bl_tr HB4.out hb5).mono HBR.out.size)); clear hb5)
            | (go_at_call 11; (with_reducible refine (HAW.out _ HB5.out).mono ?_); rintro e w6 ⟨rfl, hb6⟩; have HB6 := Lib.hid (HB5.out.trans (hb6.mono HB5.out.size)); clear hb6)
            | fail)
          go_ret
          exact ⟨rfl, HB6.out⟩
        · have e2 : ((chkAll L).2 != 0) = true := by rw [bne_iff_ne]; exact hz
          have HDN := HDN.out
          rw [if_neg hz] at HDN
          have HDN := Lib.hid HDN
          clear hz
          generalize (chkAll L).2 = cq at *
          generalize (chkAll L).1 = cp at *
          go_wp2_with (first
            | (go_at_call 35; (with_reducible refine HDN.out.mono ?_); rintro e w2 ⟨⟨v2, rfl, hg2⟩, hb2⟩; obtain ⟨DA, dc, rfl⟩ := hg2.form; have HBD := Lib.hid hb2; clear hg2 hb2)
            | (go_at_call 14; (with_reducible refine (HRC.out _ (bl_al HBD.out _)).mono ?_); rintro e w3 ⟨rfl, hb3⟩; have hx3 := bl_blk hb3 (heap_alloc_new w2 _); have px := cellN (i := 0) (x := .slice DA ([] : List Gn).length dc) hx3 rfl; have pl := cell_lt hx3; have HB3 := Lib.hid (HBR.out.trans ((bl_tr (bl_al HBD.out _) hb3).mono HBR.out.size)); clear hb3 hx3)
            | (go_at_call 11; (with_reducible refine (HAW.out _ HB3.out).mono ?_); rintro e w6 ⟨rfl, hb6⟩; have HB6 := Lib.hid (HB3.out.trans (hb6.mono HB3.out.size)); clear hb6)
            | fail)
          go_ret
          exact ⟨rfl, HB6.out⟩
end Go.Proofs.YtllnamhgnbdkmaaGreatDoor
