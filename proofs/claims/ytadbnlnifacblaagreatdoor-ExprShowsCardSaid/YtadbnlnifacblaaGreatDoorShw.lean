/-
ExprShows: the walk of the law.
-/
import Derived.Test.YtadbnlnifacblaaGreatDoorShr
import Derived.Test.YtadbnlnifacblaaGreatDoorQf
import Derived.Deep.RegionHeld3
namespace Go.Proofs.YtadbnlnifacblaaGreatDoor
open Go.RowKit Go.Sort
set_option maxRecDepth 100000 in
set_option maxHeartbeats 8000000 in
theorem shows_walk (dn din : Nat) (vn : Value) (n : Nd) (w : World) (hN : NdAt w (fun k => k < w.heap.size) dn vn n) (hIN : IntN din n) (hG : Gl w) :
    Calls Tryz.prog 4 #[vn] w fun e w' => e = .returned (.bool true) ∧ Below w.heap.size w w' := by
  have hGl := hG.lt2
  have HG := Lib.hid hG
  have HIN := Lib.hid hIN
  have HAWK := Lib.hid (fun (W : World) (h : Below w.heap.size w W) => awake_any W (hG.below h hGl))
  obtain ⟨A, c, K, kc, rfl⟩ := hN.form
  have HNB := Lib.hid (fun (W : World) (h : Below w.heap.size w W) => NdAt.move (S' := fun k => k < w.heap.size) (fun b hb _ => ⟨hb, fun _ => World.cell?_of_block (h.block b hb)⟩) dn _ n hN)
  clear hN hIN hG
  have hb1 := (Below.refl w.heap.size w).alloc (Nat.le_refl _) (.cells #[.string ⟨n.op.toArray⟩, .int .i64 n.int, .string ⟨n.text.toArray⟩, .int .i64 n.ty.kind, .slice A n.ty.args.length c, .slice K n.kids.length kc] 27)
  have hs1 : (w.alloc (.cells #[.string ⟨n.op.toArray⟩, .int .i64 n.int, .string ⟨n.text.toArray⟩, .int .i64 n.ty.kind, .slice A n.ty.args.length c, .slice K n.kids.length kc] 27)).heap.size = w.heap.size + 1 := by simp
  have HCN := Lib.hid (heap_alloc_new w (.cells #[.string ⟨n.op.toArray⟩, .int .i64 n.int, .string ⟨n.text.toArray⟩, .int .i64 n.ty.kind, .slice A n.ty.args.length c, .slice K n.kids.length kc] 27))
  have HB0 := Lib.hid hb1
  clear hb1
  go_enter Tryz.func4, Tryz.ntmps4
  go_wp2_with (fail)
  generalize w.alloc (.cells #[.string ⟨n.op.toArray⟩, .int .i64 n.int, .string ⟨n.text.toArray⟩, .int .i64 n.ty.kind, .slice A n.ty.args.length c, .slice K n.kids.length kc] 27) = w0 at *
  refine (small_any dn _ n w0 (NdAt.wider (HNB.out _ HB0.out) (fun b hb => by omega))).mono ?_
  rintro e' w1 ⟨⟨b, rfl, hfn⟩, hb1⟩
  have HB1 := Lib.hid (HB0.out.trans (hb1.mono (by omega)))
  have HCN1 := Lib.hid (below_at hb1 HCN.out)
  have hs2 := hb1.size
  clear hb1 HCN HB0
  cases b with
  | false =>
    go_wp2_with (fail)
    refine (HAWK.out _ HB1.out).mono ?_
    rintro e' wz ⟨rfl, hbz⟩
    go_wp2_with (fail)
    go_ret
    exact ⟨rfl, HB1.out.trans (hbz.mono (by omega))⟩
  | true =>
  have HFN := Lib.hid (hfn rfl)
  clear hfn
  have HRN : Hid (RgN 24 n) := few_rg 24 din 60 n HIN.out HFN.out
  have x0 := cell6_0 HCN1.out
  have x1 := cell6_1 HCN1.out
  have x2 := cell6_2 HCN1.out
  have x3 := cell6_3 HCN1.out
  have x4 := cell6_4 HCN1.out
  have x5 := cell6_5 HCN1.out
  have xl := cell_lt HCN1.out
  go_wp2_with (fail)
  refine (of_any dn 60 _ _ n w1 (few_nar 60 n HFN.out) (HNB.out _ HB1.out)).mono ?_
  rintro e' w2 ⟨⟨v2, rfl, hv2⟩, hb2⟩
  obtain ⟨A2, c2, K2, k2, rfl⟩ := hv2.form
  have hba := (Below.refl w2.heap.size w2).alloc (Nat.le_refl _) (.cells #[.string ⟨n.op.toArray⟩, .int .i64 n.int, .string ⟨n.text.toArray⟩, .int .i64 n.ty.kind, .slice A2 n.ty.args.length c2, .slice K2 n.kids.length k2] 37)
  have HB2 := Lib.hid (HB1.out.trans ((hb2.trans (hba.mono hb2.size)).mono (by omega)))
  have HCN2 := Lib.hid (below_at (hb2.trans (hba.mono hb2.size)) HCN1.out)
  have HX2 := Lib.hid ((hv2.below hba).wider (S' := fun _ => True) fun _ _ => trivial)
  have HK2 := Lib.hid (heap_alloc_new w2 (.cells #[.string ⟨n.op.toArray⟩, .int .i64 n.int, .string ⟨n.text.toArray⟩, .int .i64 n.ty.kind, .slice A2 n.ty.args.length c2, .slice K2 n.kids.length k2] 37))
  have hs3 : (w2.alloc (.cells #[.string ⟨n.op.toArray⟩, .int .i64 n.int, .string ⟨n.text.toArray⟩, .int .i64 n.ty.kind, .slice A2 n.ty.args.length c2, .slice K2 n.kids.length k2] 37)).heap.size = w2.heap.size + 1 := by simp
  have hs4 := hb2.size
  clear hv2 hb2 hba HCN1 HB1 x0 x1 x2 x3 x4 x5 xl
  go_upto_region 4 with (fail)
  generalize w2.alloc (.cells #[.string ⟨n.op.toArray⟩, .int .i64 n.int, .string ⟨n.text.toArray⟩, .int .i64 n.ty.kind, .slice A2 n.ty.args.length c2, .slice K2 n.kids.length k2] 37) = w3 at *
  have y0 := cell6_0 HK2.out
  have y1 := cell6_1 HK2.out
  have y2 := cell6_2 HK2.out
  have y3 := cell6_3 HK2.out
  have y4 := cell6_4 HK2.out
  have y5 := cell6_5 HK2.out
  have yl := cell_lt HK2.out
  go_wp2_with (fail)
  refine (right_d 60 dn din _ _ n w3 (by decide) (by decide) HFN.out HIN.out HX2.out).mono ?_
  rintro e' w4 ⟨rfl, hb4⟩
  have HB4 := Lib.hid (HB2.out.trans (hb4.mono (by omega)))
  have HCN4 := Lib.hid (below_at hb4 HCN2.out)
  have HK4 := Lib.hid (below_at hb4 HK2.out)
  have HX4 := Lib.hid (HX2.out.below hb4)
  have hs5 := hb4.size
  clear hb4 HCN2 HK2 HX2 HB2 y0 y1 y2 y3 y4 y5 yl
  have x0 := cell6_0 HCN4.out
  have x1 := cell6_1 HCN4.out
  have x2 := cell6_2 HCN4.out
  have x3 := cell6_3 HCN4.out
  have x4 := cell6_4 HCN4.out
  have x5 := cell6_5 HCN4.out
  have xl := cell_lt HCN4.out
  go_wp2_with (fail)
  refine (exprShow_any dn _ _ n w4 (HNB.out _ HB4.out) HRN.out (HG.out.below HB4.out hGl)).mono ?_
  rintro e' w5 ⟨h5, hb5⟩
  have HB5 := Lib.hid (HB4.out.trans (hb5.mono (by omega)))
  have HCN5 := Lib.hid (below_at hb5 HCN4.out)
  have HK5 := Lib.hid (below_at hb5 HK4.out)
  have HX5 := Lib.hid (HX4.out.below hb5)
  have hs6 := hb5.size
  clear hb5 HCN4 HK4 HX4 HB4 x0 x1 x2 x3 x4 x5 xl
  have x0 := cell6_0 HCN5.out
  have x1 := cell6_1 HCN5.out
  have x2 := cell6_2 HCN5.out
  have x3 := cell6_3 HCN5.out
  have x4 := cell6_4 HCN5.out
  have x5 := cell6_5 HCN5.out
  have xl := cell_lt HCN5.out
  cases hsh : showW n with
  | none =>
    rw [hsh] at h5
    have h5' : e' = .returned (.tuple #[.string ⟨#[]⟩, .int .i64 110]) := h5
    subst h5'
    have HSH := Lib.hid hsh
    clear h5 hsh
    go_wp2_with (fail)
    refine (exprSize_any dn _ _ n w5 (HNB.out _ HB5.out) HRN.out (HG.out.below HB5.out hGl)).mono ?_
    rw [HSH.out]
    rintro e' w6 ⟨h6, hb6⟩
    have h6' : e' = .returned (.tuple #[.int .i64 0, .int .i64 110]) := h6
    subst h6'
    have HB6 := Lib.hid (HB5.out.trans (hb6.mono (by omega)))
    have HCN6 := Lib.hid (below_at hb6 HCN5.out)
    have hs7 := hb6.size
    clear hb6 h6 HCN5 HK5 HX5 HB5 x0 x1 x2 x3 x4 x5 xl
    have x0 := cell6_0 HCN6.out
    have x1 := cell6_1 HCN6.out
    have x2 := cell6_2 HCN6.out
    have x3 := cell6_3 HCN6.out
    have x4 := cell6_4 HCN6.out
    have x5 := cell6_5 HCN6.out
    have xl := cell_lt HCN6.out
    go_wp2_with (fail)
    refine (exprFree_any dn _ _ n w6 (HNB.out _ HB6.out) HRN.out (HG.out.below HB6.out hGl)).mono ?_
    rintro e' w7 ⟨h7, hb7⟩
    unfold FeOut at h7
    rw [HSH.out, if_neg (by decide)] at h7
    subst h7
    have HB7 := Lib.hid (HB6.out.trans (hb7.mono (by omega)))
    have HCN7 := Lib.hid (below_at hb7 HCN6.out)
    have hs8 := hb7.size
    clear hb7 HCN6 HB6 x0 x1 x2 x3 x4 x5 xl
    have x0 := cell6_0 HCN7.out
    have x1 := cell6_1 HCN7.out
    have x2 := cell6_2 HCN7.out
    have x3 := cell6_3 HCN7.out
    have x4 := cell6_4 HCN7.out
    have x5 := cell6_5 HCN7.out
    have xl := cell_lt HCN7.out
    go_wp2_with (fail)
    refine (exprCheck_any dn _ _ n w7 (HNB.out _ HB7.out) HRN.out (HG.out.below HB7.out hGl)).mono ?_
    rw [HSH.out]
    rintro e' w8 ⟨h8, hb8⟩
    have h8' : e' = .returned (.int .i64 110) := h8
    subst h8'
    have HB8 := Lib.hid (HB7.out.trans (hb8.mono (by omega)))
    have hs9 := hb8.size
    clear hb8 h8 HCN7 HB7 x0 x1 x2 x3 x4 x5 xl
    go_wp2_with (fail)
    refine (HAWK.out _ HB8.out).mono ?_
    rintro e' wz ⟨rfl, hbz⟩
    go_wp2_with (fail)
    go_ret
    exact ⟨rfl, HB8.out.trans (hbz.mono (by omega))⟩
  | some y =>
    have hq : (showW n).isSome = true := by rw [hsh]; rfl
    have HQ := Lib.hid hq
    have hst := show_text HRN.out hsh 60 (by decide)
    have HST := Lib.hid hst
    have hcn : cntW n = y.2 := by unfold cntW; rw [hsh]; rfl
    have HCW := Lib.hid hcn
    have hcl := (cnt_le hq).1
    rw [hsh] at h5
    have h5' : e' = .returned (.tuple #[.string ⟨y.1.toArray⟩, .int .i64 0]) := h5
    subst h5'
    have HSH := Lib.hid hsh
    clear h5 hsh hq hst
    go_wp2_with (fail)
    refine (exprSize_any dn _ _ n w5 (HNB.out _ HB5.out) HRN.out (HG.out.below HB5.out hGl)).mono ?_
    rw [HSH.out]
    rintro e' w6 ⟨h6, hb6⟩
    have h6' : e' = .returned (.tuple #[.int .i64 (y.2 : Int), .int .i64 0]) := h6
    subst h6'
    have HB6 := Lib.hid (HB5.out.trans (hb6.mono (by omega)))
    have HCN6 := Lib.hid (below_at hb6 HCN5.out)
    have HK6 := Lib.hid (below_at hb6 HK5.out)
    have HX6 := Lib.hid (HX5.out.below hb6)
    have hs7 := hb6.size
    clear hb6 h6 HCN5 HK5 HX5 HB5 x0 x1 x2 x3 x4 x5 xl
    have x0 := cell6_0 HCN6.out
    have x1 := cell6_1 HCN6.out
    have x2 := cell6_2 HCN6.out
    have x3 := cell6_3 HCN6.out
    have x4 := cell6_4 HCN6.out
    have x5 := cell6_5 HCN6.out
    have xl := cell_lt HCN6.out
    go_wp2_with (fail)
    refine (exprFree_any dn _ _ n w6 (HNB.out _ HB6.out) HRN.out (HG.out.below HB6.out hGl)).mono ?_
    rintro e' w7 ⟨h7, hb7⟩
    obtain ⟨A7, c7, rfl, hl7⟩ := fe_form h7 HQ.out
    have HL7 := Lib.hid hl7
    have HB7 := Lib.hid (HB6.out.trans (hb7.mono (by omega)))
    have HCN7 := Lib.hid (below_at hb7 HCN6.out)
    have HK7 := Lib.hid (below_at hb7 HK6.out)
    have HX7 := Lib.hid (HX6.out.below hb7)
    have hs8 := hb7.size
    clear hb7 h7 hl7 HCN6 HK6 HX6 HB6 x0 x1 x2 x3 x4 x5 xl
    have y0 := cell6_0 HK7.out
    have y1 := cell6_1 HK7.out
    have y2 := cell6_2 HK7.out
    have y3 := cell6_3 HK7.out
    have y4 := cell6_4 HK7.out
    have y5 := cell6_5 HK7.out
    have yl := cell_lt HK7.out
    go_wp2_with (fail)
    refine (free_d dn _ _ n w7 HQ.out HX7.out).mono ?_
    rintro e' w8 ⟨⟨v8, rfl, hl8⟩, hb8⟩
    obtain ⟨A8, c8, hv8⟩ := hl8.form
    subst hv8
    have HL8 := Lib.hid hl8
    have HL78 := Lib.hid (HL7.out.below hb8)
    have HB8 := Lib.hid (HB7.out.trans (hb8.mono (by omega)))
    have HCN8 := Lib.hid (below_at hb8 HCN7.out)
    have HK8 := Lib.hid (below_at hb8 HK7.out)
    have HX8 := Lib.hid (HX7.out.below hb8)
    have hs9 := hb8.size
    clear hb8 hl8 HCN7 HK7 HX7 HB7 HL7 y0 y1 y2 y3 y4 y5 yl
    have hfl := freeL_len HQ.out
    obtain ⟨l, hl⟩ : ∃ l, l = freeL n := ⟨_, rfl⟩
    rw [← hl] at HL8 HL78 hfl ⊢
    clear hl
    go_wp2_with (fail)
    go_loopw [78] (fun iv wr => ∃ j : Nat, iv = .int .i64 (j : Int) ∧ j ≤ l.length ∧ Hid (Below w8.heap.size w8 wr)) (fun iv _ => 5000 - (intOf iv).toNat)
    case atStart => exact ⟨0, rfl, Nat.zero_le _, Below.refl _ _⟩
    case round =>
      obtain ⟨j, rfl, hj, HBR⟩ := hrel
      have hsr := HBR.out.size
      by_cases hlt : j < l.length
      · have hjl : ((j : Int) < (l.length : Int)) := by omega
        obtain ⟨y', hy⟩ : ∃ y, l[j]? = some y := ⟨_, List.getElem?_eq_getElem hlt⟩
        obtain ⟨b7, o7, rfl, g7⟩ := strs_at (HL78.out.below HBR.out) hy
        obtain ⟨b8, o8, rfl, g8⟩ := strs_at (HL8.out.below HBR.out) hy
        clear hy
        go_wp2_with (fail)
        go_quiet (fail)
        go_wp2_with (fail)
        go_roundw
        case rel => exact ⟨j + 1, by go_num, by omega, below_drewN HBR.out _⟩
        case measure => simp [intOf]; omega
      · have hjl : ¬ ((j : Int) < (l.length : Int)) := by omega
        have HCN9 := Lib.hid (below_at HBR.out HCN8.out)
        have HK9 := Lib.hid (below_at HBR.out HK8.out)
        have HX9 := Lib.hid (HX8.out.below HBR.out)
        have HB9 := Lib.hid (HB8.out.trans (HBR.out.mono (by omega)))
        clear HCN8 HK8 HX8 HB8 HBR HL8 HL78 hlt hj
        go_upto_region 19 with (fail)
        have x0 := cell6_0 HCN9.out
        have x1 := cell6_1 HCN9.out
        have x2 := cell6_2 HCN9.out
        have x3 := cell6_3 HCN9.out
        have x4 := cell6_4 HCN9.out
        have x5 := cell6_5 HCN9.out
        have xl := cell_lt HCN9.out
        have y0 := cell6_0 HK9.out
        have y1 := cell6_1 HK9.out
        have y2 := cell6_2 HK9.out
        have y3 := cell6_3 HK9.out
        have y4 := cell6_4 HK9.out
        have y5 := cell6_5 HK9.out
        have yl := cell_lt HK9.out
        have HCK : Hid (∀ W : World, Below w.heap.size w W → Calls Tryz.prog 21 #[.agg #[.string ⟨n.op.toArray⟩, .int .i64 n.int, .string ⟨n.text.toArray⟩, .int .i64 n.ty.kind, .slice A n.ty.args.length c, .slice K n.kids.length kc]] W fun e w' => e = .returned (.int .i64 0) ∧ Below W.heap.size W w') := fun W h =>
          (exprCheck_any dn _ _ n W (HNB.out _ h) HRN.out (HG.out.below h hGl)).mono fun e w' ⟨he, hb⟩ => ⟨by rw [HSH.out] at he; exact he, hb⟩
        have HSW : Hid (∀ W : World, Below wr.heap.size wr W → Calls Tryz.prog 23 #[.agg #[.string ⟨n.op.toArray⟩, .int .i64 n.int, .string ⟨n.text.toArray⟩, .int .i64 n.ty.kind, .slice A2 n.ty.args.length c2, .slice K2 n.kids.length k2]] W fun e w' => e = .returned (.string ⟨y.1.toArray⟩) ∧ Below W.heap.size W w') := fun W h =>
          (show_d 60 dn din _ _ n W HFN.out HIN.out (HX9.out.below h) (by decide)).mono fun e w' ⟨he, hb⟩ => ⟨by rw [he, HST.out.1], hb⟩
        have HSZ : Hid (∀ W : World, Below wr.heap.size wr W → Calls Tryz.prog 24 #[.agg #[.string ⟨n.op.toArray⟩, .int .i64 n.int, .string ⟨n.text.toArray⟩, .int .i64 n.ty.kind, .slice A2 n.ty.args.length c2, .slice K2 n.kids.length k2]] W fun e w' => e = .returned (.int .i64 (y.2 : Int)) ∧ Below W.heap.size W w') := fun W h =>
          (size_d dn _ _ n W HQ.out (HX9.out.below h)).mono fun e w' ⟨he, hb⟩ => ⟨by rw [he, HCW.out], hb⟩
        have hRR : Below wr.heap.size wr wr := Below.refl _ _
        go_region_held3 (fun w' => w'.cell? ⟨w.heap.size, 0, none⟩ = some (.string ⟨n.op.toArray⟩) ∧ w'.cell? ⟨w.heap.size, 1, none⟩ = some (.int .i64 n.int) ∧ w'.cell? ⟨w.heap.size, 2, none⟩ = some (.string ⟨n.text.toArray⟩) ∧ w'.cell? ⟨w.heap.size, 3, none⟩ = some (.int .i64 n.ty.kind) ∧ w'.cell? ⟨w.heap.size, 4, none⟩ = some (.slice A n.ty.args.length c) ∧ w'.cell? ⟨w.heap.size, 5, none⟩ = some (.slice K n.kids.length kc) ∧ w'.cell? ⟨w2.heap.size, 0, none⟩ = some (.string ⟨n.op.toArray⟩) ∧ w'.cell? ⟨w2.heap.size, 1, none⟩ = some (.int .i64 n.int) ∧ w'.cell? ⟨w2.heap.size, 2, none⟩ = some (.string ⟨n.text.toArray⟩) ∧ w'.cell? ⟨w2.heap.size, 3, none⟩ = some (.int .i64 n.ty.kind) ∧ w'.cell? ⟨w2.heap.size, 4, none⟩ = some (.slice A2 n.ty.args.length c2) ∧ w'.cell? ⟨w2.heap.size, 5, none⟩ = some (.slice K2 n.kids.length k2) ∧ Below wr.heap.size wr w')
          ((refine ⟨?_, ?_, ?_, ?_, ?_, ?_, ?_, ?_, ?_, ?_, ?_, ?_, ?_⟩ <;> (repeat' (first | with_reducible assumption | with_reducible refine cell_drew_some ?_ | with_reducible refine Below.drew ?_))))
          (first
            | (go_at_call 12; refine (HAWK.out _ (HB9.out.trans (HBe.mono HB9.out.size))).mono ?_; rintro e wf ⟨rfl, hbf⟩; have HBf : Below wr.heap.size wr wf := HBe.trans (hbf.mono HBe.size); have y' := (HBf.block _ xl).trans HCN9.out; have z' := (HBf.block _ yl).trans HK9.out; have x0 := cell6_0 y'; have y0 := cell6_0 z'; have x1 := cell6_1 y'; have y1 := cell6_1 z'; have x2 := cell6_2 y'; have y2 := cell6_2 z'; have x3 := cell6_3 y'; have y3 := cell6_3 z'; have x4 := cell6_4 y'; have y4 := cell6_4 z'; have x5 := cell6_5 y'; have y5 := cell6_5 z'; clear y' z')
            | (go_at_call 14; refine (same_any dn dn 60 _ _ _ _ n n _ (few_nar 60 n HFN.out) HV.out (HX9.out.below HBd)).mono ?_; rintro e we ⟨⟨q, rfl, hq⟩, hbe⟩; obtain rfl : q = true := hq.2 rfl; have HBe : Below wr.heap.size wr we := HBd.trans (hbe.mono HBd.size); have y' := (HBe.block _ xl).trans HCN9.out; have z' := (HBe.block _ yl).trans HK9.out; have x0 := cell6_0 y'; have y0 := cell6_0 z'; have x1 := cell6_1 y'; have y1 := cell6_1 z'; have x2 := cell6_2 y'; have y2 := cell6_2 z'; have x3 := cell6_3 y'; have y3 := cell6_3 z'; have x4 := cell6_4 y'; have y4 := cell6_4 z'; have x5 := cell6_5 y'; have y5 := cell6_5 z'; clear y' z')
            | (go_at_call 15; refine (of_any dn 60 _ _ n _ (few_nar 60 n HFN.out) (HNB.out _ (HB9.out.trans (HBc.mono HB9.out.size)))).mono ?_; rintro e wd ⟨⟨vd, rfl, hvd⟩, hbd⟩; obtain ⟨Ad, cd, Kd, kd, rfl⟩ := hvd.form; have HV := Lib.hid hvd; have HBd : Below wr.heap.size wr wd := HBc.trans (hbd.mono HBc.size); clear hvd; have y' := (HBd.block _ xl).trans HCN9.out; have z' := (HBd.block _ yl).trans HK9.out; have x0 := cell6_0 y'; have y0 := cell6_0 z'; have x1 := cell6_1 y'; have y1 := cell6_1 z'; have x2 := cell6_2 y'; have y2 := cell6_2 z'; have x3 := cell6_3 y'; have y3 := cell6_3 z'; have x4 := cell6_4 y'; have y4 := cell6_4 z'; have x5 := cell6_5 y'; have y5 := cell6_5 z'; clear y' z')
            | (go_at_call 24; refine (HSZ.out _ HBb).mono ?_; rintro e wc ⟨rfl, hbc⟩; have HBc : Below wr.heap.size wr wc := HBb.trans (hbc.mono HBb.size); have y' := (HBc.block _ xl).trans HCN9.out; have z' := (HBc.block _ yl).trans HK9.out; have x0 := cell6_0 y'; have y0 := cell6_0 z'; have x1 := cell6_1 y'; have y1 := cell6_1 z'; have x2 := cell6_2 y'; have y2 := cell6_2 z'; have x3 := cell6_3 y'; have y3 := cell6_3 z'; have x4 := cell6_4 y'; have y4 := cell6_4 z'; have x5 := cell6_5 y'; have y5 := cell6_5 z'; clear y' z')
            | (go_at_call 23; refine (HSW.out _ HBa).mono ?_; rintro e wb ⟨rfl, hbb⟩; have HBb : Below wr.heap.size wr wb := HBa.trans (hbb.mono HBa.size); have y' := (HBb.block _ xl).trans HCN9.out; have z' := (HBb.block _ yl).trans HK9.out; have x0 := cell6_0 y'; have y0 := cell6_0 z'; have x1 := cell6_1 y'; have y1 := cell6_1 z'; have x2 := cell6_2 y'; have y2 := cell6_2 z'; have x3 := cell6_3 y'; have y3 := cell6_3 z'; have x4 := cell6_4 y'; have y4 := cell6_4 z'; have x5 := cell6_5 y'; have y5 := cell6_5 z'; clear y' z')
            | (go_at_call 21; refine (HCK.out wr.drew HB9.out.drew).mono ?_; rintro e wa ⟨rfl, hba⟩; have HBa : Below wr.heap.size wr wa := (Below.refl _ wr).drew.trans hba; have y' := (HBa.block _ xl).trans HCN9.out; have z' := (HBa.block _ yl).trans HK9.out; have x0 := cell6_0 y'; have y0 := cell6_0 z'; have x1 := cell6_1 y'; have y1 := cell6_1 z'; have x2 := cell6_2 y'; have y2 := cell6_2 z'; have x3 := cell6_3 y'; have y3 := cell6_3 z'; have x4 := cell6_4 y'; have y4 := cell6_4 z'; have x5 := cell6_5 y'; have y5 := cell6_5 z'; clear y' z'))
        go_wp2_with (fail)
        go_ret
        exact ⟨rfl, HB9.out.trans (HBf.mono HB9.out.size)⟩
end Go.Proofs.YtadbnlnifacblaaGreatDoor
