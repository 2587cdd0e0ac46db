/-
The walk of WindowAssigns.
-/
import Derived.Test.YtofollamkcgknaaDoorVt
set_option linter.unusedVariables false
namespace Go.Proofs.YtofollamkcgknaaDoor
open Go.RowKit

theorem box4 {w : World} {g : Nat} {a b c d : Value} {t : TypeId} (h : w.heap[g]? = some (.cells #[a, b, c, d] t (0, 0))) : w.cell? ⟨g, 0, none⟩ = some a ∧ w.cell? ⟨g, 1, none⟩ = some b ∧ w.cell? ⟨g, 2, none⟩ = some c ∧ w.cell? ⟨g, 3, none⟩ = some d := by
  simp [World.cell?, h]

theorem check_r (k s p o : Int) (w : World) (r : Bool) (hr : rgtB k s p o = r) : Calls Tryd.prog 16 #[.agg #[.int .i64 k, .int .i64 s, .int .i64 p, .int .i64 o]] w fun e w' => e = .returned (.int .i64 (bif r then 0 else 70)) ∧ Below w.heap.size w w' :=
  (check_any k s p o w).mono fun e w' ⟨he, hb⟩ => ⟨by rw [he, hr]; cases r <;> rfl, hb⟩

theorem assign_bad (k s p o t : Int) (w : World) (hr : rgtB k s p o = false) :
    Calls Tryd.prog 12 #[.agg #[.int .i64 k, .int .i64 s, .int .i64 p, .int .i64 o], .int .i64 t] w fun e w' => e = .returned (.tuple #[.slice none 0 0, .int .i64 70]) ∧ Below w.heap.size w w' :=
  (assign_any k s p o t w).mono fun e w' ⟨h, hb⟩ => by
    rcases h with ⟨_, h⟩ | ⟨h, _⟩ | ⟨h, _⟩
    · exact ⟨h, hb⟩
    · rw [hr] at h; cases h
    · rw [hr] at h; cases h

theorem assign_late (k s p o t : Int) (w : World) (hr : rgtB k s p o = true) (ht : ¬ (0 ≤ t ∧ t ≤ 1048576)) :
    Calls Tryd.prog 12 #[.agg #[.int .i64 k, .int .i64 s, .int .i64 p, .int .i64 o], .int .i64 t] w fun e w' => e = .returned (.tuple #[.slice none 0 0, .int .i64 71]) ∧ Below w.heap.size w w' :=
  (assign_any k s p o t w).mono fun e w' ⟨h, hb⟩ => by
    rcases h with ⟨h, _⟩ | ⟨_, _, h⟩ | ⟨_, h1, h2, _⟩
    · rw [hr] at h; cases h
    · exact ⟨h, hb⟩
    · exact absurd ⟨h1, h2⟩ ht

theorem assign_ok (k s p o t : Int) (w : World) (hr : rgtB k s p o = true) (ht : 0 ≤ t) (ht2 : t ≤ 1048576) :
    Calls Tryd.prog 12 #[.agg #[.int .i64 k, .int .i64 s, .int .i64 p, .int .i64 o], .int .i64 t] w fun e w' => (∃ a c, e = .returned (.tuple #[.slice a (asg k s p o t).length c, .int .i64 0]) ∧ WsAt w' w.heap.size (.slice a (asg k s p o t).length c) (asg k s p o t)) ∧ Below w.heap.size w w' :=
  (assign_any k s p o t w).mono fun e w' ⟨h, hb⟩ => by
    rcases h with ⟨h, _⟩ | ⟨_, h, _⟩ | ⟨_, _, _, v, h, hv⟩
    · rw [hr] at h; cases h
    · exact absurd ⟨ht, ht2⟩ h
    · obtain ⟨a, c, rfl, _⟩ := hv.form
      exact ⟨⟨a, c, h, hv⟩, hb⟩

theorem asg_len (k s p o t : Int) (hr : Rgt k s p o) : (asg k s p o t).length ≤ 1048576 := by
  unfold asg
  split
  · simp
  split
  · simp
  split
  · rw [ap_length]; rcases hr with h | h | h | h <;> first | omega | (have := numA_le o s s t (by omega) (Int.le_refl _); omega)
  · rw [ap_length]; rcases hr with h | h | h | h <;> first | omega | (have := numA_le o p s t (by omega) (by omega); omega)

theorem rright_r (k s p o : Int) (w : World) (r : Bool) (hr : rgtB k s p o = r) : Calls Tryd.prog 13 #[.agg #[.int .i64 k, .int .i64 s, .int .i64 p, .int .i64 o]] w fun e w' => e = .returned (.bool r) ∧ Below w.heap.size w w' :=
  (rright_any k s p o w).mono fun e w' ⟨he, hb⟩ => ⟨by rw [he, hr], hb⟩

set_option maxRecDepth 100000 in
set_option maxHeartbeats 1000000 in
theorem assigns_bad (k s p o t : Int) (w : World) (hr : rgtB k s p o = false) :
    Calls Tryd.prog 3 #[.agg #[.int .i64 k, .int .i64 s, .int .i64 p, .int .i64 o], .int .i64 t] w fun e w' => e = .returned (.bool true) ∧ Below w.heap.size w w' := by
  have HR := Lib.hid hr
  clear hr
  go_enter Tryd.func3, Tryd.ntmps3
  go_wp2_with (first
    | (go_at_call 12; refine (assign_bad k s p o t _ HR.out).mono ?_; rintro e w1 ⟨rfl, hb1⟩; have HB1 : Below w.heap.size w w1 := ((Below.refl _ _).alloc (Nat.le_refl _) _).trans (hb1.mono (by simp)); have hx1 := (hb1.block w.heap.size (by simp)).trans (heap_new_at rfl); have HX1 := Lib.hid hx1; obtain ⟨a0, a1, a2, a3⟩ := box4 hx1; have hz1 : w.heap.size < w1.heap.size := cell_lt hx1; clear hx1 hb1)
    | (go_at_call 14; refine (fn_any k s p o _).mono ?_; rintro e w2 ⟨rfl, hb2⟩; have HB2 := HB1.trans (hb2.mono HB1.size); have hx2 := (hb2.block _ hz1).trans HX1.out; have HX2 := Lib.hid hx2; obtain ⟨b0, b1, b2, b3⟩ := box4 hx2; have hz2 : w.heap.size < w2.heap.size := cell_lt hx2; clear hx2 hb2)
    | (go_at_call 13; refine (rright_r k s p o _ false HR.out).mono ?_; rintro e W ⟨rfl, hb3⟩; have HBW := HB2.trans (hb3.mono HB2.size); have HX := Lib.hid ((hb3.block _ hz2).trans HX2.out); clear hb3)
    | fail)
  have hxl := HX.out
  have hzx : w.heap.size < W.heap.size := cell_lt hxl
  obtain ⟨x0, x1, x2, x3⟩ := box4 hxl
  clear hxl
  have hRR : Below W.heap.size W W := Below.refl _ _
  go_region_held3 (fun w' => w'.cell? ⟨w.heap.size, 0, none⟩ = some (.int .i64 k) ∧ w'.cell? ⟨w.heap.size, 1, none⟩ = some (.int .i64 s) ∧ w'.cell? ⟨w.heap.size, 2, none⟩ = some (.int .i64 p) ∧ w'.cell? ⟨w.heap.size, 3, none⟩ = some (.int .i64 o) ∧ Below W.heap.size W w')
      ((refine ⟨?_, ?_, ?_, ?_, ?_⟩ <;> (repeat' (first | with_reducible assumption | with_reducible refine cell_drew_some ?_ | with_reducible refine below_drew_some ?_))))
      (first
        | (go_at_call 13; refine (rright_r k s p o _ false HR.out).mono ?_; rintro e wc ⟨rfl, hbc⟩; have HBc : Below W.heap.size W wc := HBb.trans (hbc.mono HBb.size); have y' := (HBc.block _ hzx).trans HX.out; obtain ⟨y0, y1, y2, y3⟩ := box4 y'; clear y')
        | (go_at_call 14; refine (fn_any k s p o _).mono ?_; rintro e wb ⟨rfl, hbb⟩; have HBb : Below W.heap.size W wb := HBa.trans (hbb.mono HBa.size); have y' := (HBb.block _ hzx).trans HX.out; obtain ⟨y0, y1, y2, y3⟩ := box4 y'; clear y')
        | (go_at_call 16; refine (check_r k s p o W.drew false HR.out).mono ?_; rintro e wa ⟨rfl, hba⟩; have HBa : Below W.heap.size W wa := (Below.refl _ W).drew.trans hba; have y' := (HBa.block _ hzx).trans HX.out; obtain ⟨y0, y1, y2, y3⟩ := box4 y'; clear y'))
  go_wp2_with (go_at_call 17; refine (awake_any _).mono ?_; rintro e wf ⟨rfl, hbf⟩)
  go_ret
  exact ⟨rfl, (HBW.trans (HBc.mono HBW.size)).trans (hbf.mono (by have := HBW.size; have := HBc.size; simp; omega))⟩

set_option maxRecDepth 100000 in
set_option maxHeartbeats 1000000 in
theorem assigns_late (k s p o t : Int) (w : World) (hr : rgtB k s p o = true) (ht : ¬ (0 ≤ t ∧ t ≤ 1048576)) :
    Calls Tryd.prog 3 #[.agg #[.int .i64 k, .int .i64 s, .int .i64 p, .int .i64 o], .int .i64 t] w fun e w' => e = .returned (.bool true) ∧ Below w.heap.size w w' := by
  have HT := Lib.hid ht
  have HTB := Lib.hid (decide_eq_false ht)
  clear ht
  have HR := Lib.hid hr
  clear hr
  go_enter Tryd.func3, Tryd.ntmps3
  go_wp2_with (first
    | (go_at_call 12; refine (assign_late k s p o t _ HR.out HT.out).mono ?_; rintro e w1 ⟨rfl, hb1⟩; have HB1 : Below w.heap.size w w1 := ((Below.refl _ _).alloc (Nat.le_refl _) _).trans (hb1.mono (by simp)); have hx1 := (hb1.block w.heap.size (by simp)).trans (heap_new_at rfl); have HX1 := Lib.hid hx1; obtain ⟨a0, a1, a2, a3⟩ := box4 hx1; have hz1 : w.heap.size < w1.heap.size := cell_lt hx1; clear hx1 hb1)
    | (go_at_call 14; refine (fn_any k s p o _).mono ?_; rintro e w2 ⟨rfl, hb2⟩; have HB2 := HB1.trans (hb2.mono HB1.size); have hx2 := (hb2.block _ hz1).trans HX1.out; have HX2 := Lib.hid hx2; obtain ⟨b0, b1, b2, b3⟩ := box4 hx2; have hz2 : w.heap.size < w2.heap.size := cell_lt hx2; clear hx2 hb2)
    | (go_at_call 13; refine (rright_r k s p o _ true HR.out).mono ?_; rintro e W ⟨rfl, hb3⟩; have HBW := HB2.trans (hb3.mono HB2.size); have HX := Lib.hid ((hb3.block _ hz2).trans HX2.out); clear hb3)
    | (go_at_call 15; refine (time_any t _).mono ?_; rw [HTB.out]; rintro e w4 ⟨rfl, rfl⟩))
  have hxl := HX.out
  have hzx : w.heap.size < W.heap.size := cell_lt hxl
  obtain ⟨x0, x1, x2, x3⟩ := box4 hxl
  clear hxl
  have hRR : Below W.heap.size W W := Below.refl _ _
  go_region_held3 (fun w' => w'.cell? ⟨w.heap.size, 0, none⟩ = some (.int .i64 k) ∧ w'.cell? ⟨w.heap.size, 1, none⟩ = some (.int .i64 s) ∧ w'.cell? ⟨w.heap.size, 2, none⟩ = some (.int .i64 p) ∧ w'.cell? ⟨w.heap.size, 3, none⟩ = some (.int .i64 o) ∧ Below W.heap.size W w')
      ((refine ⟨?_, ?_, ?_, ?_, ?_⟩ <;> (repeat' (first | with_reducible assumption | with_reducible refine cell_drew_some ?_ | with_reducible refine below_drew_some ?_))))
      (first
        | (go_at_call 13; refine (rright_r k s p o _ true HR.out).mono ?_; rintro e wc ⟨rfl, hbc⟩; have HBc : Below W.heap.size W wc := HBb.trans (hbc.mono HBb.size); have y' := (HBc.block _ hzx).trans HX.out; obtain ⟨y0, y1, y2, y3⟩ := box4 y'; clear y')
        | (go_at_call 14; refine (fn_any k s p o _).mono ?_; rintro e wb ⟨rfl, hbb⟩; have HBb : Below W.heap.size W wb := HBa.trans (hbb.mono HBa.size); have y' := (HBb.block _ hzx).trans HX.out; obtain ⟨y0, y1, y2, y3⟩ := box4 y'; clear y')
        | (go_at_call 16; refine (check_r k s p o W.drew true HR.out).mono ?_; rintro e wa ⟨rfl, hba⟩; have HBa : Below W.heap.size W wa := (Below.refl _ W).drew.trans hba; have y' := (HBa.block _ hzx).trans HX.out; obtain ⟨y0, y1, y2, y3⟩ := box4 y'; clear y'))
  go_wp2_with (go_at_call 17; refine (awake_any _).mono ?_; rintro e wf ⟨rfl, hbf⟩)
  go_ret
  exact ⟨rfl, (HBW.trans (HBc.mono HBW.size)).trans (hbf.mono (by have := HBW.size; have := HBc.size; simp; omega))⟩

set_option maxRecDepth 100000 in
set_option maxHeartbeats 1000000 in
theorem assigns_ok (k s p o t : Int) (w : World) (hr : rgtB k s p o = true) (ht : 0 ≤ t) (ht2 : t ≤ 1048576) :
    Calls Tryd.prog 3 #[.agg #[.int .i64 k, .int .i64 s, .int .i64 p, .int .i64 o], .int .i64 t] w fun e w' => e = .returned (.bool true) ∧ Below w.heap.size w w' := by
  have HTB := Lib.hid (decide_eq_true (show 0 ≤ t ∧ t ≤ 1048576 from ⟨ht, ht2⟩))
  have HR := Lib.hid hr
  have hll := asg_len k s p o t (rgt_of hr)
  have HRA := fun w => Lib.hid (rassign_any k s p o t w (rgt_of hr) ht ht2)
  clear hr
  go_enter Tryd.func3, Tryd.ntmps3
  go_wp2_with (first
    | (go_at_call 12; refine (assign_ok k s p o t _ HR.out ht ht2).mono ?_; rintro e w1 ⟨⟨la, lc, rfl, hl1⟩, hb1⟩; have HL1 := Lib.hid hl1; clear hl1; have HB1 : Below w.heap.size w w1 := ((Below.refl _ _).alloc (Nat.le_refl _) _).trans (hb1.mono (by simp)); have hx1 := (hb1.block w.heap.size (by simp)).trans (heap_new_at rfl); have HX1 := Lib.hid hx1; obtain ⟨a0, a1, a2, a3⟩ := box4 hx1; have hz1 : w.heap.size < w1.heap.size := cell_lt hx1; clear hx1 hb1)
    | (go_at_call 14; refine (fn_any k s p o _).mono ?_; rintro e w2 ⟨rfl, hb2⟩; have hb2' := hb2; have HB2 := HB1.trans (hb2.mono HB1.size); have hx2 := (hb2.block _ hz1).trans HX1.out; have HX2 := Lib.hid hx2; obtain ⟨b0, b1, b2, b3⟩ := box4 hx2; have hz2 : w.heap.size < w2.heap.size := cell_lt hx2; clear hx2 hb2)
    | (go_at_call 13; refine (rright_r k s p o _ true HR.out).mono ?_; rintro e W ⟨rfl, hb3⟩; have HLW := Lib.hid ((HL1.out.below hb2').below hb3); have HBW := HB2.trans (hb3.mono HB2.size); have HX := Lib.hid ((hb3.block _ hz2).trans HX2.out); clear hb3)
    | (go_at_call 15; refine (time_any t _).mono ?_; rw [HTB.out]; rintro e w4 ⟨rfl, rfl⟩))
  have hxl := HX.out
  have hzx : w.heap.size < W.heap.size := cell_lt hxl
  obtain ⟨x0, x1, x2, x3⟩ := box4 hxl
  clear hxl
  have hRR : Below W.heap.size W W := Below.refl _ _
  go_region_held3 (fun w' => w'.cell? ⟨w.heap.size, 0, none⟩ = some (.int .i64 k) ∧ w'.cell? ⟨w.heap.size, 1, none⟩ = some (.int .i64 s) ∧ w'.cell? ⟨w.heap.size, 2, none⟩ = some (.int .i64 p) ∧ w'.cell? ⟨w.heap.size, 3, none⟩ = some (.int .i64 o) ∧ Below W.heap.size W w')
      ((refine ⟨?_, ?_, ?_, ?_, ?_⟩ <;> (repeat' (first | with_reducible assumption | with_reducible refine cell_drew_some ?_ | with_reducible refine below_drew_some ?_))))
      (first
        | (go_at_call 13; refine (rright_r k s p o _ true HR.out).mono ?_; rintro e wc ⟨rfl, hbc⟩; have HBc : Below W.heap.size W wc := HBb.trans (hbc.mono HBb.size); have y' := (HBc.block _ hzx).trans HX.out; obtain ⟨y0, y1, y2, y3⟩ := box4 y'; clear y')
        | (go_at_call 14; refine (fn_any k s p o _).mono ?_; rintro e wb ⟨rfl, hbb⟩; have HBb : Below W.heap.size W wb := HBa.trans (hbb.mono HBa.size); have y' := (HBb.block _ hzx).trans HX.out; obtain ⟨y0, y1, y2, y3⟩ := box4 y'; clear y')
        | (go_at_call 16; refine (check_r k s p o W.drew true HR.out).mono ?_; rintro e wa ⟨rfl, hba⟩; have HBa : Below W.heap.size W wa := (Below.refl _ W).drew.trans hba; have y' := (HBa.block _ hzx).trans HX.out; obtain ⟨y0, y1, y2, y3⟩ := box4 y'; clear y'))
  have HBV : Below w.heap.size w wc := HBW.trans (HBc.mono HBW.size)
  have HXV := Lib.hid ((HBc.block _ hzx).trans HX.out)
  have HLV := Lib.hid (HLW.out.below HBc)
  clear HBa HBb HBc HX1 HX2 HX HL1 HLW hb2' x0 x1 x2 x3 a0 a1 a2 a3 b0 b1 b2 b3 hRR HB1 HB2 HBW hzx hz1 hz2
  have HX := HXV
  clear HXV
  obtain ⟨W, hW⟩ : ∃ W, W = wc := ⟨_, rfl⟩
  subst hW
  go_wp2_with (fail)
  have hxl := HX.out
  have hzx : w.heap.size < W.heap.size := cell_lt hxl
  obtain ⟨x0, x1, x2, x3⟩ := box4 hxl
  clear hxl
  have hRR : Below W.heap.size W W := Below.refl _ _
  have hlv := HLV.out.below (below_drew_some hRR)
  have HLD := Lib.hid hlv
  clear hlv
  go_region_held3 (fun w' => w'.cell? ⟨w.heap.size, 0, none⟩ = some (.int .i64 k) ∧ w'.cell? ⟨w.heap.size, 1, none⟩ = some (.int .i64 s) ∧ w'.cell? ⟨w.heap.size, 2, none⟩ = some (.int .i64 p) ∧ w'.cell? ⟨w.heap.size, 3, none⟩ = some (.int .i64 o) ∧ Below W.heap.size W w')
      ((refine ⟨?_, ?_, ?_, ?_, ?_⟩ <;> (repeat' (first | with_reducible assumption | with_reducible refine cell_drew_some ?_ | with_reducible refine below_drew_some ?_))))
      (first
        | (go_at_call 17; refine (awake_any _).mono ?_; rintro e we ⟨rfl, hbe⟩; have HBe : Below W.heap.size W we := HBd.trans (hbe.mono HBd.size); have y' := (HBe.block _ hzx).trans HX.out; obtain ⟨y0, y1, y2, y3⟩ := box4 y'; clear y')
        | (go_at_call 18; refine (same_yes _ _ _ _ (asg k s p o t) _ ((HO1.out.below hbb).below hbc) HR1.out (by omega)).mono ?_; rintro e wd ⟨rfl, hbd⟩; have HBd : Below W.heap.size W wd := HBc.trans (hbd.mono HBc.size); have y' := (HBd.block _ hzx).trans HX.out; obtain ⟨y0, y1, y2, y3⟩ := box4 y'; clear y')
        | (go_at_call 20; refine (HRA _).out.mono ?_; rintro e wc ⟨⟨rv, rfl, hrv⟩, hbc⟩; have HR1 := Lib.hid hrv; clear hrv; have HBc : Below W.heap.size W wc := HBb.trans (hbc.mono HBb.size); have y' := (HBc.block _ hzx).trans HX.out; obtain ⟨y0, y1, y2, y3⟩ := box4 y'; clear y')
        | (go_at_call 14; refine (fn_any k s p o _).mono ?_; rintro e wb ⟨rfl, hbb⟩; have HBb : Below W.heap.size W wb := HBa.trans (hbb.mono HBa.size); have y' := (HBb.block _ hzx).trans HX.out; obtain ⟨y0, y1, y2, y3⟩ := box4 y'; clear y')
        | (go_at_call 19; refine (of_any _ _ _ _ HLD.out (by omega)).mono ?_; rintro e wa ⟨⟨ov, rfl, hov⟩, hba⟩; have HO1 := Lib.hid hov; clear hov; have HBa : Below W.heap.size W wa := (Below.refl _ W).drew.trans hba; have y' := (HBa.block _ hzx).trans HX.out; obtain ⟨y0, y1, y2, y3⟩ := box4 y'; clear y'))
  go_wp2_with (fail)
  go_ret
  exact ⟨rfl, HBV.trans (HBe.mono HBV.size)⟩

theorem assigns_true (k s p o t : Int) (w : World) : Calls Tryd.prog 3 #[.agg #[.int .i64 k, .int .i64 s, .int .i64 p, .int .i64 o], .int .i64 t] w fun e w' => e = .returned (.bool true) ∧ Below w.heap.size w w' := by
  cases hr : rgtB k s p o with
  | false => exact assigns_bad k s p o t w hr
  | true =>
    by_cases ht : 0 ≤ t ∧ t ≤ 1048576
    · exact assigns_ok k s p o t w hr ht.1 ht.2
    · exact assigns_late k s p o t w hr ht

end Go.Proofs.YtofollamkcgknaaDoor
