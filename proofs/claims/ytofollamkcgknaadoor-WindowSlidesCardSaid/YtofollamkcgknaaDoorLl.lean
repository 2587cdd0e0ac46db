/-
The walk of WindowSlides.
-/
import Derived.Test.YtofollamkcgknaaDoorLa
set_option linter.unusedVariables false
namespace Go.Proofs.YtofollamkcgknaaDoor
open Go.RowKit

theorem assign_slide (s p o t : Int) (w : World) (n : Nat) (hr : rgtB 2 s p o = true) (ht : 0 ≤ t) (ht2 : t ≤ 1048576) (hn : numA o p s t = n + 1) :
    Calls Tryd.prog 12 #[.agg #[.int .i64 2, .int .i64 s, .int .i64 p, .int .i64 o], .int .i64 t] w fun e w' => (∃ b o' c, e = .returned (.tuple #[.slice (some ⟨b, o', none⟩) (n + 1) c, .int .i64 0]) ∧ b < w'.heap.size ∧ n + 1 ≤ c ∧ Hid (∀ j : Nat, j < n + 1 → w'.cell? ⟨b, o' + j * 2, none⟩ = some (.int .i64 (fstA o p s t + p * (j : Int))) ∧ w'.cell? ⟨b, o' + j * 2 + 1, none⟩ = some (.int .i64 (fstA o p s t + p * (j : Int) + s)))) ∧ Below w.heap.size w w' :=
  (assign_ok 2 s p o t w hr ht ht2).mono fun e w' ⟨⟨a, c, he, hv⟩, hb⟩ => by
    have e1 : asg 2 s p o t = ap (fstA o p s t) p s (n + 1) := by show ap _ _ _ _ = _; rw [hn]
    rw [e1] at hv he
    obtain ⟨a', c', hv', hc, hA⟩ := hv
    injection hv' with e1 e2 e3
    subst e1; subst e3
    rw [ap_length] at he hc hA
    obtain ⟨b, o', rfl, _, h2, h3⟩ := hA (by omega)
    exact ⟨⟨b, o', c, he, h2, hc, Lib.hid fun j hj => h3 j _ (ap_get _ _ _ _ _ hj)⟩, hb⟩

set_option maxRecDepth 100000 in
set_option maxHeartbeats 2000000 in
theorem slides_bad (k s p o t : Int) (w : World) (n1 : Int) (hn : (n1 == 0) = false) (hn2 : (n1 != 0) = true) (h1 : ∀ w, Calls Tryd.prog 12 #[.agg #[.int .i64 2, .int .i64 s, .int .i64 p, .int .i64 o], .int .i64 t] w fun e w' => e = .returned (.tuple #[.slice none 0 0, .int .i64 n1]) ∧ Below w.heap.size w w') :
    Calls Tryd.prog 10 #[.agg #[.int .i64 k, .int .i64 s, .int .i64 p, .int .i64 o], .int .i64 t] w fun e w' => e = .returned (.bool true) ∧ Below w.heap.size w w' := by
  have H1 := Lib.hid h1
  clear h1
  go_enter Tryd.func10, Tryd.ntmps10
  go_wp2_with (first
    | (go_at_call 17; refine (awake_any _).mono ?_; rintro e wc ⟨rfl, hbc⟩)
    | (go_at_call 12; refine (H1.out _).mono ?_; rintro e w1 ⟨rfl, hb1⟩; have HB1 : Below w.heap.size w w1 := ((Below.refl _ _).alloc (Nat.le_refl _) _).trans (hb1.mono (by simp <;> omega)); have hx1 := (hb1.block w.heap.size (by simp <;> omega)).trans (heap_new_at rfl); have HX1 := Lib.hid hx1; obtain ⟨a0, a1, a2, a3⟩ := box4 hx1; have hz1 : w.heap.size < w1.heap.size := cell_lt hx1; clear hx1 hb1))
  go_ret
  exact ⟨rfl, HB1.trans (hbc.mono HB1.size)⟩

set_option maxRecDepth 100000 in
set_option maxHeartbeats 2000000 in
theorem slides_ok (k s p o t : Int) (w : World) (hr : rgtB 2 s p o = true) (ht : 0 ≤ t) (ht2 : t ≤ 1048576) :
    Calls Tryd.prog 10 #[.agg #[.int .i64 k, .int .i64 s, .int .i64 p, .int .i64 o], .int .i64 t] w fun e w' => e = .returned (.bool true) ∧ Below w.heap.size w w' := by
  have hs : 1 ≤ p ∧ p ≤ s ∧ s ≤ 1048576 ∧ 0 ≤ o ∧ o < p := by rcases rgt_of hr with h | h | h | h <;> omega
  obtain ⟨hp1, hps, hs2, ho1, ho2⟩ := hs
  obtain ⟨n, hn⟩ : ∃ n, numA o p s t = n + 1 := ⟨numA o p s t - 1, by have := numA_pos o p s t; omega⟩
  have hfi := fstA_in o p s t hp1
  have HU := fun (j : Nat) => Lib.hid (up_iff o p s t hp1 hps j)
  have hla := lastA o p s t hp1 hps
  have HMD := Lib.hid (fstA_mod o p s t)
  have HA := fun w => Lib.hid (assign_slide s p o t w n hr ht ht2 hn)
  have hnl := numA_le o p s t hp1 hps
  rw [hn] at hla HU hnl
  have HLA := Lib.hid hla
  generalize fstA o p s t = c at *
  clear hr hn hla
  have hno : ((n : Int) + 1 == 0) = false := by simp; omega
  go_enter Tryd.func10, Tryd.ntmps10
  go_wp2_with (first
    | (go_at_call 12; refine ((HA _).out).mono ?_; rintro e w1 ⟨⟨b, o', cap, rfl, hbl, hcap, HCL⟩, hb1⟩; have HB1 : Below w.heap.size w w1 := ((Below.refl _ _).alloc (Nat.le_refl _) _).trans (hb1.mono (by simp <;> omega)); have hx1 := (hb1.block w.heap.size (by simp <;> omega)).trans (heap_new_at rfl); have HX1 := Lib.hid hx1; obtain ⟨a0, a1, a2, a3⟩ := box4 hx1; have hz1 : w.heap.size < w1.heap.size := cell_lt hx1; clear hx1 hb1))
  go_loopw [37] (fun iv wr => ∃ j : Nat, iv = .int .i64 (j : Int) ∧ j ≤ n + 1 ∧ Hid (Below w1.heap.size w1 wr)) (fun iv _ => n + 1 - (intOf iv).toNat)
  case atStart => exact ⟨0, rfl, by omega, Lib.hid (Below.refl _ _)⟩
  case round =>
    obtain ⟨j, rfl, hj, HB⟩ := hrel
    have hsr := HB.out.size
    have hx := (HB.out.block _ hz1).trans HX1.out
    obtain ⟨b0, b1, b2, b3⟩ := box4 hx
    have hzr : w.heap.size < wr.heap.size := cell_lt hx
    have hbr : b < wr.heap.size := by omega
    clear hx a0 a1 a2 a3
    by_cases hlt : j < n + 1
    · obtain ⟨c0, c1⟩ := HCL.out j hlt
      have c0 := (HB.out.cell (p := ⟨b, o' + j * 2, none⟩) hbl).trans c0
      have c1 := (HB.out.cell (p := ⟨b, o' + j * 2 + 1, none⟩) hbl).trans c1
      have hxt := (HU j).out.2 hlt
      have hpj : 0 ≤ p * (j : Int) := Int.mul_nonneg (by omega) (by omega)
      obtain ⟨x, hx⟩ : ∃ x, x = c + p * (j : Int) := ⟨_, rfl⟩
      rw [← hx] at c0 c1 hxt
      have hx0 : t - s < x := by omega
      obtain ⟨y, hy⟩ : ∃ y, y = x + s := ⟨_, rfl⟩
      rw [← hy] at c1
      have HXE := Lib.hid hx
      have HYE := Lib.hid hy
      have hj0 : (0 : Int) ≤ (j : Int) := by omega
      have hj1 : (j : Int) < (n : Int) + 1 := by omega
      have q1 : IntKind.i64.wrap (y - x) = s := by rw [IntWalk.i64_in _ (by omega)]; omega
      have q2 : IntKind.i64.wrap (x - o) = x - o := IntWalk.i64_in _ (by omega)
      have hm : (x - o).tmod p = 0 := by
        refine Int.tmod_eq_zero_of_dvd (Int.dvd_of_emod_eq_zero ?_)
        have e : x - o = (c - o) + p * (j : Int) := by omega
        rw [e, Int.add_mul_emod_self_left]
        exact HMD.out
      have q3 : IntKind.i64.wrap ((x - o).tmod p) = 0 := by rw [hm]; rfl
      have q4 : (p == 0) = false := by simp; omega
      clear hx hy hpj
      by_cases hj2 : j = 0
      · have hj3 : decide ((0 : Int) < (j : Int)) = false := by simp; omega
        have hj4 : ¬ (0 : Int) < (j : Int) := by omega
        have hj5 : ¬ 0 < j := by omega
        clear hj2
        go_wp2
        go_quiet (fail)
        go_wp2
        go_roundw
        case rel => exact ⟨j + 1, by go_num, by omega, Lib.hid (below_drewN (HB.out.alloc HB.out.size _) _)⟩
        case measure => simp [intOf]; omega
      · obtain ⟨i, rfl⟩ : ∃ i, j = i + 1 := ⟨j - 1, by omega⟩
        have d0 := (HCL.out i (by omega)).1
        have d0 := (HB.out.cell (p := ⟨b, o' + i * 2, none⟩) hbl).trans d0
        obtain ⟨z, hz⟩ : ∃ z, z = c + p * (i : Int) := ⟨_, rfl⟩
        rw [← hz] at d0
        have hxz : x = z + p := by have := HXE.out; rw [Int.natCast_add, Int.mul_add] at this; omega
        have HXZ := Lib.hid hxz
        have q5 : IntKind.i64.wrap (x - z) = p := by rw [IntWalk.i64_in _ (by omega)]; omega
        have hz1 : z ≤ x := by omega
        have hz2 : x - p ≤ z := by omega
        have q6 : IntKind.i64.wrap ((i : Int) + 1 - 1) = (i : Int) := by rw [IntWalk.i64_in _ (by omega)]; omega
        have hi0 : (0 : Int) ≤ (i : Int) := by omega
        have hi1 : (i : Int) < (n : Int) + 1 := by omega
        have hi2 : (0 : Int) < (i : Int) + 1 := by omega
        clear hz hxz hj2
        go_wp2
        go_quiet (fail)
        go_wp2
        go_roundw
        case rel => exact ⟨i + 1 + 1, by go_num, by omega, Lib.hid (below_drewN (HB.out.alloc HB.out.size _) _)⟩
        case measure => simp [intOf]; omega
    · obtain rfl : j = n + 1 := by omega
      have f1 := (HCL.out 0 (by omega)).2
      have l1 := (HCL.out n (by omega)).1
      rw [Nat.zero_mul, Nat.add_zero, Int.ofNat_zero, Int.mul_zero, Int.add_zero] at f1
      obtain ⟨hla1, hla2⟩ := HLA.out
      rw [show ((n + 1 : Nat) : Int) = (n : Int) + 1 from rfl] at hla1 hla2
      rw [Int.add_sub_cancel] at hla1
      rw [Int.mul_add, Int.mul_one] at hla2
      obtain ⟨y, hy⟩ : ∃ y, y = c + p * (n : Int) := ⟨_, rfl⟩
      obtain ⟨z, hz⟩ : ∃ z, z = c + s := ⟨_, rfl⟩
      rw [← hy] at l1 hla1
      rw [← hz] at f1
      have hla2 : t < y + p := by omega
      have hpn : 0 ≤ p * (n : Int) := Int.mul_nonneg (by omega) (by omega)
      have hy0 : t - s < y := by omega
      have hzz : z - p ≤ t := by omega
      have hzl : t < z := by omega
      have f1 := (HB.out.cell (p := ⟨b, o' + 1, none⟩) hbl).trans f1
      have l1 := (HB.out.cell (p := ⟨b, o' + n * 2, none⟩) hbl).trans l1
      have q1 : IntKind.i64.wrap (z - p) = z - p := IntWalk.i64_in _ (by omega)
      have q2 : IntKind.i64.wrap (y + p) = y + p := IntWalk.i64_in _ (by omega)
      have q3 : IntKind.i64.wrap ((n : Int) + 1 - 1) = (n : Int) := by rw [IntWalk.i64_in _ (by omega)]; omega
      have hn0 : (0 : Int) ≤ (n : Int) := by omega
      have hn1 : (n : Int) < (n : Int) + 1 := by omega
      have hd1 : decide (z - p ≤ t) = true := decide_eq_true hzz
      have hd2 : decide (t < y + p) = true := decide_eq_true hla2
      have g1 := Wb.cell f1 hbr
      have g2 := Wb.cell l1 hbr
      have g3 := Wb.cell b2 hzr
      clear hy hz f1 l1 b0 b1 b2 b3
      go_wp2
      refine wp_region_quiet_below (by kernel_rfl) (by kernel_rfl) ?_
      repeat (go_big_quiet_step ((go_at_call 17; exact Wb.call (awake_any _))))
      refine wpQuiet_nil ?_
      rintro _ ⟨⟨wc, HBc⟩, rfl⟩
      go_wp2_with (fail)
      go_ret
      exact ⟨rfl, HB1.trans ((HB.out.trans (HBc.mono HB.out.size)).mono HB1.size)⟩

theorem slides_true (k s p o t : Int) (w : World) : Calls Tryd.prog 10 #[.agg #[.int .i64 k, .int .i64 s, .int .i64 p, .int .i64 o], .int .i64 t] w fun e w' => e = .returned (.bool true) ∧ Below w.heap.size w w' := by
  cases hr : rgtB 2 s p o with
  | false => exact slides_bad k s p o t w 70 rfl rfl fun w => assign_bad 2 s p o t w hr
  | true =>
    by_cases ht : 0 ≤ t ∧ t ≤ 1048576
    · exact slides_ok k s p o t w hr ht.1 ht.2
    · exact slides_bad k s p o t w 71 rfl rfl fun w => assign_late 2 s p o t w hr ht

end Go.Proofs.YtofollamkcgknaaDoor
