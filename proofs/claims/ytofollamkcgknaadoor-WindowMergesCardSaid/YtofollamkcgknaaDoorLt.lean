/-
The walk of WindowTiles.
-/
import Derived.Test.YtofollamkcgknaaDoorLa
set_option linter.unusedVariables false
namespace Go.Proofs.YtofollamkcgknaaDoor
open Go.RowKit

theorem num_one (o s t : Int) (hs : 1 ≤ s) : numA o s s t = 1 := by
  obtain ⟨h1, h2⟩ := lastA o s s t hs (Int.le_refl _)
  have h3 := (fstA_in o s s t hs).1
  have hp := numA_pos o s s t
  refine Decidable.byContradiction fun hc => ?_
  have : s * 1 ≤ s * ((numA o s s t : Int) - 1) := Int.mul_le_mul_of_nonneg_left (by omega) (by omega)
  omega

theorem ap_one (a d s : Int) : ap a d s 1 = [(a, a + s)] := by
  simp [ap]

theorem tile_asg (o s t : Int) (hs : 1 ≤ s) : asg 1 s 0 o t = [(fstA o s s t, fstA o s s t + s)] := by
  show ap (fstA o s s t) s s (numA o s s t) = _
  rw [num_one o s t hs, ap_one]

theorem assign_some (k s p o t : Int) (w : World) :
    Calls Tryd.prog 12 #[.agg #[.int .i64 k, .int .i64 s, .int .i64 p, .int .i64 o], .int .i64 t] w fun e w' => (∃ v n, e = .returned (.tuple #[v, .int .i64 n])) ∧ Below w.heap.size w w' :=
  (assign_any k s p o t w).mono fun e w' ⟨h, hb⟩ => by
    rcases h with ⟨_, h⟩ | ⟨_, _, h⟩ | ⟨_, _, _, v, h, _⟩ <;> exact ⟨⟨_, _, h⟩, hb⟩

theorem assign_tile (s o t : Int) (w : World) (hr : rgtB 1 s 0 o = true) (ht : 0 ≤ t) (ht2 : t ≤ 1048576) :
    Calls Tryd.prog 12 #[.agg #[.int .i64 1, .int .i64 s, .int .i64 0, .int .i64 o], .int .i64 t] w fun e w' => (∃ b o' c, e = .returned (.tuple #[.slice (some ⟨b, o', none⟩) 1 c, .int .i64 0]) ∧ b < w'.heap.size ∧ w'.cell? ⟨b, o', none⟩ = some (.int .i64 (fstA o s s t)) ∧ w'.cell? ⟨b, o' + 1, none⟩ = some (.int .i64 (fstA o s s t + s)) ∧ 1 ≤ c) ∧ Below w.heap.size w w' :=
  (assign_ok 1 s 0 o t w hr ht ht2).mono fun e w' ⟨⟨a, c, he, hv⟩, hb⟩ => by
    have hs : 1 ≤ s := by rcases rgt_of hr with h | h | h | h <;> omega
    rw [tile_asg o s t hs] at hv he
    obtain ⟨a', c', hv', hc, hA⟩ := hv
    injection hv' with e1 e2 e3
    subst e1; subst e3
    obtain ⟨b, o', rfl, _, h2, h3⟩ := hA (by simp)
    have h4 := h3 0 _ rfl
    exact ⟨⟨b, o', c, he, h2, by simpa using h4.1, by simpa using h4.2, hc⟩, hb⟩

set_option maxRecDepth 100000 in
set_option maxHeartbeats 1000000 in
theorem tiles_bad (s o t u : Int) (w : World) (n1 : Int) (hn : (n1 == 0) = false) (hn2 : (n1 != 0) = true)
    (h1 : ∀ w, Calls Tryd.prog 12 #[.agg #[.int .i64 1, .int .i64 s, .int .i64 0, .int .i64 o], .int .i64 t] w fun e w' => e = .returned (.tuple #[.slice none 0 0, .int .i64 n1]) ∧ Below w.heap.size w w') :
    Calls Tryd.prog 9 #[.agg #[.int .i64 s, .int .i64 o, .int .i64 t, .int .i64 u]] w fun e w' => e = .returned (.bool true) ∧ Below w.heap.size w w' := by
  have H1 := Lib.hid h1
  clear h1
  go_enter Tryd.func9, Tryd.ntmps9
  go_wp2
  go_quiet (fail)
  have HB0 : Below w.heap.size w ((w.alloc (.cells #[.int .i64 s, .int .i64 o, .int .i64 t, .int .i64 u] 61)).drewN nq) := below_drewN ((Below.refl _ _).alloc (Nat.le_refl _) _) _
  generalize (w.alloc (.cells #[.int .i64 s, .int .i64 o, .int .i64 t, .int .i64 u] 61)).drewN nq = W at *
  have hW := HB0.size
  go_wp2_with (first
    | (go_at_call 17; refine (awake_any _).mono ?_; rintro e wc ⟨rfl, hbc⟩; have HBc : Below w.heap.size w wc := HBb.trans (hbc.mono HBb.size))
    | (go_at_call 12; have tok := hz1; refine (assign_some 1 s 0 o u _).mono ?_; rintro e wb ⟨⟨v2, n2, rfl⟩, hbb⟩; have HBb : Below w.heap.size w wb := HBa.trans (hbb.mono HBa.size))
    | (go_at_call 12; refine (H1.out _).mono ?_; rintro e wa ⟨rfl, hba⟩; have HBa : Below w.heap.size w wa := (HB0.alloc HB0.size _).trans (hba.mono (by simp <;> omega)); have hx := (hba.block W.heap.size (by simp)).trans (heap_new_at rfl); obtain ⟨x0, x1, x2, x3⟩ := box4 hx; have hz1 := cell_lt hx; clear hx hba))
  go_ret
  exact ⟨rfl, HBc⟩

set_option maxRecDepth 100000 in
set_option maxHeartbeats 1000000 in
theorem tiles_late (s o t u : Int) (w : World) (hr : rgtB 1 s 0 o = true) (ht : 0 ≤ t) (ht2 : t ≤ 1048576) (hu : ¬ (0 ≤ u ∧ u ≤ 1048576)) :
    Calls Tryd.prog 9 #[.agg #[.int .i64 s, .int .i64 o, .int .i64 t, .int .i64 u]] w fun e w' => e = .returned (.bool true) ∧ Below w.heap.size w w' := by
  have HR := Lib.hid hr
  have HU := Lib.hid hu
  clear hr hu
  go_enter Tryd.func9, Tryd.ntmps9
  go_wp2
  go_quiet (fail)
  have HB0 : Below w.heap.size w ((w.alloc (.cells #[.int .i64 s, .int .i64 o, .int .i64 t, .int .i64 u] 61)).drewN nq) := below_drewN ((Below.refl _ _).alloc (Nat.le_refl _) _) _
  generalize (w.alloc (.cells #[.int .i64 s, .int .i64 o, .int .i64 t, .int .i64 u] 61)).drewN nq = W at *
  have hW := HB0.size
  go_wp2_with (first
    | (go_at_call 17; refine (awake_any _).mono ?_; rintro e wc ⟨rfl, hbc⟩; have HBc : Below w.heap.size w wc := HBb.trans (hbc.mono HBb.size))
    | (go_at_call 12; have tok := hz1; refine (assign_late 1 s 0 o u _ HR.out HU.out).mono ?_; rintro e wb ⟨rfl, hbb⟩; have HBb : Below w.heap.size w wb := HBa.trans (hbb.mono HBa.size))
    | (go_at_call 12; refine (assign_tile s o t _ HR.out ht ht2).mono ?_; rintro e wa ⟨⟨b1, o1, c1, rfl, hbl1, hc1, hd1, hcap1⟩, hba⟩; have HBa : Below w.heap.size w wa := (HB0.alloc HB0.size _).trans (hba.mono (by simp <;> omega)); have hx := (hba.block W.heap.size (by simp)).trans (heap_new_at rfl); obtain ⟨x0, x1, x2, x3⟩ := box4 hx; have hz1 := cell_lt hx; clear hx hba))
  go_ret
  exact ⟨rfl, HBc⟩

theorem tiles_apart (o s t u : Int) (hs : 1 ≤ s) : fstA o s s t = fstA o s s u ∨ fstA o s s t + s ≤ fstA o s s u ∨ fstA o s s u + s ≤ fstA o s s t := by
  have h1 := fstA_mod o s s t
  have h2 := fstA_mod o s s u
  obtain ⟨q1, e1⟩ := Int.dvd_of_emod_eq_zero h1
  obtain ⟨q2, e2⟩ := Int.dvd_of_emod_eq_zero h2
  rcases Int.lt_trichotomy q1 q2 with h | h | h
  · have : s * (q1 + 1) ≤ s * q2 := Int.mul_le_mul_of_nonneg_left (by omega) (by omega)
    rw [Int.mul_add] at this
    omega
  · subst h; omega
  · have : s * (q2 + 1) ≤ s * q1 := Int.mul_le_mul_of_nonneg_left (by omega) (by omega)
    rw [Int.mul_add] at this
    omega

theorem tile_tmod (o s t : Int) : (fstA o s s t - o).tmod s = 0 := Int.tmod_eq_zero_of_dvd (Int.dvd_of_emod_eq_zero (fstA_mod o s s t))

set_option maxRecDepth 100000 in
set_option maxHeartbeats 1000000 in
theorem tiles_ok (s o t u : Int) (w : World) (hr : rgtB 1 s 0 o = true) (ht : 0 ≤ t) (ht2 : t ≤ 1048576) (hu : 0 ≤ u) (hu2 : u ≤ 1048576) :
    Calls Tryd.prog 9 #[.agg #[.int .i64 s, .int .i64 o, .int .i64 t, .int .i64 u]] w fun e w' => e = .returned (.bool true) ∧ Below w.heap.size w w' := by
  have hs : 1 ≤ s ∧ s ≤ 1048576 ∧ 0 ≤ o ∧ o < s := by rcases rgt_of hr with h | h | h | h <;> omega
  obtain ⟨hs1, hs2, ho1, ho2⟩ := hs
  have HR := Lib.hid hr
  have HAP := Lib.hid (tiles_apart o s t u hs1)
  have hm := tile_tmod o s t
  have hi1 := fstA_in o s s t hs1
  have hi2 := fstA_in o s s u hs1
  clear hr
  go_enter Tryd.func9, Tryd.ntmps9
  go_wp2
  go_quiet (fail)
  have HB0 : Below w.heap.size w ((w.alloc (.cells #[.int .i64 s, .int .i64 o, .int .i64 t, .int .i64 u] 61)).drewN nq) := below_drewN ((Below.refl _ _).alloc (Nat.le_refl _) _) _
  generalize (w.alloc (.cells #[.int .i64 s, .int .i64 o, .int .i64 t, .int .i64 u] 61)).drewN nq = W at *
  have hW := HB0.size
  go_wp2_with (first
    | (go_at_call 12; have tok := hz1; refine (assign_tile s o u _ HR.out hu hu2).mono ?_; rintro e W2 ⟨⟨b2, o2, c2, rfl, hbl2, hc2, hd2, hcap2⟩, hbb⟩; have HBb : Below w.heap.size w W2 := HBa.trans (hbb.mono HBa.size); have hc1 := (hbb.cell (p := ⟨b1, o1, none⟩) hbl1).trans hc1; have hd1 := (hbb.cell (p := ⟨b1, o1 + 1, none⟩) hbl1).trans hd1; have hbl1 : b1 < W2.heap.size := Nat.lt_of_lt_of_le hbl1 hbb.size; clear x0 x1 x2 x3)
    | (go_at_call 12; refine (assign_tile s o t _ HR.out ht ht2).mono ?_; rintro e wa ⟨⟨b1, o1, c1, rfl, hbl1, hc1, hd1, hcap1⟩, hba⟩; have HBa : Below w.heap.size w wa := (HB0.alloc HB0.size _).trans (hba.mono (by simp <;> omega)); have hx := (hba.block W.heap.size (by simp)).trans (heap_new_at rfl); obtain ⟨x0, x1, x2, x3⟩ := box4 hx; have hz1 := cell_lt hx; clear hx hba))
  generalize fstA o s s t = f1 at *
  generalize fstA o s s u = f2 at *
  obtain ⟨z1, hz1'⟩ : ∃ z1, z1 = f1 + s := ⟨_, rfl⟩
  obtain ⟨z2, hz2'⟩ : ∃ z2, z2 = f2 + s := ⟨_, rfl⟩
  rw [← hz1'] at hd1
  rw [← hz2'] at hd2
  have HZ1 := Lib.hid hz1'
  have HZ2 := Lib.hid hz2'
  have q1 : IntKind.i64.wrap (z1 - f1) = s := by rw [IntWalk.i64_in _ (by omega)]; omega
  have q2 : IntKind.i64.wrap (f1 - o) = f1 - o := IntWalk.i64_in _ (by omega)
  have q3 : IntKind.i64.wrap ((f1 - o).tmod s) = 0 := by rw [hm]; rfl
  have q4 : (s == 0) = false := by simp; omega
  clear hz1' hz2'
  go_quiet (fail)
  go_wp2
  clear q1 q2 q3 q4 hm
  have k1 : (W2.drewN nq).cell? ⟨b1, o1, none⟩ = some (.int .i64 f1) := hc1
  have k2 : (W2.drewN nq).cell? ⟨b1, o1 + 1, none⟩ = some (.int .i64 z1) := hd1
  have k3 : (W2.drewN nq).cell? ⟨b2, o2, none⟩ = some (.int .i64 f2) := hc2
  have k4 : (W2.drewN nq).cell? ⟨b2, o2 + 1, none⟩ = some (.int .i64 z2) := hd2
  have HB3 := below_drewN HBb nq
  have hbl1' : b1 < (W2.drewN nq).heap.size := hbl1
  have hbl2' : b2 < (W2.drewN nq).heap.size := hbl2
  clear hc1 hd1 hc2 hd2 hbl1 hbl2 HBb
  have hc1 := k1; have hd1 := k2; have hc2 := k3; have hd2 := k4; have hbl1 := hbl1'; have hbl2 := hbl2'; have HBb := HB3
  clear k1 k2 k3 k4 hbl1' hbl2' HB3
  generalize W2.drewN nq = W3 at *
  have hRR : Below W3.heap.size W3 W3 := Below.refl _ _
  rcases HAP.out with h | h | h
  · subst h
    obtain rfl : z1 = z2 := by rw [HZ1.out, HZ2.out]
    have g1 := Wb.cell hc1 hbl1
    have g2 := Wb.cell hd1 hbl1
    have g3 := Wb.cell hc2 hbl2
    have g4 := Wb.cell hd2 hbl2
    clear hc1 hd1 hc2 hd2
    refine wp_region_quiet_below (by kernel_rfl) (by kernel_rfl) ?_
    repeat (go_big_quiet_step ((go_at_call 17; exact Wb.call (awake_any _))))
    refine wpQuiet_nil ?_
    rintro _ ⟨⟨wc, HBc⟩, rfl⟩
    go_wp2_with (fail)
    go_ret
    exact ⟨rfl, HBb.trans (HBc.mono HBb.size)⟩
  · have h' : z1 ≤ f2 := by rw [HZ1.out]; exact h
    have hne2 : ¬ f1 = f2 := by have := HZ1.out; omega
    have hne : (f1 == f2) = false := by simpa using hne2
    have hne3 : decide (f1 = f2) = false := decide_eq_false hne2
    have hd' : decide (z1 ≤ f2) = true := decide_eq_true h'
    clear h
    have g1 := Wb.cell hc1 hbl1
    have g2 := Wb.cell hd1 hbl1
    have g3 := Wb.cell hc2 hbl2
    have g4 := Wb.cell hd2 hbl2
    clear hc1 hd1 hc2 hd2
    refine wp_region_quiet_below (by kernel_rfl) (by kernel_rfl) ?_
    repeat (go_big_quiet_step ((go_at_call 17; exact Wb.call (awake_any _))))
    refine wpQuiet_nil ?_
    rintro _ ⟨⟨wc, HBc⟩, rfl⟩
    go_wp2_with (fail)
    go_ret
    exact ⟨rfl, HBb.trans (HBc.mono HBb.size)⟩
  · have h' : z2 ≤ f1 := by rw [HZ2.out]; exact h
    have h2 : ¬ z1 ≤ f2 := by have := HZ1.out; have := HZ2.out; omega
    have hne2 : ¬ f1 = f2 := by have := HZ2.out; omega
    have hne : (f1 == f2) = false := by simpa using hne2
    have hne3 : decide (f1 = f2) = false := decide_eq_false hne2
    have hd' : decide (z2 ≤ f1) = true := decide_eq_true h'
    have hd2' : decide (z1 ≤ f2) = false := decide_eq_false h2
    clear h
    have g1 := Wb.cell hc1 hbl1
    have g2 := Wb.cell hd1 hbl1
    have g3 := Wb.cell hc2 hbl2
    have g4 := Wb.cell hd2 hbl2
    clear hc1 hd1 hc2 hd2
    refine wp_region_quiet_below (by kernel_rfl) (by kernel_rfl) ?_
    repeat (go_big_quiet_step ((go_at_call 17; exact Wb.call (awake_any _))))
    refine wpQuiet_nil ?_
    rintro _ ⟨⟨wc, HBc⟩, rfl⟩
    go_wp2_with (fail)
    go_ret
    exact ⟨rfl, HBb.trans (HBc.mono HBb.size)⟩

theorem tiles_true (s o t u : Int) (w : World) : Calls Tryd.prog 9 #[.agg #[.int .i64 s, .int .i64 o, .int .i64 t, .int .i64 u]] w fun e w' => e = .returned (.bool true) ∧ Below w.heap.size w w' := by
  cases hr : rgtB 1 s 0 o with
  | false => exact tiles_bad s o t u w 70 rfl rfl fun w => assign_bad 1 s 0 o t w hr
  | true =>
    by_cases ht : 0 ≤ t ∧ t ≤ 1048576
    · by_cases hu : 0 ≤ u ∧ u ≤ 1048576
      · exact tiles_ok s o t u w hr ht.1 ht.2 hu.1 hu.2
      · exact tiles_late s o t u w hr ht.1 ht.2 hu
    · exact tiles_bad s o t u w 71 rfl rfl fun w => assign_late 1 s 0 o t w hr ht

end Go.Proofs.YtofollamkcgknaaDoor
