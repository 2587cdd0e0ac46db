/-
Contracts of cmp.Or, orderHeads, appendTwins, order, checkAll and Compare of package value, at points.
-/
import Derived.Test.YtjahennckibleaaChk
import Derived.StillTailTactics
namespace Go.Proofs.Ytjahennckibleaa
open Go.RowKit

/-- The first of two that is not 0. -/
def orVal (c3 c4 : Int) : Int := if c3 = 0 then c4 else c3

set_option maxHeartbeats 400000 in
theorem or_points (B : Nat) (c3 c4 : Int) (w : World) (h0 : w.cell? ⟨B, 0, none⟩ = some (.int .i64 0)) (h1 : w.cell? ⟨B, 1, none⟩ = some (.int .i64 0)) (h2 : w.cell? ⟨B, 2, none⟩ = some (.int .i64 0)) (h3 : w.cell? ⟨B, 3, none⟩ = some (.int .i64 c3)) (h4 : w.cell? ⟨B, 4, none⟩ = some (.int .i64 c4)) :
    Calls Try.prog 21 #[.slice (some ⟨B, 0, none⟩) 5 5] w fun e w' => e = .returned (.int .i64 (orVal c3 c4)) ∧ w = w' := by
  by_cases e3 : c3 = 0
  · subst e3
    rw [show orVal 0 c4 = c4 from if_pos rfl]
    by_cases e4 : c4 = 0
    · subst e4
      go_enter Try.func21, Try.ntmps21
      go_wp2
      refine wp_loop_rounds 6 ?_
      repeat (rw [rounds_succ]; go_wp2)
      go_ret
      exact ⟨rfl, rfl⟩
    · have n4 : (c4 != 0) = true := by simp [e4]
      clear e4
      go_enter Try.func21, Try.ntmps21
      go_wp2
      refine wp_loop_rounds 6 ?_
      repeat (rw [rounds_succ]; go_wp2)
      go_ret
      exact ⟨rfl, rfl⟩
  · rw [show orVal c3 c4 = c3 from if_neg e3]
    have n3 : (c3 != 0) = true := by simp [e3]
    clear e3
    go_enter Try.func21, Try.ntmps21
    go_wp2
    refine wp_loop_rounds 6 ?_
    repeat (rw [rounds_succ]; go_wp2)
    go_ret
    exact ⟨rfl, rfl⟩

def sgnOf (a b : Int) : Int := if a < b then -1 else if b < a then 1 else 0

theorem cmpi_same (a : Int) (w : World) : Calls Try.prog 19 #[.int .i64 a, .int .i64 a] w fun e w' => e = .returned (.int .i64 0) ∧ w' = w :=
  (cmpi_any a a w).mono fun _ _ h => ⟨by rw [h.1, if_neg (by omega), if_neg (by omega)], h.2.symm⟩
theorem cmps_q (w : World) : Calls Try.prog 22 #[.string ⟨#[]⟩, .string ⟨#[]⟩] w fun e w' => e = .returned (.int .i64 0) ∧ w' = w :=
  (cmps_nil w).mono fun _ _ h => ⟨h.1, h.2.symm⟩
theorem cmpf_q (x y : Nat) (a b : Int) (hx : Rep x a) (hy : Rep y b) (w : World) : Calls Try.prog 23 #[.float .f64 x, .float .f64 y] w fun e w' => e = .returned (.int .i64 (sgnOf a b)) ∧ w' = w :=
  (cmpf_any x y a b hx hy w).mono fun _ _ h => ⟨h.1, h.2.symm⟩

/-- How two points stand to each other. -/
def ordI (a b c d : Int) : Int := orVal (sgnOf a c) (sgnOf b d)

set_option maxRecDepth 100000 in
set_option maxHeartbeats 400000 in
theorem heads_points (x y u v : Nat) (a b c d : Int) (hx : Rep x a) (hy : Rep y b) (hu : Rep u c) (hv : Rep v d) (w : World) :
    Calls Try.prog 17 #[.agg #[.int .i64 5, .int .i64 0, .string ⟨#[]⟩, .complex .f64 x y, .slice none 0 0], .agg #[.int .i64 5, .int .i64 0, .string ⟨#[]⟩, .complex .f64 u v, .slice none 0 0]] w fun e w' => e = .returned (.int .i64 (ordI a b c d)) ∧ Below w.heap.size w w' := by
  go_enter Try.func17, Try.ntmps17
  go_wp2
  refine wp_region_still_tail 29 (by kernel_rfl) (by kernel_rfl) ?_
  simp only [List.take_succ_cons, List.take_zero, List.drop_succ_cons, List.drop_zero]
  change wpStill _ _ (World.drew _) _ _ _
  iterate 4 still_step
  still_call (cmpi_same _ _)
  iterate 4 still_step
  still_call (cmpi_same _ _)
  iterate 4 still_step
  still_call (cmps_q _)
  iterate 6 still_step
  still_call (cmpf_q x u a c hx hu _)
  iterate 6 still_step
  still_call (cmpf_q y v b d hy hv _)
  refine wpStill_nil ?_
  change wpList _ _ _ _ _ (World.drew _)
  go_wp2_with fail
  refine (or_points (w.heap.size + 1 + 1) (sgnOf a c) (sgnOf b d) _ (by go_simp) (by go_simp) (by go_simp) (by go_simp) (by go_simp)).mono ?_
  rintro e w1 ⟨rfl, rfl⟩
  go_wp2
  go_ret
  exact ⟨rfl, ((((Below.refl _ _).alloc (Nat.le_refl _) _).alloc (by simp) _).alloc (by simp; omega) _).drew⟩

theorem twins_nil (w : World) : Calls Try.prog 18 #[.slice none 0 0, .slice none 0 0, .slice none 0 0] w fun e w' => e = .returned (.slice none 0 0) ∧ w = w' := by
  go_enter Try.func18, Try.ntmps18
  go_wp2
  refine wp_loop_rounds 1 ?_
  rw [rounds_succ]
  go_wp2
  go_ret
  exact ⟨rfl, rfl⟩

set_option maxRecDepth 100000 in
set_option maxHeartbeats 400000 in
theorem order_points (x y u v : Nat) (a b c d : Int) (hx : Rep x a) (hy : Rep y b) (hu : Rep u c) (hv : Rep v d) (w : World) :
    Calls Try.prog 15 #[.agg #[.int .i64 5, .int .i64 0, .string ⟨#[]⟩, .complex .f64 x y, .slice none 0 0], .agg #[.int .i64 5, .int .i64 0, .string ⟨#[]⟩, .complex .f64 u v, .slice none 0 0]] w fun e w' => e = .returned (.int .i64 (ordI a b c d)) ∧ Below w.heap.size w w' := by
  by_cases ho : ordI a b c d = 0
  · have HO := Lib.hid ho
    clear ho
    go_enter Try.func15, Try.ntmps15
    go_wp2
    go_step3
    go_wp2
    go_step3
    go_wp2
    refine wp_loop_rounds 2 ?_
    rw [rounds_succ]
    go_wp2_with fail
    refine (heads_points x y u v a b c d hx hy hu hv _).mono ?_
    rw [HO.out]
    rintro e w1 ⟨rfl, hb⟩
    obtain ⟨hc, hf⟩ := bcell hb
    have hz := hb.size
    go_wp2_with fail
    refine (twins_nil _).mono ?_
    rintro e w2 ⟨rfl, rfl⟩
    go_wp2_with fail
    refine (cmpi_same _ _).mono ?_
    rintro e w2 ⟨rfl, rfl⟩
    go_wp2
    rw [rounds_succ]
    go_wp2
    try rw [Exit.noGoto_ret]
    go_ret
    exact ⟨by rw [HO.out]; rfl, ((((Below.refl _ _).alloc (Nat.le_refl _) _).alloc (by simp) _).alloc (by simp; omega) _).alloc (by simp; omega) _ |>.trans (hb.mono (by simp; omega))⟩
  · have h1 : (ordI a b c d == 0) = false := by simp [ho]
    have h2 : (ordI a b c d != 0) = true := by simp [ho]
    clear ho
    go_enter Try.func15, Try.ntmps15
    go_wp2
    go_step3
    go_wp2
    go_step3
    go_wp2
    refine wp_loop_rounds 2 ?_
    rw [rounds_succ]
    go_wp2_with fail
    refine (heads_points x y u v a b c d hx hy hu hv _).mono ?_
    rintro e w1 ⟨rfl, hb⟩
    obtain ⟨hc, hf⟩ := bcell hb
    have hz := hb.size
    go_wp2
    try rw [Exit.noGoto_ret]
    go_ret
    exact ⟨rfl, ((((Below.refl _ _).alloc (Nat.le_refl _) _).alloc (by simp) _).alloc (by simp; omega) _).alloc (by simp; omega) _ |>.trans (hb.mono (by simp; omega))⟩

set_option maxRecDepth 100000 in
set_option maxHeartbeats 400000 in
theorem checkAll_points (B : Nat) (x y u v : Nat) (a b c d : Int) (hx : Rep x a) (hy : Rep y b) (hu : Rep u c) (hv : Rep v d) (a1 : -1048576 ≤ a) (a2 : a ≤ 1048575) (b1 : -1048576 ≤ b) (b2 : b ≤ 1048575) (c1 : -1048576 ≤ c) (c2 : c ≤ 1048575) (d1 : -1048576 ≤ d) (d2 : d ≤ 1048575) (w : World) (hB : B < w.heap.size)
    (k0 : w.cell? ⟨B, 0, none⟩ = some (.int .i64 5)) (k1 : w.cell? ⟨B, 1, none⟩ = some (.int .i64 0)) (k2 : w.cell? ⟨B, 2, none⟩ = some (.string ⟨#[]⟩)) (k3 : w.cell? ⟨B, 3, none⟩ = some (.complex .f64 x y)) (k4 : w.cell? ⟨B, 4, none⟩ = some (.slice none 0 0))
    (k5 : w.cell? ⟨B, 5, none⟩ = some (.int .i64 5)) (k6 : w.cell? ⟨B, 6, none⟩ = some (.int .i64 0)) (k7 : w.cell? ⟨B, 7, none⟩ = some (.string ⟨#[]⟩)) (k8 : w.cell? ⟨B, 8, none⟩ = some (.complex .f64 u v)) (k9 : w.cell? ⟨B, 9, none⟩ = some (.slice none 0 0)) :
    Calls Try.prog 14 #[.slice (some ⟨B, 0, none⟩) 2 2] w fun e w' => e = .returned (.int .i64 0) ∧ Below w.heap.size w w' := by
  go_enter Try.func14, Try.ntmps14
  go_wp2
  refine wp_loop_rounds 3 ?_
  rw [rounds_succ]
  go_wp2_with fail
  refine (check_point x y a b hx hy a1 a2 b1 b2 _).mono ?_
  rintro e w1 ⟨rfl, hb⟩
  obtain ⟨hc, hf⟩ := bcell hb
  have hz := hb.size
  go_wp2
  rw [rounds_succ]
  go_wp2_with fail
  refine (check_point u v c d hu hv c1 c2 d1 d2 _).mono ?_
  rintro e w2 ⟨rfl, hb2⟩
  have hz2 := hb2.size
  go_wp2
  rw [rounds_succ]
  go_wp2
  go_ret
  exact ⟨rfl, ((((Below.refl _ _).alloc (Nat.le_refl _) _).trans (hb.mono (by simp))).alloc (by simp at hz; omega) _).trans (hb2.mono (by simp at hz ⊢; omega))⟩

set_option maxRecDepth 100000 in
set_option maxHeartbeats 400000 in
theorem compare_points (x y u v : Nat) (a b c d : Int) (hx : Rep x a) (hy : Rep y b) (hu : Rep u c) (hv : Rep v d) (a1 : -1048576 ≤ a) (a2 : a ≤ 1048575) (b1 : -1048576 ≤ b) (b2 : b ≤ 1048575) (c1 : -1048576 ≤ c) (c2 : c ≤ 1048575) (d1 : -1048576 ≤ d) (d2 : d ≤ 1048575) (w : World) :
    Calls Try.prog 9 #[.agg #[.int .i64 5, .int .i64 0, .string ⟨#[]⟩, .complex .f64 x y, .slice none 0 0], .agg #[.int .i64 5, .int .i64 0, .string ⟨#[]⟩, .complex .f64 u v, .slice none 0 0]] w fun e w' => e = .returned (.tuple #[.int .i64 (ordI a b c d), .int .i64 0]) ∧ Below w.heap.size w w' := by
  go_enter Try.func9, Try.ntmps9
  go_wp2_with fail
  refine (checkAll_points (w.heap.size + 1 + 1) x y u v a b c d hx hy hu hv a1 a2 b1 b2 c1 c2 d1 d2 _ (by simp) (by go_simp) (by go_simp) (by go_simp) (by go_simp) (by go_simp) (by go_simp) (by go_simp) (by go_simp) (by go_simp) (by go_simp)).mono ?_
  rintro e w1 ⟨rfl, hb⟩
  obtain ⟨hc, hf⟩ := bcell hb
  have hz := hb.size
  go_wp2_with fail
  refine (order_points x y u v a b c d hx hy hu hv _).mono ?_
  rintro e w2 ⟨rfl, hb2⟩
  go_wp2
  go_ret2
  exact ⟨rfl, (((((Below.refl _ _).alloc (Nat.le_refl _) _).alloc (by simp) _).alloc (by simp; omega) _).trans (hb.mono (by simp; omega))).trans (hb2.mono (by simp at hz; omega))⟩
end Go.Proofs.Ytjahennckibleaa
