/-
Contracts of bringBack, Plus, Times and Conj of package value, at points.
-/
import Derived.Test.YtjahennckibleaaOrd
namespace Go.Proofs.Ytjahennckibleaa
open Go.RowKit

theorem foldI_in {n : Int} (h1 : -1048576 ≤ n) (h2 : n ≤ 1048575) : foldI n = n := by unfold foldI; omega

theorem mul_small {a b : Int} (a1 : -1048576 ≤ a) (a2 : a ≤ 1048575) (b1 : -1048576 ≤ b) (b2 : b ≤ 1048575) : (a * b).natAbs ≤ 1099511627776 := by
  rw [Int.natAbs_mul]
  have h1 : a.natAbs ≤ 1048576 := by omega
  have h2 : b.natAbs ≤ 1048576 := by omega
  exact Nat.le_trans (Nat.mul_le_mul h1 h2) (by decide)

theorem rep_cmul {x y u v : Nat} {a b c d : Int} (hx : Rep x a) (hy : Rep y b) (hu : Rep u c) (hv : Rep v d) (a1 : -1048576 ≤ a) (a2 : a ≤ 1048575) (b1 : -1048576 ≤ b) (b2 : b ≤ 1048575) (c1 : -1048576 ≤ c) (c2 : c ≤ 1048575) (d1 : -1048576 ≤ d) (d2 : d ≤ 1048575) :
    ∃ re im, cMulBits x y u v = some (re, im) ∧ Rep re (a * c - b * d) ∧ Rep im (a * d + b * c) := by
  have m1 := mul_small a1 a2 c1 c2
  have m2 := mul_small b1 b2 d1 d2
  have m3 := mul_small a1 a2 d1 d2
  have m4 := mul_small b1 b2 c1 c2
  obtain ⟨r1, e1, p1⟩ := rep_mul hx hu (by omega)
  obtain ⟨r2, e2, p2⟩ := rep_mul hy hv (by omega)
  obtain ⟨r3, e3, p3⟩ := rep_sub p1 p2 (by omega)
  obtain ⟨r4, e4, p4⟩ := rep_mul hx hv (by omega)
  obtain ⟨r5, e5, p5⟩ := rep_mul hy hu (by omega)
  obtain ⟨r6, e6, p6⟩ := rep_add p4 p5 (by omega)
  exact ⟨r3, r6, by simp [cMulBits, e1, e2, e3, e4, e5, e6], p3, p6⟩

theorem rep_cadd {x y u v : Nat} {a b c d : Int} (hx : Rep x a) (hy : Rep y b) (hu : Rep u c) (hv : Rep v d) (a1 : -1048576 ≤ a) (a2 : a ≤ 1048575) (b1 : -1048576 ≤ b) (b2 : b ≤ 1048575) (c1 : -1048576 ≤ c) (c2 : c ≤ 1048575) (d1 : -1048576 ≤ d) (d2 : d ≤ 1048575) :
    ∃ re im, cSumBits .add .f64 x y u v = some (re, im) ∧ Rep re (a + c) ∧ Rep im (b + d) := by
  obtain ⟨r1, e1, p1⟩ := rep_add hx hu (by omega)
  obtain ⟨r2, e2, p2⟩ := rep_add hy hv (by omega)
  exact ⟨r1, r2, by simp [cSumBits, e1, e2], p1, p2⟩

set_option maxHeartbeats 400000 in
theorem bring_any (x y : Nat) (n m n' m' : Int) (hx : Rep x n) (hy : Rep y m) (h1 : n.natAbs < 9007199254740992) (h2 : m.natAbs < 9007199254740992) (e1 : foldI n = n') (e2 : foldI m = m') (w : World) :
    Calls Try.prog 13 #[.complex .f64 x y] w fun e w' => e = .returned (.agg #[.int .i64 5, .int .i64 0, .string ⟨#[]⟩, .complex .f64 (fb n') (fb m'), .slice none 0 0]) ∧ Below w.heap.size w w' := by
  have E1 := Lib.hid e1
  have E2 := Lib.hid e2
  clear e1 e2
  have t1 := toInt_run hx h1
  have t2 := toInt_run hy h2
  clear h1 h2
  go_enter Try.func13, Try.ntmps13
  go_wp2_with fail
  refine (point_any n m _).mono ?_
  rw [E1.out, E2.out]
  rintro e w1 ⟨rfl, hb⟩
  obtain ⟨hc, hf⟩ := bcell hb
  have hz := hb.size
  go_wp2
  refine bodyPost_ret (v := .agg #[.int .i64 5, .int .i64 0, .string ⟨#[]⟩, .complex .f64 (fb n') (fb m'), .slice none 0 0]) (by simp [results, Try.results13, go_sem, hc]) rfl ⟨rfl, ?_⟩
  exact ((((((Below.refl _ _).alloc (Nat.le_refl _) _).trans (hb.mono (by simp))).setCell (Nat.le_refl _) _).setCell (Nat.le_refl _) _).setCell (Nat.le_refl _) _).setCell (Nat.le_refl _) _ |>.setCell (Nat.le_refl _) _

/-- A value of kind k with the parts x and y lies at place o of block B. -/
def Five (w : World) (B o : Nat) (k : Int) (x y : Nat) : Prop :=
  w.cell? ⟨B, o, none⟩ = some (.int .i64 k) ∧ w.cell? ⟨B, o + 1, none⟩ = some (.int .i64 0) ∧ w.cell? ⟨B, o + 2, none⟩ = some (.string ⟨#[]⟩) ∧ w.cell? ⟨B, o + 3, none⟩ = some (.complex .f64 x y) ∧ w.cell? ⟨B, o + 4, none⟩ = some (.slice none 0 0)

/-- The first five places of block B may be written. -/
def Soft (w : World) (B : Nat) : Prop :=
  w.frozen? ⟨B, 0, none⟩ = false ∧ w.frozen? ⟨B, 1, none⟩ = false ∧ w.frozen? ⟨B, 2, none⟩ = false ∧ w.frozen? ⟨B, 3, none⟩ = false ∧ w.frozen? ⟨B, 4, none⟩ = false

theorem Five.below {w w' : World} {B o : Nat} {k : Int} {x y : Nat} (h : Five w B o k x y) (hb : Below w.heap.size w w') (hB : B < w.heap.size) : Five w' B o k x y := by
  obtain ⟨hc, _⟩ := bcell hb
  unfold Five at *
  rw [hc _ _ hB, hc _ _ hB, hc _ _ hB, hc _ _ hB, hc _ _ hB]
  exact h

theorem Soft.below {w w' : World} {B : Nat} (h : Soft w B) (hb : Below w.heap.size w w') (hB : B < w.heap.size) : Soft w' B := by
  obtain ⟨_, hf⟩ := bcell hb
  unfold Soft at *
  rw [hf _ _ hB, hf _ _ hB, hf _ _ hB, hf _ _ hB, hf _ _ hB]
  exact h

/-- What holds at the head of a round of Plus and of Times: the arguments at B, the answer's place R, the sum or product at P. -/
structure Inv (w0 : World) (B R Q : Nat) (x y u v s t : Nat) (w : World) : Prop where
  low : Below w0.heap.size w0 w
  size : Q < w.heap.size
  res : Five w R 0 0 0 0
  resSoft : Soft w R
  acc : Five w Q 0 5 s t
  accSoft : Soft w Q
  one : Five w B 0 5 x y
  two : Five w B 5 5 u v

theorem Inv.below {w0 w w' : World} {B R Q x y u v s t : Nat} (h : Inv w0 B R Q x y u v s t w) (h0 : w0.heap.size ≤ w.heap.size) (hBR : B < R) (hRQ : R < Q) (hb : Below w.heap.size w w') : Inv w0 B R Q x y u v s t w' :=
  ⟨h.low.trans (hb.mono h0), Nat.lt_of_lt_of_le h.size hb.size, h.res.below hb (by have := h.size; omega), h.resSoft.below hb (by have := h.size; omega), h.acc.below hb h.size, h.accSoft.below hb h.size, h.one.below hb (by have := h.size; omega), h.two.below hb (by have := h.size; omega)⟩

theorem Inv.facts {w0 w : World} {B R Q x y u v s t : Nat} (h : Inv w0 B R Q x y u v s t w) :
    (w.cell? ⟨R, 0, none⟩ = some (.int .i64 0) ∧ w.cell? ⟨R, 1, none⟩ = some (.int .i64 0) ∧ w.cell? ⟨R, 2, none⟩ = some (.string ⟨#[]⟩) ∧ w.cell? ⟨R, 3, none⟩ = some (.complex .f64 0 0) ∧ w.cell? ⟨R, 4, none⟩ = some (.slice none 0 0)) ∧ (w.cell? ⟨Q, 0, none⟩ = some (.int .i64 5) ∧ w.cell? ⟨Q, 1, none⟩ = some (.int .i64 0) ∧ w.cell? ⟨Q, 2, none⟩ = some (.string ⟨#[]⟩) ∧ w.cell? ⟨Q, 3, none⟩ = some (.complex .f64 s t) ∧ w.cell? ⟨Q, 4, none⟩ = some (.slice none 0 0)) ∧ (w.cell? ⟨B, 0, none⟩ = some (.int .i64 5) ∧ w.cell? ⟨B, 1, none⟩ = some (.int .i64 0) ∧ w.cell? ⟨B, 2, none⟩ = some (.string ⟨#[]⟩) ∧ w.cell? ⟨B, 3, none⟩ = some (.complex .f64 x y) ∧ w.cell? ⟨B, 4, none⟩ = some (.slice none 0 0)) ∧ (w.cell? ⟨B, 5, none⟩ = some (.int .i64 5) ∧ w.cell? ⟨B, 6, none⟩ = some (.int .i64 0) ∧ w.cell? ⟨B, 7, none⟩ = some (.string ⟨#[]⟩) ∧ w.cell? ⟨B, 8, none⟩ = some (.complex .f64 u v) ∧ w.cell? ⟨B, 9, none⟩ = some (.slice none 0 0)) :=
  ⟨h.res, h.acc, h.one, h.two⟩

theorem Five.new (w : World) (k : Int) (x y : Nat) (t : TypeId) : Five (w.alloc (.cells #[.int .i64 k, .int .i64 0, .string ⟨#[]⟩, .complex .f64 x y, .slice none 0 0] t)) w.heap.size 0 k x y := by
  unfold Five
  go_simp

theorem Five.setCell {w : World} {B o Q i : Nat} {k : Int} {x y : Nat} (h : Five w B o k x y) (hn : B ≠ Q) (z : Value) : Five (w.setCell ⟨Q, i, none⟩ z) B o k x y := by
  have hn' : Q ≠ B := fun e => hn e.symm
  obtain ⟨h0, h1, h2, h3, h4⟩ := h
  unfold Five
  refine ⟨?_, ?_, ?_, ?_, ?_⟩ <;> (rw [World.cell?_setCell_other] <;> first | assumption | (intro e; cases e; exact hn rfl))

theorem Soft.setCell {w : World} {B Q i : Nat} (h : Soft w B) (z : Value) : Soft (w.setCell ⟨Q, i, none⟩ z) B := by
  obtain ⟨h0, h1, h2, h3, h4⟩ := h
  unfold Soft
  go_simp

theorem Five.stored {w : World} {Q : Nat} {k k' : Int} {x y s t : Nat} (h : Five w Q 0 k x y) :
    Five (((((w.setCell ⟨Q, 0, none⟩ (.int .i64 k')).setCell ⟨Q, 1, none⟩ (.int .i64 0)).setCell ⟨Q, 2, none⟩ (.string ⟨#[]⟩)).setCell ⟨Q, 3, none⟩ (.complex .f64 s t)).setCell ⟨Q, 4, none⟩ (.slice none 0 0)) Q 0 k' s t := by
  obtain ⟨h0, h1, h2, h3, h4⟩ := h
  simp only [Nat.zero_add] at h1 h2 h3 h4
  unfold Five
  simp only [Nat.zero_add]
  go_simp

theorem Inv.stored {w0 w : World} {B R Q x y u v s t s' t' : Nat} (h : Inv w0 B R Q x y u v s t w) (h0 : w0.heap.size ≤ R) (hBR : B < R) (hRQ : R < Q) :
    Inv w0 B R Q x y u v s' t' (((((w.setCell ⟨Q, 0, none⟩ (.int .i64 5)).setCell ⟨Q, 1, none⟩ (.int .i64 0)).setCell ⟨Q, 2, none⟩ (.string ⟨#[]⟩)).setCell ⟨Q, 3, none⟩ (.complex .f64 s' t')).setCell ⟨Q, 4, none⟩ (.slice none 0 0)) := by
  have hq : w0.heap.size ≤ Q := by omega
  refine ⟨((((h.low.setCell (by exact hq) _).setCell (by exact hq) _).setCell (by exact hq) _).setCell (by exact hq) _).setCell (by exact hq) _, by simpa using h.size, ?_, ?_, h.acc.stored, ?_, ?_, ?_⟩
  · exact ((((h.res.setCell (by omega) _).setCell (by omega) _).setCell (by omega) _).setCell (by omega) _).setCell (by omega) _
  · exact ((((h.resSoft.setCell _).setCell _).setCell _).setCell _).setCell _
  · exact ((((h.accSoft.setCell _).setCell _).setCell _).setCell _).setCell _
  · exact ((((h.one.setCell (by omega) _).setCell (by omega) _).setCell (by omega) _).setCell (by omega) _).setCell (by omega) _
  · exact ((((h.two.setCell (by omega) _).setCell (by omega) _).setCell (by omega) _).setCell (by omega) _).setCell (by omega) _

theorem rounds_abs {P : Program} {c : Code} {Q : Exit → Act → World → Prop} {n : Nat} {a : Act} {W : World} (F : World → Prop) (h : F W) (k : ∀ w', F w' → Code.rounds P c Q n a w') : Code.rounds P c Q n a W := k W h

set_option maxRecDepth 100000 in
set_option maxHeartbeats 1000000 in
theorem times_points (B : Nat) (x y u v : Nat) (a b c d : Int) (hx : Rep x a) (hy : Rep y b) (hu : Rep u c) (hv : Rep v d) (a1 : -1048576 ≤ a) (a2 : a ≤ 1048575) (b1 : -1048576 ≤ b) (b2 : b ≤ 1048575) (c1 : -1048576 ≤ c) (c2 : c ≤ 1048575) (d1 : -1048576 ≤ d) (d2 : d ≤ 1048575) (w : World) (hB : B < w.heap.size)
    (k1 : Five w B 0 5 x y) (k2 : Five w B 5 5 u v) :
    Calls Try.prog 6 #[.slice (some ⟨B, 0, none⟩) 2 2] w fun e w' => e = .returned (.tuple #[.agg #[.int .i64 5, .int .i64 0, .string ⟨#[]⟩, .complex .f64 (fb (foldI (a * c - b * d))) (fb (foldI (a * d + b * c))), .slice none 0 0], .int .i64 0]) ∧ Below w.heap.size w w' := by
  obtain ⟨r1, i1, f1, p1, p2⟩ := rep_cmul (rep_fb 1 (by omega) (by omega)) (rep_fb 0 (by omega) (by omega)) hx hy (by omega) (by omega) (by omega) (by omega) a1 a2 b1 b2
  rw [show (1 : Int) * a - 0 * b = a by omega] at p1
  rw [show (1 : Int) * b + 0 * a = b by omega] at p2
  obtain ⟨r2, i2, f2, p3, p4⟩ := rep_cmul (rep_fb a (by omega) (by omega)) (rep_fb b (by omega) (by omega)) hu hv a1 a2 b1 b2 c1 c2 d1 d2
  have m1 := mul_small a1 a2 c1 c2
  have m2 := mul_small b1 b2 d1 d2
  have m3 := mul_small a1 a2 d1 d2
  have m4 := mul_small b1 b2 c1 c2
  have g1 := fun (w : World) => run_complex_mul (P := Try.prog) w 23 (fb 1) (fb 0) x y r1 i1 f1
  have g2 := fun (w : World) => run_complex_mul (P := Try.prog) w 23 (fb a) (fb b) u v r2 i2 f2
  clear f1 f2
  go_enter Try.func6, Try.ntmps6
  go_wp2_with fail
  refine (point_any 1 0 _).mono ?_
  rw [foldI_in (n := 1) (by omega) (by omega), foldI_in (n := 0) (by omega) (by omega)]
  rintro e w1 ⟨rfl, hb⟩
  have hz := hb.size
  simp at hz
  have hS1 : w.heap.size < w1.heap.size := by omega
  go_wp2
  refine wp_loop_rounds 3 ?_
  refine rounds_abs (Inv w B w.heap.size w1.heap.size x y u v (fb 1) (fb 0)) ?_ ?_
  · have hb0 : Below w.heap.size w w1 := ((Below.refl _ _).alloc (Nat.le_refl _) _).trans (hb.mono (by simp))
    have ha : Below w1.heap.size w1 (w1.alloc (.cells #[.int .i64 5, .int .i64 0, .string ⟨#[]⟩, .complex .f64 (fb 1) (fb 0), .slice none 0 0] 26)) := (Below.refl _ _).alloc (Nat.le_refl _) _
    obtain ⟨hc, hf⟩ := bcell hb
    refine ⟨hb0.trans (ha.mono (by omega)), by simp, ?_, ?_, ?_, ?_, (k1.below hb0 hB).below ha (by omega), (k2.below hb0 hB).below ha (by omega)⟩
    · refine Five.below ?_ ha hS1
      unfold Five
      go_simp
    · refine Soft.below ?_ ha hS1
      unfold Soft
      go_simp
    · unfold Five
      go_simp
    · unfold Soft
      go_simp
  clear hb k1 k2
  generalize w1.heap.size = Q at *
  clear hz
  intro wa1 hI
  have hI0 := Lib.hid hI
  obtain ⟨⟨u0, u1, u2, u3, u4⟩, ⟨v0, v1, v2, v3, v4⟩, ⟨z0, z1, z2, z3, z4⟩, _⟩ := hI.facts
  have hqs := hI.size
  clear hI
  rw [rounds_succ]
  go_wp2_with fail
  refine (parts_point x y a b hx hy a1 a2 b1 b2 _).mono ?_
  rintro e wb1 ⟨rfl, hb⟩
  have hI1 : Inv w B w.heap.size Q x y u v (fb 1) (fb 0) wb1 := hI0.out.below (by omega) hB hS1 (((Below.refl _ _).alloc (Nat.le_refl _) _).trans (hb.mono (by simp)))
  have hT : Five wb1 wa1.heap.size 0 5 x y := (Five.new wa1 5 x y 26).below hb (by simp)
  have hTs : wa1.heap.size < wb1.heap.size := by have := hb.size; simp at this; omega
  clear hI0 u0 u1 u2 u3 u4 v0 v1 v2 v3 v4 z0 z1 z2 z3 z4 hb
  generalize wa1.heap.size = T at *
  obtain ⟨_, ⟨v0, v1, v2, v3, v4⟩, _⟩ := hI1.facts
  obtain ⟨z0, z1, z2, z3, z4⟩ := hT
  have hI1h := Lib.hid hI1
  clear hI1
  go_wp2_with fail
  refine (bring_any r1 i1 a b a b p1 p2 (by omega) (by omega) (foldI_in a1 a2) (foldI_in b1 b2) _).mono ?_
  rintro e wc1 ⟨rfl, hb⟩
  have hI2 : Inv w B w.heap.size Q x y u v (fb 1) (fb 0) wc1 := hI1h.out.below (by have := hI1h.out.low.size; omega) hB hS1 hb
  clear hI1h v0 v1 v2 v3 v4 z0 z1 z2 z3 z4 hb hTs hqs
  obtain ⟨_, ⟨v0, v1, v2, v3, v4⟩, _⟩ := hI2.facts
  obtain ⟨f0, f1, f2, f3, f4⟩ := hI2.accSoft
  have hI2h := Lib.hid hI2
  clear hI2
  go_wp2
  refine rounds_abs (Inv w B w.heap.size Q x y u v (fb a) (fb b)) (hI2h.out.stored (Nat.le_refl _) hB hS1) ?_
  clear hI2h v0 v1 v2 v3 v4 f0 f1 f2 f3 f4
  intro wa2 hI
  have hI0 := Lib.hid hI
  obtain ⟨⟨u0, u1, u2, u3, u4⟩, ⟨v0, v1, v2, v3, v4⟩, _, ⟨z0, z1, z2, z3, z4⟩⟩ := hI.facts
  have hqs := hI.size
  clear hI
  rw [rounds_succ]
  go_wp2_with fail
  refine (parts_point u v c d hu hv c1 c2 d1 d2 _).mono ?_
  rintro e wb2 ⟨rfl, hb⟩
  have hI1 : Inv w B w.heap.size Q x y u v (fb a) (fb b) wb2 := hI0.out.below (by omega) hB hS1 (((Below.refl _ _).alloc (Nat.le_refl _) _).trans (hb.mono (by simp)))
  have hT : Five wb2 wa2.heap.size 0 5 u v := (Five.new wa2 5 u v 26).below hb (by simp)
  have hTs : wa2.heap.size < wb2.heap.size := by have := hb.size; simp at this; omega
  clear hI0 u0 u1 u2 u3 u4 v0 v1 v2 v3 v4 z0 z1 z2 z3 z4 hb
  generalize wa2.heap.size = T at *
  obtain ⟨_, ⟨v0, v1, v2, v3, v4⟩, _⟩ := hI1.facts
  obtain ⟨z0, z1, z2, z3, z4⟩ := hT
  have hI1h := Lib.hid hI1
  clear hI1
  go_wp2_with fail
  refine (bring_any r2 i2 (a * c - b * d) (a * d + b * c) _ _ p3 p4 (by omega) (by omega) rfl rfl _).mono ?_
  rintro e wc2 ⟨rfl, hb⟩
  have hI2 : Inv w B w.heap.size Q x y u v (fb a) (fb b) wc2 := hI1h.out.below (by have := hI1h.out.low.size; omega) hB hS1 hb
  clear hI1h v0 v1 v2 v3 v4 z0 z1 z2 z3 z4 hb hTs hqs
  obtain ⟨_, ⟨v0, v1, v2, v3, v4⟩, _⟩ := hI2.facts
  obtain ⟨f0, f1, f2, f3, f4⟩ := hI2.accSoft
  have hI2h := Lib.hid hI2
  clear hI2
  go_wp2
  refine rounds_abs (Inv w B w.heap.size Q x y u v (fb (foldI (a * c - b * d))) (fb (foldI (a * d + b * c)))) (hI2h.out.stored (Nat.le_refl _) hB hS1) ?_
  clear hI2h v0 v1 v2 v3 v4 f0 f1 f2 f3 f4
  intro wd hI
  obtain ⟨⟨u0, u1, u2, u3, u4⟩, ⟨v0, v1, v2, v3, v4⟩, _⟩ := hI.facts
  obtain ⟨f0, f1, f2, f3, f4⟩ := hI.resSoft
  have hIh := Lib.hid hI
  clear hI
  rw [rounds_succ]
  go_wp2
  refine bodyPost_ret (v := .tuple #[.agg #[.int .i64 5, .int .i64 0, .string ⟨#[]⟩, .complex .f64 (fb (foldI (a * c - b * d))) (fb (foldI (a * d + b * c))), .slice none 0 0], .int .i64 0]) (by simp [results, Try.results6, go_sem, u0, u1, u2, u3, u4]) rfl ⟨rfl, ?_⟩
  exact ((((hIh.out.low.setCell (Nat.le_refl _) _).setCell (Nat.le_refl _) _).setCell (Nat.le_refl _) _).setCell (Nat.le_refl _) _).setCell (Nat.le_refl _) _

set_option maxRecDepth 100000 in
set_option maxHeartbeats 1000000 in
theorem plus_points (B : Nat) (x y u v : Nat) (a b c d : Int) (hx : Rep x a) (hy : Rep y b) (hu : Rep u c) (hv : Rep v d) (a1 : -1048576 ≤ a) (a2 : a ≤ 1048575) (b1 : -1048576 ≤ b) (b2 : b ≤ 1048575) (c1 : -1048576 ≤ c) (c2 : c ≤ 1048575) (d1 : -1048576 ≤ d) (d2 : d ≤ 1048575) (w : World) (hB : B < w.heap.size)
    (k1 : Five w B 0 5 x y) (k2 : Five w B 5 5 u v) :
    Calls Try.prog 7 #[.slice (some ⟨B, 0, none⟩) 2 2] w fun e w' => e = .returned (.tuple #[.agg #[.int .i64 5, .int .i64 0, .string ⟨#[]⟩, .complex .f64 (fb (foldI (a + c))) (fb (foldI (b + d))), .slice none 0 0], .int .i64 0]) ∧ Below w.heap.size w w' := by
  obtain ⟨r1, i1, f1, p1, p2⟩ := rep_cadd (rep_fb 0 (by omega) (by omega)) (rep_fb 0 (by omega) (by omega)) hx hy (by omega) (by omega) (by omega) (by omega) a1 a2 b1 b2
  rw [Int.zero_add] at p1 p2
  obtain ⟨r2, i2, f2, p3, p4⟩ := rep_cadd (rep_fb a (by omega) (by omega)) (rep_fb b (by omega) (by omega)) hu hv a1 a2 b1 b2 c1 c2 d1 d2
  have g1 := fun (w : World) => run_complex_sum (P := Try.prog) w .add (.inl rfl) 23 .f64 (fb 0) (fb 0) x y r1 i1 f1
  have g2 := fun (w : World) => run_complex_sum (P := Try.prog) w .add (.inl rfl) 23 .f64 (fb a) (fb b) u v r2 i2 f2
  clear f1 f2
  go_enter Try.func7, Try.ntmps7
  go_wp2_with fail
  refine (point_any 0 0 _).mono ?_
  rw [foldI_in (n := 0) (by omega) (by omega)]
  rintro e w1 ⟨rfl, hb⟩
  have hz := hb.size
  simp at hz
  have hS1 : w.heap.size < w1.heap.size := by omega
  go_wp2
  refine wp_loop_rounds 3 ?_
  refine rounds_abs (Inv w B w.heap.size w1.heap.size x y u v (fb 0) (fb 0)) ?_ ?_
  · have hb0 : Below w.heap.size w w1 := ((Below.refl _ _).alloc (Nat.le_refl _) _).trans (hb.mono (by simp))
    have ha : Below w1.heap.size w1 (w1.alloc (.cells #[.int .i64 5, .int .i64 0, .string ⟨#[]⟩, .complex .f64 (fb 0) (fb 0), .slice none 0 0] 26)) := (Below.refl _ _).alloc (Nat.le_refl _) _
    obtain ⟨hc, hf⟩ := bcell hb
    refine ⟨hb0.trans (ha.mono (by omega)), by simp, ?_, ?_, ?_, ?_, (k1.below hb0 hB).below ha (by omega), (k2.below hb0 hB).below ha (by omega)⟩
    · refine Five.below ?_ ha hS1
      unfold Five
      go_simp
    · refine Soft.below ?_ ha hS1
      unfold Soft
      go_simp
    · unfold Five
      go_simp
    · unfold Soft
      go_simp
  clear hb k1 k2
  generalize w1.heap.size = Q at *
  clear hz
  intro wa1 hI
  have hI0 := Lib.hid hI
  obtain ⟨⟨u0, u1, u2, u3, u4⟩, ⟨v0, v1, v2, v3, v4⟩, ⟨z0, z1, z2, z3, z4⟩, _⟩ := hI.facts
  have hqs := hI.size
  clear hI
  rw [rounds_succ]
  go_wp2_with fail
  refine (parts_point x y a b hx hy a1 a2 b1 b2 _).mono ?_
  rintro e wb1 ⟨rfl, hb⟩
  have hI1 : Inv w B w.heap.size Q x y u v (fb 0) (fb 0) wb1 := hI0.out.below (by omega) hB hS1 (((Below.refl _ _).alloc (Nat.le_refl _) _).trans (hb.mono (by simp)))
  have hT : Five wb1 wa1.heap.size 0 5 x y := (Five.new wa1 5 x y 26).below hb (by simp)
  have hTs : wa1.heap.size < wb1.heap.size := by have := hb.size; simp at this; omega
  clear hI0 u0 u1 u2 u3 u4 v0 v1 v2 v3 v4 z0 z1 z2 z3 z4 hb
  generalize wa1.heap.size = T at *
  obtain ⟨_, ⟨v0, v1, v2, v3, v4⟩, _⟩ := hI1.facts
  obtain ⟨z0, z1, z2, z3, z4⟩ := hT
  have hI1h := Lib.hid hI1
  clear hI1
  go_wp2_with fail
  refine (bring_any r1 i1 a b a b p1 p2 (by omega) (by omega) (foldI_in a1 a2) (foldI_in b1 b2) _).mono ?_
  rintro e wc1 ⟨rfl, hb⟩
  have hI2 : Inv w B w.heap.size Q x y u v (fb 0) (fb 0) wc1 := hI1h.out.below (by have := hI1h.out.low.size; omega) hB hS1 hb
  clear hI1h v0 v1 v2 v3 v4 z0 z1 z2 z3 z4 hb hTs hqs
  obtain ⟨_, ⟨v0, v1, v2, v3, v4⟩, _⟩ := hI2.facts
  obtain ⟨f0, f1, f2, f3, f4⟩ := hI2.accSoft
  have hI2h := Lib.hid hI2
  clear hI2
  go_wp2
  refine rounds_abs (Inv w B w.heap.size Q x y u v (fb a) (fb b)) (hI2h.out.stored (Nat.le_refl _) hB hS1) ?_
  clear hI2h v0 v1 v2 v3 v4 f0 f1 f2 f3 f4
  intro wa2 hI
  have hI0 := Lib.hid hI
  obtain ⟨⟨u0, u1, u2, u3, u4⟩, ⟨v0, v1, v2, v3, v4⟩, _, ⟨z0, z1, z2, z3, z4⟩⟩ := hI.facts
  have hqs := hI.size
  clear hI
  rw [rounds_succ]
  go_wp2_with fail
  refine (parts_point u v c d hu hv c1 c2 d1 d2 _).mono ?_
  rintro e wb2 ⟨rfl, hb⟩
  have hI1 : Inv w B w.heap.size Q x y u v (fb a) (fb b) wb2 := hI0.out.below (by omega) hB hS1 (((Below.refl _ _).alloc (Nat.le_refl _) _).trans (hb.mono (by simp)))
  have hT : Five wb2 wa2.heap.size 0 5 u v := (Five.new wa2 5 u v 26).below hb (by simp)
  have hTs : wa2.heap.size < wb2.heap.size := by have := hb.size; simp at this; omega
  clear hI0 u0 u1 u2 u3 u4 v0 v1 v2 v3 v4 z0 z1 z2 z3 z4 hb
  generalize wa2.heap.size = T at *
  obtain ⟨_, ⟨v0, v1, v2, v3, v4⟩, _⟩ := hI1.facts
  obtain ⟨z0, z1, z2, z3, z4⟩ := hT
  have hI1h := Lib.hid hI1
  clear hI1
  go_wp2_with fail
  refine (bring_any r2 i2 (a + c) (b + d) _ _ p3 p4 (by omega) (by omega) rfl rfl _).mono ?_
  rintro e wc2 ⟨rfl, hb⟩
  have hI2 : Inv w B w.heap.size Q x y u v (fb a) (fb b) wc2 := hI1h.out.below (by have := hI1h.out.low.size; omega) hB hS1 hb
  clear hI1h v0 v1 v2 v3 v4 z0 z1 z2 z3 z4 hb hTs hqs
  obtain ⟨_, ⟨v0, v1, v2, v3, v4⟩, _⟩ := hI2.facts
  obtain ⟨f0, f1, f2, f3, f4⟩ := hI2.accSoft
  have hI2h := Lib.hid hI2
  clear hI2
  go_wp2
  refine rounds_abs (Inv w B w.heap.size Q x y u v (fb (foldI (a + c))) (fb (foldI (b + d)))) (hI2h.out.stored (Nat.le_refl _) hB hS1) ?_
  clear hI2h v0 v1 v2 v3 v4 f0 f1 f2 f3 f4
  intro wd hI
  obtain ⟨⟨u0, u1, u2, u3, u4⟩, ⟨v0, v1, v2, v3, v4⟩, _⟩ := hI.facts
  obtain ⟨f0, f1, f2, f3, f4⟩ := hI.resSoft
  have hIh := Lib.hid hI
  clear hI
  rw [rounds_succ]
  go_wp2
  refine bodyPost_ret (v := .tuple #[.agg #[.int .i64 5, .int .i64 0, .string ⟨#[]⟩, .complex .f64 (fb (foldI (a + c))) (fb (foldI (b + d))), .slice none 0 0], .int .i64 0]) (by simp [results, Try.results7, go_sem, u0, u1, u2, u3, u4]) rfl ⟨rfl, ?_⟩
  exact ((((hIh.out.low.setCell (Nat.le_refl _) _).setCell (Nat.le_refl _) _).setCell (Nat.le_refl _) _).setCell (Nat.le_refl _) _).setCell (Nat.le_refl _) _

set_option maxRecDepth 100000 in
set_option maxHeartbeats 400000 in
theorem conj_point (x y : Nat) (a b : Int) (hx : Rep x a) (hy : Rep y b) (a1 : -1048576 ≤ a) (a2 : a ≤ 1048575) (b1 : -1048576 ≤ b) (b2 : b ≤ 1048575) (w : World) :
    Calls Try.prog 8 #[.agg #[.int .i64 5, .int .i64 0, .string ⟨#[]⟩, .complex .f64 x y, .slice none 0 0]] w fun e w' => e = .returned (.tuple #[.agg #[.int .i64 5, .int .i64 0, .string ⟨#[]⟩, .complex .f64 (fb a) (fb (foldI (-b))), .slice none 0 0], .int .i64 0]) ∧ Below w.heap.size w w' := by
  go_enter Try.func8, Try.ntmps8
  go_wp2_with fail
  refine (parts_point x y a b hx hy a1 a2 b1 b2 _).mono ?_
  rintro e w1 ⟨rfl, hb⟩
  have hb0 : Below w.heap.size w w1 := (((Below.refl _ _).alloc (Nat.le_refl _) _).alloc (by simp) _).trans (hb.mono (by simp; omega))
  have hz : w.heap.size + 1 < w1.heap.size := by have := hb.size; simp at this; omega
  obtain ⟨hc, hf⟩ := bcell hb
  have q0 : Five w1 (w.heap.size + 1) 0 0 0 0 := by
    have h := (Five.new (w.alloc (.cells #[.int .i64 5, .int .i64 0, .string ⟨#[]⟩, .complex .f64 x y, .slice none 0 0] 26)) 0 0 0 26).below hb (by simp)
    simpa using h
  have q1 : Soft w1 (w.heap.size + 1) := by
    unfold Soft
    go_simp
  clear hc hf hb
  obtain ⟨u0, u1, u2, u3, u4⟩ := q0
  obtain ⟨f0, f1, f2, f3, f4⟩ := q1
  go_wp2_with fail
  refine (point_any a (-b) _).mono ?_
  rw [foldI_in a1 a2]
  rintro e w2 ⟨rfl, hb⟩
  obtain ⟨hc, hf⟩ := bcell hb
  have hz2 := hb.size
  go_wp2
  refine bodyPost_ret (v := .tuple #[.agg #[.int .i64 5, .int .i64 0, .string ⟨#[]⟩, .complex .f64 (fb a) (fb (foldI (-b))), .slice none 0 0], .int .i64 0]) (by simp [results, Try.results8, go_sem, hc, hz, u0, u1, u2, u3, u4]) rfl ⟨rfl, ?_⟩
  exact (((((hb0.trans (hb.mono (by omega))).setCell (by simp) _).setCell (by simp) _).setCell (by simp) _).setCell (by simp) _).setCell (by simp) _

end Go.Proofs.Ytjahennckibleaa
