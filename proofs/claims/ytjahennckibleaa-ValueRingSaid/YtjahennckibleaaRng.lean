/-
The walk of the law ValueRing: it answers true.
-/
import Derived.Test.YtjahennckibleaaKit
import Derived.Deep.DeepCutAuto
import Derived.StillTail
namespace Go.Proofs.Ytjahennckibleaa
open Go.RowKit

/-- A world one block larger. -/
def up (w : World) : World := w.alloc (.cells #[] 22)
theorem up_size (w : World) : (up w).heap.size = w.heap.size + 1 := by unfold up; simp

/-- The three arguments lie in the first three new blocks. -/
def Args3 (w0 : World) (p0 p1 q0 q1 s0 s1 : Int) (w : World) : Prop :=
  w.cell? ⟨w0.heap.size, 0, none⟩ = some (.int .i64 p0) ∧ w.cell? ⟨w0.heap.size, 1, none⟩ = some (.int .i64 p1) ∧ w.cell? ⟨w0.heap.size + 1, 0, none⟩ = some (.int .i64 q0) ∧ w.cell? ⟨w0.heap.size + 1, 1, none⟩ = some (.int .i64 q1) ∧
    w.cell? ⟨w0.heap.size + 1 + 1, 0, none⟩ = some (.int .i64 s0) ∧ w.cell? ⟨w0.heap.size + 1 + 1, 1, none⟩ = some (.int .i64 s1) ∧ Below w0.heap.size w0 w ∧ (up w0).heap.size + 1 < w.heap.size

theorem Args3.start (w : World) (p0 p1 q0 q1 s0 s1 : Int) (t u v : TypeId) : Args3 w p0 p1 q0 q1 s0 s1 (((w.alloc (.cells #[.int .i64 p0, .int .i64 p1] t)).alloc (.cells #[.int .i64 q0, .int .i64 q1] u)).alloc (.cells #[.int .i64 s0, .int .i64 s1] v)) := by
  refine ⟨?_, ?_, ?_, ?_, ?_, ?_, ((((Below.refl _ _).alloc (Nat.le_refl _) _).alloc (by simp) _).alloc (by simp; omega) _), by rw [up_size]; simp⟩ <;> go_simp

theorem Args3.roomy {w0 w : World} {p0 p1 q0 q1 s0 s1 : Int} (h : Args3 w0 p0 p1 q0 q1 s0 s1 w) : (up w0).heap.size + 1 < w.heap.size := h.2.2.2.2.2.2.2

theorem Args3.below {w0 w w' : World} {p0 p1 q0 q1 s0 s1 : Int} (h : Args3 w0 p0 p1 q0 q1 s0 s1 w) (hb : Below w.heap.size w w') : Args3 w0 p0 p1 q0 q1 s0 s1 w' := by
  obtain ⟨h0, h1, h2, h3, h4, h5, h6, h7⟩ := h
  obtain ⟨hc, _⟩ := bcell hb
  have := hb.size
  have hu := up_size w0
  exact ⟨by rw [hc _ _ (by omega)]; exact h0, by rw [hc _ _ (by omega)]; exact h1, by rw [hc _ _ (by omega)]; exact h2, by rw [hc _ _ (by omega)]; exact h3, by rw [hc _ _ (by omega)]; exact h4, by rw [hc _ _ (by omega)]; exact h5, h6.trans (hb.mono (by omega)), by omega⟩

theorem Args3.set {w0 w : World} {p0 p1 q0 q1 s0 s1 : Int} (h : Args3 w0 p0 p1 q0 q1 s0 s1 w) {Z : Nat} (hZ : (up w0).heap.size + 1 < Z) (i : Nat) (z : Value) : Args3 w0 p0 p1 q0 q1 s0 s1 (w.setCell ⟨Z, i, none⟩ z) := by
  obtain ⟨h0, h1, h2, h3, h4, h5, h6, h7⟩ := h
  have hu := up_size w0
  have n0 : ∀ o, (⟨Z, i, none⟩ : Addr) ≠ ⟨w0.heap.size, o, none⟩ := fun o e => by cases e; omega
  have n1 : ∀ o, (⟨Z, i, none⟩ : Addr) ≠ ⟨w0.heap.size + 1, o, none⟩ := fun o e => by cases e; omega
  have n2 : ∀ o, (⟨Z, i, none⟩ : Addr) ≠ ⟨w0.heap.size + 1 + 1, o, none⟩ := fun o e => by cases e; omega
  refine ⟨?_, ?_, ?_, ?_, ?_, ?_, h6.setCell (by simp; omega) _, by simpa using h7⟩
  · rw [World.cell?_setCell_other _ _ _ _ (n0 _)]; exact h0
  · rw [World.cell?_setCell_other _ _ _ _ (n0 _)]; exact h1
  · rw [World.cell?_setCell_other _ _ _ _ (n1 _)]; exact h2
  · rw [World.cell?_setCell_other _ _ _ _ (n1 _)]; exact h3
  · rw [World.cell?_setCell_other _ _ _ _ (n2 _)]; exact h4
  · rw [World.cell?_setCell_other _ _ _ _ (n2 _)]; exact h5

theorem Args3.put {w0 w : World} {p0 p1 q0 q1 s0 s1 : Int} (h : Args3 w0 p0 p1 q0 q1 s0 s1 w) {Z : Nat} {A B : Int} (hZ : (up w0).heap.size + 1 < Z) : Args3 w0 p0 p1 q0 q1 s0 s1 (put5 w Z A B) :=
  ((((h.set hZ _ _).set hZ _ _).set hZ _ _).set hZ _ _).set hZ _ _

/-- What the statement that makes the three points leaves. -/
def Made3 (w0 : World) (A B C D E F : Int) (v7 v8 v9 : Value) (w : World) : Prop :=
  ∃ X Y Z : Nat, v7 = .pointer (some ⟨X, 0, none⟩) ∧ v8 = .pointer (some ⟨Y, 0, none⟩) ∧ v9 = .pointer (some ⟨Z, 0, none⟩) ∧ Hold w0 [(X, A, B), (Y, C, D), (Z, E, F)] w

/-- Points lie one behind the other in block S. -/
def Row (w0 : World) (S : Nat) (l : List (Int × Int)) (w : World) : Prop :=
  Below w0.heap.size w0 w ∧ S < w.heap.size ∧ ∀ (i : Nat) (v : Int × Int), l[i]? = some v → Five w S (5 * i) 5 (fb v.1) (fb v.2)

theorem Row.below {w0 w w' : World} {S : Nat} {l : List (Int × Int)} (h : Row w0 S l w) (hb : Below w.heap.size w w') : Row w0 S l w' :=
  ⟨h.1.trans (hb.mono h.1.size), Nat.lt_of_lt_of_le h.2.1 hb.size, fun i v hv => (h.2.2 i v hv).below hb h.2.1⟩

theorem Row.get {w0 w : World} {S : Nat} {l : List (Int × Int)} (h : Row w0 S l w) (i : Nat) (A B : Int) (hv : l[i]? = some (A, B)) (o : Nat) (ho : 5 * i = o) : Five w S o 5 (fb A) (fb B) := by
  subst ho
  exact h.2.2 i (A, B) hv

theorem rounds_row {P : Program} {c : Code} {Q : Exit → Act → World → Prop} {n : Nat} {a : Act} {W : World} (F : World → Prop) (h : F W) (k : ∀ w', F w' → Code.rounds P c Q n a w') : Code.rounds P c Q n a W := k W h

theorem row_new (w0 w : World) (a0 b0 a1 b1 a2 b2 a3 b3 a4 b4 a5 b5 a6 b6 a7 b7 a8 b8 a9 b9 : Int) (t : TypeId) (S : Nat) (hS : w.heap.size = S) (hb : Below w0.heap.size w0 w) :
    Row w0 S [(a0, b0), (a1, b1), (a2, b2), (a3, b3), (a4, b4), (a5, b5), (a6, b6), (a7, b7), (a8, b8), (a9, b9)] (w.alloc (.cells #[.int .i64 5, .int .i64 0, .string ⟨#[]⟩, .complex .f64 (fb a0) (fb b0), .slice none 0 0, .int .i64 5, .int .i64 0, .string ⟨#[]⟩, .complex .f64 (fb a1) (fb b1), .slice none 0 0, .int .i64 5, .int .i64 0, .string ⟨#[]⟩, .complex .f64 (fb a2) (fb b2), .slice none 0 0, .int .i64 5, .int .i64 0, .string ⟨#[]⟩, .complex .f64 (fb a3) (fb b3), .slice none 0 0, .int .i64 5, .int .i64 0, .string ⟨#[]⟩, .complex .f64 (fb a4) (fb b4), .slice none 0 0, .int .i64 5, .int .i64 0, .string ⟨#[]⟩, .complex .f64 (fb a5) (fb b5), .slice none 0 0, .int .i64 5, .int .i64 0, .string ⟨#[]⟩, .complex .f64 (fb a6) (fb b6), .slice none 0 0, .int .i64 5, .int .i64 0, .string ⟨#[]⟩, .complex .f64 (fb a7) (fb b7), .slice none 0 0, .int .i64 5, .int .i64 0, .string ⟨#[]⟩, .complex .f64 (fb a8) (fb b8), .slice none 0 0, .int .i64 5, .int .i64 0, .string ⟨#[]⟩, .complex .f64 (fb a9) (fb b9), .slice none 0 0] t)) := by
  subst hS
  refine ⟨hb.trans (((Below.refl _ _).alloc (Nat.le_refl _) _).mono hb.size), by simp, fun i v hv => ?_⟩
  have hi : i < 10 := by
    have := (List.getElem?_eq_some_iff.1 hv).1
    simpa using this
  unfold Five
  rcases (by omega : i = 0 ∨ i = 1 ∨ i = 2 ∨ i = 3 ∨ i = 4 ∨ i = 5 ∨ i = 6 ∨ i = 7 ∨ i = 8 ∨ i = 9) with rfl | rfl | rfl | rfl | rfl | rfl | rfl | rfl | rfl | rfl
  all_goals
    simp at hv
    subst hv
    go_simp

/-- The frame at the statement that makes the three points. -/
def FrR (w0 : World) (p0 p1 q0 q1 s0 s1 : Int) (u7 u8 u9 u42 u43 u44 u45 u46 u47 u48 u49 u50 u51 u52 u53 u54 u55 u56 : Value) : Act :=
  { tmps := #[.agg #[.int .i64 p0, .int .i64 p1], .agg #[.int .i64 q0, .int .i64 q1], .agg #[.int .i64 s0, .int .i64 s1], .pointer (some ⟨w0.heap.size, 0, none⟩), .pointer (some ⟨w0.heap.size + 1, 0, none⟩), .pointer (some ⟨w0.heap.size + 1 + 1, 0, none⟩), .bool false, u7, u8, u9, undef, undef, undef, undef, undef, undef, undef, undef, undef, undef, undef, undef, undef, undef, undef, undef, undef, undef, undef, undef, undef, undef, undef, undef, undef, undef, undef, undef, undef, undef, undef, undef, u42, u43, u44, u45, u46, u47, u48, u49, u50, u51, u52, u53, u54, u55, u56, undef, undef, undef, undef, undef, undef, undef, undef, undef, undef, undef, undef, undef, undef, undef, undef, undef, undef, undef, undef, undef, undef, undef, undef, undef, undef, undef, undef, undef, undef, undef, undef, undef, undef, undef, undef, undef, undef, undef, undef, undef, undef, undef, undef, undef, undef, undef, undef, undef, undef, undef, undef, undef, undef, undef, undef, undef, undef, undef, undef, undef, undef, undef, undef, undef, undef, undef, undef, undef, undef, undef, undef, undef, undef, undef, undef, undef, undef, undef, undef, undef, undef, undef, undef, undef, undef, undef, undef, undef, undef, undef, undef, undef, undef, undef, undef, undef, undef, undef, undef, undef, undef, undef, undef, undef, undef, undef, undef, undef, undef, undef, undef, undef, undef, undef, undef, undef, undef, undef, undef, undef, undef, undef, undef, undef, undef, undef], defers := [] }

/-- What holds between the operations of the statement that makes the three points. -/
def InvR (w0 : World) (p0 p1 q0 q1 s0 s1 : Int) (l : Array Bool) (a : Act) (w : World) : Prop :=
  l.size = 21 ∧ ∃ u7 u8 u9 u42 u43 u44 u45 u46 u47 u48 u49 u50 u51 u52 u53 u54 u55 u56, a = FrR w0 p0 p1 q0 q1 s0 s1 u7 u8 u9 u42 u43 u44 u45 u46 u47 u48 u49 u50 u51 u52 u53 u54 u55 u56 ∧
    (l.getD 0 false = true → u42 = .pointer (some ⟨w0.heap.size, 0, none⟩)) ∧ (l.getD 1 false = true → u43 = .int .i64 p0) ∧ (l.getD 2 false = true → u44 = .pointer (some ⟨w0.heap.size, 1, none⟩)) ∧ (l.getD 3 false = true → u45 = .int .i64 p1) ∧ (l.getD 4 false = true → u46 = .agg #[.int .i64 5, .int .i64 0, .string ⟨#[]⟩, .complex .f64 (fb (foldI p0)) (fb (foldI p1)), .slice none 0 0]) ∧ (l.getD 5 false = true → u47 = .pointer (some ⟨w0.heap.size + 1, 0, none⟩)) ∧ (l.getD 6 false = true → u48 = .int .i64 q0) ∧ (l.getD 7 false = true → u49 = .pointer (some ⟨w0.heap.size + 1, 1, none⟩)) ∧ (l.getD 8 false = true → u50 = .int .i64 q1) ∧ (l.getD 9 false = true → u51 = .agg #[.int .i64 5, .int .i64 0, .string ⟨#[]⟩, .complex .f64 (fb (foldI q0)) (fb (foldI q1)), .slice none 0 0]) ∧ (l.getD 10 false = true → u52 = .pointer (some ⟨w0.heap.size + 1 + 1, 0, none⟩)) ∧ (l.getD 11 false = true → u53 = .int .i64 s0) ∧ (l.getD 12 false = true → u54 = .pointer (some ⟨w0.heap.size + 1 + 1, 1, none⟩)) ∧ (l.getD 13 false = true → u55 = .int .i64 s1) ∧ (l.getD 14 false = true → u56 = .agg #[.int .i64 5, .int .i64 0, .string ⟨#[]⟩, .complex .f64 (fb (foldI s0)) (fb (foldI s1)), .slice none 0 0]) ∧
    (l.getD 18 false = true → l.getD 15 false = true) ∧ (l.getD 19 false = true → l.getD 16 false = true) ∧ (l.getD 20 false = true → l.getD 17 false = true) ∧
    Args3 w0 p0 p1 q0 q1 s0 s1 w ∧ (l.getD 15 false = true → Var (up w0) (foldI p0) (foldI p1) u7 (l.getD 18 false = true) w) ∧ (l.getD 16 false = true → Var (up w0) (foldI q0) (foldI q1) u8 (l.getD 19 false = true) w) ∧ (l.getD 17 false = true → Var (up w0) (foldI s0) (foldI s1) u9 (l.getD 20 false = true) w) ∧ (l.getD 15 false = true → l.getD 16 false = true → u7 ≠ u8) ∧ (l.getD 15 false = true → l.getD 17 false = true → u7 ≠ u9) ∧ (l.getD 16 false = true → l.getD 17 false = true → u8 ≠ u9)

set_option maxRecDepth 100000 in
set_option maxHeartbeats 12800000 in
theorem ring_true (p0 p1 q0 q1 s0 s1 : Int) (w : World) :
    Calls Try.prog 3 #[.agg #[.int .i64 p0, .int .i64 p1], .agg #[.int .i64 q0, .int .i64 q1], .agg #[.int .i64 s0, .int .i64 s1]] w fun e w' => e = .returned (.bool true) ∧ Below w.heap.size w w' := by
  go_enter Try.func3, Try.ntmps3
  go_upto_region 1 with fail
  refine wp_abs (Args3 w p0 p1 q0 q1 s0 s1) (Args3.start w p0 p1 q0 q1 s0 s1 22 22 22) ?_
  intro W hA
  go_cut [7, 8, 9] (fun s7 s8 s9 wx => Made3 w (foldI p0) (foldI p1) (foldI q0) (foldI q1) (foldI s0) (foldI s1) s7 s8 s9 wx)
  case first =>
    refine region_inv (InvR w p0 p1 q0 q1 s0 s1) (by kernel_rfl) (by kernel_rfl) ?_ ?_ ?_ ?_
    · exact ⟨rfl, undef, undef, undef, undef, undef, undef, undef, undef, undef, undef, undef, undef, undef, undef, undef, undef, undef, undef, rfl, by simp, by simp, by simp, by simp, by simp, by simp, by simp, by simp, by simp, by simp, by simp, by simp, by simp, by simp, by simp, by simp, by simp, by simp, hA.below (Below.refl _ _).drew, by simp, by simp, by simp, by simp, by simp, by simp⟩
    · intro l a w' h
      exact h.1
    · refine ⟨?_, ?_, ?_, ?_, ?_, ?_, ?_, ?_, ?_, ?_, ?_, ?_, ?_, ?_, ?_, ?_, ?_, ?_, ?_, ?_, ?_, trivial⟩
      · intro l a w' hI hn hall K hK
        obtain ⟨hz, u7, u8, u9, u42, u43, u44, u45, u46, u47, u48, u49, u50, u51, u52, u53, u54, u55, u56, rfl, hR⟩ := hI
        have hzh := Lib.hid hz
        have hnh := Lib.hid hn
        have HR := Lib.hid hR
        obtain ⟨h0, h1, h2, h3, h4, h5, h6, h7, h8, h9, h10, h11, h12, h13, h14, c15, c16, c17, hA, v15, v16, v17, n15_16, n15_17, n16_17⟩ := hR
        clear hz hn hall h0 h1 h2 h3 h4 h5 h6 h7 h8 h9 h10 h11 h12 h13 h14 c15 c16 c17 v15 v16 v17 n15_16 n15_17 n16_17
        clear hA
        unfold FrR
        go_simp
        refine hK _ _ ⟨by simpa using hzh.out, _, _, _, _, _, _, _, _, _, _, _, _, _, _, _, _, _, _, rfl, ?_⟩
        obtain ⟨h0, h1, h2, h3, h4, h5, h6, h7, h8, h9, h10, h11, h12, h13, h14, c15, c16, c17, hA, v15, v16, v17, n15_16, n15_17, n16_17⟩ := HR.out
        exact ⟨fun _ => rfl, fun h => h1 ((done_set_ne (l := l) (i := 0) (j := 1) (by decide)).symm.trans h), fun h => h2 ((done_set_ne (l := l) (i := 0) (j := 2) (by decide)).symm.trans h), fun h => h3 ((done_set_ne (l := l) (i := 0) (j := 3) (by decide)).symm.trans h), fun h => h4 ((done_set_ne (l := l) (i := 0) (j := 4) (by decide)).symm.trans h), fun h => h5 ((done_set_ne (l := l) (i := 0) (j := 5) (by decide)).symm.trans h), fun h => h6 ((done_set_ne (l := l) (i := 0) (j := 6) (by decide)).symm.trans h), fun h => h7 ((done_set_ne (l := l) (i := 0) (j := 7) (by decide)).symm.trans h), fun h => h8 ((done_set_ne (l := l) (i := 0) (j := 8) (by decide)).symm.trans h), fun h => h9 ((done_set_ne (l := l) (i := 0) (j := 9) (by decide)).symm.trans h), fun h => h10 ((done_set_ne (l := l) (i := 0) (j := 10) (by decide)).symm.trans h), fun h => h11 ((done_set_ne (l := l) (i := 0) (j := 11) (by decide)).symm.trans h), fun h => h12 ((done_set_ne (l := l) (i := 0) (j := 12) (by decide)).symm.trans h), fun h => h13 ((done_set_ne (l := l) (i := 0) (j := 13) (by decide)).symm.trans h), fun h => h14 ((done_set_ne (l := l) (i := 0) (j := 14) (by decide)).symm.trans h), fun h => (done_set_ne (l := l) (i := 0) (j := 15) (by decide)).trans (c15 ((done_set_ne (l := l) (i := 0) (j := 18) (by decide)).symm.trans h)), fun h => (done_set_ne (l := l) (i := 0) (j := 16) (by decide)).trans (c16 ((done_set_ne (l := l) (i := 0) (j := 19) (by decide)).symm.trans h)), fun h => (done_set_ne (l := l) (i := 0) (j := 17) (by decide)).trans (c17 ((done_set_ne (l := l) (i := 0) (j := 20) (by decide)).symm.trans h)), hA, fun h => ((v15 ((done_set_ne (l := l) (i := 0) (j := 15) (by decide)).symm.trans h))).weaken (fun h => ((done_set_ne (l := l) (i := 0) (j := 18) (by decide)).symm.trans h)), fun h => ((v16 ((done_set_ne (l := l) (i := 0) (j := 16) (by decide)).symm.trans h))).weaken (fun h => ((done_set_ne (l := l) (i := 0) (j := 19) (by decide)).symm.trans h)), fun h => ((v17 ((done_set_ne (l := l) (i := 0) (j := 17) (by decide)).symm.trans h))).weaken (fun h => ((done_set_ne (l := l) (i := 0) (j := 20) (by decide)).symm.trans h)), fun h h2 => n15_16 ((done_set_ne (l := l) (i := 0) (j := 15) (by decide)).symm.trans h) ((done_set_ne (l := l) (i := 0) (j := 16) (by decide)).symm.trans h2), fun h h2 => n15_17 ((done_set_ne (l := l) (i := 0) (j := 15) (by decide)).symm.trans h) ((done_set_ne (l := l) (i := 0) (j := 17) (by decide)).symm.trans h2), fun h h2 => n16_17 ((done_set_ne (l := l) (i := 0) (j := 16) (by decide)).symm.trans h) ((done_set_ne (l := l) (i := 0) (j := 17) (by decide)).symm.trans h2)⟩
      · intro l a w' hI hn hall K hK
        obtain ⟨hz, u7, u8, u9, u42, u43, u44, u45, u46, u47, u48, u49, u50, u51, u52, u53, u54, u55, u56, rfl, hR⟩ := hI
        have hzh := Lib.hid hz
        have hnh := Lib.hid hn
        have HR := Lib.hid hR
        obtain ⟨h0, h1, h2, h3, h4, h5, h6, h7, h8, h9, h10, h11, h12, h13, h14, c15, c16, c17, hA, v15, v16, v17, n15_16, n15_17, n16_17⟩ := hR
        have e0 := h0 (hall { on := 0, ground := Ground.data } (by simp) rfl)
        clear hz hn hall h0 h1 h2 h3 h4 h5 h6 h7 h8 h9 h10 h11 h12 h13 h14 c15 c16 c17 v15 v16 v17 n15_16 n15_17 n16_17
        obtain ⟨a0, a1, a2, a3, a4, a5, _, _⟩ := hA
        subst e0
        unfold FrR
        go_simp
        refine hK _ _ ⟨by simpa using hzh.out, _, _, _, _, _, _, _, _, _, _, _, _, _, _, _, _, _, _, rfl, ?_⟩
        obtain ⟨h0, h1, h2, h3, h4, h5, h6, h7, h8, h9, h10, h11, h12, h13, h14, c15, c16, c17, hA, v15, v16, v17, n15_16, n15_17, n16_17⟩ := HR.out
        exact ⟨fun h => h0 ((done_set_ne (l := l) (i := 1) (j := 0) (by decide)).symm.trans h), fun _ => rfl, fun h => h2 ((done_set_ne (l := l) (i := 1) (j := 2) (by decide)).symm.trans h), fun h => h3 ((done_set_ne (l := l) (i := 1) (j := 3) (by decide)).symm.trans h), fun h => h4 ((done_set_ne (l := l) (i := 1) (j := 4) (by decide)).symm.trans h), fun h => h5 ((done_set_ne (l := l) (i := 1) (j := 5) (by decide)).symm.trans h), fun h => h6 ((done_set_ne (l := l) (i := 1) (j := 6) (by decide)).symm.trans h), fun h => h7 ((done_set_ne (l := l) (i := 1) (j := 7) (by decide)).symm.trans h), fun h => h8 ((done_set_ne (l := l) (i := 1) (j := 8) (by decide)).symm.trans h), fun h => h9 ((done_set_ne (l := l) (i := 1) (j := 9) (by decide)).symm.trans h), fun h => h10 ((done_set_ne (l := l) (i := 1) (j := 10) (by decide)).symm.trans h), fun h => h11 ((done_set_ne (l := l) (i := 1) (j := 11) (by decide)).symm.trans h), fun h => h12 ((done_set_ne (l := l) (i := 1) (j := 12) (by decide)).symm.trans h), fun h => h13 ((done_set_ne (l := l) (i := 1) (j := 13) (by decide)).symm.trans h), fun h => h14 ((done_set_ne (l := l) (i := 1) (j := 14) (by decide)).symm.trans h), fun h => (done_set_ne (l := l) (i := 1) (j := 15) (by decide)).trans (c15 ((done_set_ne (l := l) (i := 1) (j := 18) (by decide)).symm.trans h)), fun h => (done_set_ne (l := l) (i := 1) (j := 16) (by decide)).trans (c16 ((done_set_ne (l := l) (i := 1) (j := 19) (by decide)).symm.trans h)), fun h => (done_set_ne (l := l) (i := 1) (j := 17) (by decide)).trans (c17 ((done_set_ne (l := l) (i := 1) (j := 20) (by decide)).symm.trans h)), hA, fun h => ((v15 ((done_set_ne (l := l) (i := 1) (j := 15) (by decide)).symm.trans h))).weaken (fun h => ((done_set_ne (l := l) (i := 1) (j := 18) (by decide)).symm.trans h)), fun h => ((v16 ((done_set_ne (l := l) (i := 1) (j := 16) (by decide)).symm.trans h))).weaken (fun h => ((done_set_ne (l := l) (i := 1) (j := 19) (by decide)).symm.trans h)), fun h => ((v17 ((done_set_ne (l := l) (i := 1) (j := 17) (by decide)).symm.trans h))).weaken (fun h => ((done_set_ne (l := l) (i := 1) (j := 20) (by decide)).symm.trans h)), fun h h2 => n15_16 ((done_set_ne (l := l) (i := 1) (j := 15) (by decide)).symm.trans h) ((done_set_ne (l := l) (i := 1) (j := 16) (by decide)).symm.trans h2), fun h h2 => n15_17 ((done_set_ne (l := l) (i := 1) (j := 15) (by decide)).symm.trans h) ((done_set_ne (l := l) (i := 1) (j := 17) (by decide)).symm.trans h2), fun h h2 => n16_17 ((done_set_ne (l := l) (i := 1) (j := 16) (by decide)).symm.trans h) ((done_set_ne (l := l) (i := 1) (j := 17) (by decide)).symm.trans h2)⟩
      · intro l a w' hI hn hall K hK
        obtain ⟨hz, u7, u8, u9, u42, u43, u44, u45, u46, u47, u48, u49, u50, u51, u52, u53, u54, u55, u56, rfl, hR⟩ := hI
        have hzh := Lib.hid hz
        have hnh := Lib.hid hn
        have HR := Lib.hid hR
        obtain ⟨h0, h1, h2, h3, h4, h5, h6, h7, h8, h9, h10, h11, h12, h13, h14, c15, c16, c17, hA, v15, v16, v17, n15_16, n15_17, n16_17⟩ := hR
        clear hz hn hall h0 h1 h2 h3 h4 h5 h6 h7 h8 h9 h10 h11 h12 h13 h14 c15 c16 c17 v15 v16 v17 n15_16 n15_17 n16_17
        clear hA
        unfold FrR
        go_simp
        refine hK _ _ ⟨by simpa using hzh.out, _, _, _, _, _, _, _, _, _, _, _, _, _, _, _, _, _, _, rfl, ?_⟩
        obtain ⟨h0, h1, h2, h3, h4, h5, h6, h7, h8, h9, h10, h11, h12, h13, h14, c15, c16, c17, hA, v15, v16, v17, n15_16, n15_17, n16_17⟩ := HR.out
        exact ⟨fun h => h0 ((done_set_ne (l := l) (i := 2) (j := 0) (by decide)).symm.trans h), fun h => h1 ((done_set_ne (l := l) (i := 2) (j := 1) (by decide)).symm.trans h), fun _ => rfl, fun h => h3 ((done_set_ne (l := l) (i := 2) (j := 3) (by decide)).symm.trans h), fun h => h4 ((done_set_ne (l := l) (i := 2) (j := 4) (by decide)).symm.trans h), fun h => h5 ((done_set_ne (l := l) (i := 2) (j := 5) (by decide)).symm.trans h), fun h => h6 ((done_set_ne (l := l) (i := 2) (j := 6) (by decide)).symm.trans h), fun h => h7 ((done_set_ne (l := l) (i := 2) (j := 7) (by decide)).symm.trans h), fun h => h8 ((done_set_ne (l := l) (i := 2) (j := 8) (by decide)).symm.trans h), fun h => h9 ((done_set_ne (l := l) (i := 2) (j := 9) (by decide)).symm.trans h), fun h => h10 ((done_set_ne (l := l) (i := 2) (j := 10) (by decide)).symm.trans h), fun h => h11 ((done_set_ne (l := l) (i := 2) (j := 11) (by decide)).symm.trans h), fun h => h12 ((done_set_ne (l := l) (i := 2) (j := 12) (by decide)).symm.trans h), fun h => h13 ((done_set_ne (l := l) (i := 2) (j := 13) (by decide)).symm.trans h), fun h => h14 ((done_set_ne (l := l) (i := 2) (j := 14) (by decide)).symm.trans h), fun h => (done_set_ne (l := l) (i := 2) (j := 15) (by decide)).trans (c15 ((done_set_ne (l := l) (i := 2) (j := 18) (by decide)).symm.trans h)), fun h => (done_set_ne (l := l) (i := 2) (j := 16) (by decide)).trans (c16 ((done_set_ne (l := l) (i := 2) (j := 19) (by decide)).symm.trans h)), fun h => (done_set_ne (l := l) (i := 2) (j := 17) (by decide)).trans (c17 ((done_set_ne (l := l) (i := 2) (j := 20) (by decide)).symm.trans h)), hA, fun h => ((v15 ((done_set_ne (l := l) (i := 2) (j := 15) (by decide)).symm.trans h))).weaken (fun h => ((done_set_ne (l := l) (i := 2) (j := 18) (by decide)).symm.trans h)), fun h => ((v16 ((done_set_ne (l := l) (i := 2) (j := 16) (by decide)).symm.trans h))).weaken (fun h => ((done_set_ne (l := l) (i := 2) (j := 19) (by decide)).symm.trans h)), fun h => ((v17 ((done_set_ne (l := l) (i := 2) (j := 17) (by decide)).symm.trans h))).weaken (fun h => ((done_set_ne (l := l) (i := 2) (j := 20) (by decide)).symm.trans h)), fun h h2 => n15_16 ((done_set_ne (l := l) (i := 2) (j := 15) (by decide)).symm.trans h) ((done_set_ne (l := l) (i := 2) (j := 16) (by decide)).symm.trans h2), fun h h2 => n15_17 ((done_set_ne (l := l) (i := 2) (j := 15) (by decide)).symm.trans h) ((done_set_ne (l := l) (i := 2) (j := 17) (by decide)).symm.trans h2), fun h h2 => n16_17 ((done_set_ne (l := l) (i := 2) (j := 16) (by decide)).symm.trans h) ((done_set_ne (l := l) (i := 2) (j := 17) (by decide)).symm.trans h2)⟩
      · intro l a w' hI hn hall K hK
        obtain ⟨hz, u7, u8, u9, u42, u43, u44, u45, u46, u47, u48, u49, u50, u51, u52, u53, u54, u55, u56, rfl, hR⟩ := hI
        have hzh := Lib.hid hz
        have hnh := Lib.hid hn
        have HR := Lib.hid hR
        obtain ⟨h0, h1, h2, h3, h4, h5, h6, h7, h8, h9, h10, h11, h12, h13, h14, c15, c16, c17, hA, v15, v16, v17, n15_16, n15_17, n16_17⟩ := hR
        have e2 := h2 (hall { on := 2, ground := Ground.data } (by simp) rfl)
        clear hz hn hall h0 h1 h2 h3 h4 h5 h6 h7 h8 h9 h10 h11 h12 h13 h14 c15 c16 c17 v15 v16 v17 n15_16 n15_17 n16_17
        obtain ⟨a0, a1, a2, a3, a4, a5, _, _⟩ := hA
        subst e2
        unfold FrR
        go_simp
        refine hK _ _ ⟨by simpa using hzh.out, _, _, _, _, _, _, _, _, _, _, _, _, _, _, _, _, _, _, rfl, ?_⟩
        obtain ⟨h0, h1, h2, h3, h4, h5, h6, h7, h8, h9, h10, h11, h12, h13, h14, c15, c16, c17, hA, v15, v16, v17, n15_16, n15_17, n16_17⟩ := HR.out
        exact ⟨fun h => h0 ((done_set_ne (l := l) (i := 3) (j := 0) (by decide)).symm.trans h), fun h => h1 ((done_set_ne (l := l) (i := 3) (j := 1) (by decide)).symm.trans h), fun h => h2 ((done_set_ne (l := l) (i := 3) (j := 2) (by decide)).symm.trans h), fun _ => rfl, fun h => h4 ((done_set_ne (l := l) (i := 3) (j := 4) (by decide)).symm.trans h), fun h => h5 ((done_set_ne (l := l) (i := 3) (j := 5) (by decide)).symm.trans h), fun h => h6 ((done_set_ne (l := l) (i := 3) (j := 6) (by decide)).symm.trans h), fun h => h7 ((done_set_ne (l := l) (i := 3) (j := 7) (by decide)).symm.trans h), fun h => h8 ((done_set_ne (l := l) (i := 3) (j := 8) (by decide)).symm.trans h), fun h => h9 ((done_set_ne (l := l) (i := 3) (j := 9) (by decide)).symm.trans h), fun h => h10 ((done_set_ne (l := l) (i := 3) (j := 10) (by decide)).symm.trans h), fun h => h11 ((done_set_ne (l := l) (i := 3) (j := 11) (by decide)).symm.trans h), fun h => h12 ((done_set_ne (l := l) (i := 3) (j := 12) (by decide)).symm.trans h), fun h => h13 ((done_set_ne (l := l) (i := 3) (j := 13) (by decide)).symm.trans h), fun h => h14 ((done_set_ne (l := l) (i := 3) (j := 14) (by decide)).symm.trans h), fun h => (done_set_ne (l := l) (i := 3) (j := 15) (by decide)).trans (c15 ((done_set_ne (l := l) (i := 3) (j := 18) (by decide)).symm.trans h)), fun h => (done_set_ne (l := l) (i := 3) (j := 16) (by decide)).trans (c16 ((done_set_ne (l := l) (i := 3) (j := 19) (by decide)).symm.trans h)), fun h => (done_set_ne (l := l) (i := 3) (j := 17) (by decide)).trans (c17 ((done_set_ne (l := l) (i := 3) (j := 20) (by decide)).symm.trans h)), hA, fun h => ((v15 ((done_set_ne (l := l) (i := 3) (j := 15) (by decide)).symm.trans h))).weaken (fun h => ((done_set_ne (l := l) (i := 3) (j := 18) (by decide)).symm.trans h)), fun h => ((v16 ((done_set_ne (l := l) (i := 3) (j := 16) (by decide)).symm.trans h))).weaken (fun h => ((done_set_ne (l := l) (i := 3) (j := 19) (by decide)).symm.trans h)), fun h => ((v17 ((done_set_ne (l := l) (i := 3) (j := 17) (by decide)).symm.trans h))).weaken (fun h => ((done_set_ne (l := l) (i := 3) (j := 20) (by decide)).symm.trans h)), fun h h2 => n15_16 ((done_set_ne (l := l) (i := 3) (j := 15) (by decide)).symm.trans h) ((done_set_ne (l := l) (i := 3) (j := 16) (by decide)).symm.trans h2), fun h h2 => n15_17 ((done_set_ne (l := l) (i := 3) (j := 15) (by decide)).symm.trans h) ((done_set_ne (l := l) (i := 3) (j := 17) (by decide)).symm.trans h2), fun h h2 => n16_17 ((done_set_ne (l := l) (i := 3) (j := 16) (by decide)).symm.trans h) ((done_set_ne (l := l) (i := 3) (j := 17) (by decide)).symm.trans h2)⟩
      · intro l a w' hI hn hall K hK
        obtain ⟨hz, u7, u8, u9, u42, u43, u44, u45, u46, u47, u48, u49, u50, u51, u52, u53, u54, u55, u56, rfl, hR⟩ := hI
        have hzh := Lib.hid hz
        have hnh := Lib.hid hn
        have HR := Lib.hid hR
        obtain ⟨h0, h1, h2, h3, h4, h5, h6, h7, h8, h9, h10, h11, h12, h13, h14, c15, c16, c17, hA, v15, v16, v17, n15_16, n15_17, n16_17⟩ := hR
        have e1 := h1 (hall { on := 1, ground := Ground.data } (by simp) rfl)
        have e3 := h3 (hall { on := 3, ground := Ground.data } (by simp) rfl)
        clear hz hn hall h0 h1 h2 h3 h4 h5 h6 h7 h8 h9 h10 h11 h12 h13 h14 c15 c16 c17 v15 v16 v17 n15_16 n15_17 n16_17
        clear hA
        subst e1
        subst e3
        unfold FrR
        go_simp
        refine (point_any _ _ _).mono ?_
        rintro e w2 ⟨rfl, hb⟩
        refine hK _ _ ⟨by simpa using hzh.out, _, _, _, _, _, _, _, _, _, _, _, _, _, _, _, _, _, _, rfl, ?_⟩
        obtain ⟨h0, h1, h2, h3, h4, h5, h6, h7, h8, h9, h10, h11, h12, h13, h14, c15, c16, c17, hA, v15, v16, v17, n15_16, n15_17, n16_17⟩ := HR.out
        exact ⟨fun h => h0 ((done_set_ne (l := l) (i := 4) (j := 0) (by decide)).symm.trans h), fun h => h1 ((done_set_ne (l := l) (i := 4) (j := 1) (by decide)).symm.trans h), fun h => h2 ((done_set_ne (l := l) (i := 4) (j := 2) (by decide)).symm.trans h), fun h => h3 ((done_set_ne (l := l) (i := 4) (j := 3) (by decide)).symm.trans h), fun _ => rfl, fun h => h5 ((done_set_ne (l := l) (i := 4) (j := 5) (by decide)).symm.trans h), fun h => h6 ((done_set_ne (l := l) (i := 4) (j := 6) (by decide)).symm.trans h), fun h => h7 ((done_set_ne (l := l) (i := 4) (j := 7) (by decide)).symm.trans h), fun h => h8 ((done_set_ne (l := l) (i := 4) (j := 8) (by decide)).symm.trans h), fun h => h9 ((done_set_ne (l := l) (i := 4) (j := 9) (by decide)).symm.trans h), fun h => h10 ((done_set_ne (l := l) (i := 4) (j := 10) (by decide)).symm.trans h), fun h => h11 ((done_set_ne (l := l) (i := 4) (j := 11) (by decide)).symm.trans h), fun h => h12 ((done_set_ne (l := l) (i := 4) (j := 12) (by decide)).symm.trans h), fun h => h13 ((done_set_ne (l := l) (i := 4) (j := 13) (by decide)).symm.trans h), fun h => h14 ((done_set_ne (l := l) (i := 4) (j := 14) (by decide)).symm.trans h), fun h => (done_set_ne (l := l) (i := 4) (j := 15) (by decide)).trans (c15 ((done_set_ne (l := l) (i := 4) (j := 18) (by decide)).symm.trans h)), fun h => (done_set_ne (l := l) (i := 4) (j := 16) (by decide)).trans (c16 ((done_set_ne (l := l) (i := 4) (j := 19) (by decide)).symm.trans h)), fun h => (done_set_ne (l := l) (i := 4) (j := 17) (by decide)).trans (c17 ((done_set_ne (l := l) (i := 4) (j := 20) (by decide)).symm.trans h)), hA.below hb, fun h => ((v15 ((done_set_ne (l := l) (i := 4) (j := 15) (by decide)).symm.trans h)).below hb).weaken (fun h => ((done_set_ne (l := l) (i := 4) (j := 18) (by decide)).symm.trans h)), fun h => ((v16 ((done_set_ne (l := l) (i := 4) (j := 16) (by decide)).symm.trans h)).below hb).weaken (fun h => ((done_set_ne (l := l) (i := 4) (j := 19) (by decide)).symm.trans h)), fun h => ((v17 ((done_set_ne (l := l) (i := 4) (j := 17) (by decide)).symm.trans h)).below hb).weaken (fun h => ((done_set_ne (l := l) (i := 4) (j := 20) (by decide)).symm.trans h)), fun h h2 => n15_16 ((done_set_ne (l := l) (i := 4) (j := 15) (by decide)).symm.trans h) ((done_set_ne (l := l) (i := 4) (j := 16) (by decide)).symm.trans h2), fun h h2 => n15_17 ((done_set_ne (l := l) (i := 4) (j := 15) (by decide)).symm.trans h) ((done_set_ne (l := l) (i := 4) (j := 17) (by decide)).symm.trans h2), fun h h2 => n16_17 ((done_set_ne (l := l) (i := 4) (j := 16) (by decide)).symm.trans h) ((done_set_ne (l := l) (i := 4) (j := 17) (by decide)).symm.trans h2)⟩
      · intro l a w' hI hn hall K hK
        obtain ⟨hz, u7, u8, u9, u42, u43, u44, u45, u46, u47, u48, u49, u50, u51, u52, u53, u54, u55, u56, rfl, hR⟩ := hI
        have hzh := Lib.hid hz
        have hnh := Lib.hid hn
        have HR := Lib.hid hR
        obtain ⟨h0, h1, h2, h3, h4, h5, h6, h7, h8, h9, h10, h11, h12, h13, h14, c15, c16, c17, hA, v15, v16, v17, n15_16, n15_17, n16_17⟩ := hR
        clear hz hn hall h0 h1 h2 h3 h4 h5 h6 h7 h8 h9 h10 h11 h12 h13 h14 c15 c16 c17 v15 v16 v17 n15_16 n15_17 n16_17
        clear hA
        unfold FrR
        go_simp
        refine hK _ _ ⟨by simpa using hzh.out, _, _, _, _, _, _, _, _, _, _, _, _, _, _, _, _, _, _, rfl, ?_⟩
        obtain ⟨h0, h1, h2, h3, h4, h5, h6, h7, h8, h9, h10, h11, h12, h13, h14, c15, c16, c17, hA, v15, v16, v17, n15_16, n15_17, n16_17⟩ := HR.out
        exact ⟨fun h => h0 ((done_set_ne (l := l) (i := 5) (j := 0) (by decide)).symm.trans h), fun h => h1 ((done_set_ne (l := l) (i := 5) (j := 1) (by decide)).symm.trans h), fun h => h2 ((done_set_ne (l := l) (i := 5) (j := 2) (by decide)).symm.trans h), fun h => h3 ((done_set_ne (l := l) (i := 5) (j := 3) (by decide)).symm.trans h), fun h => h4 ((done_set_ne (l := l) (i := 5) (j := 4) (by decide)).symm.trans h), fun _ => rfl, fun h => h6 ((done_set_ne (l := l) (i := 5) (j := 6) (by decide)).symm.trans h), fun h => h7 ((done_set_ne (l := l) (i := 5) (j := 7) (by decide)).symm.trans h), fun h => h8 ((done_set_ne (l := l) (i := 5) (j := 8) (by decide)).symm.trans h), fun h => h9 ((done_set_ne (l := l) (i := 5) (j := 9) (by decide)).symm.trans h), fun h => h10 ((done_set_ne (l := l) (i := 5) (j := 10) (by decide)).symm.trans h), fun h => h11 ((done_set_ne (l := l) (i := 5) (j := 11) (by decide)).symm.trans h), fun h => h12 ((done_set_ne (l := l) (i := 5) (j := 12) (by decide)).symm.trans h), fun h => h13 ((done_set_ne (l := l) (i := 5) (j := 13) (by decide)).symm.trans h), fun h => h14 ((done_set_ne (l := l) (i := 5) (j := 14) (by decide)).symm.trans h), fun h => (done_set_ne (l := l) (i := 5) (j := 15) (by decide)).trans (c15 ((done_set_ne (l := l) (i := 5) (j := 18) (by decide)).symm.trans h)), fun h => (done_set_ne (l := l) (i := 5) (j := 16) (by decide)).trans (c16 ((done_set_ne (l := l) (i := 5) (j := 19) (by decide)).symm.trans h)), fun h => (done_set_ne (l := l) (i := 5) (j := 17) (by decide)).trans (c17 ((done_set_ne (l := l) (i := 5) (j := 20) (by decide)).symm.trans h)), hA, fun h => ((v15 ((done_set_ne (l := l) (i := 5) (j := 15) (by decide)).symm.trans h))).weaken (fun h => ((done_set_ne (l := l) (i := 5) (j := 18) (by decide)).symm.trans h)), fun h => ((v16 ((done_set_ne (l := l) (i := 5) (j := 16) (by decide)).symm.trans h))).weaken (fun h => ((done_set_ne (l := l) (i := 5) (j := 19) (by decide)).symm.trans h)), fun h => ((v17 ((done_set_ne (l := l) (i := 5) (j := 17) (by decide)).symm.trans h))).weaken (fun h => ((done_set_ne (l := l) (i := 5) (j := 20) (by decide)).symm.trans h)), fun h h2 => n15_16 ((done_set_ne (l := l) (i := 5) (j := 15) (by decide)).symm.trans h) ((done_set_ne (l := l) (i := 5) (j := 16) (by decide)).symm.trans h2), fun h h2 => n15_17 ((done_set_ne (l := l) (i := 5) (j := 15) (by decide)).symm.trans h) ((done_set_ne (l := l) (i := 5) (j := 17) (by decide)).symm.trans h2), fun h h2 => n16_17 ((done_set_ne (l := l) (i := 5) (j := 16) (by decide)).symm.trans h) ((done_set_ne (l := l) (i := 5) (j := 17) (by decide)).symm.trans h2)⟩
      · intro l a w' hI hn hall K hK
        obtain ⟨hz, u7, u8, u9, u42, u43, u44, u45, u46, u47, u48, u49, u50, u51, u52, u53, u54, u55, u56, rfl, hR⟩ := hI
        have hzh := Lib.hid hz
        have hnh := Lib.hid hn
        have HR := Lib.hid hR
        obtain ⟨h0, h1, h2, h3, h4, h5, h6, h7, h8, h9, h10, h11, h12, h13, h14, c15, c16, c17, hA, v15, v16, v17, n15_16, n15_17, n16_17⟩ := hR
        have e5 := h5 (hall { on := 5, ground := Ground.data } (by simp) rfl)
        clear hz hn hall h0 h1 h2 h3 h4 h5 h6 h7 h8 h9 h10 h11 h12 h13 h14 c15 c16 c17 v15 v16 v17 n15_16 n15_17 n16_17
        obtain ⟨a0, a1, a2, a3, a4, a5, _, _⟩ := hA
        subst e5
        unfold FrR
        go_simp
        refine hK _ _ ⟨by simpa using hzh.out, _, _, _, _, _, _, _, _, _, _, _, _, _, _, _, _, _, _, rfl, ?_⟩
        obtain ⟨h0, h1, h2, h3, h4, h5, h6, h7, h8, h9, h10, h11, h12, h13, h14, c15, c16, c17, hA, v15, v16, v17, n15_16, n15_17, n16_17⟩ := HR.out
        exact ⟨fun h => h0 ((done_set_ne (l := l) (i := 6) (j := 0) (by decide)).symm.trans h), fun h => h1 ((done_set_ne (l := l) (i := 6) (j := 1) (by decide)).symm.trans h), fun h => h2 ((done_set_ne (l := l) (i := 6) (j := 2) (by decide)).symm.trans h), fun h => h3 ((done_set_ne (l := l) (i := 6) (j := 3) (by decide)).symm.trans h), fun h => h4 ((done_set_ne (l := l) (i := 6) (j := 4) (by decide)).symm.trans h), fun h => h5 ((done_set_ne (l := l) (i := 6) (j := 5) (by decide)).symm.trans h), fun _ => rfl, fun h => h7 ((done_set_ne (l := l) (i := 6) (j := 7) (by decide)).symm.trans h), fun h => h8 ((done_set_ne (l := l) (i := 6) (j := 8) (by decide)).symm.trans h), fun h => h9 ((done_set_ne (l := l) (i := 6) (j := 9) (by decide)).symm.trans h), fun h => h10 ((done_set_ne (l := l) (i := 6) (j := 10) (by decide)).symm.trans h), fun h => h11 ((done_set_ne (l := l) (i := 6) (j := 11) (by decide)).symm.trans h), fun h => h12 ((done_set_ne (l := l) (i := 6) (j := 12) (by decide)).symm.trans h), fun h => h13 ((done_set_ne (l := l) (i := 6) (j := 13) (by decide)).symm.trans h), fun h => h14 ((done_set_ne (l := l) (i := 6) (j := 14) (by decide)).symm.trans h), fun h => (done_set_ne (l := l) (i := 6) (j := 15) (by decide)).trans (c15 ((done_set_ne (l := l) (i := 6) (j := 18) (by decide)).symm.trans h)), fun h => (done_set_ne (l := l) (i := 6) (j := 16) (by decide)).trans (c16 ((done_set_ne (l := l) (i := 6) (j := 19) (by decide)).symm.trans h)), fun h => (done_set_ne (l := l) (i := 6) (j := 17) (by decide)).trans (c17 ((done_set_ne (l := l) (i := 6) (j := 20) (by decide)).symm.trans h)), hA, fun h => ((v15 ((done_set_ne (l := l) (i := 6) (j := 15) (by decide)).symm.trans h))).weaken (fun h => ((done_set_ne (l := l) (i := 6) (j := 18) (by decide)).symm.trans h)), fun h => ((v16 ((done_set_ne (l := l) (i := 6) (j := 16) (by decide)).symm.trans h))).weaken (fun h => ((done_set_ne (l := l) (i := 6) (j := 19) (by decide)).symm.trans h)), fun h => ((v17 ((done_set_ne (l := l) (i := 6) (j := 17) (by decide)).symm.trans h))).weaken (fun h => ((done_set_ne (l := l) (i := 6) (j := 20) (by decide)).symm.trans h)), fun h h2 => n15_16 ((done_set_ne (l := l) (i := 6) (j := 15) (by decide)).symm.trans h) ((done_set_ne (l := l) (i := 6) (j := 16) (by decide)).symm.trans h2), fun h h2 => n15_17 ((done_set_ne (l := l) (i := 6) (j := 15) (by decide)).symm.trans h) ((done_set_ne (l := l) (i := 6) (j := 17) (by decide)).symm.trans h2), fun h h2 => n16_17 ((done_set_ne (l := l) (i := 6) (j := 16) (by decide)).symm.trans h) ((done_set_ne (l := l) (i := 6) (j := 17) (by decide)).symm.trans h2)⟩
      · intro l a w' hI hn hall K hK
        obtain ⟨hz, u7, u8, u9, u42, u43, u44, u45, u46, u47, u48, u49, u50, u51, u52, u53, u54, u55, u56, rfl, hR⟩ := hI
        have hzh := Lib.hid hz
        have hnh := Lib.hid hn
        have HR := Lib.hid hR
        obtain ⟨h0, h1, h2, h3, h4, h5, h6, h7, h8, h9, h10, h11, h12, h13, h14, c15, c16, c17, hA, v15, v16, v17, n15_16, n15_17, n16_17⟩ := hR
        clear hz hn hall h0 h1 h2 h3 h4 h5 h6 h7 h8 h9 h10 h11 h12 h13 h14 c15 c16 c17 v15 v16 v17 n15_16 n15_17 n16_17
        clear hA
        unfold FrR
        go_simp
        refine hK _ _ ⟨by simpa using hzh.out, _, _, _, _, _, _, _, _, _, _, _, _, _, _, _, _, _, _, rfl, ?_⟩
        obtain ⟨h0, h1, h2, h3, h4, h5, h6, h7, h8, h9, h10, h11, h12, h13, h14, c15, c16, c17, hA, v15, v16, v17, n15_16, n15_17, n16_17⟩ := HR.out
        exact ⟨fun h => h0 ((done_set_ne (l := l) (i := 7) (j := 0) (by decide)).symm.trans h), fun h => h1 ((done_set_ne (l := l) (i := 7) (j := 1) (by decide)).symm.trans h), fun h => h2 ((done_set_ne (l := l) (i := 7) (j := 2) (by decide)).symm.trans h), fun h => h3 ((done_set_ne (l := l) (i := 7) (j := 3) (by decide)).symm.trans h), fun h => h4 ((done_set_ne (l := l) (i := 7) (j := 4) (by decide)).symm.trans h), fun h => h5 ((done_set_ne (l := l) (i := 7) (j := 5) (by decide)).symm.trans h), fun h => h6 ((done_set_ne (l := l) (i := 7) (j := 6) (by decide)).symm.trans h), fun _ => rfl, fun h => h8 ((done_set_ne (l := l) (i := 7) (j := 8) (by decide)).symm.trans h), fun h => h9 ((done_set_ne (l := l) (i := 7) (j := 9) (by decide)).symm.trans h), fun h => h10 ((done_set_ne (l := l) (i := 7) (j := 10) (by decide)).symm.trans h), fun h => h11 ((done_set_ne (l := l) (i := 7) (j := 11) (by decide)).symm.trans h), fun h => h12 ((done_set_ne (l := l) (i := 7) (j := 12) (by decide)).symm.trans h), fun h => h13 ((done_set_ne (l := l) (i := 7) (j := 13) (by decide)).symm.trans h), fun h => h14 ((done_set_ne (l := l) (i := 7) (j := 14) (by decide)).symm.trans h), fun h => (done_set_ne (l := l) (i := 7) (j := 15) (by decide)).trans (c15 ((done_set_ne (l := l) (i := 7) (j := 18) (by decide)).symm.trans h)), fun h => (done_set_ne (l := l) (i := 7) (j := 16) (by decide)).trans (c16 ((done_set_ne (l := l) (i := 7) (j := 19) (by decide)).symm.trans h)), fun h => (done_set_ne (l := l) (i := 7) (j := 17) (by decide)).trans (c17 ((done_set_ne (l := l) (i := 7) (j := 20) (by decide)).symm.trans h)), hA, fun h => ((v15 ((done_set_ne (l := l) (i := 7) (j := 15) (by decide)).symm.trans h))).weaken (fun h => ((done_set_ne (l := l) (i := 7) (j := 18) (by decide)).symm.trans h)), fun h => ((v16 ((done_set_ne (l := l) (i := 7) (j := 16) (by decide)).symm.trans h))).weaken (fun h => ((done_set_ne (l := l) (i := 7) (j := 19) (by decide)).symm.trans h)), fun h => ((v17 ((done_set_ne (l := l) (i := 7) (j := 17) (by decide)).symm.trans h))).weaken (fun h => ((done_set_ne (l := l) (i := 7) (j := 20) (by decide)).symm.trans h)), fun h h2 => n15_16 ((done_set_ne (l := l) (i := 7) (j := 15) (by decide)).symm.trans h) ((done_set_ne (l := l) (i := 7) (j := 16) (by decide)).symm.trans h2), fun h h2 => n15_17 ((done_set_ne (l := l) (i := 7) (j := 15) (by decide)).symm.trans h) ((done_set_ne (l := l) (i := 7) (j := 17) (by decide)).symm.trans h2), fun h h2 => n16_17 ((done_set_ne (l := l) (i := 7) (j := 16) (by decide)).symm.trans h) ((done_set_ne (l := l) (i := 7) (j := 17) (by decide)).symm.trans h2)⟩
      · intro l a w' hI hn hall K hK
        obtain ⟨hz, u7, u8, u9, u42, u43, u44, u45, u46, u47, u48, u49, u50, u51, u52, u53, u54, u55, u56, rfl, hR⟩ := hI
        have hzh := Lib.hid hz
        have hnh := Lib.hid hn
        have HR := Lib.hid hR
        obtain ⟨h0, h1, h2, h3, h4, h5, h6, h7, h8, h9, h10, h11, h12, h13, h14, c15, c16, c17, hA, v15, v16, v17, n15_16, n15_17, n16_17⟩ := hR
        have e7 := h7 (hall { on := 7, ground := Ground.data } (by simp) rfl)
        clear hz hn hall h0 h1 h2 h3 h4 h5 h6 h7 h8 h9 h10 h11 h12 h13 h14 c15 c16 c17 v15 v16 v17 n15_16 n15_17 n16_17
        obtain ⟨a0, a1, a2, a3, a4, a5, _, _⟩ := hA
        subst e7
        unfold FrR
        go_simp
        refine hK _ _ ⟨by simpa using hzh.out, _, _, _, _, _, _, _, _, _, _, _, _, _, _, _, _, _, _, rfl, ?_⟩
        obtain ⟨h0, h1, h2, h3, h4, h5, h6, h7, h8, h9, h10, h11, h12, h13, h14, c15, c16, c17, hA, v15, v16, v17, n15_16, n15_17, n16_17⟩ := HR.out
        exact ⟨fun h => h0 ((done_set_ne (l := l) (i := 8) (j := 0) (by decide)).symm.trans h), fun h => h1 ((done_set_ne (l := l) (i := 8) (j := 1) (by decide)).symm.trans h), fun h => h2 ((done_set_ne (l := l) (i := 8) (j := 2) (by decide)).symm.trans h), fun h => h3 ((done_set_ne (l := l) (i := 8) (j := 3) (by decide)).symm.trans h), fun h => h4 ((done_set_ne (l := l) (i := 8) (j := 4) (by decide)).symm.trans h), fun h => h5 ((done_set_ne (l := l) (i := 8) (j := 5) (by decide)).symm.trans h), fun h => h6 ((done_set_ne (l := l) (i := 8) (j := 6) (by decide)).symm.trans h), fun h => h7 ((done_set_ne (l := l) (i := 8) (j := 7) (by decide)).symm.trans h), fun _ => rfl, fun h => h9 ((done_set_ne (l := l) (i := 8) (j := 9) (by decide)).symm.trans h), fun h => h10 ((done_set_ne (l := l) (i := 8) (j := 10) (by decide)).symm.trans h), fun h => h11 ((done_set_ne (l := l) (i := 8) (j := 11) (by decide)).symm.trans h), fun h => h12 ((done_set_ne (l := l) (i := 8) (j := 12) (by decide)).symm.trans h), fun h => h13 ((done_set_ne (l := l) (i := 8) (j := 13) (by decide)).symm.trans h), fun h => h14 ((done_set_ne (l := l) (i := 8) (j := 14) (by decide)).symm.trans h), fun h => (done_set_ne (l := l) (i := 8) (j := 15) (by decide)).trans (c15 ((done_set_ne (l := l) (i := 8) (j := 18) (by decide)).symm.trans h)), fun h => (done_set_ne (l := l) (i := 8) (j := 16) (by decide)).trans (c16 ((done_set_ne (l := l) (i := 8) (j := 19) (by decide)).symm.trans h)), fun h => (done_set_ne (l := l) (i := 8) (j := 17) (by decide)).trans (c17 ((done_set_ne (l := l) (i := 8) (j := 20) (by decide)).symm.trans h)), hA, fun h => ((v15 ((done_set_ne (l := l) (i := 8) (j := 15) (by decide)).symm.trans h))).weaken (fun h => ((done_set_ne (l := l) (i := 8) (j := 18) (by decide)).symm.trans h)), fun h => ((v16 ((done_set_ne (l := l) (i := 8) (j := 16) (by decide)).symm.trans h))).weaken (fun h => ((done_set_ne (l := l) (i := 8) (j := 19) (by decide)).symm.trans h)), fun h => ((v17 ((done_set_ne (l := l) (i := 8) (j := 17) (by decide)).symm.trans h))).weaken (fun h => ((done_set_ne (l := l) (i := 8) (j := 20) (by decide)).symm.trans h)), fun h h2 => n15_16 ((done_set_ne (l := l) (i := 8) (j := 15) (by decide)).symm.trans h) ((done_set_ne (l := l) (i := 8) (j := 16) (by decide)).symm.trans h2), fun h h2 => n15_17 ((done_set_ne (l := l) (i := 8) (j := 15) (by decide)).symm.trans h) ((done_set_ne (l := l) (i := 8) (j := 17) (by decide)).symm.trans h2), fun h h2 => n16_17 ((done_set_ne (l := l) (i := 8) (j := 16) (by decide)).symm.trans h) ((done_set_ne (l := l) (i := 8) (j := 17) (by decide)).symm.trans h2)⟩
      · intro l a w' hI hn hall K hK
        obtain ⟨hz, u7, u8, u9, u42, u43, u44, u45, u46, u47, u48, u49, u50, u51, u52, u53, u54, u55, u56, rfl, hR⟩ := hI
        have hzh := Lib.hid hz
        have hnh := Lib.hid hn
        have HR := Lib.hid hR
        obtain ⟨h0, h1, h2, h3, h4, h5, h6, h7, h8, h9, h10, h11, h12, h13, h14, c15, c16, c17, hA, v15, v16, v17, n15_16, n15_17, n16_17⟩ := hR
        have e6 := h6 (hall { on := 6, ground := Ground.data } (by simp) rfl)
        have e8 := h8 (hall { on := 8, ground := Ground.data } (by simp) rfl)
        clear hz hn hall h0 h1 h2 h3 h4 h5 h6 h7 h8 h9 h10 h11 h12 h13 h14 c15 c16 c17 v15 v16 v17 n15_16 n15_17 n16_17
        clear hA
        subst e6
        subst e8
        unfold FrR
        go_simp
        refine (point_any _ _ _).mono ?_
        rintro e w2 ⟨rfl, hb⟩
        refine hK _ _ ⟨by simpa using hzh.out, _, _, _, _, _, _, _, _, _, _, _, _, _, _, _, _, _, _, rfl, ?_⟩
        obtain ⟨h0, h1, h2, h3, h4, h5, h6, h7, h8, h9, h10, h11, h12, h13, h14, c15, c16, c17, hA, v15, v16, v17, n15_16, n15_17, n16_17⟩ := HR.out
        exact ⟨fun h => h0 ((done_set_ne (l := l) (i := 9) (j := 0) (by decide)).symm.trans h), fun h => h1 ((done_set_ne (l := l) (i := 9) (j := 1) (by decide)).symm.trans h), fun h => h2 ((done_set_ne (l := l) (i := 9) (j := 2) (by decide)).symm.trans h), fun h => h3 ((done_set_ne (l := l) (i := 9) (j := 3) (by decide)).symm.trans h), fun h => h4 ((done_set_ne (l := l) (i := 9) (j := 4) (by decide)).symm.trans h), fun h => h5 ((done_set_ne (l := l) (i := 9) (j := 5) (by decide)).symm.trans h), fun h => h6 ((done_set_ne (l := l) (i := 9) (j := 6) (by decide)).symm.trans h), fun h => h7 ((done_set_ne (l := l) (i := 9) (j := 7) (by decide)).symm.trans h), fun h => h8 ((done_set_ne (l := l) (i := 9) (j := 8) (by decide)).symm.trans h), fun _ => rfl, fun h => h10 ((done_set_ne (l := l) (i := 9) (j := 10) (by decide)).symm.trans h), fun h => h11 ((done_set_ne (l := l) (i := 9) (j := 11) (by decide)).symm.trans h), fun h => h12 ((done_set_ne (l := l) (i := 9) (j := 12) (by decide)).symm.trans h), fun h => h13 ((done_set_ne (l := l) (i := 9) (j := 13) (by decide)).symm.trans h), fun h => h14 ((done_set_ne (l := l) (i := 9) (j := 14) (by decide)).symm.trans h), fun h => (done_set_ne (l := l) (i := 9) (j := 15) (by decide)).trans (c15 ((done_set_ne (l := l) (i := 9) (j := 18) (by decide)).symm.trans h)), fun h => (done_set_ne (l := l) (i := 9) (j := 16) (by decide)).trans (c16 ((done_set_ne (l := l) (i := 9) (j := 19) (by decide)).symm.trans h)), fun h => (done_set_ne (l := l) (i := 9) (j := 17) (by decide)).trans (c17 ((done_set_ne (l := l) (i := 9) (j := 20) (by decide)).symm.trans h)), hA.below hb, fun h => ((v15 ((done_set_ne (l := l) (i := 9) (j := 15) (by decide)).symm.trans h)).below hb).weaken (fun h => ((done_set_ne (l := l) (i := 9) (j := 18) (by decide)).symm.trans h)), fun h => ((v16 ((done_set_ne (l := l) (i := 9) (j := 16) (by decide)).symm.trans h)).below hb).weaken (fun h => ((done_set_ne (l := l) (i := 9) (j := 19) (by decide)).symm.trans h)), fun h => ((v17 ((done_set_ne (l := l) (i := 9) (j := 17) (by decide)).symm.trans h)).below hb).weaken (fun h => ((done_set_ne (l := l) (i := 9) (j := 20) (by decide)).symm.trans h)), fun h h2 => n15_16 ((done_set_ne (l := l) (i := 9) (j := 15) (by decide)).symm.trans h) ((done_set_ne (l := l) (i := 9) (j := 16) (by decide)).symm.trans h2), fun h h2 => n15_17 ((done_set_ne (l := l) (i := 9) (j := 15) (by decide)).symm.trans h) ((done_set_ne (l := l) (i := 9) (j := 17) (by decide)).symm.trans h2), fun h h2 => n16_17 ((done_set_ne (l := l) (i := 9) (j := 16) (by decide)).symm.trans h) ((done_set_ne (l := l) (i := 9) (j := 17) (by decide)).symm.trans h2)⟩
      · intro l a w' hI hn hall K hK
        obtain ⟨hz, u7, u8, u9, u42, u43, u44, u45, u46, u47, u48, u49, u50, u51, u52, u53, u54, u55, u56, rfl, hR⟩ := hI
        have hzh := Lib.hid hz
        have hnh := Lib.hid hn
        have HR := Lib.hid hR
        obtain ⟨h0, h1, h2, h3, h4, h5, h6, h7, h8, h9, h10, h11, h12, h13, h14, c15, c16, c17, hA, v15, v16, v17, n15_16, n15_17, n16_17⟩ := hR
        clear hz hn hall h0 h1 h2 h3 h4 h5 h6 h7 h8 h9 h10 h11 h12 h13 h14 c15 c16 c17 v15 v16 v17 n15_16 n15_17 n16_17
        clear hA
        unfold FrR
        go_simp
        refine hK _ _ ⟨by simpa using hzh.out, _, _, _, _, _, _, _, _, _, _, _, _, _, _, _, _, _, _, rfl, ?_⟩
        obtain ⟨h0, h1, h2, h3, h4, h5, h6, h7, h8, h9, h10, h11, h12, h13, h14, c15, c16, c17, hA, v15, v16, v17, n15_16, n15_17, n16_17⟩ := HR.out
        exact ⟨fun h => h0 ((done_set_ne (l := l) (i := 10) (j := 0) (by decide)).symm.trans h), fun h => h1 ((done_set_ne (l := l) (i := 10) (j := 1) (by decide)).symm.trans h), fun h => h2 ((done_set_ne (l := l) (i := 10) (j := 2) (by decide)).symm.trans h), fun h => h3 ((done_set_ne (l := l) (i := 10) (j := 3) (by decide)).symm.trans h), fun h => h4 ((done_set_ne (l := l) (i := 10) (j := 4) (by decide)).symm.trans h), fun h => h5 ((done_set_ne (l := l) (i := 10) (j := 5) (by decide)).symm.trans h), fun h => h6 ((done_set_ne (l := l) (i := 10) (j := 6) (by decide)).symm.trans h), fun h => h7 ((done_set_ne (l := l) (i := 10) (j := 7) (by decide)).symm.trans h), fun h => h8 ((done_set_ne (l := l) (i := 10) (j := 8) (by decide)).symm.trans h), fun h => h9 ((done_set_ne (l := l) (i := 10) (j := 9) (by decide)).symm.trans h), fun _ => rfl, fun h => h11 ((done_set_ne (l := l) (i := 10) (j := 11) (by decide)).symm.trans h), fun h => h12 ((done_set_ne (l := l) (i := 10) (j := 12) (by decide)).symm.trans h), fun h => h13 ((done_set_ne (l := l) (i := 10) (j := 13) (by decide)).symm.trans h), fun h => h14 ((done_set_ne (l := l) (i := 10) (j := 14) (by decide)).symm.trans h), fun h => (done_set_ne (l := l) (i := 10) (j := 15) (by decide)).trans (c15 ((done_set_ne (l := l) (i := 10) (j := 18) (by decide)).symm.trans h)), fun h => (done_set_ne (l := l) (i := 10) (j := 16) (by decide)).trans (c16 ((done_set_ne (l := l) (i := 10) (j := 19) (by decide)).symm.trans h)), fun h => (done_set_ne (l := l) (i := 10) (j := 17) (by decide)).trans (c17 ((done_set_ne (l := l) (i := 10) (j := 20) (by decide)).symm.trans h)), hA, fun h => ((v15 ((done_set_ne (l := l) (i := 10) (j := 15) (by decide)).symm.trans h))).weaken (fun h => ((done_set_ne (l := l) (i := 10) (j := 18) (by decide)).symm.trans h)), fun h => ((v16 ((done_set_ne (l := l) (i := 10) (j := 16) (by decide)).symm.trans h))).weaken (fun h => ((done_set_ne (l := l) (i := 10) (j := 19) (by decide)).symm.trans h)), fun h => ((v17 ((done_set_ne (l := l) (i := 10) (j := 17) (by decide)).symm.trans h))).weaken (fun h => ((done_set_ne (l := l) (i := 10) (j := 20) (by decide)).symm.trans h)), fun h h2 => n15_16 ((done_set_ne (l := l) (i := 10) (j := 15) (by decide)).symm.trans h) ((done_set_ne (l := l) (i := 10) (j := 16) (by decide)).symm.trans h2), fun h h2 => n15_17 ((done_set_ne (l := l) (i := 10) (j := 15) (by decide)).symm.trans h) ((done_set_ne (l := l) (i := 10) (j := 17) (by decide)).symm.trans h2), fun h h2 => n16_17 ((done_set_ne (l := l) (i := 10) (j := 16) (by decide)).symm.trans h) ((done_set_ne (l := l) (i := 10) (j := 17) (by decide)).symm.trans h2)⟩
      · intro l a w' hI hn hall K hK
        obtain ⟨hz, u7, u8, u9, u42, u43, u44, u45, u46, u47, u48, u49, u50, u51, u52, u53, u54, u55, u56, rfl, hR⟩ := hI
        have hzh := Lib.hid hz
        have hnh := Lib.hid hn
        have HR := Lib.hid hR
        obtain ⟨h0, h1, h2, h3, h4, h5, h6, h7, h8, h9, h10, h11, h12, h13, h14, c15, c16, c17, hA, v15, v16, v17, n15_16, n15_17, n16_17⟩ := hR
        have e10 := h10 (hall { on := 10, ground := Ground.data } (by simp) rfl)
        clear hz hn hall h0 h1 h2 h3 h4 h5 h6 h7 h8 h9 h10 h11 h12 h13 h14 c15 c16 c17 v15 v16 v17 n15_16 n15_17 n16_17
        obtain ⟨a0, a1, a2, a3, a4, a5, _, _⟩ := hA
        subst e10
        unfold FrR
        go_simp
        refine hK _ _ ⟨by simpa using hzh.out, _, _, _, _, _, _, _, _, _, _, _, _, _, _, _, _, _, _, rfl, ?_⟩
        obtain ⟨h0, h1, h2, h3, h4, h5, h6, h7, h8, h9, h10, h11, h12, h13, h14, c15, c16, c17, hA, v15, v16, v17, n15_16, n15_17, n16_17⟩ := HR.out
        exact ⟨fun h => h0 ((done_set_ne (l := l) (i := 11) (j := 0) (by decide)).symm.trans h), fun h => h1 ((done_set_ne (l := l) (i := 11) (j := 1) (by decide)).symm.trans h), fun h => h2 ((done_set_ne (l := l) (i := 11) (j := 2) (by decide)).symm.trans h), fun h => h3 ((done_set_ne (l := l) (i := 11) (j := 3) (by decide)).symm.trans h), fun h => h4 ((done_set_ne (l := l) (i := 11) (j := 4) (by decide)).symm.trans h), fun h => h5 ((done_set_ne (l := l) (i := 11) (j := 5) (by decide)).symm.trans h), fun h => h6 ((done_set_ne (l := l) (i := 11) (j := 6) (by decide)).symm.trans h), fun h => h7 ((done_set_ne (l := l) (i := 11) (j := 7) (by decide)).symm.trans h), fun h => h8 ((done_set_ne (l := l) (i := 11) (j := 8) (by decide)).symm.trans h), fun h => h9 ((done_set_ne (l := l) (i := 11) (j := 9) (by decide)).symm.trans h), fun h => h10 ((done_set_ne (l := l) (i := 11) (j := 10) (by decide)).symm.trans h), fun _ => rfl, fun h => h12 ((done_set_ne (l := l) (i := 11) (j := 12) (by decide)).symm.trans h), fun h => h13 ((done_set_ne (l := l) (i := 11) (j := 13) (by decide)).symm.trans h), fun h => h14 ((done_set_ne (l := l) (i := 11) (j := 14) (by decide)).symm.trans h), fun h => (done_set_ne (l := l) (i := 11) (j := 15) (by decide)).trans (c15 ((done_set_ne (l := l) (i := 11) (j := 18) (by decide)).symm.trans h)), fun h => (done_set_ne (l := l) (i := 11) (j := 16) (by decide)).trans (c16 ((done_set_ne (l := l) (i := 11) (j := 19) (by decide)).symm.trans h)), fun h => (done_set_ne (l := l) (i := 11) (j := 17) (by decide)).trans (c17 ((done_set_ne (l := l) (i := 11) (j := 20) (by decide)).symm.trans h)), hA, fun h => ((v15 ((done_set_ne (l := l) (i := 11) (j := 15) (by decide)).symm.trans h))).weaken (fun h => ((done_set_ne (l := l) (i := 11) (j := 18) (by decide)).symm.trans h)), fun h => ((v16 ((done_set_ne (l := l) (i := 11) (j := 16) (by decide)).symm.trans h))).weaken (fun h => ((done_set_ne (l := l) (i := 11) (j := 19) (by decide)).symm.trans h)), fun h => ((v17 ((done_set_ne (l := l) (i := 11) (j := 17) (by decide)).symm.trans h))).weaken (fun h => ((done_set_ne (l := l) (i := 11) (j := 20) (by decide)).symm.trans h)), fun h h2 => n15_16 ((done_set_ne (l := l) (i := 11) (j := 15) (by decide)).symm.trans h) ((done_set_ne (l := l) (i := 11) (j := 16) (by decide)).symm.trans h2), fun h h2 => n15_17 ((done_set_ne (l := l) (i := 11) (j := 15) (by decide)).symm.trans h) ((done_set_ne (l := l) (i := 11) (j := 17) (by decide)).symm.trans h2), fun h h2 => n16_17 ((done_set_ne (l := l) (i := 11) (j := 16) (by decide)).symm.trans h) ((done_set_ne (l := l) (i := 11) (j := 17) (by decide)).symm.trans h2)⟩
      · intro l a w' hI hn hall K hK
        obtain ⟨hz, u7, u8, u9, u42, u43, u44, u45, u46, u47, u48, u49, u50, u51, u52, u53, u54, u55, u56, rfl, hR⟩ := hI
        have hzh := Lib.hid hz
        have hnh := Lib.hid hn
        have HR := Lib.hid hR
        obtain ⟨h0, h1, h2, h3, h4, h5, h6, h7, h8, h9, h10, h11, h12, h13, h14, c15, c16, c17, hA, v15, v16, v17, n15_16, n15_17, n16_17⟩ := hR
        clear hz hn hall h0 h1 h2 h3 h4 h5 h6 h7 h8 h9 h10 h11 h12 h13 h14 c15 c16 c17 v15 v16 v17 n15_16 n15_17 n16_17
        clear hA
        unfold FrR
        go_simp
        refine hK _ _ ⟨by simpa using hzh.out, _, _, _, _, _, _, _, _, _, _, _, _, _, _, _, _, _, _, rfl, ?_⟩
        obtain ⟨h0, h1, h2, h3, h4, h5, h6, h7, h8, h9, h10, h11, h12, h13, h14, c15, c16, c17, hA, v15, v16, v17, n15_16, n15_17, n16_17⟩ := HR.out
        exact ⟨fun h => h0 ((done_set_ne (l := l) (i := 12) (j := 0) (by decide)).symm.trans h), fun h => h1 ((done_set_ne (l := l) (i := 12) (j := 1) (by decide)).symm.trans h), fun h => h2 ((done_set_ne (l := l) (i := 12) (j := 2) (by decide)).symm.trans h), fun h => h3 ((done_set_ne (l := l) (i := 12) (j := 3) (by decide)).symm.trans h), fun h => h4 ((done_set_ne (l := l) (i := 12) (j := 4) (by decide)).symm.trans h), fun h => h5 ((done_set_ne (l := l) (i := 12) (j := 5) (by decide)).symm.trans h), fun h => h6 ((done_set_ne (l := l) (i := 12) (j := 6) (by decide)).symm.trans h), fun h => h7 ((done_set_ne (l := l) (i := 12) (j := 7) (by decide)).symm.trans h), fun h => h8 ((done_set_ne (l := l) (i := 12) (j := 8) (by decide)).symm.trans h), fun h => h9 ((done_set_ne (l := l) (i := 12) (j := 9) (by decide)).symm.trans h), fun h => h10 ((done_set_ne (l := l) (i := 12) (j := 10) (by decide)).symm.trans h), fun h => h11 ((done_set_ne (l := l) (i := 12) (j := 11) (by decide)).symm.trans h), fun _ => rfl, fun h => h13 ((done_set_ne (l := l) (i := 12) (j := 13) (by decide)).symm.trans h), fun h => h14 ((done_set_ne (l := l) (i := 12) (j := 14) (by decide)).symm.trans h), fun h => (done_set_ne (l := l) (i := 12) (j := 15) (by decide)).trans (c15 ((done_set_ne (l := l) (i := 12) (j := 18) (by decide)).symm.trans h)), fun h => (done_set_ne (l := l) (i := 12) (j := 16) (by decide)).trans (c16 ((done_set_ne (l := l) (i := 12) (j := 19) (by decide)).symm.trans h)), fun h => (done_set_ne (l := l) (i := 12) (j := 17) (by decide)).trans (c17 ((done_set_ne (l := l) (i := 12) (j := 20) (by decide)).symm.trans h)), hA, fun h => ((v15 ((done_set_ne (l := l) (i := 12) (j := 15) (by decide)).symm.trans h))).weaken (fun h => ((done_set_ne (l := l) (i := 12) (j := 18) (by decide)).symm.trans h)), fun h => ((v16 ((done_set_ne (l := l) (i := 12) (j := 16) (by decide)).symm.trans h))).weaken (fun h => ((done_set_ne (l := l) (i := 12) (j := 19) (by decide)).symm.trans h)), fun h => ((v17 ((done_set_ne (l := l) (i := 12) (j := 17) (by decide)).symm.trans h))).weaken (fun h => ((done_set_ne (l := l) (i := 12) (j := 20) (by decide)).symm.trans h)), fun h h2 => n15_16 ((done_set_ne (l := l) (i := 12) (j := 15) (by decide)).symm.trans h) ((done_set_ne (l := l) (i := 12) (j := 16) (by decide)).symm.trans h2), fun h h2 => n15_17 ((done_set_ne (l := l) (i := 12) (j := 15) (by decide)).symm.trans h) ((done_set_ne (l := l) (i := 12) (j := 17) (by decide)).symm.trans h2), fun h h2 => n16_17 ((done_set_ne (l := l) (i := 12) (j := 16) (by decide)).symm.trans h) ((done_set_ne (l := l) (i := 12) (j := 17) (by decide)).symm.trans h2)⟩
      · intro l a w' hI hn hall K hK
        obtain ⟨hz, u7, u8, u9, u42, u43, u44, u45, u46, u47, u48, u49, u50, u51, u52, u53, u54, u55, u56, rfl, hR⟩ := hI
        have hzh := Lib.hid hz
        have hnh := Lib.hid hn
        have HR := Lib.hid hR
        obtain ⟨h0, h1, h2, h3, h4, h5, h6, h7, h8, h9, h10, h11, h12, h13, h14, c15, c16, c17, hA, v15, v16, v17, n15_16, n15_17, n16_17⟩ := hR
        have e12 := h12 (hall { on := 12, ground := Ground.data } (by simp) rfl)
        clear hz hn hall h0 h1 h2 h3 h4 h5 h6 h7 h8 h9 h10 h11 h12 h13 h14 c15 c16 c17 v15 v16 v17 n15_16 n15_17 n16_17
        obtain ⟨a0, a1, a2, a3, a4, a5, _, _⟩ := hA
        subst e12
        unfold FrR
        go_simp
        refine hK _ _ ⟨by simpa using hzh.out, _, _, _, _, _, _, _, _, _, _, _, _, _, _, _, _, _, _, rfl, ?_⟩
        obtain ⟨h0, h1, h2, h3, h4, h5, h6, h7, h8, h9, h10, h11, h12, h13, h14, c15, c16, c17, hA, v15, v16, v17, n15_16, n15_17, n16_17⟩ := HR.out
        exact ⟨fun h => h0 ((done_set_ne (l := l) (i := 13) (j := 0) (by decide)).symm.trans h), fun h => h1 ((done_set_ne (l := l) (i := 13) (j := 1) (by decide)).symm.trans h), fun h => h2 ((done_set_ne (l := l) (i := 13) (j := 2) (by decide)).symm.trans h), fun h => h3 ((done_set_ne (l := l) (i := 13) (j := 3) (by decide)).symm.trans h), fun h => h4 ((done_set_ne (l := l) (i := 13) (j := 4) (by decide)).symm.trans h), fun h => h5 ((done_set_ne (l := l) (i := 13) (j := 5) (by decide)).symm.trans h), fun h => h6 ((done_set_ne (l := l) (i := 13) (j := 6) (by decide)).symm.trans h), fun h => h7 ((done_set_ne (l := l) (i := 13) (j := 7) (by decide)).symm.trans h), fun h => h8 ((done_set_ne (l := l) (i := 13) (j := 8) (by decide)).symm.trans h), fun h => h9 ((done_set_ne (l := l) (i := 13) (j := 9) (by decide)).symm.trans h), fun h => h10 ((done_set_ne (l := l) (i := 13) (j := 10) (by decide)).symm.trans h), fun h => h11 ((done_set_ne (l := l) (i := 13) (j := 11) (by decide)).symm.trans h), fun h => h12 ((done_set_ne (l := l) (i := 13) (j := 12) (by decide)).symm.trans h), fun _ => rfl, fun h => h14 ((done_set_ne (l := l) (i := 13) (j := 14) (by decide)).symm.trans h), fun h => (done_set_ne (l := l) (i := 13) (j := 15) (by decide)).trans (c15 ((done_set_ne (l := l) (i := 13) (j := 18) (by decide)).symm.trans h)), fun h => (done_set_ne (l := l) (i := 13) (j := 16) (by decide)).trans (c16 ((done_set_ne (l := l) (i := 13) (j := 19) (by decide)).symm.trans h)), fun h => (done_set_ne (l := l) (i := 13) (j := 17) (by decide)).trans (c17 ((done_set_ne (l := l) (i := 13) (j := 20) (by decide)).symm.trans h)), hA, fun h => ((v15 ((done_set_ne (l := l) (i := 13) (j := 15) (by decide)).symm.trans h))).weaken (fun h => ((done_set_ne (l := l) (i := 13) (j := 18) (by decide)).symm.trans h)), fun h => ((v16 ((done_set_ne (l := l) (i := 13) (j := 16) (by decide)).symm.trans h))).weaken (fun h => ((done_set_ne (l := l) (i := 13) (j := 19) (by decide)).symm.trans h)), fun h => ((v17 ((done_set_ne (l := l) (i := 13) (j := 17) (by decide)).symm.trans h))).weaken (fun h => ((done_set_ne (l := l) (i := 13) (j := 20) (by decide)).symm.trans h)), fun h h2 => n15_16 ((done_set_ne (l := l) (i := 13) (j := 15) (by decide)).symm.trans h) ((done_set_ne (l := l) (i := 13) (j := 16) (by decide)).symm.trans h2), fun h h2 => n15_17 ((done_set_ne (l := l) (i := 13) (j := 15) (by decide)).symm.trans h) ((done_set_ne (l := l) (i := 13) (j := 17) (by decide)).symm.trans h2), fun h h2 => n16_17 ((done_set_ne (l := l) (i := 13) (j := 16) (by decide)).symm.trans h) ((done_set_ne (l := l) (i := 13) (j := 17) (by decide)).symm.trans h2)⟩
      · intro l a w' hI hn hall K hK
        obtain ⟨hz, u7, u8, u9, u42, u43, u44, u45, u46, u47, u48, u49, u50, u51, u52, u53, u54, u55, u56, rfl, hR⟩ := hI
        have hzh := Lib.hid hz
        have hnh := Lib.hid hn
        have HR := Lib.hid hR
        obtain ⟨h0, h1, h2, h3, h4, h5, h6, h7, h8, h9, h10, h11, h12, h13, h14, c15, c16, c17, hA, v15, v16, v17, n15_16, n15_17, n16_17⟩ := hR
        have e11 := h11 (hall { on := 11, ground := Ground.data } (by simp) rfl)
        have e13 := h13 (hall { on := 13, ground := Ground.data } (by simp) rfl)
        clear hz hn hall h0 h1 h2 h3 h4 h5 h6 h7 h8 h9 h10 h11 h12 h13 h14 c15 c16 c17 v15 v16 v17 n15_16 n15_17 n16_17
        clear hA
        subst e11
        subst e13
        unfold FrR
        go_simp
        refine (point_any _ _ _).mono ?_
        rintro e w2 ⟨rfl, hb⟩
        refine hK _ _ ⟨by simpa using hzh.out, _, _, _, _, _, _, _, _, _, _, _, _, _, _, _, _, _, _, rfl, ?_⟩
        obtain ⟨h0, h1, h2, h3, h4, h5, h6, h7, h8, h9, h10, h11, h12, h13, h14, c15, c16, c17, hA, v15, v16, v17, n15_16, n15_17, n16_17⟩ := HR.out
        exact ⟨fun h => h0 ((done_set_ne (l := l) (i := 14) (j := 0) (by decide)).symm.trans h), fun h => h1 ((done_set_ne (l := l) (i := 14) (j := 1) (by decide)).symm.trans h), fun h => h2 ((done_set_ne (l := l) (i := 14) (j := 2) (by decide)).symm.trans h), fun h => h3 ((done_set_ne (l := l) (i := 14) (j := 3) (by decide)).symm.trans h), fun h => h4 ((done_set_ne (l := l) (i := 14) (j := 4) (by decide)).symm.trans h), fun h => h5 ((done_set_ne (l := l) (i := 14) (j := 5) (by decide)).symm.trans h), fun h => h6 ((done_set_ne (l := l) (i := 14) (j := 6) (by decide)).symm.trans h), fun h => h7 ((done_set_ne (l := l) (i := 14) (j := 7) (by decide)).symm.trans h), fun h => h8 ((done_set_ne (l := l) (i := 14) (j := 8) (by decide)).symm.trans h), fun h => h9 ((done_set_ne (l := l) (i := 14) (j := 9) (by decide)).symm.trans h), fun h => h10 ((done_set_ne (l := l) (i := 14) (j := 10) (by decide)).symm.trans h), fun h => h11 ((done_set_ne (l := l) (i := 14) (j := 11) (by decide)).symm.trans h), fun h => h12 ((done_set_ne (l := l) (i := 14) (j := 12) (by decide)).symm.trans h), fun h => h13 ((done_set_ne (l := l) (i := 14) (j := 13) (by decide)).symm.trans h), fun _ => rfl, fun h => (done_set_ne (l := l) (i := 14) (j := 15) (by decide)).trans (c15 ((done_set_ne (l := l) (i := 14) (j := 18) (by decide)).symm.trans h)), fun h => (done_set_ne (l := l) (i := 14) (j := 16) (by decide)).trans (c16 ((done_set_ne (l := l) (i := 14) (j := 19) (by decide)).symm.trans h)), fun h => (done_set_ne (l := l) (i := 14) (j := 17) (by decide)).trans (c17 ((done_set_ne (l := l) (i := 14) (j := 20) (by decide)).symm.trans h)), hA.below hb, fun h => ((v15 ((done_set_ne (l := l) (i := 14) (j := 15) (by decide)).symm.trans h)).below hb).weaken (fun h => ((done_set_ne (l := l) (i := 14) (j := 18) (by decide)).symm.trans h)), fun h => ((v16 ((done_set_ne (l := l) (i := 14) (j := 16) (by decide)).symm.trans h)).below hb).weaken (fun h => ((done_set_ne (l := l) (i := 14) (j := 19) (by decide)).symm.trans h)), fun h => ((v17 ((done_set_ne (l := l) (i := 14) (j := 17) (by decide)).symm.trans h)).below hb).weaken (fun h => ((done_set_ne (l := l) (i := 14) (j := 20) (by decide)).symm.trans h)), fun h h2 => n15_16 ((done_set_ne (l := l) (i := 14) (j := 15) (by decide)).symm.trans h) ((done_set_ne (l := l) (i := 14) (j := 16) (by decide)).symm.trans h2), fun h h2 => n15_17 ((done_set_ne (l := l) (i := 14) (j := 15) (by decide)).symm.trans h) ((done_set_ne (l := l) (i := 14) (j := 17) (by decide)).symm.trans h2), fun h h2 => n16_17 ((done_set_ne (l := l) (i := 14) (j := 16) (by decide)).symm.trans h) ((done_set_ne (l := l) (i := 14) (j := 17) (by decide)).symm.trans h2)⟩
      · intro l a w' hI hn hall K hK
        obtain ⟨hz, u7, u8, u9, u42, u43, u44, u45, u46, u47, u48, u49, u50, u51, u52, u53, u54, u55, u56, rfl, hR⟩ := hI
        have hzh := Lib.hid hz
        have hnh := Lib.hid hn
        have HR := Lib.hid hR
        obtain ⟨h0, h1, h2, h3, h4, h5, h6, h7, h8, h9, h10, h11, h12, h13, h14, c15, c16, c17, hA, v15, v16, v17, n15_16, n15_17, n16_17⟩ := hR
        clear hz hn hall h0 h1 h2 h3 h4 h5 h6 h7 h8 h9 h10 h11 h12 h13 h14 c15 c16 c17 v15 v16 v17 n15_16 n15_17 n16_17
        clear hA
        unfold FrR
        go_simp
        refine hK _ _ ⟨by simpa using hzh.out, _, _, _, _, _, _, _, _, _, _, _, _, _, _, _, _, _, _, rfl, ?_⟩
        obtain ⟨h0, h1, h2, h3, h4, h5, h6, h7, h8, h9, h10, h11, h12, h13, h14, c15, c16, c17, hA, v15, v16, v17, n15_16, n15_17, n16_17⟩ := HR.out
        exact ⟨fun h => h0 ((done_set_ne (l := l) (i := 15) (j := 0) (by decide)).symm.trans h), fun h => h1 ((done_set_ne (l := l) (i := 15) (j := 1) (by decide)).symm.trans h), fun h => h2 ((done_set_ne (l := l) (i := 15) (j := 2) (by decide)).symm.trans h), fun h => h3 ((done_set_ne (l := l) (i := 15) (j := 3) (by decide)).symm.trans h), fun h => h4 ((done_set_ne (l := l) (i := 15) (j := 4) (by decide)).symm.trans h), fun h => h5 ((done_set_ne (l := l) (i := 15) (j := 5) (by decide)).symm.trans h), fun h => h6 ((done_set_ne (l := l) (i := 15) (j := 6) (by decide)).symm.trans h), fun h => h7 ((done_set_ne (l := l) (i := 15) (j := 7) (by decide)).symm.trans h), fun h => h8 ((done_set_ne (l := l) (i := 15) (j := 8) (by decide)).symm.trans h), fun h => h9 ((done_set_ne (l := l) (i := 15) (j := 9) (by decide)).symm.trans h), fun h => h10 ((done_set_ne (l := l) (i := 15) (j := 10) (by decide)).symm.trans h), fun h => h11 ((done_set_ne (l := l) (i := 15) (j := 11) (by decide)).symm.trans h), fun h => h12 ((done_set_ne (l := l) (i := 15) (j := 12) (by decide)).symm.trans h), fun h => h13 ((done_set_ne (l := l) (i := 15) (j := 13) (by decide)).symm.trans h), fun h => h14 ((done_set_ne (l := l) (i := 15) (j := 14) (by decide)).symm.trans h), fun h => absurd (c15 ((done_set_ne (l := l) (i := 15) (j := 18) (by decide)).symm.trans h)) (by rw [getD_both hnh.out]; decide), fun h => (done_set_ne (l := l) (i := 15) (j := 16) (by decide)).trans (c16 ((done_set_ne (l := l) (i := 15) (j := 19) (by decide)).symm.trans h)), fun h => (done_set_ne (l := l) (i := 15) (j := 17) (by decide)).trans (c17 ((done_set_ne (l := l) (i := 15) (j := 20) (by decide)).symm.trans h)), hA.below ((Below.refl _ _).alloc (Nat.le_refl _) _), fun _ => Var.new hA.roomy (fun h => absurd (c15 ((done_set_ne (l := l) (i := 15) (j := 18) (by decide)).symm.trans h)) (by rw [getD_both hnh.out]; decide)), fun h => ((v16 ((done_set_ne (l := l) (i := 15) (j := 16) (by decide)).symm.trans h)).below ((Below.refl _ _).alloc (Nat.le_refl _) _)).weaken (fun h => ((done_set_ne (l := l) (i := 15) (j := 19) (by decide)).symm.trans h)), fun h => ((v17 ((done_set_ne (l := l) (i := 15) (j := 17) (by decide)).symm.trans h)).below ((Below.refl _ _).alloc (Nat.le_refl _) _)).weaken (fun h => ((done_set_ne (l := l) (i := 15) (j := 20) (by decide)).symm.trans h)), fun _ h => (v16 ((done_set_ne (l := l) (i := 15) (j := 16) (by decide)).symm.trans h)).apart, fun _ h => (v17 ((done_set_ne (l := l) (i := 15) (j := 17) (by decide)).symm.trans h)).apart, fun h h2 => n16_17 ((done_set_ne (l := l) (i := 15) (j := 16) (by decide)).symm.trans h) ((done_set_ne (l := l) (i := 15) (j := 17) (by decide)).symm.trans h2)⟩
      · intro l a w' hI hn hall K hK
        obtain ⟨hz, u7, u8, u9, u42, u43, u44, u45, u46, u47, u48, u49, u50, u51, u52, u53, u54, u55, u56, rfl, hR⟩ := hI
        have hzh := Lib.hid hz
        have hnh := Lib.hid hn
        have HR := Lib.hid hR
        obtain ⟨h0, h1, h2, h3, h4, h5, h6, h7, h8, h9, h10, h11, h12, h13, h14, c15, c16, c17, hA, v15, v16, v17, n15_16, n15_17, n16_17⟩ := hR
        clear hz hn hall h0 h1 h2 h3 h4 h5 h6 h7 h8 h9 h10 h11 h12 h13 h14 c15 c16 c17 v15 v16 v17 n15_16 n15_17 n16_17
        clear hA
        unfold FrR
        go_simp
        refine hK _ _ ⟨by simpa using hzh.out, _, _, _, _, _, _, _, _, _, _, _, _, _, _, _, _, _, _, rfl, ?_⟩
        obtain ⟨h0, h1, h2, h3, h4, h5, h6, h7, h8, h9, h10, h11, h12, h13, h14, c15, c16, c17, hA, v15, v16, v17, n15_16, n15_17, n16_17⟩ := HR.out
        exact ⟨fun h => h0 ((done_set_ne (l := l) (i := 16) (j := 0) (by decide)).symm.trans h), fun h => h1 ((done_set_ne (l := l) (i := 16) (j := 1) (by decide)).symm.trans h), fun h => h2 ((done_set_ne (l := l) (i := 16) (j := 2) (by decide)).symm.trans h), fun h => h3 ((done_set_ne (l := l) (i := 16) (j := 3) (by decide)).symm.trans h), fun h => h4 ((done_set_ne (l := l) (i := 16) (j := 4) (by decide)).symm.trans h), fun h => h5 ((done_set_ne (l := l) (i := 16) (j := 5) (by decide)).symm.trans h), fun h => h6 ((done_set_ne (l := l) (i := 16) (j := 6) (by decide)).symm.trans h), fun h => h7 ((done_set_ne (l := l) (i := 16) (j := 7) (by decide)).symm.trans h), fun h => h8 ((done_set_ne (l := l) (i := 16) (j := 8) (by decide)).symm.trans h), fun h => h9 ((done_set_ne (l := l) (i := 16) (j := 9) (by decide)).symm.trans h), fun h => h10 ((done_set_ne (l := l) (i := 16) (j := 10) (by decide)).symm.trans h), fun h => h11 ((done_set_ne (l := l) (i := 16) (j := 11) (by decide)).symm.trans h), fun h => h12 ((done_set_ne (l := l) (i := 16) (j := 12) (by decide)).symm.trans h), fun h => h13 ((done_set_ne (l := l) (i := 16) (j := 13) (by decide)).symm.trans h), fun h => h14 ((done_set_ne (l := l) (i := 16) (j := 14) (by decide)).symm.trans h), fun h => (done_set_ne (l := l) (i := 16) (j := 15) (by decide)).trans (c15 ((done_set_ne (l := l) (i := 16) (j := 18) (by decide)).symm.trans h)), fun h => absurd (c16 ((done_set_ne (l := l) (i := 16) (j := 19) (by decide)).symm.trans h)) (by rw [getD_both hnh.out]; decide), fun h => (done_set_ne (l := l) (i := 16) (j := 17) (by decide)).trans (c17 ((done_set_ne (l := l) (i := 16) (j := 20) (by decide)).symm.trans h)), hA.below ((Below.refl _ _).alloc (Nat.le_refl _) _), fun h => ((v15 ((done_set_ne (l := l) (i := 16) (j := 15) (by decide)).symm.trans h)).below ((Below.refl _ _).alloc (Nat.le_refl _) _)).weaken (fun h => ((done_set_ne (l := l) (i := 16) (j := 18) (by decide)).symm.trans h)), fun _ => Var.new hA.roomy (fun h => absurd (c16 ((done_set_ne (l := l) (i := 16) (j := 19) (by decide)).symm.trans h)) (by rw [getD_both hnh.out]; decide)), fun h => ((v17 ((done_set_ne (l := l) (i := 16) (j := 17) (by decide)).symm.trans h)).below ((Below.refl _ _).alloc (Nat.le_refl _) _)).weaken (fun h => ((done_set_ne (l := l) (i := 16) (j := 20) (by decide)).symm.trans h)), fun h _ => ((v15 ((done_set_ne (l := l) (i := 16) (j := 15) (by decide)).symm.trans h)).apart).symm, fun h h2 => n15_17 ((done_set_ne (l := l) (i := 16) (j := 15) (by decide)).symm.trans h) ((done_set_ne (l := l) (i := 16) (j := 17) (by decide)).symm.trans h2), fun _ h => (v17 ((done_set_ne (l := l) (i := 16) (j := 17) (by decide)).symm.trans h)).apart⟩
      · intro l a w' hI hn hall K hK
        obtain ⟨hz, u7, u8, u9, u42, u43, u44, u45, u46, u47, u48, u49, u50, u51, u52, u53, u54, u55, u56, rfl, hR⟩ := hI
        have hzh := Lib.hid hz
        have hnh := Lib.hid hn
        have HR := Lib.hid hR
        obtain ⟨h0, h1, h2, h3, h4, h5, h6, h7, h8, h9, h10, h11, h12, h13, h14, c15, c16, c17, hA, v15, v16, v17, n15_16, n15_17, n16_17⟩ := hR
        clear hz hn hall h0 h1 h2 h3 h4 h5 h6 h7 h8 h9 h10 h11 h12 h13 h14 c15 c16 c17 v15 v16 v17 n15_16 n15_17 n16_17
        clear hA
        unfold FrR
        go_simp
        refine hK _ _ ⟨by simpa using hzh.out, _, _, _, _, _, _, _, _, _, _, _, _, _, _, _, _, _, _, rfl, ?_⟩
        obtain ⟨h0, h1, h2, h3, h4, h5, h6, h7, h8, h9, h10, h11, h12, h13, h14, c15, c16, c17, hA, v15, v16, v17, n15_16, n15_17, n16_17⟩ := HR.out
        exact ⟨fun h => h0 ((done_set_ne (l := l) (i := 17) (j := 0) (by decide)).symm.trans h), fun h => h1 ((done_set_ne (l := l) (i := 17) (j := 1) (by decide)).symm.trans h), fun h => h2 ((done_set_ne (l := l) (i := 17) (j := 2) (by decide)).symm.trans h), fun h => h3 ((done_set_ne (l := l) (i := 17) (j := 3) (by decide)).symm.trans h), fun h => h4 ((done_set_ne (l := l) (i := 17) (j := 4) (by decide)).symm.trans h), fun h => h5 ((done_set_ne (l := l) (i := 17) (j := 5) (by decide)).symm.trans h), fun h => h6 ((done_set_ne (l := l) (i := 17) (j := 6) (by decide)).symm.trans h), fun h => h7 ((done_set_ne (l := l) (i := 17) (j := 7) (by decide)).symm.trans h), fun h => h8 ((done_set_ne (l := l) (i := 17) (j := 8) (by decide)).symm.trans h), fun h => h9 ((done_set_ne (l := l) (i := 17) (j := 9) (by decide)).symm.trans h), fun h => h10 ((done_set_ne (l := l) (i := 17) (j := 10) (by decide)).symm.trans h), fun h => h11 ((done_set_ne (l := l) (i := 17) (j := 11) (by decide)).symm.trans h), fun h => h12 ((done_set_ne (l := l) (i := 17) (j := 12) (by decide)).symm.trans h), fun h => h13 ((done_set_ne (l := l) (i := 17) (j := 13) (by decide)).symm.trans h), fun h => h14 ((done_set_ne (l := l) (i := 17) (j := 14) (by decide)).symm.trans h), fun h => (done_set_ne (l := l) (i := 17) (j := 15) (by decide)).trans (c15 ((done_set_ne (l := l) (i := 17) (j := 18) (by decide)).symm.trans h)), fun h => (done_set_ne (l := l) (i := 17) (j := 16) (by decide)).trans (c16 ((done_set_ne (l := l) (i := 17) (j := 19) (by decide)).symm.trans h)), fun h => absurd (c17 ((done_set_ne (l := l) (i := 17) (j := 20) (by decide)).symm.trans h)) (by rw [getD_both hnh.out]; decide), hA.below ((Below.refl _ _).alloc (Nat.le_refl _) _), fun h => ((v15 ((done_set_ne (l := l) (i := 17) (j := 15) (by decide)).symm.trans h)).below ((Below.refl _ _).alloc (Nat.le_refl _) _)).weaken (fun h => ((done_set_ne (l := l) (i := 17) (j := 18) (by decide)).symm.trans h)), fun h => ((v16 ((done_set_ne (l := l) (i := 17) (j := 16) (by decide)).symm.trans h)).below ((Below.refl _ _).alloc (Nat.le_refl _) _)).weaken (fun h => ((done_set_ne (l := l) (i := 17) (j := 19) (by decide)).symm.trans h)), fun _ => Var.new hA.roomy (fun h => absurd (c17 ((done_set_ne (l := l) (i := 17) (j := 20) (by decide)).symm.trans h)) (by rw [getD_both hnh.out]; decide)), fun h h2 => n15_16 ((done_set_ne (l := l) (i := 17) (j := 15) (by decide)).symm.trans h) ((done_set_ne (l := l) (i := 17) (j := 16) (by decide)).symm.trans h2), fun h _ => ((v15 ((done_set_ne (l := l) (i := 17) (j := 15) (by decide)).symm.trans h)).apart).symm, fun h _ => ((v16 ((done_set_ne (l := l) (i := 17) (j := 16) (by decide)).symm.trans h)).apart).symm⟩
      · intro l a w' hI hn hall K hK
        obtain ⟨hz, u7, u8, u9, u42, u43, u44, u45, u46, u47, u48, u49, u50, u51, u52, u53, u54, u55, u56, rfl, hR⟩ := hI
        have hzh := Lib.hid hz
        have hnh := Lib.hid hn
        have HR := Lib.hid hR
        obtain ⟨h0, h1, h2, h3, h4, h5, h6, h7, h8, h9, h10, h11, h12, h13, h14, c15, c16, c17, hA, v15, v16, v17, n15_16, n15_17, n16_17⟩ := hR
        have e4 := h4 (hall { on := 4, ground := Ground.data } (by simp) rfl)
        have f14 := hall { on := 15, ground := Ground.data } (by simp) rfl
        obtain ⟨X, ex, x1, x2, x3, ⟨k', x', y', x4⟩, _⟩ := v15 f14
        clear hz hn hall h0 h1 h2 h3 h4 h5 h6 h7 h8 h9 h10 h11 h12 h13 h14 c15 c16 c17 v15 v16 v17 n15_16 n15_17 n16_17
        clear hA
        subst e4
        subst ex
        obtain ⟨y0, y1, y2, y3, y4⟩ := x4
        simp only [Nat.zero_add] at y1 y2 y3 y4
        obtain ⟨z0, z1, z2, z3, z4⟩ := x3
        unfold FrR
        go_simp
        refine hK _ _ ⟨by simpa using hzh.out, _, _, _, _, _, _, _, _, _, _, _, _, _, _, _, _, _, _, rfl, ?_⟩
        obtain ⟨h0, h1, h2, h3, h4, h5, h6, h7, h8, h9, h10, h11, h12, h13, h14, c15, c16, c17, hA, v15, v16, v17, n15_16, n15_17, n16_17⟩ := HR.out
        exact ⟨fun h => h0 ((done_set_ne (l := l) (i := 18) (j := 0) (by decide)).symm.trans h), fun h => h1 ((done_set_ne (l := l) (i := 18) (j := 1) (by decide)).symm.trans h), fun h => h2 ((done_set_ne (l := l) (i := 18) (j := 2) (by decide)).symm.trans h), fun h => h3 ((done_set_ne (l := l) (i := 18) (j := 3) (by decide)).symm.trans h), fun h => h4 ((done_set_ne (l := l) (i := 18) (j := 4) (by decide)).symm.trans h), fun h => h5 ((done_set_ne (l := l) (i := 18) (j := 5) (by decide)).symm.trans h), fun h => h6 ((done_set_ne (l := l) (i := 18) (j := 6) (by decide)).symm.trans h), fun h => h7 ((done_set_ne (l := l) (i := 18) (j := 7) (by decide)).symm.trans h), fun h => h8 ((done_set_ne (l := l) (i := 18) (j := 8) (by decide)).symm.trans h), fun h => h9 ((done_set_ne (l := l) (i := 18) (j := 9) (by decide)).symm.trans h), fun h => h10 ((done_set_ne (l := l) (i := 18) (j := 10) (by decide)).symm.trans h), fun h => h11 ((done_set_ne (l := l) (i := 18) (j := 11) (by decide)).symm.trans h), fun h => h12 ((done_set_ne (l := l) (i := 18) (j := 12) (by decide)).symm.trans h), fun h => h13 ((done_set_ne (l := l) (i := 18) (j := 13) (by decide)).symm.trans h), fun h => h14 ((done_set_ne (l := l) (i := 18) (j := 14) (by decide)).symm.trans h), fun _ => (done_set_ne (l := l) (i := 18) (j := 15) (by decide)).trans f14, fun h => (done_set_ne (l := l) (i := 18) (j := 16) (by decide)).trans (c16 ((done_set_ne (l := l) (i := 18) (j := 19) (by decide)).symm.trans h)), fun h => (done_set_ne (l := l) (i := 18) (j := 17) (by decide)).trans (c17 ((done_set_ne (l := l) (i := 18) (j := 20) (by decide)).symm.trans h)), hA.put x1, fun _ => (v15 f14).put_self, fun h => have h' := ((done_set_ne (l := l) (i := 18) (j := 16) (by decide)).symm.trans h); ((v16 h').put_other (fun e => (n15_16 f14 h') e.symm)).weaken (fun h => ((done_set_ne (l := l) (i := 18) (j := 19) (by decide)).symm.trans h)), fun h => have h' := ((done_set_ne (l := l) (i := 18) (j := 17) (by decide)).symm.trans h); ((v17 h').put_other (fun e => (n15_17 f14 h') e.symm)).weaken (fun h => ((done_set_ne (l := l) (i := 18) (j := 20) (by decide)).symm.trans h)), fun h h2 => n15_16 ((done_set_ne (l := l) (i := 18) (j := 15) (by decide)).symm.trans h) ((done_set_ne (l := l) (i := 18) (j := 16) (by decide)).symm.trans h2), fun h h2 => n15_17 ((done_set_ne (l := l) (i := 18) (j := 15) (by decide)).symm.trans h) ((done_set_ne (l := l) (i := 18) (j := 17) (by decide)).symm.trans h2), fun h h2 => n16_17 ((done_set_ne (l := l) (i := 18) (j := 16) (by decide)).symm.trans h) ((done_set_ne (l := l) (i := 18) (j := 17) (by decide)).symm.trans h2)⟩
      · intro l a w' hI hn hall K hK
        obtain ⟨hz, u7, u8, u9, u42, u43, u44, u45, u46, u47, u48, u49, u50, u51, u52, u53, u54, u55, u56, rfl, hR⟩ := hI
        have hzh := Lib.hid hz
        have hnh := Lib.hid hn
        have HR := Lib.hid hR
        obtain ⟨h0, h1, h2, h3, h4, h5, h6, h7, h8, h9, h10, h11, h12, h13, h14, c15, c16, c17, hA, v15, v16, v17, n15_16, n15_17, n16_17⟩ := hR
        have e9 := h9 (hall { on := 9, ground := Ground.data } (by simp) rfl)
        have f14 := hall { on := 16, ground := Ground.data } (by simp) rfl
        obtain ⟨X, ex, x1, x2, x3, ⟨k', x', y', x4⟩, _⟩ := v16 f14
        clear hz hn hall h0 h1 h2 h3 h4 h5 h6 h7 h8 h9 h10 h11 h12 h13 h14 c15 c16 c17 v15 v16 v17 n15_16 n15_17 n16_17
        clear hA
        subst e9
        subst ex
        obtain ⟨y0, y1, y2, y3, y4⟩ := x4
        simp only [Nat.zero_add] at y1 y2 y3 y4
        obtain ⟨z0, z1, z2, z3, z4⟩ := x3
        unfold FrR
        go_simp
        refine hK _ _ ⟨by simpa using hzh.out, _, _, _, _, _, _, _, _, _, _, _, _, _, _, _, _, _, _, rfl, ?_⟩
        obtain ⟨h0, h1, h2, h3, h4, h5, h6, h7, h8, h9, h10, h11, h12, h13, h14, c15, c16, c17, hA, v15, v16, v17, n15_16, n15_17, n16_17⟩ := HR.out
        exact ⟨fun h => h0 ((done_set_ne (l := l) (i := 19) (j := 0) (by decide)).symm.trans h), fun h => h1 ((done_set_ne (l := l) (i := 19) (j := 1) (by decide)).symm.trans h), fun h => h2 ((done_set_ne (l := l) (i := 19) (j := 2) (by decide)).symm.trans h), fun h => h3 ((done_set_ne (l := l) (i := 19) (j := 3) (by decide)).symm.trans h), fun h => h4 ((done_set_ne (l := l) (i := 19) (j := 4) (by decide)).symm.trans h), fun h => h5 ((done_set_ne (l := l) (i := 19) (j := 5) (by decide)).symm.trans h), fun h => h6 ((done_set_ne (l := l) (i := 19) (j := 6) (by decide)).symm.trans h), fun h => h7 ((done_set_ne (l := l) (i := 19) (j := 7) (by decide)).symm.trans h), fun h => h8 ((done_set_ne (l := l) (i := 19) (j := 8) (by decide)).symm.trans h), fun h => h9 ((done_set_ne (l := l) (i := 19) (j := 9) (by decide)).symm.trans h), fun h => h10 ((done_set_ne (l := l) (i := 19) (j := 10) (by decide)).symm.trans h), fun h => h11 ((done_set_ne (l := l) (i := 19) (j := 11) (by decide)).symm.trans h), fun h => h12 ((done_set_ne (l := l) (i := 19) (j := 12) (by decide)).symm.trans h), fun h => h13 ((done_set_ne (l := l) (i := 19) (j := 13) (by decide)).symm.trans h), fun h => h14 ((done_set_ne (l := l) (i := 19) (j := 14) (by decide)).symm.trans h), fun h => (done_set_ne (l := l) (i := 19) (j := 15) (by decide)).trans (c15 ((done_set_ne (l := l) (i := 19) (j := 18) (by decide)).symm.trans h)), fun _ => (done_set_ne (l := l) (i := 19) (j := 16) (by decide)).trans f14, fun h => (done_set_ne (l := l) (i := 19) (j := 17) (by decide)).trans (c17 ((done_set_ne (l := l) (i := 19) (j := 20) (by decide)).symm.trans h)), hA.put x1, fun h => have h' := ((done_set_ne (l := l) (i := 19) (j := 15) (by decide)).symm.trans h); ((v15 h').put_other (n15_16 h' f14)).weaken (fun h => ((done_set_ne (l := l) (i := 19) (j := 18) (by decide)).symm.trans h)), fun _ => (v16 f14).put_self, fun h => have h' := ((done_set_ne (l := l) (i := 19) (j := 17) (by decide)).symm.trans h); ((v17 h').put_other (fun e => (n16_17 f14 h') e.symm)).weaken (fun h => ((done_set_ne (l := l) (i := 19) (j := 20) (by decide)).symm.trans h)), fun h h2 => n15_16 ((done_set_ne (l := l) (i := 19) (j := 15) (by decide)).symm.trans h) ((done_set_ne (l := l) (i := 19) (j := 16) (by decide)).symm.trans h2), fun h h2 => n15_17 ((done_set_ne (l := l) (i := 19) (j := 15) (by decide)).symm.trans h) ((done_set_ne (l := l) (i := 19) (j := 17) (by decide)).symm.trans h2), fun h h2 => n16_17 ((done_set_ne (l := l) (i := 19) (j := 16) (by decide)).symm.trans h) ((done_set_ne (l := l) (i := 19) (j := 17) (by decide)).symm.trans h2)⟩
      · intro l a w' hI hn hall K hK
        obtain ⟨hz, u7, u8, u9, u42, u43, u44, u45, u46, u47, u48, u49, u50, u51, u52, u53, u54, u55, u56, rfl, hR⟩ := hI
        have hzh := Lib.hid hz
        have hnh := Lib.hid hn
        have HR := Lib.hid hR
        obtain ⟨h0, h1, h2, h3, h4, h5, h6, h7, h8, h9, h10, h11, h12, h13, h14, c15, c16, c17, hA, v15, v16, v17, n15_16, n15_17, n16_17⟩ := hR
        have e14 := h14 (hall { on := 14, ground := Ground.data } (by simp) rfl)
        have f14 := hall { on := 17, ground := Ground.data } (by simp) rfl
        obtain ⟨X, ex, x1, x2, x3, ⟨k', x', y', x4⟩, _⟩ := v17 f14
        clear hz hn hall h0 h1 h2 h3 h4 h5 h6 h7 h8 h9 h10 h11 h12 h13 h14 c15 c16 c17 v15 v16 v17 n15_16 n15_17 n16_17
        clear hA
        subst e14
        subst ex
        obtain ⟨y0, y1, y2, y3, y4⟩ := x4
        simp only [Nat.zero_add] at y1 y2 y3 y4
        obtain ⟨z0, z1, z2, z3, z4⟩ := x3
        unfold FrR
        go_simp
        refine hK _ _ ⟨by simpa using hzh.out, _, _, _, _, _, _, _, _, _, _, _, _, _, _, _, _, _, _, rfl, ?_⟩
        obtain ⟨h0, h1, h2, h3, h4, h5, h6, h7, h8, h9, h10, h11, h12, h13, h14, c15, c16, c17, hA, v15, v16, v17, n15_16, n15_17, n16_17⟩ := HR.out
        exact ⟨fun h => h0 ((done_set_ne (l := l) (i := 20) (j := 0) (by decide)).symm.trans h), fun h => h1 ((done_set_ne (l := l) (i := 20) (j := 1) (by decide)).symm.trans h), fun h => h2 ((done_set_ne (l := l) (i := 20) (j := 2) (by decide)).symm.trans h), fun h => h3 ((done_set_ne (l := l) (i := 20) (j := 3) (by decide)).symm.trans h), fun h => h4 ((done_set_ne (l := l) (i := 20) (j := 4) (by decide)).symm.trans h), fun h => h5 ((done_set_ne (l := l) (i := 20) (j := 5) (by decide)).symm.trans h), fun h => h6 ((done_set_ne (l := l) (i := 20) (j := 6) (by decide)).symm.trans h), fun h => h7 ((done_set_ne (l := l) (i := 20) (j := 7) (by decide)).symm.trans h), fun h => h8 ((done_set_ne (l := l) (i := 20) (j := 8) (by decide)).symm.trans h), fun h => h9 ((done_set_ne (l := l) (i := 20) (j := 9) (by decide)).symm.trans h), fun h => h10 ((done_set_ne (l := l) (i := 20) (j := 10) (by decide)).symm.trans h), fun h => h11 ((done_set_ne (l := l) (i := 20) (j := 11) (by decide)).symm.trans h), fun h => h12 ((done_set_ne (l := l) (i := 20) (j := 12) (by decide)).symm.trans h), fun h => h13 ((done_set_ne (l := l) (i := 20) (j := 13) (by decide)).symm.trans h), fun h => h14 ((done_set_ne (l := l) (i := 20) (j := 14) (by decide)).symm.trans h), fun h => (done_set_ne (l := l) (i := 20) (j := 15) (by decide)).trans (c15 ((done_set_ne (l := l) (i := 20) (j := 18) (by decide)).symm.trans h)), fun h => (done_set_ne (l := l) (i := 20) (j := 16) (by decide)).trans (c16 ((done_set_ne (l := l) (i := 20) (j := 19) (by decide)).symm.trans h)), fun _ => (done_set_ne (l := l) (i := 20) (j := 17) (by decide)).trans f14, hA.put x1, fun h => have h' := ((done_set_ne (l := l) (i := 20) (j := 15) (by decide)).symm.trans h); ((v15 h').put_other (n15_17 h' f14)).weaken (fun h => ((done_set_ne (l := l) (i := 20) (j := 18) (by decide)).symm.trans h)), fun h => have h' := ((done_set_ne (l := l) (i := 20) (j := 16) (by decide)).symm.trans h); ((v16 h').put_other (n16_17 h' f14)).weaken (fun h => ((done_set_ne (l := l) (i := 20) (j := 19) (by decide)).symm.trans h)), fun _ => (v17 f14).put_self, fun h h2 => n15_16 ((done_set_ne (l := l) (i := 20) (j := 15) (by decide)).symm.trans h) ((done_set_ne (l := l) (i := 20) (j := 16) (by decide)).symm.trans h2), fun h h2 => n15_17 ((done_set_ne (l := l) (i := 20) (j := 15) (by decide)).symm.trans h) ((done_set_ne (l := l) (i := 20) (j := 17) (by decide)).symm.trans h2), fun h h2 => n16_17 ((done_set_ne (l := l) (i := 20) (j := 16) (by decide)).symm.trans h) ((done_set_ne (l := l) (i := 20) (j := 17) (by decide)).symm.trans h2)⟩
    · intro l a w' hI hall
      obtain ⟨hz, u7, u8, u9, u42, u43, u44, u45, u46, u47, u48, u49, u50, u51, u52, u53, u54, u55, u56, rfl, h0, h1, h2, h3, h4, h5, h6, h7, h8, h9, h10, h11, h12, h13, h14, c15, c16, c17, hA, v15, v16, v17, n1, n2, n3⟩ := hI
      obtain ⟨X, rfl, x1, x2, x3, x4, x5⟩ := v15 (hall 15 (by decide))
      obtain ⟨Y, rfl, y1, y2, y3, y4, y5⟩ := v16 (hall 16 (by decide))
      obtain ⟨Z, rfl, z1, z2, z3, z4, z5⟩ := v17 (hall 17 (by decide))
      have X5 := x5 (hall 18 (by decide))
      have Y5 := y5 (hall 19 (by decide))
      have Z5 := z5 (hall 20 (by decide))
      have hH : Hold w [(X, foldI p0, foldI p1), (Y, foldI q0, foldI q1), (Z, foldI s0, foldI s1)] w' := by
        refine ⟨hA.2.2.2.2.2.2.1, fun v hv => ?_⟩
        simp only [List.mem_cons, List.not_mem_nil, or_false] at hv
        rcases hv with rfl | rfl | rfl
        · exact ⟨x2, X5⟩
        · exact ⟨y2, Y5⟩
        · exact ⟨z2, Z5⟩
      clear hz h0 h1 h2 h3 h4 h5 h6 h7 h8 h9 h10 h11 h12 h13 h14 c15 c16 c17 v15 v16 v17 n1 n2 n3 hall x1 x2 x3 x4 x5 y1 y2 y3 y4 y5 z1 z2 z3 z4 z5 X5 Y5 Z5 hA
      have HH := Lib.hid hH
      clear hH
      unfold FrR
      go_wp2_with fail
      go_meet
      exact ⟨X, Y, Z, rfl, rfl, rfl, HH.out⟩
  case rest =>
    obtain ⟨X, Y, Z, rfl, rfl, rfl, hH⟩ := hcut
    clear hA
    have ha := inR_fold p0
    have hb := inR_fold p1
    have hc := inR_fold q0
    have hd := inR_fold q1
    have he := inR_fold s0
    have hf := inR_fold s1
    generalize foldI p0 = a at *
    generalize foldI p1 = b at *
    generalize foldI q0 = c at *
    generalize foldI q1 = d at *
    generalize foldI s0 = e at *
    generalize foldI s1 = f at *
    have hHh := Lib.hid hH
    obtain ⟨f00, f01, f02, f03, f04⟩ := hH.get X a b (by simp)
    simp only [Nat.zero_add] at f01 f02 f03 f04
    have g0 := (hH.2 (X, a, b) (by simp)).1
    simp only at g0
    obtain ⟨f10, f11, f12, f13, f14⟩ := hH.get Y c d (by simp)
    simp only [Nat.zero_add] at f11 f12 f13 f14
    have g1 := (hH.2 (Y, c, d) (by simp)).1
    simp only at g1
    clear hH
    obtain ⟨Axy, e1⟩ : ∃ t, mre a b c d = t := ⟨_, rfl⟩
    obtain ⟨Bxy, e2⟩ : ∃ t, mim a b c d = t := ⟨_, rfl⟩
    have iAxy : InR Axy := by rw [← e1]; exact inR_mre _ _ _ _
    have iBxy : InR Bxy := by rw [← e2]; exact inR_mim _ _ _ _
    have EAxy := Lib.hid e1
    have EBxy := Lib.hid e2
    clear e1 e2
    go_wp2_with fail
    refine (times_at a b c d ha hb hc hd _ _ (by simp)).mono ?_
    rw [show foldI (a * c - b * d) = Axy from EAxy.out, show foldI (a * d + b * c) = Bxy from EBxy.out]
    rintro r w1 ⟨rfl, hbel⟩
    have hH := hHh.out.below hbel
    clear hHh hbel f00 f01 f02 f03 f04 g0 f10 f11 f12 f13 f14 g1
    have hHh := Lib.hid hH
    obtain ⟨f00, f01, f02, f03, f04⟩ := hH.get Y c d (by simp)
    simp only [Nat.zero_add] at f01 f02 f03 f04
    have g0 := (hH.2 (Y, c, d) (by simp)).1
    simp only at g0
    obtain ⟨f10, f11, f12, f13, f14⟩ := hH.get X a b (by simp)
    simp only [Nat.zero_add] at f11 f12 f13 f14
    have g1 := (hH.2 (X, a, b) (by simp)).1
    simp only at g1
    clear hH
    obtain ⟨Ayx, e1⟩ : ∃ t, mre c d a b = t := ⟨_, rfl⟩
    obtain ⟨Byx, e2⟩ : ∃ t, mim c d a b = t := ⟨_, rfl⟩
    have iAyx : InR Ayx := by rw [← e1]; exact inR_mre _ _ _ _
    have iByx : InR Byx := by rw [← e2]; exact inR_mim _ _ _ _
    have EAyx := Lib.hid e1
    have EByx := Lib.hid e2
    clear e1 e2
    go_wp2_with fail
    refine (times_at c d a b hc hd ha hb _ _ (by simp)).mono ?_
    rw [show foldI (c * a - d * b) = Ayx from EAyx.out, show foldI (c * b + d * a) = Byx from EByx.out]
    rintro r w2 ⟨rfl, hbel⟩
    have hH := (hHh.out.push Axy Bxy).below hbel
    clear hHh hbel f00 f01 f02 f03 f04 g0 f10 f11 f12 f13 f14 g1
    generalize w1.heap.size = Nxy at *
    have hHh := Lib.hid hH
    obtain ⟨f00, f01, f02, f03, f04⟩ := hH.get Nxy Axy Bxy (by simp)
    simp only [Nat.zero_add] at f01 f02 f03 f04
    have g0 := (hH.2 (Nxy, Axy, Bxy) (by simp)).1
    simp only at g0
    obtain ⟨f10, f11, f12, f13, f14⟩ := hH.get Z e f (by simp)
    simp only [Nat.zero_add] at f11 f12 f13 f14
    have g1 := (hH.2 (Z, e, f) (by simp)).1
    simp only at g1
    clear hH
    obtain ⟨Ale, e1⟩ : ∃ t, mre Axy Bxy e f = t := ⟨_, rfl⟩
    obtain ⟨Ble, e2⟩ : ∃ t, mim Axy Bxy e f = t := ⟨_, rfl⟩
    have iAle : InR Ale := by rw [← e1]; exact inR_mre _ _ _ _
    have iBle : InR Ble := by rw [← e2]; exact inR_mim _ _ _ _
    have EAle := Lib.hid e1
    have EBle := Lib.hid e2
    clear e1 e2
    go_wp2_with fail
    refine (times_at Axy Bxy e f iAxy iBxy he hf _ _ (by simp)).mono ?_
    rw [show foldI (Axy * e - Bxy * f) = Ale from EAle.out, show foldI (Axy * f + Bxy * e) = Ble from EBle.out]
    rintro r w3 ⟨rfl, hbel⟩
    have hH := (hHh.out.push Ayx Byx).below hbel
    clear hHh hbel f00 f01 f02 f03 f04 g0 f10 f11 f12 f13 f14 g1
    generalize w2.heap.size = Nyx at *
    have hHh := Lib.hid hH
    obtain ⟨f00, f01, f02, f03, f04⟩ := hH.get Y c d (by simp)
    simp only [Nat.zero_add] at f01 f02 f03 f04
    have g0 := (hH.2 (Y, c, d) (by simp)).1
    simp only at g0
    obtain ⟨f10, f11, f12, f13, f14⟩ := hH.get Z e f (by simp)
    simp only [Nat.zero_add] at f11 f12 f13 f14
    have g1 := (hH.2 (Z, e, f) (by simp)).1
    simp only at g1
    clear hH
    obtain ⟨Ayz, e1⟩ : ∃ t, mre c d e f = t := ⟨_, rfl⟩
    obtain ⟨Byz, e2⟩ : ∃ t, mim c d e f = t := ⟨_, rfl⟩
    have iAyz : InR Ayz := by rw [← e1]; exact inR_mre _ _ _ _
    have iByz : InR Byz := by rw [← e2]; exact inR_mim _ _ _ _
    have EAyz := Lib.hid e1
    have EByz := Lib.hid e2
    clear e1 e2
    go_wp2_with fail
    refine (times_at c d e f hc hd he hf _ _ (by simp)).mono ?_
    rw [show foldI (c * e - d * f) = Ayz from EAyz.out, show foldI (c * f + d * e) = Byz from EByz.out]
    rintro r w4 ⟨rfl, hbel⟩
    have hH := (hHh.out.push Ale Ble).below hbel
    clear hHh hbel f00 f01 f02 f03 f04 g0 f10 f11 f12 f13 f14 g1
    generalize w3.heap.size = Nle at *
    have hHh := Lib.hid hH
    obtain ⟨f00, f01, f02, f03, f04⟩ := hH.get X a b (by simp)
    simp only [Nat.zero_add] at f01 f02 f03 f04
    have g0 := (hH.2 (X, a, b) (by simp)).1
    simp only at g0
    clear hH
    obtain ⟨Ari, e1⟩ : ∃ t, mre a b Ayz Byz = t := ⟨_, rfl⟩
    obtain ⟨Bri, e2⟩ : ∃ t, mim a b Ayz Byz = t := ⟨_, rfl⟩
    have iAri : InR Ari := by rw [← e1]; exact inR_mre _ _ _ _
    have iBri : InR Bri := by rw [← e2]; exact inR_mim _ _ _ _
    have EAri := Lib.hid e1
    have EBri := Lib.hid e2
    clear e1 e2
    go_wp2_with fail
    refine (times_at a b Ayz Byz ha hb iAyz iByz _ _ (by simp)).mono ?_
    rw [show foldI (a * Ayz - b * Byz) = Ari from EAri.out, show foldI (a * Byz + b * Ayz) = Bri from EBri.out]
    rintro r w5 ⟨rfl, hbel⟩
    have hH := (hHh.out.push Ayz Byz).below hbel
    clear hHh hbel f00 f01 f02 f03 f04 g0
    generalize w4.heap.size = Nyz at *
    have hHh := Lib.hid hH
    obtain ⟨f00, f01, f02, f03, f04⟩ := hH.get Y c d (by simp)
    simp only [Nat.zero_add] at f01 f02 f03 f04
    have g0 := (hH.2 (Y, c, d) (by simp)).1
    simp only at g0
    obtain ⟨f10, f11, f12, f13, f14⟩ := hH.get Z e f (by simp)
    simp only [Nat.zero_add] at f11 f12 f13 f14
    have g1 := (hH.2 (Z, e, f) (by simp)).1
    simp only at g1
    clear hH
    obtain ⟨Asu, e1⟩ : ∃ t, foldI (c + e) = t := ⟨_, rfl⟩
    obtain ⟨Bsu, e2⟩ : ∃ t, foldI (d + f) = t := ⟨_, rfl⟩
    have iAsu : InR Asu := by rw [← e1]; exact inR_fold _
    have iBsu : InR Bsu := by rw [← e2]; exact inR_fold _
    have EAsu := Lib.hid e1
    have EBsu := Lib.hid e2
    clear e1 e2
    go_wp2_with fail
    refine (plus_at c d e f hc hd he hf _ _ (by simp)).mono ?_
    rw [show foldI (c + e) = Asu from EAsu.out, show foldI (d + f) = Bsu from EBsu.out]
    rintro r w6 ⟨rfl, hbel⟩
    have hH := (hHh.out.push Ari Bri).below hbel
    clear hHh hbel f00 f01 f02 f03 f04 g0 f10 f11 f12 f13 f14 g1
    generalize w5.heap.size = Nri at *
    have hHh := Lib.hid hH
    obtain ⟨f00, f01, f02, f03, f04⟩ := hH.get X a b (by simp)
    simp only [Nat.zero_add] at f01 f02 f03 f04
    have g0 := (hH.2 (X, a, b) (by simp)).1
    simp only at g0
    clear hH
    obtain ⟨Aov, e1⟩ : ∃ t, mre a b Asu Bsu = t := ⟨_, rfl⟩
    obtain ⟨Bov, e2⟩ : ∃ t, mim a b Asu Bsu = t := ⟨_, rfl⟩
    have iAov : InR Aov := by rw [← e1]; exact inR_mre _ _ _ _
    have iBov : InR Bov := by rw [← e2]; exact inR_mim _ _ _ _
    have EAov := Lib.hid e1
    have EBov := Lib.hid e2
    clear e1 e2
    go_wp2_with fail
    refine (times_at a b Asu Bsu ha hb iAsu iBsu _ _ (by simp)).mono ?_
    rw [show foldI (a * Asu - b * Bsu) = Aov from EAov.out, show foldI (a * Bsu + b * Asu) = Bov from EBov.out]
    rintro r w7 ⟨rfl, hbel⟩
    have hH := (hHh.out.push Asu Bsu).below hbel
    clear hHh hbel f00 f01 f02 f03 f04 g0
    generalize w6.heap.size = Nsu at *
    have hHh := Lib.hid hH
    obtain ⟨f00, f01, f02, f03, f04⟩ := hH.get X a b (by simp)
    simp only [Nat.zero_add] at f01 f02 f03 f04
    have g0 := (hH.2 (X, a, b) (by simp)).1
    simp only at g0
    obtain ⟨f10, f11, f12, f13, f14⟩ := hH.get Z e f (by simp)
    simp only [Nat.zero_add] at f11 f12 f13 f14
    have g1 := (hH.2 (Z, e, f) (by simp)).1
    simp only at g1
    clear hH
    obtain ⟨Axz, e1⟩ : ∃ t, mre a b e f = t := ⟨_, rfl⟩
    obtain ⟨Bxz, e2⟩ : ∃ t, mim a b e f = t := ⟨_, rfl⟩
    have iAxz : InR Axz := by rw [← e1]; exact inR_mre _ _ _ _
    have iBxz : InR Bxz := by rw [← e2]; exact inR_mim _ _ _ _
    have EAxz := Lib.hid e1
    have EBxz := Lib.hid e2
    clear e1 e2
    go_wp2_with fail
    refine (times_at a b e f ha hb he hf _ _ (by simp)).mono ?_
    rw [show foldI (a * e - b * f) = Axz from EAxz.out, show foldI (a * f + b * e) = Bxz from EBxz.out]
    rintro r w8 ⟨rfl, hbel⟩
    have hH := (hHh.out.push Aov Bov).below hbel
    clear hHh hbel f00 f01 f02 f03 f04 g0 f10 f11 f12 f13 f14 g1
    generalize w7.heap.size = Nov at *
    have hHh := Lib.hid hH
    obtain ⟨f00, f01, f02, f03, f04⟩ := hH.get Nxy Axy Bxy (by simp)
    simp only [Nat.zero_add] at f01 f02 f03 f04
    have g0 := (hH.2 (Nxy, Axy, Bxy) (by simp)).1
    simp only at g0
    clear hH
    obtain ⟨Aap, e1⟩ : ∃ t, foldI (Axy + Axz) = t := ⟨_, rfl⟩
    obtain ⟨Bap, e2⟩ : ∃ t, foldI (Bxy + Bxz) = t := ⟨_, rfl⟩
    have iAap : InR Aap := by rw [← e1]; exact inR_fold _
    have iBap : InR Bap := by rw [← e2]; exact inR_fold _
    have EAap := Lib.hid e1
    have EBap := Lib.hid e2
    clear e1 e2
    go_wp2_with fail
    refine (plus_at Axy Bxy Axz Bxz iAxy iBxy iAxz iBxz _ _ (by simp)).mono ?_
    rw [show foldI (Axy + Axz) = Aap from EAap.out, show foldI (Bxy + Bxz) = Bap from EBap.out]
    rintro r w9 ⟨rfl, hbel⟩
    have hH := (hHh.out.push Axz Bxz).below hbel
    clear hHh hbel f00 f01 f02 f03 f04 g0
    generalize w8.heap.size = Nxz at *
    have hHh := Lib.hid hH
    obtain ⟨f00, f01, f02, f03, f04⟩ := hH.get X a b (by simp)
    simp only [Nat.zero_add] at f01 f02 f03 f04
    have g0 := (hH.2 (X, a, b) (by simp)).1
    simp only at g0
    clear hH
    obtain ⟨Bcx, e2⟩ : ∃ t, foldI (-b) = t := ⟨_, rfl⟩
    have iBcx : InR Bcx := by rw [← e2]; exact inR_fold _
    have EBcx := Lib.hid e2
    clear e2
    go_wp2_with fail
    refine (conj_at a b ha hb _).mono ?_
    rw [EBcx.out]
    rintro r w10 ⟨rfl, hbel⟩
    have hH := (hHh.out.push Aap Bap).below hbel
    clear hHh hbel f00 f01 f02 f03 f04 g0
    generalize w9.heap.size = Nap at *
    have hHh := Lib.hid hH
    obtain ⟨f00, f01, f02, f03, f04⟩ := hH.get Y c d (by simp)
    simp only [Nat.zero_add] at f01 f02 f03 f04
    have g0 := (hH.2 (Y, c, d) (by simp)).1
    simp only at g0
    clear hH
    obtain ⟨Bcy, e2⟩ : ∃ t, foldI (-d) = t := ⟨_, rfl⟩
    have iBcy : InR Bcy := by rw [← e2]; exact inR_fold _
    have EBcy := Lib.hid e2
    clear e2
    go_wp2_with fail
    refine (conj_at c d hc hd _).mono ?_
    rw [EBcy.out]
    rintro r w11 ⟨rfl, hbel⟩
    have hH := (hHh.out.push a Bcx).below hbel
    clear hHh hbel f00 f01 f02 f03 f04 g0
    generalize w10.heap.size = Ncx at *
    have hHh := Lib.hid hH
    obtain ⟨f00, f01, f02, f03, f04⟩ := hH.get Nxy Axy Bxy (by simp)
    simp only [Nat.zero_add] at f01 f02 f03 f04
    have g0 := (hH.2 (Nxy, Axy, Bxy) (by simp)).1
    simp only at g0
    clear hH
    obtain ⟨Btu, e2⟩ : ∃ t, foldI (-Bxy) = t := ⟨_, rfl⟩
    have iBtu : InR Btu := by rw [← e2]; exact inR_fold _
    have EBtu := Lib.hid e2
    clear e2
    go_wp2_with fail
    refine (conj_at Axy Bxy iAxy iBxy _).mono ?_
    rw [EBtu.out]
    rintro r w12 ⟨rfl, hbel⟩
    have hH := (hHh.out.push c Bcy).below hbel
    clear hHh hbel f00 f01 f02 f03 f04 g0
    generalize w11.heap.size = Ncy at *
    have hHh := Lib.hid hH
    obtain ⟨f00, f01, f02, f03, f04⟩ := hH.get Ncx a Bcx (by simp)
    simp only [Nat.zero_add] at f01 f02 f03 f04
    have g0 := (hH.2 (Ncx, a, Bcx) (by simp)).1
    simp only at g0
    obtain ⟨f10, f11, f12, f13, f14⟩ := hH.get Ncy c Bcy (by simp)
    simp only [Nat.zero_add] at f11 f12 f13 f14
    have g1 := (hH.2 (Ncy, c, Bcy) (by simp)).1
    simp only at g1
    clear hH
    obtain ⟨Abo, e1⟩ : ∃ t, mre a Bcx c Bcy = t := ⟨_, rfl⟩
    obtain ⟨Bbo, e2⟩ : ∃ t, mim a Bcx c Bcy = t := ⟨_, rfl⟩
    have iAbo : InR Abo := by rw [← e1]; exact inR_mre _ _ _ _
    have iBbo : InR Bbo := by rw [← e2]; exact inR_mim _ _ _ _
    have EAbo := Lib.hid e1
    have EBbo := Lib.hid e2
    clear e1 e2
    go_wp2_with fail
    refine (times_at a Bcx c Bcy ha iBcx hc iBcy _ _ (by simp)).mono ?_
    rw [show foldI (a * c - Bcx * Bcy) = Abo from EAbo.out, show foldI (a * Bcy + Bcx * c) = Bbo from EBbo.out]
    rintro r w13 ⟨rfl, hbel⟩
    have hH := (hHh.out.push Axy Btu).below hbel
    clear hHh hbel f00 f01 f02 f03 f04 g0 f10 f11 f12 f13 f14 g1
    generalize w12.heap.size = Ntu at *
    have hHh := Lib.hid hH
    obtain ⟨f00, f01, f02, f03, f04⟩ := hH.get Ncx a Bcx (by simp)
    simp only [Nat.zero_add] at f01 f02 f03 f04
    have g0 := (hH.2 (Ncx, a, Bcx) (by simp)).1
    simp only at g0
    clear hH
    obtain ⟨Bag, e2⟩ : ∃ t, foldI (-Bcx) = t := ⟨_, rfl⟩
    have iBag : InR Bag := by rw [← e2]; exact inR_fold _
    have EBag := Lib.hid e2
    clear e2
    go_wp2_with fail
    refine (conj_at a Bcx ha iBcx _).mono ?_
    rw [EBag.out]
    rintro r w14 ⟨rfl, hbel⟩
    have hH := (hHh.out.push Abo Bbo).below hbel
    clear hHh hbel f00 f01 f02 f03 f04 g0
    generalize w13.heap.size = Nbo at *
    have q : Axy = Ayx := by rw [← EAxy.out, ← EAyx.out]; exact (ring_comm a b c d).1
    subst q
    have q : Bxy = Byx := by rw [← EBxy.out, ← EByx.out]; exact (ring_comm a b c d).2
    subst q
    have q : Ale = Ari := by rw [← EAle.out, ← EAri.out, ← EAxy.out, ← EBxy.out, ← EAyz.out, ← EByz.out]; exact (ring_assoc a b c d e f).1
    subst q
    have q : Ble = Bri := by rw [← EBle.out, ← EBri.out, ← EAxy.out, ← EBxy.out, ← EAyz.out, ← EByz.out]; exact (ring_assoc a b c d e f).2
    subst q
    have q : Aov = Aap := by rw [← EAov.out, ← EAap.out, ← EAxy.out, ← EAxz.out, ← EAsu.out, ← EBsu.out]; exact (ring_over a b c d e f).1
    subst q
    have q : Bov = Bap := by rw [← EBov.out, ← EBap.out, ← EBxy.out, ← EBxz.out, ← EAsu.out, ← EBsu.out]; exact (ring_over a b c d e f).2
    subst q
    have q : Axy = Abo := by rw [← EAbo.out, ← EBcx.out, ← EBcy.out, ← EAxy.out]; exact (ring_turn a b c d).1.symm
    subst q
    have q : Btu = Bbo := by rw [← EBbo.out, ← EBcx.out, ← EBcy.out, ← EBtu.out, ← EBxy.out]; exact (ring_turn a b c d).2.symm
    subst q
    have q : b = Bag := by rw [← EBag.out, ← EBcx.out]; exact (ring_again b hb).symm
    subst q
    have hHh := Lib.hid hH
    obtain ⟨f00, f01, f02, f03, f04⟩ := hH.get Nxy Axy Bxy (by simp)
    simp only [Nat.zero_add] at f01 f02 f03 f04
    have g0 := (hH.2 (Nxy, Axy, Bxy) (by simp)).1
    simp only at g0
    obtain ⟨f10, f11, f12, f13, f14⟩ := hH.get Nyx Axy Bxy (by simp)
    simp only [Nat.zero_add] at f11 f12 f13 f14
    have g1 := (hH.2 (Nyx, Axy, Bxy) (by simp)).1
    simp only at g1
    obtain ⟨f20, f21, f22, f23, f24⟩ := hH.get Nle Ale Ble (by simp)
    simp only [Nat.zero_add] at f21 f22 f23 f24
    have g2 := (hH.2 (Nle, Ale, Ble) (by simp)).1
    simp only at g2
    obtain ⟨f30, f31, f32, f33, f34⟩ := hH.get Nri Ale Ble (by simp)
    simp only [Nat.zero_add] at f31 f32 f33 f34
    have g3 := (hH.2 (Nri, Ale, Ble) (by simp)).1
    simp only at g3
    obtain ⟨f40, f41, f42, f43, f44⟩ := hH.get Nov Aov Bov (by simp)
    simp only [Nat.zero_add] at f41 f42 f43 f44
    have g4 := (hH.2 (Nov, Aov, Bov) (by simp)).1
    simp only at g4
    obtain ⟨f50, f51, f52, f53, f54⟩ := hH.get Nap Aov Bov (by simp)
    simp only [Nat.zero_add] at f51 f52 f53 f54
    have g5 := (hH.2 (Nap, Aov, Bov) (by simp)).1
    simp only at g5
    obtain ⟨f60, f61, f62, f63, f64⟩ := hH.get Ntu Axy Btu (by simp)
    simp only [Nat.zero_add] at f61 f62 f63 f64
    have g6 := (hH.2 (Ntu, Axy, Btu) (by simp)).1
    simp only at g6
    obtain ⟨f70, f71, f72, f73, f74⟩ := hH.get Nbo Axy Btu (by simp)
    simp only [Nat.zero_add] at f71 f72 f73 f74
    have g7 := (hH.2 (Nbo, Axy, Btu) (by simp)).1
    simp only at g7
    obtain ⟨f90, f91, f92, f93, f94⟩ := hH.get X a b (by simp)
    simp only [Nat.zero_add] at f91 f92 f93 f94
    have g9 := (hH.2 (X, a, b) (by simp)).1
    simp only at g9
    clear hH
    clear EAxy EBxy EAyx EByx EAle EBle EAyz EByz EAri EBri EAsu EBsu EAov EBov EAxz EBxz EAap EBap EBcx EBcy EBtu EAbo EBbo EBag
    go_wp2_with fail
    refine wp_loop_rounds 6 ?_
    refine rounds_row (Row w (w14.heap.size + 1) [(Axy, Bxy), (Axy, Bxy), (Ale, Ble), (Ale, Ble), (Aov, Bov), (Aov, Bov), (Axy, Btu), (Axy, Btu), (a, b), (a, b)]) (row_new _ _ _ _ _ _ _ _ _ _ _ _ _ _ _ _ _ _ _ _ _ _ _ _ (by simp) (hHh.out.1.trans (((Below.refl _ _).alloc (Nat.le_refl _) _).mono hHh.out.1.size))) ?_
    clear hHh f00 f01 f02 f03 f04 g0 f10 f11 f12 f13 f14 g1 f20 f21 f22 f23 f24 g2 f30 f31 f32 f33 f34 g3 f40 f41 f42 f43 f44 g4 f50 f51 f52 f53 f54 g5 f60 f61 f62 f63 f64 g6 f70 f71 f72 f73 f74 g7 f90 f91 f92 f93 f94 g9
    generalize w14.heap.size + 1 = S at *
    intro y0 hR
    have hRh := Lib.hid hR
    obtain ⟨f00, f01, f02, f03, f04⟩ := hR.get 0 Axy Bxy rfl 0 rfl
    obtain ⟨f10, f11, f12, f13, f14⟩ := hR.get 1 Axy Bxy rfl 5 rfl
    simp only [Nat.reduceAdd] at f01 f02 f03 f04 f11 f12 f13 f14
    have hs := hR.2.1
    clear hR
    rw [rounds_succ]
    go_wp2_with fail
    refine (compare_at Axy Bxy Axy Bxy iAxy iBxy iAxy iBxy _).mono ?_
    rw [ordI_self]
    rintro r y1 ⟨rfl, hbel⟩
    have hR := hRh.out.below (((Below.refl _ _).alloc (Nat.le_refl _) _).trans (hbel.mono (by simp)))
    clear hRh hbel hs f00 f01 f02 f03 f04 f10 f11 f12 f13 f14
    go_wp2_with fail
    have hRh := Lib.hid hR
    obtain ⟨f00, f01, f02, f03, f04⟩ := hR.get 2 Ale Ble rfl 10 rfl
    obtain ⟨f10, f11, f12, f13, f14⟩ := hR.get 3 Ale Ble rfl 15 rfl
    simp only [Nat.reduceAdd] at f01 f02 f03 f04 f11 f12 f13 f14
    have hs := hR.2.1
    clear hR
    rw [rounds_succ]
    go_wp2_with fail
    refine (compare_at Ale Ble Ale Ble iAle iBle iAle iBle _).mono ?_
    rw [ordI_self]
    rintro r y2 ⟨rfl, hbel⟩
    have hR := hRh.out.below (((Below.refl _ _).alloc (Nat.le_refl _) _).trans (hbel.mono (by simp)))
    clear hRh hbel hs f00 f01 f02 f03 f04 f10 f11 f12 f13 f14
    go_wp2_with fail
    have hRh := Lib.hid hR
    obtain ⟨f00, f01, f02, f03, f04⟩ := hR.get 4 Aov Bov rfl 20 rfl
    obtain ⟨f10, f11, f12, f13, f14⟩ := hR.get 5 Aov Bov rfl 25 rfl
    simp only [Nat.reduceAdd] at f01 f02 f03 f04 f11 f12 f13 f14
    have hs := hR.2.1
    clear hR
    rw [rounds_succ]
    go_wp2_with fail
    refine (compare_at Aov Bov Aov Bov iAov iBov iAov iBov _).mono ?_
    rw [ordI_self]
    rintro r y3 ⟨rfl, hbel⟩
    have hR := hRh.out.below (((Below.refl _ _).alloc (Nat.le_refl _) _).trans (hbel.mono (by simp)))
    clear hRh hbel hs f00 f01 f02 f03 f04 f10 f11 f12 f13 f14
    go_wp2_with fail
    have hRh := Lib.hid hR
    obtain ⟨f00, f01, f02, f03, f04⟩ := hR.get 6 Axy Btu rfl 30 rfl
    obtain ⟨f10, f11, f12, f13, f14⟩ := hR.get 7 Axy Btu rfl 35 rfl
    simp only [Nat.reduceAdd] at f01 f02 f03 f04 f11 f12 f13 f14
    have hs := hR.2.1
    clear hR
    rw [rounds_succ]
    go_wp2_with fail
    refine (compare_at Axy Btu Axy Btu iAxy iBtu iAxy iBtu _).mono ?_
    rw [ordI_self]
    rintro r y4 ⟨rfl, hbel⟩
    have hR := hRh.out.below (((Below.refl _ _).alloc (Nat.le_refl _) _).trans (hbel.mono (by simp)))
    clear hRh hbel hs f00 f01 f02 f03 f04 f10 f11 f12 f13 f14
    go_wp2_with fail
    have hRh := Lib.hid hR
    obtain ⟨f00, f01, f02, f03, f04⟩ := hR.get 8 a b rfl 40 rfl
    obtain ⟨f10, f11, f12, f13, f14⟩ := hR.get 9 a b rfl 45 rfl
    simp only [Nat.reduceAdd] at f01 f02 f03 f04 f11 f12 f13 f14
    have hs := hR.2.1
    clear hR
    rw [rounds_succ]
    go_wp2_with fail
    refine (compare_at a b a b ha hb ha hb _).mono ?_
    rw [ordI_self]
    rintro r y5 ⟨rfl, hbel⟩
    have hR := hRh.out.below (((Below.refl _ _).alloc (Nat.le_refl _) _).trans (hbel.mono (by simp)))
    clear hRh hbel hs f00 f01 f02 f03 f04 f10 f11 f12 f13 f14
    go_wp2_with fail
    have hRh := Lib.hid hR
    clear hR
    rw [rounds_succ]
    go_wp2_with fail
    refine (awake_true _).mono ?_
    rintro r y6 ⟨rfl, hbel⟩
    go_wp2
    go_ret
    exact ⟨rfl, hRh.out.1.trans (hbel.mono hRh.out.1.size)⟩
end Go.Proofs.Ytjahennckibleaa
