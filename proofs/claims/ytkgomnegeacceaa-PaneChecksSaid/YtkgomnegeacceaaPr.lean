/-
The document's Follows and Stage; awake.
-/
import Derived.Test.YtkgomnegeacceaaPh
set_option linter.unusedVariables false
namespace Go.Proofs.Ytkgomnegeacceaa
open Go.RowKit

/-- Does y keep p from standing behind it? -/
def blk (t : Int) (y : Inf) : Prop := y.2.2 = true ∨ (t ≠ 2 ∧ y.2.1 ≠ 0)

/-- The document's answer. -/
def FolR (l : List Inf) (x : Inf) : Prop := x.1 = l.length ∧ 0 ≤ x.2.1 ∧ x.2.1 ≤ 2 ∧ ∀ y ∈ l, ¬ blk x.2.1 y

instance (t : Int) (y : Inf) : Decidable (blk t y) := by unfold blk; infer_instance
instance (l : List Inf) (x : Inf) : Decidable (FolR l x) := by unfold FolR; infer_instance

def FolOut (l : List Inf) (x : Inf) (e : Ending) : Prop := ∃ q : Bool, e = .returned (.bool q) ∧ (q = true ↔ FolR l x)

theorem mem_take_succ {l : List Inf} {j : Nat} {x y : Inf} (h : l[j]? = some x) (hy : y ∈ l.take (j + 1)) : y ∈ l.take j ∨ y = x := by
  rw [take_snoc h] at hy
  simpa using hy

set_option maxRecDepth 100000 in
set_option maxHeartbeats 2000000 in
theorem follows_index (S : Nat → Prop) (v : Value) (l : List Inf) (n t : Int) (b : Bool) (w : World) (h : IsAt w S v l) (hl : l.length ≤ 4611686018427387900) (hn : n ≠ l.length) :
    Calls Try.prog 10 #[v, .agg #[.int .i64 n, .int .i64 t, .bool b]] w fun e w' => e = .returned (.bool false) ∧ Below w.heap.size w w' := by
  obtain ⟨a, c, rfl, hlc, _⟩ := h
  have d1 : (n == (l.length : Int)) = false := by simp [hn]
  have d2 : (n != (l.length : Int)) = true := by simp [hn]
  clear hn
  go_enter Try.func10, Try.ntmps10
  go_wp2
  go_ret
  exact ⟨rfl, (Below.refl _ w).alloc (Nat.le_refl _) _⟩

set_option maxRecDepth 100000 in
set_option maxHeartbeats 2000000 in
theorem follows_low (S : Nat → Prop) (v : Value) (l : List Inf) (t : Int) (b : Bool) (w : World) (h : IsAt w S v l) (hl : l.length ≤ 4611686018427387900) (ht : t < 0) :
    Calls Try.prog 10 #[v, .agg #[.int .i64 (l.length : Int), .int .i64 t, .bool b]] w fun e w' => e = .returned (.bool false) ∧ Below w.heap.size w w' := by
  obtain ⟨a, c, rfl, hlc, _⟩ := h
  have d1 : decide (t < 0) = true := decide_eq_true ht
  go_enter Try.func10, Try.ntmps10
  go_wp2
  go_ret
  exact ⟨rfl, (Below.refl _ w).alloc (Nat.le_refl _) _⟩

set_option maxRecDepth 100000 in
set_option maxHeartbeats 2000000 in
theorem follows_high (S : Nat → Prop) (v : Value) (l : List Inf) (t : Int) (b : Bool) (w : World) (h : IsAt w S v l) (hl : l.length ≤ 4611686018427387900) (ht : 2 < t) :
    Calls Try.prog 10 #[v, .agg #[.int .i64 (l.length : Int), .int .i64 t, .bool b]] w fun e w' => e = .returned (.bool false) ∧ Below w.heap.size w w' := by
  obtain ⟨a, c, rfl, hlc, _⟩ := h
  have d1 : decide (t < 0) = false := decide_eq_false (by omega)
  have d2 : decide (2 < t) = true := decide_eq_true ht
  go_enter Try.func10, Try.ntmps10
  go_wp2
  go_ret
  exact ⟨rfl, (Below.refl _ w).alloc (Nat.le_refl _) _⟩

set_option maxRecDepth 100000 in
set_option maxHeartbeats 2000000 in
theorem follows_0 (S : Nat → Prop) (v : Value) (l : List Inf) (b : Bool) (w : World) (h : IsAt w S v l) (hl : l.length ≤ 4611686018427387900) :
    Calls Try.prog 10 #[v, .agg #[.int .i64 (l.length : Int), .int .i64 0, .bool b]] w fun e w' => FolOut l ((l.length : Int), 0, b) e ∧ Below w.heap.size w w' := by
  obtain ⟨a, c, rfl, hlc, hA⟩ := h
  have HA := Lib.hid hA
  clear hA
  go_enter Try.func10, Try.ntmps10
  go_wp2
  go_loopw [5] (fun iv wr => ∃ j : Nat, iv = .int .i64 (j : Int) ∧ j ≤ l.length ∧ Hid (∀ y ∈ l.take j, ¬ blk 0 y) ∧ Hid (wr.heap[w.heap.size]? = some (.cells #[.int .i64 (l.length : Int), .int .i64 0, .bool b] 30 (0, 0))) ∧ Hid (Below w.heap.size w wr)) (fun iv _ => l.length - (intOf iv).toNat)
  case atStart => exact ⟨0, rfl, Nat.zero_le _, Lib.hid (by simp), Lib.hid (heap_alloc_new w _), Lib.hid ((Below.refl _ _).alloc (Nat.le_refl _) _)⟩
  case round =>
    obtain ⟨j, rfl, hj, HG, HBX, HB⟩ := hrel
    have hsr := HB.out.size
    by_cases hlt : j < l.length
    · obtain ⟨bk, o, rfl, hS, hb2, hcells⟩ := HA.out (by omega)
      have hx := List.getElem?_eq_getElem hlt
      obtain ⟨c0, c1, c2⟩ := hcells j _ hx
      have HX := Lib.hid hx
      generalize l[j] = x at *
      obtain ⟨x1, x2, x3⟩ := x
      dsimp only at c0 c1 c2
      have c1 := (HB.out.cell (p := ⟨bk, o + j * 3 + 1, none⟩) hb2).trans c1
      have c2 := (HB.out.cell (p := ⟨bk, o + j * 3 + 2, none⟩) hb2).trans c2
      have hbr : bk < wr.heap.size := by omega
      have hj0' : (0 : Int) ≤ (j : Int) := by omega
      have hj1' : (j : Int) < (l.length : Int) := by omega
      have bx := HBX.out
      have b1 := cell3_1 bx
      clear hx hcells c0 bx
      by_cases hb : blk 0 (x1, x2, x3)
      · have HBK := Lib.hid hb
        have hend : FolOut l ((l.length : Int), 0, b) (.returned (.bool false)) := ⟨false, rfl, ⟨fun h => (Bool.false_ne_true h).elim, fun h => absurd hb (h.2.2.2 _ (List.mem_of_getElem? HX.out))⟩⟩
        have HEND := Lib.hid hend
        clear hb hend
        cases x3 with
        | true =>
          go_wp2
          go_ret
          exact ⟨HEND.out, HB.out⟩
        | false =>
          have hx2 : ¬ x2 = 0 := by rcases HBK.out with h | h; exact (Bool.false_ne_true h).elim; exact h.2
          skip
          have d1 : (x2 != 0) = true := by simp [hx2]
          have d2 : (x2 == 0) = false := by simp [hx2]
          clear hx2
          go_wp2
          go_ret
          exact ⟨HEND.out, HB.out⟩
      · have HBK := Lib.hid hb
        clear hb
        obtain rfl : x3 = false := by cases x3 with | true => exact (HBK.out (.inl rfl)).elim | false => rfl
        have hx2 : x2 = 0 := Decidable.byContradiction fun h => HBK.out (.inr ⟨by decide, h⟩)
        subst hx2
        go_wp2
        go_roundw
        case rel =>
          refine ⟨j + 1, by go_num, by omega, Lib.hid fun y hy => ?_, HBX, HB⟩
          rcases mem_take_succ HX.out hy with h | rfl
          · exact HG.out y h
          · exact HBK.out
        case measure => simp [intOf]; omega
    · obtain rfl : j = l.length := by omega
      have hend : FolOut l ((l.length : Int), 0, b) (.returned (.bool true)) := ⟨true, rfl, ⟨fun _ => ⟨rfl, by show (0:Int) ≤ 0; omega, by show (0:Int) ≤ 2; omega, fun y hy => HG.out y (by rw [List.take_length]; exact hy)⟩, fun _ => rfl⟩⟩
      have HEND := Lib.hid hend
      clear hend
      go_wp2
      go_ret
      exact ⟨HEND.out, HB.out⟩

set_option maxRecDepth 100000 in
set_option maxHeartbeats 2000000 in
theorem follows_1 (S : Nat → Prop) (v : Value) (l : List Inf) (b : Bool) (w : World) (h : IsAt w S v l) (hl : l.length ≤ 4611686018427387900) :
    Calls Try.prog 10 #[v, .agg #[.int .i64 (l.length : Int), .int .i64 1, .bool b]] w fun e w' => FolOut l ((l.length : Int), 1, b) e ∧ Below w.heap.size w w' := by
  obtain ⟨a, c, rfl, hlc, hA⟩ := h
  have HA := Lib.hid hA
  clear hA
  go_enter Try.func10, Try.ntmps10
  go_wp2
  go_loopw [5] (fun iv wr => ∃ j : Nat, iv = .int .i64 (j : Int) ∧ j ≤ l.length ∧ Hid (∀ y ∈ l.take j, ¬ blk 1 y) ∧ Hid (wr.heap[w.heap.size]? = some (.cells #[.int .i64 (l.length : Int), .int .i64 1, .bool b] 30 (0, 0))) ∧ Hid (Below w.heap.size w wr)) (fun iv _ => l.length - (intOf iv).toNat)
  case atStart => exact ⟨0, rfl, Nat.zero_le _, Lib.hid (by simp), Lib.hid (heap_alloc_new w _), Lib.hid ((Below.refl _ _).alloc (Nat.le_refl _) _)⟩
  case round =>
    obtain ⟨j, rfl, hj, HG, HBX, HB⟩ := hrel
    have hsr := HB.out.size
    by_cases hlt : j < l.length
    · obtain ⟨bk, o, rfl, hS, hb2, hcells⟩ := HA.out (by omega)
      have hx := List.getElem?_eq_getElem hlt
      obtain ⟨c0, c1, c2⟩ := hcells j _ hx
      have HX := Lib.hid hx
      generalize l[j] = x at *
      obtain ⟨x1, x2, x3⟩ := x
      dsimp only at c0 c1 c2
      have c1 := (HB.out.cell (p := ⟨bk, o + j * 3 + 1, none⟩) hb2).trans c1
      have c2 := (HB.out.cell (p := ⟨bk, o + j * 3 + 2, none⟩) hb2).trans c2
      have hbr : bk < wr.heap.size := by omega
      have hj0' : (0 : Int) ≤ (j : Int) := by omega
      have hj1' : (j : Int) < (l.length : Int) := by omega
      have bx := HBX.out
      have b1 := cell3_1 bx
      clear hx hcells c0 bx
      by_cases hb : blk 1 (x1, x2, x3)
      · have HBK := Lib.hid hb
        have hend : FolOut l ((l.length : Int), 1, b) (.returned (.bool false)) := ⟨false, rfl, ⟨fun h => (Bool.false_ne_true h).elim, fun h => absurd hb (h.2.2.2 _ (List.mem_of_getElem? HX.out))⟩⟩
        have HEND := Lib.hid hend
        clear hb hend
        cases x3 with
        | true =>
          go_wp2
          go_ret
          exact ⟨HEND.out, HB.out⟩
        | false =>
          have hx2 : ¬ x2 = 0 := by rcases HBK.out with h | h; exact (Bool.false_ne_true h).elim; exact h.2
          skip
          have d1 : (x2 != 0) = true := by simp [hx2]
          have d2 : (x2 == 0) = false := by simp [hx2]
          clear hx2
          go_wp2
          go_ret
          exact ⟨HEND.out, HB.out⟩
      · have HBK := Lib.hid hb
        clear hb
        obtain rfl : x3 = false := by cases x3 with | true => exact (HBK.out (.inl rfl)).elim | false => rfl
        have hx2 : x2 = 0 := Decidable.byContradiction fun h => HBK.out (.inr ⟨by decide, h⟩)
        subst hx2
        go_wp2
        go_roundw
        case rel =>
          refine ⟨j + 1, by go_num, by omega, Lib.hid fun y hy => ?_, HBX, HB⟩
          rcases mem_take_succ HX.out hy with h | rfl
          · exact HG.out y h
          · exact HBK.out
        case measure => simp [intOf]; omega
    · obtain rfl : j = l.length := by omega
      have hend : FolOut l ((l.length : Int), 1, b) (.returned (.bool true)) := ⟨true, rfl, ⟨fun _ => ⟨rfl, by show (0:Int) ≤ 1; omega, by show (1:Int) ≤ 2; omega, fun y hy => HG.out y (by rw [List.take_length]; exact hy)⟩, fun _ => rfl⟩⟩
      have HEND := Lib.hid hend
      clear hend
      go_wp2
      go_ret
      exact ⟨HEND.out, HB.out⟩

set_option maxRecDepth 100000 in
set_option maxHeartbeats 2000000 in
theorem follows_2 (S : Nat → Prop) (v : Value) (l : List Inf) (b : Bool) (w : World) (h : IsAt w S v l) (hl : l.length ≤ 4611686018427387900) :
    Calls Try.prog 10 #[v, .agg #[.int .i64 (l.length : Int), .int .i64 2, .bool b]] w fun e w' => FolOut l ((l.length : Int), 2, b) e ∧ Below w.heap.size w w' := by
  obtain ⟨a, c, rfl, hlc, hA⟩ := h
  have HA := Lib.hid hA
  clear hA
  go_enter Try.func10, Try.ntmps10
  go_wp2
  go_loopw [5] (fun iv wr => ∃ j : Nat, iv = .int .i64 (j : Int) ∧ j ≤ l.length ∧ Hid (∀ y ∈ l.take j, ¬ blk 2 y) ∧ Hid (wr.heap[w.heap.size]? = some (.cells #[.int .i64 (l.length : Int), .int .i64 2, .bool b] 30 (0, 0))) ∧ Hid (Below w.heap.size w wr)) (fun iv _ => l.length - (intOf iv).toNat)
  case atStart => exact ⟨0, rfl, Nat.zero_le _, Lib.hid (by simp), Lib.hid (heap_alloc_new w _), Lib.hid ((Below.refl _ _).alloc (Nat.le_refl _) _)⟩
  case round =>
    obtain ⟨j, rfl, hj, HG, HBX, HB⟩ := hrel
    have hsr := HB.out.size
    by_cases hlt : j < l.length
    · obtain ⟨bk, o, rfl, hS, hb2, hcells⟩ := HA.out (by omega)
      have hx := List.getElem?_eq_getElem hlt
      obtain ⟨c0, c1, c2⟩ := hcells j _ hx
      have HX := Lib.hid hx
      generalize l[j] = x at *
      obtain ⟨x1, x2, x3⟩ := x
      dsimp only at c0 c1 c2
      have c1 := (HB.out.cell (p := ⟨bk, o + j * 3 + 1, none⟩) hb2).trans c1
      have c2 := (HB.out.cell (p := ⟨bk, o + j * 3 + 2, none⟩) hb2).trans c2
      have hbr : bk < wr.heap.size := by omega
      have hj0' : (0 : Int) ≤ (j : Int) := by omega
      have hj1' : (j : Int) < (l.length : Int) := by omega
      have bx := HBX.out
      have b1 := cell3_1 bx
      clear hx hcells c0 bx
      by_cases hb : blk 2 (x1, x2, x3)
      · have HBK := Lib.hid hb
        have hend : FolOut l ((l.length : Int), 2, b) (.returned (.bool false)) := ⟨false, rfl, ⟨fun h => (Bool.false_ne_true h).elim, fun h => absurd hb (h.2.2.2 _ (List.mem_of_getElem? HX.out))⟩⟩
        have HEND := Lib.hid hend
        clear hb hend
        cases x3 with
        | true =>
          go_wp2
          go_ret
          exact ⟨HEND.out, HB.out⟩
        | false =>
          have hx2 : ¬ x2 = 0 := by rcases HBK.out with h | h; exact (Bool.false_ne_true h).elim; exact h.2
          exfalso; rcases HBK.out with h | h; exact Bool.false_ne_true h; exact h.1 rfl
      · have HBK := Lib.hid hb
        clear hb
        obtain rfl : x3 = false := by cases x3 with | true => exact (HBK.out (.inl rfl)).elim | false => rfl
        skip
        go_wp2
        go_roundw
        case rel =>
          refine ⟨j + 1, by go_num, by omega, Lib.hid fun y hy => ?_, HBX, HB⟩
          rcases mem_take_succ HX.out hy with h | rfl
          · exact HG.out y h
          · exact HBK.out
        case measure => simp [intOf]; omega
    · obtain rfl : j = l.length := by omega
      have hend : FolOut l ((l.length : Int), 2, b) (.returned (.bool true)) := ⟨true, rfl, ⟨fun _ => ⟨rfl, by show (0:Int) ≤ 2; omega, by show (2:Int) ≤ 2; omega, fun y hy => HG.out y (by rw [List.take_length]; exact hy)⟩, fun _ => rfl⟩⟩
      have HEND := Lib.hid hend
      clear hend
      go_wp2
      go_ret
      exact ⟨HEND.out, HB.out⟩

theorem follows_any (S : Nat → Prop) (v : Value) (l : List Inf) (n t : Int) (b : Bool) (w : World) (h : IsAt w S v l) (hl : l.length ≤ 4611686018427387900) :
    Calls Try.prog 10 #[v, .agg #[.int .i64 n, .int .i64 t, .bool b]] w fun e w' => FolOut l (n, t, b) e ∧ Below w.heap.size w w' := by
  by_cases hn : n = l.length
  · subst hn
    by_cases h0 : t < 0
    · exact (follows_low S v l t b w h hl h0).mono fun e w' ⟨he, hb⟩ => ⟨⟨false, he, ⟨fun h => (Bool.false_ne_true h).elim, fun h => by have := h.2.1; dsimp only at this; omega⟩⟩, hb⟩
    by_cases h2 : 2 < t
    · exact (follows_high S v l t b w h hl h2).mono fun e w' ⟨he, hb⟩ => ⟨⟨false, he, ⟨fun h => (Bool.false_ne_true h).elim, fun h => by have := h.2.2.1; dsimp only at this; omega⟩⟩, hb⟩
    rcases (by omega : t = 0 ∨ t = 1 ∨ t = 2) with rfl | rfl | rfl
    · exact follows_0 S v l b w h hl
    · exact follows_1 S v l b w h hl
    · exact follows_2 S v l b w h hl
  · exact (follows_index S v l n t b w h hl hn).mono fun e w' ⟨he, hb⟩ => ⟨⟨false, he, ⟨fun h => (Bool.false_ne_true h).elim, fun h => absurd h.1 hn⟩⟩, hb⟩

end Go.Proofs.Ytkgomnegeacceaa
