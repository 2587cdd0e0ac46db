/-
The reader of package expr: look, the kinds of bytes, skipBlanks, readByte, readMark, readDigit.
-/
import Derived.Test.YtdmkcemgbajdkaaDoorSp1
namespace Go.Proofs.YtdmkcemgbajdkaaDoor
open Go.RowKit

/-- A text's bytes. -/
def bl (s : ByteArray) : List UInt8 := s.data.toList
theorem bl_length (s : ByteArray) : (bl s).length = s.size := by unfold bl; exact Array.length_toList
theorem bl_at (s : ByteArray) (m : Nat) (h : m < s.size) : lkB (bl s) m = s[m] := by
  rw [lkB_at (by rw [bl_length]; exact h)]; rfl
theorem bl_end (s : ByteArray) : lkB (bl s) s.size = 0 := lkB_end (by rw [bl_length]; exact Nat.le_refl _)

/-- The reader in block R stands at m. -/
structure Rdr (w : World) (R : Nat) (s : ByteArray) (m : Nat) : Prop where
  box : w.heap[R]? = some (.cells #[.string s, .int .i64 (m : Int)] 51 (0, 0))
  le : m ≤ s.size
  len : s.size ≤ 1000000
theorem Rdr.lt {w : World} {R : Nat} {s : ByteArray} {m : Nat} (h : Rdr w R s m) : R < w.heap.size := cell_lt h.box
theorem Rdr.below {w w' : World} {R : Nat} {s : ByteArray} {m : Nat} (h : Rdr w R s m) (hb : Below w.heap.size w w') : Rdr w' R s m := ⟨(hb.block R h.lt).trans h.box, h.le, h.len⟩
theorem Rdr.go {w : World} {R : Nat} {s : ByteArray} {m : Nat} (h : Rdr w R s m) (m' : Nat) (hm : m' ≤ s.size) : Rdr (w.setCell ⟨R, 1, none⟩ (.int .i64 (m' : Int))) R s m' := by
  refine ⟨?_, hm, h.len⟩
  simp [World.setCell, Array.getElem?_modify, h.box]

theorem str_index (s : ByteArray) (p : Nat) (h : p < s.size) (_hs : s.size ≤ 1000000) (W : World) : (Instr.index 9 (.string s) (.int .i64 (p : Int))).run Tryd.prog W = .ok (.int .u8 ((s[p].toNat : Nat) : Int)) W := by
  go_simp

set_option maxHeartbeats 400000 in
theorem look_any (R : Nat) (s : ByteArray) (m : Nat) (w : World) (h : Rdr w R s m) :
    Calls Tryd.prog 23 #[.pointer (some ⟨R, 0, none⟩)] w fun e w' => e = .returned (.int .u8 ((lkB (bl s) m).toNat : Int)) ∧ Below w.heap.size w w' := by
  have c0 := cell2_0 h.box
  have c1 := cell2_1 h.box
  have hlen := h.len
  have hle := h.le
  by_cases hm : m < s.size
  · have hne : ((m : Int) == (s.size : Int)) = false := beq_eq_false_iff_ne.2 (by omega)
    have hix := str_index s m hm hlen
    have HE := Lib.hid (bl_at s m hm)
    clear h
    go_enter Tryd.func23, Tryd.ntmps23
    go_wp2_with (fail)
    go_quiet ((fail))
    go_wp2_with (fail)
    go_quiet ((fail))
    go_wp2_with (fail)
    go_ret
    rw [HE.out]
    exact ⟨rfl, below_drewN (below_drewN (Below.refl _ _) _) _⟩
  · have hme : m = s.size := by omega
    subst hme
    have hne : ((s.size : Int) == (s.size : Int)) = true := by simp
    have HE := Lib.hid (bl_end s)
    clear h
    go_enter Tryd.func23, Tryd.ntmps23
    go_wp2_with (fail)
    go_quiet ((fail))
    go_wp2_with (fail)
    go_ret
    rw [HE.out]
    exact ⟨rfl, below_drewN (Below.refl _ _) _⟩

theorem ret_bool {a b : Bool} (h : a = b) : Ending.returned (.bool a) = .returned (.bool b) := by rw [h]

theorem isDigit_any (b : UInt8) (w : World) : Calls Tryd.prog 24 #[.int .u8 (b.toNat : Int)] w fun e w' => e = .returned (.bool (isDig b)) ∧ w = w' := by
  by_cases h1 : 48 ≤ b.toNat
  · have g1 : decide ((48 : Int) ≤ (b.toNat : Int)) = true := by simp; omega
    have HF : Hid (isDig b = decide ((b.toNat : Int) ≤ 57)) := by show _ = _; unfold isDig; rw [decide_eq_true h1, Bool.true_and]; congr 1; apply propext; omega
    go_enter Tryd.func24, Tryd.ntmps24
    go_wp2
    go_ret
    rw [HF.out]
    exact ⟨rfl, rfl⟩
  · have g1 : decide ((48 : Int) ≤ (b.toNat : Int)) = false := by simp; omega
    have HF : Hid (isDig b = false) := by show _ = _; unfold isDig; rw [decide_eq_false h1, Bool.false_and]
    go_enter Tryd.func24, Tryd.ntmps24
    go_wp2
    go_ret
    rw [HF.out]
    exact ⟨rfl, rfl⟩

theorem isLetter_any (b : UInt8) (w : World) : Calls Tryd.prog 27 #[.int .u8 (b.toNat : Int)] w fun e w' => e = .returned (.bool (isLet b)) ∧ w = w' := by
  by_cases h1 : 97 ≤ b.toNat
  · have g1 : decide ((97 : Int) ≤ (b.toNat : Int)) = true := by simp; omega
    have HF : Hid (isLet b = decide ((b.toNat : Int) ≤ 122)) := by show _ = _; unfold isLet; rw [decide_eq_true h1, Bool.true_and]; congr 1; apply propext; omega
    go_enter Tryd.func27, Tryd.ntmps27
    go_wp2
    go_ret
    rw [HF.out]
    exact ⟨rfl, rfl⟩
  · have g1 : decide ((97 : Int) ≤ (b.toNat : Int)) = false := by simp; omega
    have HF : Hid (isLet b = false) := by show _ = _; unfold isLet; rw [decide_eq_false h1, Bool.false_and]
    go_enter Tryd.func27, Tryd.ntmps27
    go_wp2
    go_ret
    rw [HF.out]
    exact ⟨rfl, rfl⟩

set_option maxHeartbeats 400000 in
theorem isPlain_any (b : UInt8) (w : World) : Calls Tryd.prog 45 #[.int .u8 (b.toNat : Int)] w fun e w' => e = .returned (.bool (isPl b)) ∧ w = w' := by
  by_cases h1 : 32 ≤ b.toNat ∧ b.toNat ≤ 126 ∧ b.toNat ≠ 34
  · obtain ⟨h1, h2, h3⟩ := h1
    have g1 : decide ((32 : Int) ≤ (b.toNat : Int)) = true := by simp; omega
    have g2 : decide ((b.toNat : Int) ≤ 126) = true := by simp; omega
    have g3 : ((b.toNat : Int) != 34) = true := by simp; omega
    have HF : Hid (isPl b = ((b.toNat : Int) != 92)) := by show _ = _; unfold isPl; rw [decide_eq_true h1, decide_eq_true h2, decide_eq_true h3, Bool.true_and, Bool.true_and, Bool.true_and, Bool.eq_iff_iff]; simp; omega
    clear h1 h2 h3
    go_enter Tryd.func45, Tryd.ntmps45
    go_wp2
    go_ret
    rw [HF.out]
    exact ⟨rfl, rfl⟩
  · have HF : Hid (isPl b = false) := by show _ = _; unfold isPl; simp; omega
    by_cases a1 : 32 ≤ b.toNat
    · have g1 : decide ((32 : Int) ≤ (b.toNat : Int)) = true := by simp; omega
      by_cases a2 : b.toNat ≤ 126
      · have g2 : decide ((b.toNat : Int) ≤ 126) = true := by simp; omega
        have g3 : ((b.toNat : Int) != 34) = false := by simp; omega
        clear h1 a1 a2
        go_enter Tryd.func45, Tryd.ntmps45
        go_wp2
        go_ret
        rw [HF.out]
        exact ⟨rfl, rfl⟩
      · have g2 : decide ((b.toNat : Int) ≤ 126) = false := by simp; omega
        clear h1 a1 a2
        go_enter Tryd.func45, Tryd.ntmps45
        go_wp2
        go_ret
        rw [HF.out]
        exact ⟨rfl, rfl⟩
    · have g1 : decide ((32 : Int) ≤ (b.toNat : Int)) = false := by simp; omega
      clear h1 a1
      go_enter Tryd.func45, Tryd.ntmps45
      go_wp2
      go_ret
      rw [HF.out]
      exact ⟨rfl, rfl⟩
end Go.Proofs.YtdmkcemgbajdkaaDoor
