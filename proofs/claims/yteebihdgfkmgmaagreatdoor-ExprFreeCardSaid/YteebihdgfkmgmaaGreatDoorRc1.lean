/-
The reader of package expr: look, the kinds of bytes, skipBlanks, readByte, readMark, readDigit.
-/
import Derived.Test.YteebihdgfkmgmaaGreatDoorSp1
namespace Go.Proofs.YteebihdgfkmgmaaGreatDoor
open Go.RowKit

/-- A text's bytes. -/
def bl (s : ByteArray) : List UInt8 := s.data.toList
theorem bl_length (s : ByteArray) : (bl s).length = s.size := by unfold bl; exact Array.length_toList
theorem bl_at (s : ByteArray) (m : Nat) (h : m < s.size) : lkB (bl s) m = s[m] := by
  rw [lkB_at (by rw [bl_length]; exact h)]; rfl
theorem bl_end (s : ByteArray) : lkB (bl s) s.size = 0 := lkB_end (by rw [bl_length]; exact Nat.le_refl _)

/-- The reader in block R stands at m. -/
structure Rdr (w : World) (R : Nat) (s : ByteArray) (m : Nat) : Prop where
  box : w.heap[R]? = some (.cells #[.string s, .int .i64 (m : Int)] 90 (0, 0))
  le : m ≤ s.size
  len : s.size ≤ 1000000
theorem Rdr.lt {w : World} {R : Nat} {s : ByteArray} {m : Nat} (h : Rdr w R s m) : R < w.heap.size := cell_lt h.box
theorem Rdr.below {w w' : World} {R : Nat} {s : ByteArray} {m : Nat} (h : Rdr w R s m) (hb : Below w.heap.size w w') : Rdr w' R s m := ⟨(hb.block R h.lt).trans h.box, h.le, h.len⟩
theorem Rdr.go {w : World} {R : Nat} {s : ByteArray} {m : Nat} (h : Rdr w R s m) (m' : Nat) (hm : m' ≤ s.size) : Rdr (w.setCell ⟨R, 1, none⟩ (.int .i64 (m' : Int))) R s m' := by
  refine ⟨?_, hm, h.len⟩
  simp [World.setCell, Array.getElem?_modify, h.box]

theorem str_index (s : ByteArray) (p : Nat) (h : p < s.size) (_hs : s.size ≤ 1000000) (W : World) : (Instr.index 9 (.string s) (.int .i64 (p : Int))).run Tryz.prog W = .ok (.int .u8 ((s[p].toNat : Nat) : Int)) W := by
  go_simp

set_option maxHeartbeats 400000 in
theorem look_any (R : Nat) (s : ByteArray) (m : Nat) (w : World) (h : Rdr w R s m) :
    Calls Tryz.prog 79 #[.pointer (some ⟨R, 0, none⟩)] w fun e w' => e = .returned (.int .u8 ((lkB (bl s) m).toNat : Int)) ∧ Below w.heap.size w w' := by
  have c0 := cell2_0 h.box
  have c1 := cell2_1 h.box
  have hlen := h.len
  have hle := h.le
  by_cases hm : m < s.size
  · have hne : ((m : Int) == (s.size : Int)) = false := beq_eq_false_iff_ne.2 (by omega)
    have hix := str_index s m hm hlen
    have HE := Lib.hid (bl_at s m hm)
    clear h
    go_enter Tryz.func79, Tryz.ntmps79
    go_wp2_with (fail)
    go_quiet ((fail))
    go_wp2_with (fail)
    go_quiet ((fail))
    go_wp2_with (fail)
    go_ret
    rw [HE.out]
    exact ⟨rfl, below_drewN (below_drewN (Below.refl _ _) _) _⟩
  · have hme : m = s.size := by omega
    subst hme
    have hne : ((s.size : Int) == (s.size : Int)) = true := by simp
    have HE := Lib.hid (bl_end s)
    clear h
    go_enter Tryz.func79, Tryz.ntmps79
    go_wp2_with (fail)
    go_quiet ((fail))
    go_wp2_with (fail)
    go_ret
    rw [HE.out]
    exact ⟨rfl, below_drewN (Below.refl _ _) _⟩

theorem ret_bool {a b : Bool} (h : a = b) : Ending.returned (.bool a) = .returned (.bool b) := by rw [h]

theorem isDigit_any (b : UInt8) (w : World) : Calls Tryz.prog 80 #[.int .u8 (b.toNat : Int)] w fun e w' => e = .returned (.bool (isDig b)) ∧ w = w' := by
  by_cases h1 : 48 ≤ b.toNat
  · have g1 : decide ((48 : Int) ≤ (b.toNat : Int)) = true := by simp; omega
    have HF : Hid (isDig b = decide ((b.toNat : Int) ≤ 57)) := by show _ = _; unfold isDig; rw [decide_eq_true h1, Bool.true_and]; congr 1; apply propext; omega
    go_enter Tryz.func80, Tryz.ntmps80
    go_wp2
    go_ret
    rw [HF.out]
    exact ⟨rfl, rfl⟩
  · have g1 : decide ((48 : Int) ≤ (b.toNat : Int)) = false := by simp; omega
    have HF : Hid (isDig b = false) := by show _ = _; unfold isDig; rw [decide_eq_false h1, Bool.false_and]
    go_enter Tryz.func80, Tryz.ntmps80
    go_wp2
    go_ret
    rw [HF.out]
    exact ⟨rfl, rfl⟩

theorem isLetter_any (b : UInt8) (w : World) : Calls Tryz.prog 83 #[.int .u8 (b.toNat : Int)] w fun e w' => e = .returned (.bool (isLet b)) ∧ w = w' := by
  by_cases h1 : 97 ≤ b.toNat
  · have g1 : decide ((97 : Int) ≤ (b.toNat : Int)) = true := by simp; omega
    have HF : Hid (isLet b = decide ((b.toNat : Int) ≤ 122)) := by show _ = _; unfold isLet; rw [decide_eq_true h1, Bool.true_and]; congr 1; apply propext; omega
    go_enter Tryz.func83, Tryz.ntmps83
    go_wp2
    go_ret
    rw [HF.out]
    exact ⟨rfl, rfl⟩
  · have g1 : decide ((97 : Int) ≤ (b.toNat : Int)) = false := by simp; omega
    have HF : Hid (isLet b = false) := by show _ = _; unfold isLet; rw [decide_eq_false h1, Bool.false_and]
    go_enter Tryz.func83, Tryz.ntmps83
    go_wp2
    go_ret
    rw [HF.out]
    exact ⟨rfl, rfl⟩

set_option maxHeartbeats 400000 in
theorem isPlain_any (b : UInt8) (w : World) : Calls Tryz.prog 156 #[.int .u8 (b.toNat : Int)] w fun e w' => e = .returned (.bool (isPl b)) ∧ w = w' := by
  by_cases h1 : 32 ≤ b.toNat ∧ b.toNat ≤ 126 ∧ b.toNat ≠ 34
  · obtain ⟨h1, h2, h3⟩ := h1
    have g1 : decide ((32 : Int) ≤ (b.toNat : Int)) = true := by simp; omega
    have g2 : decide ((b.toNat : Int) ≤ 126) = true := by simp; omega
    have g3 : ((b.toNat : Int) != 34) = true := by simp; omega
    have HF : Hid (isPl b = ((b.toNat : Int) != 92)) := by show _ = _; unfold isPl; rw [decide_eq_true h1, decide_eq_true h2, decide_eq_true h3, Bool.true_and, Bool.true_and, Bool.true_and, Bool.eq_iff_iff]; simp; omega
    clear h1 h2 h3
    go_enter Tryz.func156, Tryz.ntmps156
    go_wp2
    go_ret
    rw [HF.out]
    exact ⟨rfl, rfl⟩
  · have HF : Hid (isPl b = false) := by show _ = _; unfold isPl; simp; omega
    by_cases a1 : 32 ≤ b.toNat
    · have g1 : decide ((32 : Int) ≤ (b.toNat : Int)) = true := by simp; omega
      by_cases a2 : b.toNat ≤ 126
      · have g2 : decide ((b.toNat : Int) ≤ 126) = true := by simp; omega
        have g3 : ((b.toNat : Int) != 34) = false := by simp; omega
        clear h1 a1 a2
        go_enter Tryz.func156, Tryz.ntmps156
        go_wp2
        go_ret
        rw [HF.out]
        exact ⟨rfl, rfl⟩
      · have g2 : decide ((b.toNat : Int) ≤ 126) = false := by simp; omega
        clear h1 a1 a2
        go_enter Tryz.func156, Tryz.ntmps156
        go_wp2
        go_ret
        rw [HF.out]
        exact ⟨rfl, rfl⟩
    · have g1 : decide ((32 : Int) ≤ (b.toNat : Int)) = false := by simp; omega
      clear h1 a1
      go_enter Tryz.func156, Tryz.ntmps156
      go_wp2
      go_ret
      rw [HF.out]
      exact ⟨rfl, rfl⟩
end Go.Proofs.YteebihdgfkmgmaaGreatDoor

namespace Go.Proofs.YteebihdgfkmgmaaGreatDoor
open Go.RowKit

theorem u8_beq (a b : UInt8) : ((a.toNat : Int) == (b.toNat : Int)) = decide (a = b) := by
  rw [Bool.eq_iff_iff]
  simp only [beq_iff_eq, decide_eq_true_eq]
  constructor
  · intro h; exact UInt8.toNat_inj.1 (by omega)
  · intro h; rw [h]

/-- Where the reader in block R stands. -/
def atOf (R : Nat) (w : World) : Nat := match w.cell? ⟨R, 1, none⟩ with
  | some (.int _ i) => i.toNat
  | _ => 0
theorem at_of {w : World} {R : Nat} {s : ByteArray} {m : Nat} (h : Rdr w R s m) : atOf R w = m := by
  unfold atOf
  rw [cell2_1 h.box]
  exact Int.toNat_natCast m

set_option maxRecDepth 100000 in
set_option maxHeartbeats 400000 in
theorem skip_any (R : Nat) (s : ByteArray) (m : Nat) (w : World) (h : Rdr w R s m) :
    Calls Tryz.prog 46 #[.pointer (some ⟨R, 0, none⟩)] w fun e w' => (∃ v, e = .returned v) ∧ Only R w w' ∧ Rdr w' R s (skip (bl s) m) := by
  have HR := Lib.hid h
  have hle := h.le
  have hlen := h.len
  clear h
  go_enter Tryz.func46, Tryz.ntmps46
  go_wp2_with (fail)
  go_loopw [] (fun wr => ∃ m' : Nat, m' ≤ s.size ∧ Hid (Rdr wr R s m') ∧ Hid (skip (bl s) m' = skip (bl s) m) ∧ Hid (Only R w wr)) (fun wr => s.size - atOf R wr)
  case atStart => exact ⟨m, hle, HR, Lib.hid rfl, Lib.hid (Only.refl _ _)⟩
  case round =>
    obtain ⟨m', hm', HR', HS, HO⟩ := hrel
    go_wp2_with (fail)
    refine (look_any R s m' wr HR'.out).mono ?_
    rintro e w2 ⟨rfl, hb⟩
    have HR2 := Lib.hid (HR'.out.below hb)
    have c1 := cell2_1 HR2.out.box
    have f1 := cell3_f HR2.out.box 1
    have hlt := HR2.out.lt
    have HO2 := Lib.hid (HO.out.trans (Only.of_below hb))
    have hat := at_of HR'.out
    clear hb
    by_cases h32 : lkB (bl s) m' = 32
    · have hb32 : (((lkB (bl s) m').toNat : Int) == 32) = true := by rw [h32]; rfl
      have hlm : m' < s.size := by have := lkB_lt (l := bl s) (m := m') (by rw [h32]; decide); rwa [bl_length] at this
      have HS2 := Lib.hid ((skip_on h32).symm.trans HS.out)
      clear h32
      go_wp2_with (fail)
      go_roundw
      case rel => exact ⟨m' + 1, by omega, Lib.hid (by rw [show (m' : Int) + 1 = ((m' + 1 : Nat) : Int) by omega]; exact HR2.out.go (m' + 1) (by omega)), HS2, Lib.hid (HO2.out.trans (Only.set_ R 1 w2 _))⟩
      case measure =>
        have hat2 : atOf R (w2.setCell ⟨R, 1, none⟩ (.int .i64 ((m' : Int) + 1))) = m' + 1 := by rw [show (m' : Int) + 1 = ((m' + 1 : Nat) : Int) by omega]; exact at_of (HR2.out.go (m' + 1) (by omega))
        rw [hat, hat2]
        omega
    · have hb32 : (((lkB (bl s) m').toNat : Int) == 32) = false := u8_beq_false (b := 32) h32
      have HE := Lib.hid ((skip_off h32).symm.trans HS.out)
      clear h32
      go_wp2_with (fail)
      go_end0
      exact ⟨⟨_, rfl⟩, HO2.out, by rw [← HE.out]; exact HR2.out⟩

/-- One further, if so. -/
def nx (ok : Bool) (m : Nat) : Nat := if ok then m + 1 else m
/-- What readByte and readMark answer with. -/
def RbOut (R : Nat) (s : ByteArray) (ok : Bool) (m1 : Nat) (w : World) (e : Ending) (w' : World) : Prop := e = .returned (.bool ok) ∧ Only R w w' ∧ Rdr w' R s m1

set_option maxHeartbeats 400000 in
theorem readByte_any (R : Nat) (s : ByteArray) (m : Nat) (b : UInt8) (w : World) (hb0 : b ≠ 0) (h : Rdr w R s m) :
    Calls Tryz.prog 117 #[.pointer (some ⟨R, 0, none⟩), .int .u8 (b.toNat : Int)] w fun e w' => RbOut R s (rdB (bl s) m b) (nx (rdB (bl s) m b) m) w e w' := by
  have HR := Lib.hid h
  have hle := h.le
  have hlen := h.len
  clear h
  go_enter Tryz.func117, Tryz.ntmps117
  go_wp2_with (fail)
  refine (look_any R s m w HR.out).mono ?_
  rintro e w2 ⟨rfl, hb⟩
  have HR2 := Lib.hid (HR.out.below hb)
  have c1 := cell2_1 HR2.out.box
  have f1 := cell3_f HR2.out.box 1
  have hlt := HR2.out.lt
  have HO2 := Lib.hid (Only.of_below (R := R) hb)
  clear hb
  by_cases hq : lkB (bl s) m = b
  · have hne : (((lkB (bl s) m).toNat : Int) != (b.toNat : Int)) = false := by rw [hq]; simp
    have HF : Hid (rdB (bl s) m b = true) := by show _ = _; unfold rdB; rw [decide_eq_true hq]
    have hlm : m < s.size := by have := lkB_lt (l := bl s) (m := m) (by rw [hq]; exact hb0); rwa [bl_length] at this
    clear hq
    go_wp2_with (fail)
    go_ret
    rw [HF.out]
    exact ⟨rfl, HO2.out.trans (Only.set_ R 1 w2 _), by rw [show (m : Int) + 1 = ((m + 1 : Nat) : Int) by omega]; exact HR2.out.go (m + 1) (by omega)⟩
  · have hne : (((lkB (bl s) m).toNat : Int) != (b.toNat : Int)) = true := by
      simp only [bne, u8_beq_false hq, Bool.not_false]
    have HF : Hid (rdB (bl s) m b = false) := by show _ = _; unfold rdB; rw [decide_eq_false hq]
    clear hq
    go_wp2_with (fail)
    go_ret
    rw [HF.out]
    exact ⟨rfl, HO2.out, HR2.out⟩

set_option maxHeartbeats 400000 in
theorem readMark_any (R : Nat) (s : ByteArray) (m : Nat) (b : UInt8) (w : World) (hb0 : b ≠ 0) (h : Rdr w R s m) :
    Calls Tryz.prog 159 #[.pointer (some ⟨R, 0, none⟩), .int .u8 (b.toNat : Int)] w fun e w' => RbOut R s (rdB (bl s) (skip (bl s) m) b) (nx (rdB (bl s) (skip (bl s) m) b) (skip (bl s) m)) w e w' := by
  have HR := Lib.hid h
  clear h
  go_enter Tryz.func159, Tryz.ntmps159
  go_wp2_with (fail)
  refine (skip_any R s m w HR.out).mono ?_
  rintro e w2 ⟨⟨v, rfl⟩, ho, hr⟩
  have HR2 := Lib.hid hr
  have HO2 := Lib.hid ho
  clear hr ho
  go_wp2_with (fail)
  refine (readByte_any R s _ b w2 hb0 HR2.out).mono ?_
  rintro e w3 ⟨rfl, ho, hr⟩
  have HR3 := Lib.hid hr
  have HO3 := Lib.hid ho
  clear hr ho
  go_wp2_with (fail)
  go_ret
  exact ⟨rfl, HO2.out.trans HO3.out, HR3.out⟩

theorem dig_sub {b : UInt8} (h : isDig b = true) : IntKind.u8.wrap ((b.toNat : Int) - 48) = (b.toNat : Int) - 48 ∧ 48 ≤ b.toNat ∧ b.toNat ≤ 57 := by
  unfold isDig at h
  simp at h
  refine ⟨?_, h.1, h.2⟩
  simp only [IntKind.wrap, IntKind.bits, IntKind.signed]
  simp
  omega

/-- What readDigit answers with. -/
def DgOut (R : Nat) (s : ByteArray) (m : Nat) (w : World) (e : Ending) (w' : World) : Prop :=
  if isDig (lkB (bl s) m) = true then e = .returned (.tuple #[.int .i64 (((lkB (bl s) m).toNat : Int) - 48), .bool true]) ∧ Only R w w' ∧ Rdr w' R s (m + 1)
  else e = .returned (.tuple #[.int .i64 0, .bool false]) ∧ Only R w w' ∧ Rdr w' R s m

set_option maxHeartbeats 400000 in
theorem readDigit_any (R : Nat) (s : ByteArray) (m : Nat) (w : World) (h : Rdr w R s m) :
    Calls Tryz.prog 183 #[.pointer (some ⟨R, 0, none⟩)] w fun e w' => DgOut R s m w e w' := by
  have HR := Lib.hid h
  have hle := h.le
  have hlen := h.len
  clear h
  go_enter Tryz.func183, Tryz.ntmps183
  go_wp2_with (fail)
  refine (look_any R s m w HR.out).mono ?_
  rintro e w2 ⟨rfl, hb⟩
  have HR2 := Lib.hid (HR.out.below hb)
  have c1 := cell2_1 HR2.out.box
  have f1 := cell3_f HR2.out.box 1
  have hlt := HR2.out.lt
  have HO2 := Lib.hid (Only.of_below (R := R) hb)
  clear hb
  go_wp2_with (fail)
  refine (isDigit_any (lkB (bl s) m) w2).mono ?_
  rintro e w3 ⟨rfl, rfl⟩
  cases hd : isDig (lkB (bl s) m) with
  | true =>
    obtain ⟨d1, d2, d3⟩ := dig_sub hd
    have hlm : m < s.size := by have := lkB_lt (l := bl s) (m := m) (by intro e; rw [e] at hd; exact absurd hd (by decide)); rwa [bl_length] at this
    have HD := Lib.hid hd
    clear hd
    go_wp2_with (fail)
    go_ret2
    unfold DgOut
    rw [if_pos HD.out]
    exact ⟨rfl, HO2.out.trans (Only.set_ R 1 w2 _), by rw [show (m : Int) + 1 = ((m + 1 : Nat) : Int) by omega]; exact HR2.out.go (m + 1) (by omega)⟩
  | false =>
    have HD := Lib.hid hd
    clear hd
    go_wp2_with (fail)
    go_ret2
    unfold DgOut
    rw [if_neg (by rw [HD.out]; decide)]
    exact ⟨rfl, HO2.out, HR2.out⟩
end Go.Proofs.YteebihdgfkmgmaaGreatDoor
