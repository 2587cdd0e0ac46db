/-
Package expr: isBare, bracket, quote.
-/
import Derived.Test.YteebihdgfkmgmaaGreatDoorSp2
namespace Go.Proofs.YteebihdgfkmgmaaGreatDoor
open Go.RowKit
open Knd (BFr)

/-- isBare, over what a node's value holds. -/
def bareV (i : Int) (t : ByteArray) (k : Int) (n m : Nat) : Bool := decide (i = 0) && (decide (bl t = []) && (decide (k = 0) && (decide (n = 0) && decide (m = 0))))

set_option maxHeartbeats 1000000 in
theorem isBare_any (o : ByteArray) (i : Int) (t : ByteArray) (k : Int) (A : Option Addr) (n c : Nat) (K : Option Addr) (m e : Nat) (w : World) :
    Calls Tryz.prog 129 #[.agg #[.string o, .int .i64 i, .string t, .int .i64 k, .slice A n c, .slice K m e]] w fun x w' => x = .returned (.bool (bareV i t k n m)) ∧ Below w.heap.size w w' := by
  have hn : w.heap.size < (w.alloc (.cells #[.string o, .int .i64 i, .string t, .int .i64 k, .slice A n c, .slice K m e] 27)).heap.size := by simp
  by_cases h1 : i = 0
  · have g1 : (i == 0) = true := by simp [h1]
    by_cases h2 : bl t = []
    · have ht : t = ⟨#[]⟩ := by rw [← str_bl t, h2]
      by_cases h3 : k = 0
      · have g3 : (k == 0) = true := by simp [h3]
        by_cases h4 : n = 0
        · have g4 : ((n : Int) == 0) = true := by simp [h4]
          have HF : Hid (bareV i t k n m = ((m : Int) == 0)) := by
            show _ = _
            unfold bareV
            rw [decide_eq_true h1, decide_eq_true h2, decide_eq_true h3, decide_eq_true h4, Bool.true_and, Bool.true_and, Bool.true_and, Bool.true_and, Bool.eq_iff_iff]
            simp
          subst ht
          clear h1 h2 h3 h4
          go_enter Tryz.func129, Tryz.ntmps129
          go_wp2_with (fail)
          go_ret
          rw [HF.out]
          exact ⟨rfl, (Below.refl _ _).alloc (Nat.le_refl _) _⟩
        · have g4 : ((n : Int) == 0) = false := beq_eq_false_iff_ne.2 (by omega)
          have HF : Hid (bareV i t k n m = false) := by show _ = _; unfold bareV; simp [h4]
          subst ht
          clear h1 h2 h3 h4
          go_enter Tryz.func129, Tryz.ntmps129
          go_wp2_with (fail)
          go_ret
          rw [HF.out]
          exact ⟨rfl, (Below.refl _ _).alloc (Nat.le_refl _) _⟩
      · have g3 : (k == 0) = false := beq_eq_false_iff_ne.2 h3
        have HF : Hid (bareV i t k n m = false) := by show _ = _; unfold bareV; simp [h3]
        subst ht
        clear h1 h2 h3
        go_enter Tryz.func129, Tryz.ntmps129
        go_wp2_with (fail)
        go_ret
        rw [HF.out]
        exact ⟨rfl, (Below.refl _ _).alloc (Nat.le_refl _) _⟩
    · have hne : t.toList ≠ [] := by rw [Lib.toList_data]; exact h2
      have hne2 : (t.toList == ([] : List UInt8)) = false := by simp [hne]
      have hemp : t.toList.isEmpty = false := by simp [hne]
      have HF : Hid (bareV i t k n m = false) := by show _ = _; unfold bareV; simp [h2]
      clear h1 h2
      go_enter Tryz.func129, Tryz.ntmps129
      go_wp2_with (fail)
      go_ret
      rw [HF.out]
      exact ⟨rfl, (Below.refl _ _).alloc (Nat.le_refl _) _⟩
  · have g1 : (i == 0) = false := beq_eq_false_iff_ne.2 h1
    have HF : Hid (bareV i t k n m = false) := by show _ = _; unfold bareV; simp [h1]
    clear h1
    go_enter Tryz.func129, Tryz.ntmps129
    go_wp2_with (fail)
    go_ret
    rw [HF.out]
    exact ⟨rfl, (Below.refl _ _).alloc (Nat.le_refl _) _⟩

set_option maxHeartbeats 1000000 in
theorem bracket_any (b : Nat) (bs : List UInt8) (k : Int) (s : ByteArray) (w : World) (h : Wr w b bs k) (hl : bs.length + s.size ≤ 1000000) :
    Calls Tryz.prog 166 #[.pointer (some ⟨b, 0, none⟩), .string s] w fun e w' => (∃ v, e = .returned v) ∧ Wr w' b (bs ++ [40] ++ bl s ++ [41]) k ∧ BFr b w w' := by
  have HW := Lib.hid h
  have h40 : (((40 : UInt8).toNat : Nat) : Int) = 40 := by decide
  have h41 : (((41 : UInt8).toNat : Nat) : Int) = 41 := by decide
  clear h
  go_enter Tryz.func166, Tryz.ntmps166
  go_wp2_with (fail)
  have h1 := wrByte_any b bs k 40 w HW.out (by omega)
  rw [h40] at h1
  refine h1.mono ?_
  rintro e w1 ⟨rfl, hw1, hf1⟩
  have HW1 := Lib.hid hw1
  have HF1 := Lib.hid hf1
  clear hw1 hf1 h1
  go_wp2_with (fail)
  refine (wrString_any b _ k s w1 HW1.out (by simp; omega)).mono ?_
  rintro e w2 ⟨rfl, hw2, hf2⟩
  have HW2 := Lib.hid hw2
  have HF2 := Lib.hid hf2
  clear hw2 hf2
  go_wp2_with (fail)
  have h1 := wrByte_any b _ k 41 w2 HW2.out (by simp [bl_length]; omega)
  rw [h41] at h1
  refine h1.mono ?_
  rintro e w3 ⟨rfl, hw3, hf3⟩
  have HW3 := Lib.hid hw3
  have HF3 := Lib.hid hf3
  clear hw3 hf3 h1
  go_wp2_with (fail)
  go_end0
  exact ⟨⟨_, rfl⟩, HW3.out, (HF1.out.trans HF2.out).trans HF3.out⟩
end Go.Proofs.YteebihdgfkmgmaaGreatDoor

namespace Go.Proofs.YteebihdgfkmgmaaGreatDoor
open Go.RowKit
open Knd (BFr)

theorem bfr_drew {b : Nat} {w w' : World} (h : BFr b w.drew w') : BFr b w w' := ⟨(Below.drew (Below.refl b w)).trans h.below, (Lib.OthersKept.refl _ _ w).drew.trans h.kept⟩
theorem quoL_snoc (l : List UInt8) (x : UInt8) : quoL (l ++ [x]) = quoL l ++ quoB x := by simp [quoL]

theorem hex_at : ∀ (j : Nat), j < 16 → ∀ W : World, (Instr.index 9 (.string ⟨#[48, 49, 50, 51, 52, 53, 54, 55, 56, 57, 97, 98, 99, 100, 101, 102]⟩) (.int .u8 (j : Int))).run Tryz.prog W = .ok (.int .u8 ((hexD j).toNat : Int)) W
  | 0, _, _ => by kernel_rfl
  | 1, _, _ => by kernel_rfl
  | 2, _, _ => by kernel_rfl
  | 3, _, _ => by kernel_rfl
  | 4, _, _ => by kernel_rfl
  | 5, _, _ => by kernel_rfl
  | 6, _, _ => by kernel_rfl
  | 7, _, _ => by kernel_rfl
  | 8, _, _ => by kernel_rfl
  | 9, _, _ => by kernel_rfl
  | 10, _, _ => by kernel_rfl
  | 11, _, _ => by kernel_rfl
  | 12, _, _ => by kernel_rfl
  | 13, _, _ => by kernel_rfl
  | 14, _, _ => by kernel_rfl
  | 15, _, _ => by kernel_rfl
  | j + 16, h, _ => by omega

theorem and_low : ∀ n : Fin 256, bits BinOp.and IntKind.u8 ((n.val : Nat) : Int) 15 = ((n.val % 16 : Nat) : Int) := by decide +kernel
theorem and_15 (c : UInt8) : bits BinOp.and IntKind.u8 (c.toNat : Int) 15 = ((c.toNat % 16 : Nat) : Int) := and_low ⟨c.toNat, c.toNat_lt⟩

set_option maxRecDepth 100000 in
set_option maxHeartbeats 2000000 in
theorem quote_any (b : Nat) (bs : List UInt8) (k : Int) (s : ByteArray) (w : World) (h : Wr w b bs k) (hl : bs.length ≤ 100000) (hs : s.size ≤ 10000) :
    Calls Tryz.prog 126 #[.pointer (some ⟨b, 0, none⟩), .string s] w fun e w' => (∃ v, e = .returned v) ∧ Wr w' b (bs ++ quoS (bl s)) k ∧ BFr b w w' := by
  have HW := Lib.hid h
  have h34 : (((34 : UInt8).toNat : Nat) : Int) = 34 := by decide
  have h92 : (((92 : UInt8).toNat : Nat) : Int) = 92 := by decide
  clear h
  go_enter Tryz.func126, Tryz.ntmps126
  go_wp2_with (fail)
  have h1 := wrByte_any b bs k 34 w HW.out (by omega)
  rw [h34] at h1
  refine h1.mono ?_
  rintro e w1 ⟨rfl, hw1, hf1⟩
  have HW1 := Lib.hid hw1
  have HF1 := Lib.hid hf1
  clear hw1 hf1 h1
  go_wp2_with (fail)
  have hsz := bl_length s
  go_loopw [12] (fun iv wr => ∃ i : Nat, iv = .int .i64 (i : Int) ∧ i ≤ s.size ∧ Hid (Wr wr b (bs ++ [34] ++ quoL ((bl s).take i)) k) ∧ Hid (BFr b w wr)) (fun iv _ => s.size - (intOf iv).toNat)
  case atStart => exact ⟨0, rfl, Nat.zero_le _, by simpa [quoL] using HW1, HF1⟩
  case round =>
    obtain ⟨i, rfl, hi, HWi, HFi⟩ := hrel
    have hll : (bs ++ [34] ++ quoL ((bl s).take i)).length ≤ 200000 := by
      have := quoL_le ((bl s).take i)
      have h2 : ((bl s).take i).length ≤ i := List.length_take_le _ _
      simp only [List.length_append, List.length_cons, List.length_nil]
      omega
    by_cases hlt : i < s.size
    · have hlt2 : ((i : Int) < (s.size : Int)) := by omega
      have hix := str_index s i hlt (by omega)
      rw [← bl_at s i hlt] at hix
      have htk : (bl s).take (i + 1) = (bl s).take i ++ [lkB (bl s) i] := by
        rw [List.take_add_one, List.getElem?_eq_getElem (by omega), lkB_at (by omega)]; rfl
      have HTK : Hid (bs ++ [34] ++ quoL ((bl s).take (i + 1)) = bs ++ [34] ++ quoL ((bl s).take i) ++ quoB (lkB (bl s) i)) := by show _ = _; rw [htk, quoL_snoc, ← List.append_assoc]
      generalize bs ++ [34] ++ quoL ((bl s).take i) = pre at *
      clear htk
      go_wp2_with (fail)
      refine (isPlain_any (lkB (bl s) i) wr).mono ?_
      rintro e w2 ⟨rfl, rfl⟩
      cases hpl : isPl (lkB (bl s) i) with
      | true =>
        have HQ : Hid (quoB (lkB (bl s) i) = [lkB (bl s) i]) := by show _ = _; unfold quoB; rw [hpl]; rfl
        clear hpl
        go_wp2_with (fail)
        refine (wrByte_any b _ k (lkB (bl s) i) wr HWi.out (by omega)).mono ?_
        rintro e w3 ⟨rfl, hw3, hf3⟩
        have HW3 : Hid (Wr w3 b (bs ++ [34] ++ quoL ((bl s).take (i + 1))) k) := by show Wr _ _ _ _; rw [HTK.out, HQ.out]; exact hw3
        have HF3 := Lib.hid (HFi.out.trans hf3)
        clear hw3 hf3 HTK HQ
        go_wp2_with (fail)
        go_roundw
        case rel => exact ⟨i + 1, by go_num, by omega, HW3, HF3⟩
        case measure => simp [intOf]; omega
      | false =>
        have HQ : Hid (quoB (lkB (bl s) i) = [92, hexD ((lkB (bl s) i).toNat / 16), hexD ((lkB (bl s) i).toNat % 16)]) := by show _ = _; unfold quoB; rw [hpl]; rfl
        clear hpl
        go_wp2_with (fail)
        have h1 := wrByte_any b _ k 92 wr HWi.out (by omega)
        rw [h92] at h1
        refine h1.mono ?_
        rintro e w3 ⟨rfl, hw3, hf3⟩
        have HW3 := Lib.hid hw3
        have HF3 := Lib.hid (HFi.out.trans hf3)
        clear hw3 hf3 h1
        obtain ⟨c, hc⟩ : ∃ c, c = lkB (bl s) i := ⟨_, rfl⟩
        rw [← hc] at HQ HTK
        rw [← hc]
        clear hix
        have hcl := c.toNat_lt
        have hx1 : ∀ W : World, (Instr.index 9 (.string ⟨#[48, 49, 50, 51, 52, 53, 54, 55, 56, 57, 97, 98, 99, 100, 101, 102]⟩) (.int .u8 ((c.toNat : Int) / 16))).run Tryz.prog W = .ok (.int .u8 ((hexD (c.toNat / 16)).toNat : Int)) W := fun W => by
          rw [show ((c.toNat : Int) / 16) = ((c.toNat / 16 : Nat) : Int) by omega]
          exact hex_at _ (by omega) W
        have hx2 : ∀ W : World, (Instr.index 9 (.string ⟨#[48, 49, 50, 51, 52, 53, 54, 55, 56, 57, 97, 98, 99, 100, 101, 102]⟩) (.int .u8 (bits BinOp.and IntKind.u8 (c.toNat : Int) 15))).run Tryz.prog W = .ok (.int .u8 ((hexD (c.toNat % 16)).toNat : Int)) W := fun W => by
          rw [and_15]
          exact hex_at _ (by omega) W
        clear hc
        go_upto_region 8 with (fail)
        trace "R8"
        go_region_with (go_at_call 164; refine (wrByte_any b _ k (hexD (c.toNat / 16)) w3.drew HW3.out (by simp; omega)).mono ?_; rintro e w4 ⟨rfl, hw4, hf4⟩)
        go_wp2_with (fail)
        have HW4 := Lib.hid hw4
        have HF4 := Lib.hid hf4
        clear hw4 hf4
        go_upto_region 9 with (fail)
        go_region_with (go_at_call 164; refine (wrByte_any b _ k (hexD (c.toNat % 16)) w4.drew HW4.out (by simp; omega)).mono ?_; rintro e w5 ⟨rfl, hw5, hf5⟩)
        go_wp2_with (fail)
        have HW5 : Hid (Wr w5 b (bs ++ [34] ++ quoL ((bl s).take (i + 1))) k) := by
          show Wr _ _ _ _
          rw [HTK.out, HQ.out]
          have := hw5
          simpa using this
        have HF5 : Hid (BFr b w w5) := (HF3.out.trans (bfr_drew HF4.out)).trans (bfr_drew hf5)
        clear hw5 hf5 HTK HQ
        go_roundw
        case rel => exact ⟨i + 1, by go_num, by omega, HW5, HF5⟩
        case measure => simp [intOf]; omega
    · have hie : i = s.size := by omega
      subst hie
      have HWe : Hid (Wr wr b (bs ++ [34] ++ quoL (bl s)) k) := by
        have := HWi.out
        rw [List.take_of_length_le (by omega)] at this
        exact this
      rw [List.take_of_length_le (by omega)] at hll
      go_wp2_with (fail)
      have h1 := wrByte_any b _ k 34 wr HWe.out (by omega)
      rw [h34] at h1
      refine h1.mono ?_
      rintro e w3 ⟨rfl, hw3, hf3⟩
      have HW3 := Lib.hid hw3
      have HF3 := Lib.hid (HFi.out.trans hf3)
      clear hw3 hf3 h1
      go_wp2_with (fail)
      go_end0
      exact ⟨⟨_, rfl⟩, by have := HW3.out; simpa [quoS] using this, HF3.out⟩
end Go.Proofs.YteebihdgfkmgmaaGreatDoor
