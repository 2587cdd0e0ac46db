/-
Package expr: what its reader reads, as plain functions over a text's bytes.
-/
import Derived.Test.YteebihdgfkmgmaaGreatDoorBs
namespace Go.Proofs.YteebihdgfkmgmaaGreatDoor
open Go.RowKit

/-- The byte at m, or 0 at the end. -/
def lkB (l : List UInt8) (m : Nat) : UInt8 := (l[m]?).getD 0
def isDig (b : UInt8) : Bool := decide (48 ≤ b.toNat) && decide (b.toNat ≤ 57)
def isLet (b : UInt8) : Bool := decide (97 ≤ b.toNat) && decide (b.toNat ≤ 122)
def isPl (b : UInt8) : Bool := decide (32 ≤ b.toNat) && decide (b.toNat ≤ 126) && decide (b.toNat ≠ 34) && decide (b.toNat ≠ 92)

/-- Behind the blanks. -/
def skF (l : List UInt8) : Nat → Nat → Nat
  | 0, m => m
  | f + 1, m => if lkB l m = 32 then skF l f (m + 1) else m
def skip (l : List UInt8) (m : Nat) : Nat := skF l (l.length - m) m

theorem lkB_at {l : List UInt8} {m : Nat} (h : m < l.length) : lkB l m = l[m] := by
  unfold lkB
  rw [List.getElem?_eq_getElem h]; rfl
theorem lkB_end {l : List UInt8} {m : Nat} (h : l.length ≤ m) : lkB l m = 0 := by
  unfold lkB
  rw [List.getElem?_eq_none_iff.2 h]; rfl
theorem lkB_lt {l : List UInt8} {m : Nat} (h : lkB l m ≠ 0) : m < l.length := by
  rcases Nat.lt_or_ge m l.length with h' | h'
  · exact h'
  · exact absurd (lkB_end h') h
theorem skip_on {l : List UInt8} {m : Nat} (h : lkB l m = 32) : skip l m = skip l (m + 1) := by
  have hlt : m < l.length := lkB_lt (by rw [h]; decide)
  unfold skip
  rw [show l.length - m = (l.length - (m + 1)) + 1 by omega]
  simp only [skF, if_pos h]
theorem skip_off {l : List UInt8} {m : Nat} (h : lkB l m ≠ 32) : skip l m = m := by
  unfold skip
  cases hf : l.length - m with
  | zero => rfl
  | succ f => simp only [skF, if_neg h]
theorem skF_le (l : List UInt8) : ∀ (f m : Nat), m ≤ l.length → m ≤ skF l f m ∧ skF l f m ≤ l.length
  | 0, m, h => ⟨Nat.le_refl _, h⟩
  | f + 1, m, h => by
    simp only [skF]
    split
    · rename_i hb
      have hlt : m < l.length := lkB_lt (by rw [hb]; decide)
      have := skF_le l f (m + 1) (by omega)
      omega
    · exact ⟨Nat.le_refl _, h⟩
theorem skip_le {l : List UInt8} {m : Nat} (h : m ≤ l.length) : m ≤ skip l m ∧ skip l m ≤ l.length := skF_le l _ m h

/-- Whether just this byte stands there. -/
def rdB (l : List UInt8) (m : Nat) (b : UInt8) : Bool := decide (lkB l m = b)

/-- A number's digits. -/
def mostN (neg : Bool) : Nat := if neg then 9223372036854775808 else 9223372036854775807
def barN (neg : Bool) (n : Nat) (begun : Bool) (d : Nat) : Bool := (decide (n = 0) && (begun || (neg && decide (d = 0)))) || decide ((mostN neg - d) / 10 < n)
def nmF (l : List UInt8) (neg : Bool) : Nat → Nat → Nat → Bool → Nat × Nat × Bool
  | 0, m, n, begun => (m, n, begun)
  | f + 1, m, n, begun => if isDig (lkB l m) && !barN neg n begun (lkB l m - 48).toNat then nmF l neg f (m + 1) (10 * n + (lkB l m - 48).toNat) true else (m, n, begun)

/-- A byte's place among the hexadecimal digits. -/
def hexI (b : UInt8) : Option Nat := if isDig b then some (b.toNat - 48) else if 97 ≤ b.toNat ∧ b.toNat ≤ 102 then some (b.toNat - 87) else none
def smC (h : Nat) : Bool := (List.range 16).any fun x => !isPl (UInt8.ofNat (16 * h + x))
/-- The two digits of a byte. -/
def codS (l : List UInt8) (m : Nat) : Nat × Option UInt8 := match hexI (lkB l m) with
  | none => (m, none)
  | some h => if smC h then (match hexI (lkB l (m + 1)) with
      | none => (m + 1, none)
      | some x => if isPl (UInt8.ofNat (16 * h + x)) then (m + 1, none) else (m + 2, some (UInt8.ofNat (16 * h + x))))
    else (m, none)
def letS (l : List UInt8) (m : Nat) : Nat × Option UInt8 := if lkB l m = 92 then codS l (m + 1) else if isPl (lkB l m) then (m + 1, some (lkB l m)) else (m, none)
def strF (l : List UInt8) : Nat → List UInt8 → Nat → Nat × Option (List UInt8)
  | 0, _, m => (m, none)
  | f + 1, acc, m => if lkB l m = 34 then (m + 1, some acc) else if acc.length < 256 then (match letS l m with
      | (m', none) => (m', none)
      | (m', some b) => strF l f (acc ++ [b]) m') else (m, none)

/-- How many bytes may be those of a name. -/
def nlF (l : List UInt8) : Nat → Nat → Nat
  | 0, n => n
  | f + 1, n => if n < l.length ∧ (isLet (lkB l n) || (decide (0 < n) && (isDig (lkB l n) || decide (lkB l n = 95)))) = true then nlF l f (n + 1) else n
def nmL (l : List UInt8) : Nat := nlF l 16 0
/-- What is spelt like a name from m on. -/
def spel (l : List UInt8) (m : Nat) : List UInt8 := (l.drop m).take (nmL (l.drop m))
end Go.Proofs.YteebihdgfkmgmaaGreatDoor
