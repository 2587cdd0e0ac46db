/-
Package expr: what its reader reads, as plain functions over a text's bytes. The reader of package expr: look, the kinds of bytes, skipBlanks, readByte, readMark, readDigit. The reader of package expr: readCoded, readLetter. The reader of package expr: nameLength, readSpelt.
-/
import Derived.Test.YtllnamhgnbdkmaaGreatDoorBs
import Derived.Test.YtllnamhgnbdkmaaGreatDoorShelf
namespace Go.Proofs.YtllnamhgnbdkmaaGreatDoor
open Go.RowKit

/-- The byte at m, or 0 at the end. -/
def lkB (l : List UInt8) (m : Nat) : UInt8 := (l[m]?).getD 0
def isDig (b : UInt8) : Bool := decide (48 ≤ b.toNat) && decide (b.toNat ≤ 57)
def isLet (b : UInt8) : Bool := decide (97 ≤ b.toNat) && decide (b.toNat ≤ 122)
def isPl (b : UInt8) : Bool := decide (32 ≤ b.toNat) && decide (b.toNat ≤ 126) && decide (b.toNat ≠ 34) && decide (b.toNat ≠ 92)

/-- Behind the blanks. -/
def skF (l : List UInt8) : Nat → Nat → Nat
  | 0, m => m
  | f + 1, m => if lkB l m = 32 then skF l f (m + 1) else m
def skip (l : List UInt8) (m : Nat) : Nat := skF l (l.length - m) m

theorem lkB_at {l : List UInt8} {m : Nat} (h : m < l.length) : lkB l m = l[m] := by
  unfold lkB
  rw [List.getElem?_eq_getElem h]; rfl
theorem lkB_end {l : List UInt8} {m : Nat} (h : l.length ≤ m) : lkB l m = 0 := by
  unfold lkB
  rw [List.getElem?_eq_none_iff.2 h]; rfl
theorem lkB_lt {l : List UInt8} {m : Nat} (h : lkB l m ≠ 0) : m < l.length := by
  rcases Nat.lt_or_ge m l.length with h' | h'
  · exact h'
  · exact absurd (lkB_end h') h
theorem skip_on {l : List UInt8} {m : Nat} (h : lkB l m = 32) : skip l m = skip l (m + 1) := by
  have hlt : m < l.length := lkB_lt (by rw [h]; decide)
  unfold skip
  rw [show l.length - m = (l.length - (m + 1)) + 1 by omega]
  simp only [skF, if_pos h]
theorem skip_off {l : List UInt8} {m : Nat} (h : lkB l m ≠ 32) : skip l m = m := by
  unfold skip
  cases hf : l.length - m with
  | zero => rfl
  | succ f => simp only [skF, if_neg h]
theorem skF_le (l : List UInt8) : ∀ (f m : Nat), m ≤ l.length → m ≤ skF l f m ∧ skF l f m ≤ l.length
  | 0, m, h => ⟨Nat.le_refl _, h⟩
  | f + 1, m, h => by
    simp only [skF]
    split
    · rename_i hb
      have hlt : m < l.length := lkB_lt (by rw [hb]; decide)
      have := skF_le l f (m + 1) (by omega)
      omega
    · exact ⟨Nat.le_refl _, h⟩
theorem skip_le {l : List UInt8} {m : Nat} (h : m ≤ l.length) : m ≤ skip l m ∧ skip l m ≤ l.length := skF_le l _ m h

/-- Whether just this byte stands there. -/
def rdB (l : List UInt8) (m : Nat) (b : UInt8) : Bool := decide (lkB l m = b)

/-- A number's digits. -/
def mostN (neg : Bool) : Nat := if neg then 9223372036854775808 else 9223372036854775807
def barN (neg : Bool) (n : Nat) (begun : Bool) (d : Nat) : Bool := (decide (n = 0) && (begun || (neg && decide (d = 0)))) || decide ((mostN neg - d) / 10 < n)
def nmF (l : List UInt8) (neg : Bool) : Nat → Nat → Nat → Bool → Nat × Nat × Bool
  | 0, m, n, begun => (m, n, begun)
  | f + 1, m, n, begun => if isDig (lkB l m) && !barN neg n begun (lkB l m - 48).toNat then nmF l neg f (m + 1) (10 * n + (lkB l m - 48).toNat) true else (m, n, begun)

/-- A byte's place among the hexadecimal digits. -/
def hexI (b : UInt8) : Option Nat := if isDig b then some (b.toNat - 48) else if 97 ≤ b.toNat ∧ b.toNat ≤ 102 then some (b.toNat - 87) else none
def smC (h : Nat) : Bool := (List.range 16).any fun x => !isPl (UInt8.ofNat (16 * h + x))
/-- The two digits of a byte. -/
def codS (l : List UInt8) (m : Nat) : Nat × Option UInt8 := match hexI (lkB l m) with
  | none => (m, none)
  | some h => if smC h then (match hexI (lkB l (m + 1)) with
      | none => (m + 1, none)
      | some x => if isPl (UInt8.ofNat (16 * h + x)) then (m + 1, none) else (m + 2, some (UInt8.ofNat (16 * h + x))))
    else (m, none)
def letS (l : List UInt8) (m : Nat) : Nat × Option UInt8 := if lkB l m = 92 then codS l (m + 1) else if isPl (lkB l m) then (m + 1, some (lkB l m)) else (m, none)
def strF (l : List UInt8) : Nat → List UInt8 → Nat → Nat × Option (List UInt8)
  | 0, _, m => (m, none)
  | f + 1, acc, m => if lkB l m = 34 then (m + 1, some acc) else if acc.length < 256 then (match letS l m with
      | (m', none) => (m', none)
      | (m', some b) => strF l f (acc ++ [b]) m') else (m, none)

/-- How many bytes may be those of a name. -/
def nlF (l : List UInt8) : Nat → Nat → Nat
  | 0, n => n
  | f + 1, n => if n < l.length ∧ (isLet (lkB l n) || (decide (0 < n) && (isDig (lkB l n) || decide (lkB l n = 95)))) = true then nlF l f (n + 1) else n
def nmL (l : List UInt8) : Nat := nlF l 16 0
/-- What is spelt like a name from m on. -/
def spel (l : List UInt8) (m : Nat) : List UInt8 := (l.drop m).take (nmL (l.drop m))
end Go.Proofs.YtllnamhgnbdkmaaGreatDoor
namespace Go.Proofs.YtllnamhgnbdkmaaGreatDoor
open Go.RowKit

/-- A text's bytes. -/
def bl (s : ByteArray) : List UInt8 := s.data.toList
theorem bl_length (s : ByteArray) : (bl s).length = s.size := by unfold bl; exact Array.length_toList
theorem bl_at (s : ByteArray) (m : Nat) (h : m < s.size) : lkB (bl s) m = s[m] := by
  rw [lkB_at (by rw [bl_length]; exact h)]; rfl
theorem bl_end (s : ByteArray) : lkB (bl s) s.size = 0 := lkB_end (by rw [bl_length]; exact Nat.le_refl _)

theorem str_index (s : ByteArray) (p : Nat) (h : p < s.size) (_hs : s.size ≤ 1000000) (W : World) : (Instr.index 9 (.string s) (.int .i64 (p : Int))).run Tryz.prog W = .ok (.int .u8 ((s[p].toNat : Nat) : Int)) W := by
  go_simp

theorem ret_bool {a b : Bool} (h : a = b) : Ending.returned (.bool a) = .returned (.bool b) := by rw [h]

end Go.Proofs.YtllnamhgnbdkmaaGreatDoor

namespace Go.Proofs.YtllnamhgnbdkmaaGreatDoor
open Go.RowKit

theorem u8_beq (a b : UInt8) : ((a.toNat : Int) == (b.toNat : Int)) = decide (a = b) := by
  rw [Bool.eq_iff_iff]
  simp only [beq_iff_eq, decide_eq_true_eq]
  constructor
  · intro h; exact UInt8.toNat_inj.1 (by omega)
  · intro h; rw [h]

/-- Where the reader in block R stands. -/
def atOf (R : Nat) (w : World) : Nat := match w.cell? ⟨R, 1, none⟩ with
  | some (.int _ i) => i.toNat
  | _ => 0
/-- One further, if so. -/
def nx (ok : Bool) (m : Nat) : Nat := if ok then m + 1 else m
theorem dig_sub {b : UInt8} (h : isDig b = true) : IntKind.u8.wrap ((b.toNat : Int) - 48) = (b.toNat : Int) - 48 ∧ 48 ≤ b.toNat ∧ b.toNat ≤ 57 := by
  unfold isDig at h
  simp at h
  refine ⟨?_, h.1, h.2⟩
  simp only [IntKind.wrap, IntKind.bits, IntKind.signed]
  simp
  omega

end Go.Proofs.YtllnamhgnbdkmaaGreatDoor
namespace Go.Proofs.YtllnamhgnbdkmaaGreatDoor
open Go.RowKit

/-- Where a byte stands among the hexadecimal digits, or -1. -/
def hexZ (b : UInt8) : Int := match hexI b with
  | none => -1
  | some h => (h : Int)
theorem hex_all : ∀ n : Fin 256, Lib.indexByte [48, 49, 50, 51, 52, 53, 54, 55, 56, 57, 97, 98, 99, 100, 101, 102] (UInt8.ofNat n.val) = hexZ (UInt8.ofNat n.val) := by decide +kernel
theorem of_to (b : UInt8) : UInt8.ofNat b.toNat = b := by simp
theorem hexI_lt {b : UInt8} {h : Nat} (e : hexI b = some h) : h < 16 := by
  unfold hexI at e
  split at e
  · rename_i hd
    simp [isDig] at hd
    injection e with e
    omega
  · split at e
    · injection e with e
      omega
    · cases e

theorem or_nib_all : ∀ h : Fin 16, ∀ x : Fin 16, bits .or .i64 ((h.val : Int) * 16) (x.val : Int) = ((16 * h.val + x.val : Nat) : Int) := by decide +kernel
theorem or_nib (h x : Nat) (h1 : h < 16) (h2 : x < 16) : bits .or .i64 ((h : Int) * 16) (x : Int) = ((16 * h + x : Nat) : Int) := or_nib_all ⟨h, h1⟩ ⟨x, h2⟩

theorem smC_eq (h : Nat) : smC h = (List.range 16).any fun x => !isPl (UInt8.ofNat (16 * h + x)) := rfl

end Go.Proofs.YtllnamhgnbdkmaaGreatDoor

namespace Go.Proofs.YtllnamhgnbdkmaaGreatDoor
open Go.RowKit

theorem hexI_lk {l : List UInt8} {m h : Nat} (hx : hexI (lkB l m) = some h) : m < l.length := lkB_lt (by intro e; rw [e, show hexI 0 = none by decide] at hx; cases hx)

end Go.Proofs.YtllnamhgnbdkmaaGreatDoor

namespace Go.Proofs.YtllnamhgnbdkmaaGreatDoor
open Go.RowKit

theorem info5 : (Tryz.prog.info? 5).map (fun i => (i.zero, i.size, i.bytes)) = some (some (.int .u8 0), 1, 1) := by kernel_rfl
def slLen : Value → Nat
  | .slice _ n _ => n
  | _ => 0
/-- A string from its quote on. -/
def strS (l : List UInt8) (m : Nat) : Nat × Option (List UInt8) := strF l 257 [] (m + 1)
end Go.Proofs.YtllnamhgnbdkmaaGreatDoor
namespace Go.Proofs.YtllnamhgnbdkmaaGreatDoor
open Go.RowKit

theorem nlF_le (l : List UInt8) : ∀ (f n : Nat), n ≤ l.length → n ≤ nlF l f n ∧ nlF l f n ≤ l.length ∧ nlF l f n ≤ n + f
  | 0, n, h => ⟨Nat.le_refl _, h, Nat.le_refl _⟩
  | f + 1, n, h => by
    unfold nlF
    split
    · rename_i hc
      have := nlF_le l f (n + 1) (by omega)
      omega
    · omega
theorem nmL_le (l : List UInt8) : nmL l ≤ l.length ∧ nmL l ≤ 16 := by
  have := nlF_le l 16 0 (Nat.zero_le _)
  unfold nmL
  omega
theorem nl_on {l : List UInt8} {n : Nat} (h16 : n < 16) (hl : n < l.length) (hc : (isLet (lkB l n) || (decide (0 < n) && (isDig (lkB l n) || decide (lkB l n = 95)))) = true) : nlF l (16 - n) n = nlF l (16 - (n + 1)) (n + 1) := by
  rw [show 16 - n = (16 - (n + 1)) + 1 by omega]
  simp only [nlF, if_pos (And.intro hl hc)]
theorem nl_off {l : List UInt8} {n : Nat} (hc : ¬ (n < l.length ∧ (isLet (lkB l n) || (decide (0 < n) && (isDig (lkB l n) || decide (lkB l n = 95)))) = true)) : nlF l (16 - n) n = n := by
  cases hf : 16 - n with
  | zero => rfl
  | succ f => simp only [nlF, if_neg hc]

end Go.Proofs.YtllnamhgnbdkmaaGreatDoor

namespace Go.Proofs.YtllnamhgnbdkmaaGreatDoor
open Go.RowKit

theorem clone_any (s : ByteArray) (w : World) (hs : s.size ≤ 1000000) : Calls Tryz.prog 86 #[.string s] w fun e w' => e = .returned (.string s) ∧ Below w.heap.size w w' := by
  go_enter Tryz.func86, Tryz.ntmps86
  go_wp2_with (fail)
  refine (Tryz.stringslite_Clone s w (by omega)).mono ?_
  rintro e w2 ⟨rfl, hb⟩
  go_wp2_with (fail)
  go_ret
  exact ⟨rfl, hb⟩

theorem bl_extract (s : ByteArray) (a b : Nat) (_hb : b ≤ s.size) : bl (s.extract a b) = ((bl s).take b).drop a := by
  unfold bl
  rw [Lib.extract_data]
  rw [List.drop_take]

end Go.Proofs.YtllnamhgnbdkmaaGreatDoor
