/-
The document's answer: Get, of lists and options.
-/
import Derived.Test.YtbafplnolmdlnaaDoorRg4
import Derived.Deep.DeepCutAuto
import Derived.Deep.RegionWith
namespace Go.Proofs.YtbafplnolmdlnaaDoor
open Go.RowKit

/-- How many values there are already. -/
def vLen (B : Nat) (w : World) : Nat := match w.cell? ⟨B + 2, 4, none⟩ with
  | some (.slice _ n _) => n
  | _ => 0
theorem vLen_of {B : Nat} {w : World} {a0 a1 a2 a3 : Value} {A : Option Addr} {n c : Nat} {t : TypeId} (h : w.heap[B + 2]? = some (.cells #[a0, a1, a2, a3, .slice A n c] t (0, 0))) : vLen B w = n := by
  unfold vLen
  rw [cell5_4 h]
theorem okB_high {l : List UInt8} {m M : Nat} {x : UInt8} (hx : l[m]? = some x) (h : M < x.toNat) : okB l m M = none := by
  simp only [okB, hx]
  rw [if_neg (by omega)]
theorem okB_out {l : List UInt8} {m M : Nat} (h : l.length ≤ m) : okB l m M = none := by
  simp only [okB, List.getElem?_eq_none_iff.2 h]
theorem okB_le' {l : List UInt8} {m M : Nat} {x : UInt8} (hx : l[m]? = some x) (h : x.toNat ≤ M) : okB l m M = some x := by
  simp only [okB, hx]
  rw [if_pos h]
theorem low7 {w6 w7 : World} {o1 o2 : Obj} {row : Option Nat} {n : Nat} (hg : ((w6.alloc o1).alloc o2).grownBy w7 row) (hr : ∀ k, row = some k → n ≤ k) : ∀ k, k < n → k < w6.heap.size → w7.heap[k]? = w6.heap[k]? := fun k hk hl => by
  rw [hg.block k (by simp; omega) (fun e => by have := hr k e.symm; omega), Below.heap_alloc _ _ _ (by simp; omega), Below.heap_alloc _ _ _ hl]
theorem mostM_le (room : Bool) (n : Nat) : mostM room n ≤ 1 := by unfold mostM; split <;> omega

end Go.Proofs.YtbafplnolmdlnaaDoor
