/-
The longest beginning, word by word.
-/
import Derived.Test.YtdoadedglpjldaaDoorSci
namespace Go.Proofs.YtdoadedglpjldaaDoor
open Go.RowKit

theorem bw1 : words.filter (fun y => decide (y.kind < 2)) = words.filter (fun y => decide (y.kind < 1)) ++ (wordK 1).toList := by rfl
theorem bw2 : words.filter (fun y => decide (y.kind < 3)) = words.filter (fun y => decide (y.kind < 2)) ++ (wordK 2).toList := by rfl
theorem bw3 : words.filter (fun y => decide (y.kind < 4)) = words.filter (fun y => decide (y.kind < 3)) ++ (wordK 3).toList := by rfl
theorem bw4 : words.filter (fun y => decide (y.kind < 5)) = words.filter (fun y => decide (y.kind < 4)) ++ (wordK 4).toList := by rfl
theorem bw5 : words.filter (fun y => decide (y.kind < 6)) = words.filter (fun y => decide (y.kind < 5)) ++ (wordK 5).toList := by rfl
theorem bw6 : words.filter (fun y => decide (y.kind < 7)) = words.filter (fun y => decide (y.kind < 6)) ++ (wordK 6).toList := by rfl
theorem bw7 : words.filter (fun y => decide (y.kind < 8)) = words.filter (fun y => decide (y.kind < 7)) ++ (wordK 7).toList := by rfl
theorem bw8 : words.filter (fun y => decide (y.kind < 9)) = words.filter (fun y => decide (y.kind < 8)) ++ (wordK 8).toList := by rfl
theorem bw9 : words.filter (fun y => decide (y.kind < 10)) = words.filter (fun y => decide (y.kind < 9)) ++ (wordK 9).toList := by rfl

theorem bw_all (kk : Nat) (h1 : 1 ≤ kk) (h9 : kk ≤ 9) : words.filter (fun y => decide (y.kind < ((kk + 1 : Nat) : Int))) = words.filter (fun y => decide (y.kind < (kk : Int))) ++ (wordK (kk : Int)).toList := by
  match kk, h1, h9 with
  | 1, _, _ => exact bw1
  | 2, _, _ => exact bw2
  | 3, _, _ => exact bw3
  | 4, _, _ => exact bw4
  | 5, _, _ => exact bw5
  | 6, _, _ => exact bw6
  | 7, _, _ => exact bw7
  | 8, _, _ => exact bw8
  | 9, _, _ => exact bw9

/-- Of the words of types that are at most one deep alone. -/
theorem fitW_filter (room : Int) (f : Wd → Bool) : (fitW room words).filter f = fitW room (words.filter f) := by
  unfold fitW
  rw [List.filter_filter, List.filter_filter]
  congr 1
  funext x
  exact Bool.and_comm _ _

theorem best_first (room : Int) (l : List UInt8) : bestW room l 1 = 0 := by
  unfold bestW
  rw [fitW_filter]
  rfl
theorem best_none {room : Int} {l : List UInt8} {kk : Nat} (h1 : 1 ≤ kk) (h9 : kk ≤ 9) (h : wordK (kk : Int) = none) : bestW room l ((kk + 1 : Nat) : Int) = bestW room l (kk : Int) := by
  unfold bestW
  rw [fitW_filter, fitW_filter, bw_all kk h1 h9, h]
  simp
theorem best_out {room : Int} {l : List UInt8} {kk : Nat} {x : Wd} (h1 : 1 ≤ kk) (h9 : kk ≤ 9) (h : wordK (kk : Int) = some x) (hx : x ∉ fitW room words) : bestW room l ((kk + 1 : Nat) : Int) = bestW room l (kk : Int) := by
  unfold bestW
  rw [fitW_filter, fitW_filter, bw_all kk h1 h9, h]
  have hb : (decide (1 < room) || decide (x.args = 0)) = false := by
    cases hh : (decide (1 < room) || decide (x.args = 0)) with
    | false => rfl
    | true => exact absurd (List.mem_filter.2 ⟨(wordK_mem h).1, hh⟩) hx
  rw [show (some x).toList = [x] from rfl, fitW_snoc_not room _ x hb]
theorem best_in {room : Int} {l : List UInt8} {kk : Nat} {x : Wd} (h1 : 1 ≤ kk) (h9 : kk ≤ 9) (h : wordK (kk : Int) = some x) (hx : x ∈ fitW room words) : bestW room l ((kk + 1 : Nat) : Int) = max (bestW room l (kk : Int)) (lcp x.name.data.toList l) := by
  unfold bestW
  rw [fitW_filter, fitW_filter, bw_all kk h1 h9, h, show (some x).toList = [x] from rfl, fitW_snoc room _ x (List.mem_filter.1 hx).2, List.foldl_append]
  rfl

theorem lcp_more {a : List UInt8} {l : List UInt8} {k : Nat} (ha : k < a.length) (hl : k < l.length) (he : l[k] = a[k]) : lcp (a.drop k) (l.drop k) = lcp (a.drop (k + 1)) (l.drop (k + 1)) + 1 := by
  rw [List.drop_eq_getElem_cons ha, List.drop_eq_getElem_cons hl, lcp, if_pos he.symm]
theorem lcp_stop {a : List UInt8} {l : List UInt8} {k : Nat} (h : ∀ (ha : k < a.length) (hl : k < l.length), l[k] ≠ a[k]) : lcp (a.drop k) (l.drop k) = 0 := by
  rcases Nat.lt_or_ge k a.length with ha | ha
  · rcases Nat.lt_or_ge k l.length with hl | hl
    · rw [List.drop_eq_getElem_cons ha, List.drop_eq_getElem_cons hl, lcp, if_neg (fun e => h ha hl e.symm)]
    · rw [List.drop_of_length_le hl, lcp_nil]
  · rw [List.drop_of_length_le ha]
    cases l.drop k <;> rfl
end Go.Proofs.YtdoadedglpjldaaDoor
