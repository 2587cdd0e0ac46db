/-
Stage 11: ranges over strings; how long a right pipeline's text is.
-/
import Derived.Test.YtllnamhgnbdkmaaGreatDoorYh
import Derived.Test.YtllnamhgnbdkmaaGreatDoorYo
import Derived.Lib.OthersKept
import Derived.Laws.RangeAny
set_option linter.unusedVariables false
set_option linter.unusedSimpArgs false
namespace Go.Proofs.YtllnamhgnbdkmaaGreatDoor
open Go.RowKit Go.Shelf Go.Sort
theorem rune_w (s : ByteArray) (i : Nat) (h : i < s.size) : 1 ≤ (Utf8.decode s i).2 ∧ ∀ k, 1 ≤ k → k < (Utf8.decode s i).2 → i + k < s.size ∧ 128 ≤ (s.get! (i + k)).toNat := by
  have cont : ∀ k, (decide (i + k < s.size) && (s.get! (i + k)).toNat / 64 == 2) = true → i + k < s.size ∧ 128 ≤ (s.get! (i + k)).toNat := fun k hk => by
    simp only [Bool.and_eq_true, decide_eq_true_eq, beq_iff_eq] at hk
    omega
  unfold Utf8.decode
  dsimp only
  repeat' split
  all_goals refine ⟨by simp, fun k h1 h2 => ?_⟩
  all_goals simp only [Bool.and_eq_true] at *
  all_goals try omega
  · obtain rfl : k = 1 := by omega
    exact cont 1 (by simp_all)
  · rcases (show k = 1 ∨ k = 2 by omega) with rfl | rfl
    · exact cont 1 (by simp_all)
    · exact cont 2 (by simp_all)
  · rcases (show k = 1 ∨ k = 2 ∨ k = 3 by omega) with rfl | rfl | rfl
    · exact cont 1 (by simp_all)
    · exact cont 2 (by simp_all)
    · exact cont 3 (by simp_all)
theorem get_list (l : List UInt8) (i : Nat) (h : i < l.length) : (ByteArray.mk l.toArray).get! i = l[i] := by
  show l.toArray[i]! = l[i]
  simp [h]
theorem size_list (l : List UInt8) : (ByteArray.mk l.toArray).size = l.length := by simp [ByteArray.size]
theorem rune_list (l : List UInt8) (i : Nat) (h : i < l.length) : 1 ≤ (Utf8.decode ⟨l.toArray⟩ i).2 ∧ i + (Utf8.decode ⟨l.toArray⟩ i).2 ≤ l.length ∧ ∀ k, 1 ≤ k → k < (Utf8.decode ⟨l.toArray⟩ i).2 → l[i + k]? ≠ some 10 := by
  obtain ⟨h1, h2⟩ := rune_w ⟨l.toArray⟩ i (by rw [size_list]; exact h)
  refine ⟨h1, ?_, fun k hk1 hk2 e => ?_⟩
  · by_cases hw : (Utf8.decode ⟨l.toArray⟩ i).2 = 1
    · omega
    · have := (h2 ((Utf8.decode ⟨l.toArray⟩ i).2 - 1) (by omega) (by omega)).1
      rw [size_list] at this
      omega
  · obtain ⟨g1, g2⟩ := h2 k hk1 hk2
    rw [size_list] at g1
    rw [get_list _ _ g1] at g2
    rw [List.getElem?_eq_getElem g1] at e
    injection e with e
    rw [e] at g2
    revert g2
    decide
theorem count_skip (l : List UInt8) : ∀ (w i : Nat), i + w ≤ l.length → (∀ k, k < w → l[i + k]? ≠ some 10) → (l.drop i).count 10 = (l.drop (i + w)).count 10
  | 0, i, _, _ => by rw [Nat.add_zero]
  | w + 1, i, hl, h => by
    have hi : i < l.length := by omega
    have h0 := h 0 (by omega)
    rw [Nat.add_zero, List.getElem?_eq_getElem hi] at h0
    rw [List.drop_eq_getElem_cons hi, List.count_cons_of_ne (fun e => h0 (by rw [e])), count_skip l w (i + 1) (by omega) (fun k hk => by have := h (k + 1) (by omega); rwa [show i + 1 + k = i + (k + 1) by omega])]
    congr 2
    omega
theorem count_rune (l : List UInt8) (i : Nat) (h : i < l.length) : (l.drop i).count 10 = (if l[i] = 10 then 1 else 0) + (l.drop (i + (Utf8.decode ⟨l.toArray⟩ i).2)).count 10 := by
  obtain ⟨h1, h2, h3⟩ := rune_list l i h
  have := count_skip l ((Utf8.decode ⟨l.toArray⟩ i).2 - 1) (i + 1) (by omega) (fun k hk => by have := h3 (k + 1) (by omega) (by omega); rwa [show i + 1 + k = i + (k + 1) by omega])
  rw [show i + 1 + ((Utf8.decode ⟨l.toArray⟩ i).2 - 1) = i + (Utf8.decode ⟨l.toArray⟩ i).2 by omega] at this
  rw [List.drop_eq_getElem_cons h, List.count_cons, this]
  by_cases e : l[i] = 10
  · simp [e, Nat.add_comm]
  · simp [e]
theorem placeT_few {l : List Int} (hl : l.length ≤ 4) (h : ∀ x ∈ l, -9223372036854775808 ≤ x ∧ x ≤ 9223372036854775807) : (placeT l).length ≤ 100 := by
  unfold placeT
  split
  · simp
  · have := join_len [44] 21 (l.map Lib.itoa) (fun x hx => by
      obtain ⟨y, hy, rfl⟩ := List.mem_map.1 hx
      exact Lib.itoa_length_le y (h y hy).1 (h y hy).2)
    simp at this ⊢
    omega
theorem line_short {l : List Gn} {i : Nat} {n : Gn} (h : OkN l i n) (hr : GnR n) : (lineP n).length ≤ 6020 := by
  have hf := h.few
  have hp1 := placeT_few (l := n.ins) (by omega) hr.ins
  have hp2 := placeT_few (l := n.side) (by omega) hr.side
  have hx := formP_tx h.form
  have hi : ∀ x, i64R x → (Lib.itoa x).length ≤ 1000 := fun x hx => Nat.le_trans (Lib.itoa_length_le x hx.1 hx.2) (by omega)
  have hall : ∀ x ∈ partsP n, x.length ≤ 1000 := by
    intro x hm
    unfold partsP at hm
    split at hm
    · rename_i h1
      have h2 := formP_ty h.form h1
      obtain ⟨q, hq⟩ := Option.isSome_iff_exists.1 h2
      have := Knd.textT_small 6 n.ty q hq
      simp only [List.mem_cons, List.not_mem_nil, or_false] at hm
      subst hm
      omega
    split at hm
    · simp only [List.mem_cons, List.not_mem_nil, or_false] at hm
      rcases hm with rfl | rfl | rfl <;> omega
    split at hm
    · simp only [List.mem_cons, List.not_mem_nil, or_false] at hm
      rcases hm with rfl | rfl | rfl | rfl | rfl
      · omega
      · exact hi _ hr.f0
      · exact hi _ hr.f1
      · exact hi _ hr.f2
      · exact hi _ hr.f3
    split at hm
    · simp only [List.mem_cons, List.not_mem_nil, or_false] at hm
      rcases hm with rfl | rfl | rfl | rfl | rfl | rfl
      · omega
      · exact hi _ hr.e
      · exact hi _ hr.l
      · exact hi _ hr.lt
      · split <;> simp
      · omega
    · simp only [List.mem_cons, List.not_mem_nil, or_false] at hm
      subst hm
      omega
  have := join_len [32] 1000 (partsP n) hall
  have h6 := partsP_few n
  simp at this
  have : (partsP n).length * 1001 ≤ 6 * 1001 := Nat.mul_le_mul_right _ h6
  obtain ⟨o, ho, _⟩ := h.op
  have hwl : o.word.length ≤ 7 := (show ∀ o ∈ gops, o.word.length ≤ 7 by decide) o (opP_mem ho).1
  unfold lineP opWord
  rw [ho]
  simp only [List.length_append, List.length_cons, List.length_nil]
  omega
theorem textP_short {l : List Gn} (hok : OkG l) (hr : ∀ n ∈ l, GnR n) : (textP l).length ≤ 200000 := by
  have aux : ∀ j, j ≤ l.length → (textP (l.take j)).length ≤ j * 6021 := fun j => by
    induction j with
    | zero => intro _; simp [textP]
    | succ j ih =>
      intro hj
      have := ih (by omega)
      have hlt : j < l.length := hj
      have h1 := line_short (hok.each j _ (List.getElem?_eq_getElem hlt)) (hr _ (List.getElem_mem hlt))
      have e : l.take (j + 1) = l.take j ++ [l[j]] := by simp
      rw [e, textP_snoc]
      simp only [List.length_append, List.length_cons, List.length_nil]
      omega
  have := aux l.length (Nat.le_refl _)
  rw [List.take_length] at this
  have := hok.few
  omega
end Go.Proofs.YtllnamhgnbdkmaaGreatDoor
