/-
Slices of strings that the call has made: sorted, compacted, and stored into.
-/
import Derived.Test.YteebihdgfkmgmaaGreatDoorStr
namespace Go.Proofs.YteebihdgfkmgmaaGreatDoor
open Go.RowKit Go.Shelf Go.Sort

theorem putRow_grown (enc : List UInt8 → Value) (w : World) (q g off : Nat) (d : Array (List UInt8)) : w.grownBy (putRow enc (Sort.ahead w q) g off d) (some g) := by
  refine ⟨rfl, rfl, rfl, by simp [putRow, mapBlock, Sort.ahead], fun k hk hne => ?_⟩
  have : g ≠ k := fun e => hne (by rw [e])
  simp [putRow, mapBlock, Sort.ahead, Array.getElem?_modify, this]
abbrev sortL (l : List (List UInt8)) : List (List UInt8) := l.mergeSort fun x y => decide (x ≤ y)

theorem sort_own (B : Nat) (v : Value) (l : List (List UInt8)) (w : World) (h : w.ownsRow B 9 1 v l.length (l.map encStr)) (hl : l.length ≤ 1000000000) :
    Calls Tryz.prog 55 #[v] w fun e w' => e = .returned (.tuple #[]) ∧ w'.ownsRow B 9 1 v (sortL l).length ((sortL l).map encStr) ∧ w.grownBy w' v.ownBlock := by
  have h0 := h
  rcases h.2 with ⟨rfl, hz⟩ | ⟨g, cap, cur, rfl, hb, hg, hn, hm, hs, ht⟩
  · have : l = [] := List.eq_nil_of_length_eq_zero hz
    subst this
    refine (Any.slices_Sort_string_none Tryz.laysSort none 0 w).mono fun e w' ⟨he, hw⟩ => ⟨he, ?_, ?_⟩
    · rw [hw, show sortL [] = [] by simp [sortL]]; exact h0
    · rw [hw]; exact ⟨rfl, rfl, rfl, Nat.le_refl _, fun _ _ _ => rfl⟩
  · have hgl : g < w.heap.size := cell_lt hg
    have hH := holds_of_block (ss := l) hg (by simpa using ht)
    refine (Any.slices_Sort_string Tryz.laysSort g 0 cap l w hH hgl (by omega)).mono fun e w' ⟨he, n, os, hw⟩ => ⟨he, ?_, ?_⟩
    · rw [hw]
      have := ownsRow_sorted (n := n) (os := os) (ss := l) (ts := sortL l) (List.length_mergeSort l) hb hg hn hm hs
      rwa [show (sortL l).length = l.length from List.length_mergeSort l]
    · rw [hw]; exact grownBy_sorted _

theorem compact_own (B : Nat) (v : Value) (l : List (List UInt8)) (w : World) (h : w.ownsRow B 9 1 v l.length (l.map encStr)) (hl : l.length ≤ 1000000000) :
    Calls Tryz.prog 56 #[v] w fun e w' => ∃ v', e = .returned v' ∧ w'.ownsRow B 9 1 v' (Lib.compact l).length ((Lib.compact l).map encStr) ∧ v'.ownBlock = v.ownBlock ∧ w.grownBy w' v.ownBlock := by
  have h0 := h
  rcases h.2 with ⟨rfl, hz⟩ | ⟨g, cap, cur, rfl, hb, hg, hn, hm, hs, ht⟩
  · have : l = [] := List.eq_nil_of_length_eq_zero hz
    subst this
    refine (Tryz.slices_Compact_string_empty none 0 w).mono fun e w' ⟨he, hw⟩ => ⟨_, he, ?_, rfl, ?_⟩
    · rw [hw]; exact h0
    · rw [hw]; exact ⟨rfl, rfl, rfl, Nat.le_refl _, fun _ _ _ => rfl⟩
  · have hgl : g < w.heap.size := cell_lt hg
    have hH := holds_of_block (ss := l) hg (by simpa using ht)
    have hcl := Lib.compact_length_le l
    refine (Tryz.slices_Compact_string g 0 cap l w hH (by omega) (by omega)).mono fun e w' ⟨he, q, hw⟩ => ⟨_, he, ?_, rfl, ?_⟩
    · rw [hw]
      have := Lib.ownsRow_putRow (q := q) (k := (Lib.compact l).length) (ys := Lib.compact l ++ List.replicate (l.length - (Lib.compact l).length) []) h0 (by simp; omega) hcl
      rw [List.take_left] at this
      exact this
    · rw [hw]; exact putRow_grown _ _ _ _ _ _

/-- A string is stored where it lay. -/
theorem own_set {w : World} {B g : Nat} {n c : Nat} {l : List (List UInt8)} {j : Nat} {x : List UInt8} (h : w.ownsRow B 9 1 (.slice (some ⟨g, 0, none⟩) n c) l.length (l.map encStr)) (hx : l[j]? = some x) :
    (w.setCell ⟨g, j, none⟩ (encStr x)).ownsRow B 9 1 (.slice (some ⟨g, 0, none⟩) n c) l.length (l.map encStr) ∧ w.grownBy (w.setCell ⟨g, j, none⟩ (encStr x)) (some g) := by
  refine ⟨⟨h.1, ?_⟩, ⟨rfl, rfl, rfl, by simp [World.setCell], fun k _ hk => Below.heap_setCell _ _ _ _ (fun e => hk (by simp [e]))⟩⟩
  rcases h.2 with ⟨e, _⟩ | ⟨g', cap, cur, e, hb, hg, hn, hm, hs, ht⟩
  · cases e
  · have hj := (List.getElem?_eq_some_iff.1 hx).1
    have e0 := e
    injection e with e1 e2 e3
    injection e1 with e1
    injection e1 with e1
    subst e1
    refine .inr ⟨g, cap, cur.set! j (encStr x), e0, hb, ?_, hn, hm, by simpa using hs, ?_⟩
    · simp [World.setCell, Array.getElem?_modify, hg]
    · have hc : cur.toList[j]? = some (encStr x) := by
        have h1 : (cur.toList.take (l.length * 1))[j]? = (l.map encStr)[j]? := by rw [ht]
        rw [List.getElem?_take_of_lt (by omega), List.getElem?_map, hx] at h1
        exact h1
      have hset : (cur.set! j (encStr x)).toList = cur.toList := by
        rw [Array.set!_eq_setIfInBounds, Array.toList_setIfInBounds]
        apply List.ext_getElem?
        intro i
        rw [List.getElem?_set]
        split
        · rename_i hij
          subst hij
          rw [hc]
          split
          · rfl
          · rename_i hlt
            have := (List.getElem?_eq_some_iff.1 hc).1
            omega
        · rfl
      rw [hset]; exact ht
end Go.Proofs.YteebihdgfkmgmaaGreatDoor
