/-
The document's answer for package kind: Word, Count, begins.
-/
import Derived.Test.YtllnamhgnbdkmaaGreatDoorKd
import Derived.Test.YtllnamhgnbdkmaaGreatDoorKt
import Derived.Test.YtllnamhgnbdkmaaGreatDoorOf
namespace Go.Proofs.YtllnamhgnbdkmaaGreatDoor.Knd
open Go.RowKit
def wordStr (k : Int) : ByteArray := ((wordK k).map (·.name)).getD ⟨#[]⟩
def countK (k : Int) : Int := if k = 6 then 2 else if k = 7 then 1 else if k = 9 then 1 else 0
theorem word_cases (k : Int) : (k = 1 ∨ k = 2 ∨ k = 3 ∨ k = 4 ∨ k = 5 ∨ k = 6 ∨ k = 7 ∨ k = 9) ∨ (k ≠ 1 ∧ k ≠ 2 ∧ k ≠ 3 ∧ k ≠ 4 ∧ k ≠ 5 ∧ k ≠ 6 ∧ k ≠ 7 ∧ k ≠ 9) := by omega
theorem wordStr_other {k : Int} (h : k ≠ 1 ∧ k ≠ 2 ∧ k ≠ 3 ∧ k ≠ 4 ∧ k ≠ 5 ∧ k ≠ 6 ∧ k ≠ 7 ∧ k ≠ 9) : wordK k = none := by
  unfold wordK
  rw [List.find?_eq_none]
  intro x hx
  simp only [words, List.mem_cons, List.not_mem_nil, or_false] at hx
  rcases hx with rfl | rfl | rfl | rfl | rfl | rfl | rfl | rfl <;> simp [w1, w2, w3, w4, w5, w6, w7, w9] <;> omega
set_option maxRecDepth 100000 in
set_option maxHeartbeats 400000 in
theorem word_any (k : Int) (w : World) : Calls Tryz.prog 94 #[.int .i64 k] w fun e w' => e = .returned (.string (wordStr k)) ∧ w = w' := by
  rcases word_cases k with (rfl | rfl | rfl | rfl | rfl | rfl | rfl | rfl) | h
  · go_enter Tryz.func94, Tryz.ntmps94; go_wp2_with (fail); go_ret; exact ⟨rfl, rfl⟩
  · go_enter Tryz.func94, Tryz.ntmps94; go_wp2_with (fail); go_ret; exact ⟨rfl, rfl⟩
  · go_enter Tryz.func94, Tryz.ntmps94; go_wp2_with (fail); go_ret; exact ⟨rfl, rfl⟩
  · go_enter Tryz.func94, Tryz.ntmps94; go_wp2_with (fail); go_ret; exact ⟨rfl, rfl⟩
  · go_enter Tryz.func94, Tryz.ntmps94; go_wp2_with (fail); go_ret; exact ⟨rfl, rfl⟩
  · go_enter Tryz.func94, Tryz.ntmps94; go_wp2_with (fail); go_ret; exact ⟨rfl, rfl⟩
  · go_enter Tryz.func94, Tryz.ntmps94; go_wp2_with (fail); go_ret; exact ⟨rfl, rfl⟩
  · go_enter Tryz.func94, Tryz.ntmps94; go_wp2_with (fail); go_ret; exact ⟨rfl, rfl⟩
  · have HW : Hid (wordStr k = ⟨#[]⟩) := by show _ = _; simp only [wordStr, wordStr_other h]; rfl
    obtain ⟨h1, h2, h3, h4, h5, h6, h7, h9⟩ := h
    have g1 : (k == 1) = false := by simp [h1]
    have g2 : (k == 2) = false := by simp [h2]
    have g3 : (k == 3) = false := by simp [h3]
    have g4 : (k == 4) = false := by simp [h4]
    have g5 : (k == 5) = false := by simp [h5]
    have g6 : (k == 6) = false := by simp [h6]
    have g7 : (k == 7) = false := by simp [h7]
    have g9 : (k == 9) = false := by simp [h9]
    clear h1 h2 h3 h4 h5 h6 h7 h9
    go_enter Tryz.func94, Tryz.ntmps94
    go_wp2_with (fail)
    go_ret
    rw [HW.out]
    exact ⟨rfl, rfl⟩
set_option maxRecDepth 100000 in
theorem count_any (k : Int) (w : World) : Calls Tryz.prog 95 #[.int .i64 k] w fun e w' => e = .returned (.int .i64 (countK k)) ∧ w = w' := by
  by_cases h6 : k = 6
  · subst h6
    go_enter Tryz.func95, Tryz.ntmps95; go_wp2_with (fail); go_ret; exact ⟨rfl, rfl⟩
  · by_cases h7 : k = 7
    · subst h7
      go_enter Tryz.func95, Tryz.ntmps95; go_wp2_with (fail); go_ret; exact ⟨rfl, rfl⟩
    · by_cases h9 : k = 9
      · subst h9
        go_enter Tryz.func95, Tryz.ntmps95; go_wp2_with (fail); go_ret; exact ⟨rfl, rfl⟩
      · have HC : Hid (countK k = 0) := by show _ = _; simp only [countK, if_neg h6, if_neg h7, if_neg h9]
        have g6 : (k == 6) = false := by simp [h6]
        have g7 : (k == 7) = false := by simp [h7]
        have g9 : (k == 9) = false := by simp [h9]
        clear h6 h7 h9
        go_enter Tryz.func95, Tryz.ntmps95
        go_wp2_with (fail)
        go_ret
        rw [HC.out]
        exact ⟨rfl, rfl⟩
theorem words_count : ∀ x ∈ words, x.args = countK x.kind := by decide
theorem words_names : ∀ x ∈ words, x.name.toList ≠ [] := by
  intro x hx h
  have h2 := (words_small x hx).1
  have h3 : x.name.toList.length = x.name.size := by rw [Lib.toList_data]; simp
  rw [h] at h3
  simp at h3
  omega
structure SaInv (w : World) (T : Nat) (x : Wd) (r n k : Nat) (s : ByteArray) (i : Nat) (acc : List Ty) (vs : Value) (m : Nat) (wr : World) : Prop where
  below : Below w.heap.size w wr
  lo : w.heap.size < T
  size : T < wr.heap.size
  res : wr.heap[w.heap.size]? = some (.cells #[.int .i64 0, .slice none 0 0] 45 (0, 0))
  tcell : wr.heap[T]? = some (.cells #[.int .i64 x.kind, vs] 45 (0, 0))
  len : acc.length = i
  own : ∃ cs, wr.ownsRow (T + 1) 45 2 vs i cs ∧ ∀ (j : Nat) (a : Ty), acc[j]? = some a → ∃ u0 u1, cs[j * 2]? = some u0 ∧ cs[j * 2 + 1]? = some u1 ∧ TyAt wr (fun b => T + 1 ≤ b ∧ some b ≠ vs.ownBlock) r (.agg #[u0, u1]) a
  le : n + m ≤ s.size
  eq : readArgs (readT r) (s.data.toList.drop n) x.args.toNat 0 k [] = readArgs (readT r) (s.data.toList.drop n) (x.args.toNat - i) i m acc
theorem SaInv.next {T n r k i m q : Nat} {s : ByteArray} {x : Wd} {w wr w3 w7 : World} {acc : List Ty} {vs v' u0 u1 : Value} {a : Ty} {cs : List Value} {o1 o2 : Obj} (hI : SaInv w T x r n k s i acc vs m wr)
    (hown : wr.ownsRow (T + 1) 45 2 vs i cs) (hargs : ∀ (j : Nat) (a : Ty), acc[j]? = some a → ∃ u0 u1, cs[j * 2]? = some u0 ∧ cs[j * 2 + 1]? = some u1 ∧ TyAt wr (fun b => T + 1 ≤ b ∧ some b ≠ vs.ownBlock) r (.agg #[u0, u1]) a)
    (hlt : i < x.args.toNat) (hh : ((s.data.toList.drop n).drop m).head? = some (aheadB i)) (hq : readT r ((s.data.toList.drop n).drop (m + 1)) = (q, some a)) (hnm : n + m < s.size)
    (hb3 : Below wr.heap.size wr w3) (hT : TyAt w3 (fun b => wr.heap.size ≤ b) r (.agg #[u0, u1]) a)
    (hg : ((w3.alloc o1).alloc o2).grownBy w7 vs.ownBlock) (hown7 : w7.ownsRow (T + 1) 45 2 v' (i + 1) (cs ++ [u0, u1])) (hat : v'.ownBlock = vs.ownBlock ∨ v'.ownBlock = some ((w3.alloc o1).alloc o2).heap.size) :
    SaInv w T x r n k s (i + 1) (acc ++ [a]) v' (m + 1 + q) (w7.setCell ⟨T, 1, none⟩ v') := by
  have s3 := hb3.size
  have sr := hI.size
  have slo := hI.lo
  have hlen6 : ((w3.alloc o1).alloc o2).heap.size = w3.heap.size + 2 := by simp
  have s7 := hg.size
  have hvs : ∀ b, vs.ownBlock = some b → T + 1 ≤ b ∧ b < wr.heap.size := hown.lt
  have step : ∀ b, b < w3.heap.size → some b ≠ vs.ownBlock → b ≠ T → (w7.setCell ⟨T, 1, none⟩ v').heap[b]? = w3.heap[b]? := fun b hb hne hT => by
    rw [Below.heap_setCell _ _ _ _ hT, hg.block b (by omega) hne, Below.heap_alloc _ _ _ (by simp; omega), Below.heap_alloc _ _ _ hb]
  have stepr : ∀ b, b < wr.heap.size → some b ≠ vs.ownBlock → b ≠ T → (w7.setCell ⟨T, 1, none⟩ v').heap[b]? = wr.heap[b]? := fun b hb hne hT => by
    rw [step b (by omega) hne hT, hb3.block b hb]
  have ne1 : ∀ b, b < T + 1 → some b ≠ vs.ownBlock := fun b hb e => by have := (hvs b e.symm).1; omega
  have hdl := readT_le r ((s.data.toList.drop n).drop (m + 1))
  rw [hq] at hdl
  simp only [List.length_drop, Array.length_toList, ByteArray.size_data] at hdl
  have hws : w.heap.size ≤ wr.heap.size := hI.below.size
  refine ⟨?_, slo, ?_, ?_, ?_, by simp [hI.len], ⟨cs ++ [u0, u1], ownsRow_setCell_below hown7 (by simp) _, ?_⟩, by omega, readArgs_on hI.eq hlt hh hq⟩
  · exact (((((hI.below.trans (hb3.mono hws)).alloc (by omega) o1).alloc (by simp; omega) o2).grown hg (by omega) (fun k hk => by have := (hvs k hk).1; omega)).setCell (p := ⟨T, 1, none⟩) (by show _ ≤ T; omega) _)
  · simp only [World.setCell, Array.size_modify]; omega
  · rw [stepr _ (by omega) (ne1 _ (by omega)) (by omega)]; exact hI.res
  · have ht : w7.heap[T]? = some (.cells #[.int .i64 x.kind, vs] 45 (0, 0)) := by
      rw [hg.block _ (by omega) (ne1 _ (by omega)), Below.heap_alloc _ _ _ (by simp; omega), Below.heap_alloc _ _ _ (by omega), hb3.block _ (by omega)]
      exact hI.tcell
    simp [World.setCell, Array.getElem?_modify, ht]
  · intro j a' hj
    have hcl : cs.length = i * 2 := hown.1
    rcases Nat.lt_or_ge j acc.length with hja | hja
    · rw [List.getElem?_append_left hja] at hj
      obtain ⟨x0, x1, h0, h1, h2⟩ := hargs j a' hj
      have hji := hI.len
      refine ⟨x0, x1, by rw [List.getElem?_append_left (by omega)]; exact h0, by rw [List.getElem?_append_left (by omega)]; exact h1, TyAt.move (fun b hS hb => ⟨⟨hS.1, fun e => ?_⟩, fun o => World.cell?_of_block (stepr b hb hS.2 (by omega))⟩) _ _ _ h2⟩
      rcases hat with h | h
      · exact hS.2 (e.trans h)
      · rw [h, hlen6] at e; injection e; omega
    · have hji := hI.len
      have hje : j = acc.length := by
        have := (List.getElem?_eq_some_iff.1 hj).1
        simp at this
        omega
      rw [hje, List.getElem?_append_right (Nat.le_refl _), Nat.sub_self] at hj
      simp at hj
      subst hj
      refine ⟨u0, u1, by rw [List.getElem?_append_right (by omega)]; simp [show j * 2 - cs.length = 0 by omega], by rw [List.getElem?_append_right (by omega)]; simp [show j * 2 + 1 - cs.length = 1 by omega], TyAt.move (fun b hS hb => ⟨⟨by omega, fun e => ?_⟩, fun o => World.cell?_of_block (step b hb (fun e => ?_) (by omega))⟩) _ _ _ hT⟩
      · have := (hvs b e.symm).2
        omega
      · rcases hat with h | h
        · rw [h] at e
          have := (hvs b e.symm).2
          omega
        · rw [h, hlen6] at e; injection e; omega
end Go.Proofs.YtllnamhgnbdkmaaGreatDoor.Knd
