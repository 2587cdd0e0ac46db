/-
Sort of the document's reading.
-/
import Derived.Test.YtofollamkcgknaaDoorPt
set_option linter.unusedVariables false
namespace Go.Proofs.YtofollamkcgknaaDoor
open Go.RowKit

theorem fold_snoc (l : List Wn) (x : Wn) : (l ++ [x]).foldl putW [] = putW (l.foldl putW []) x := by simp

theorem fold_length : ∀ (l A : List Wn), (l.foldl putW A).length = A.length + l.length
  | [], A => rfl
  | x :: l, A => by rw [List.foldl_cons, fold_length l, putW_length, List.length_cons]; omega

set_option maxRecDepth 100000 in
set_option maxHeartbeats 4000000 in
theorem rsort_any (B : Nat) (v : Value) (l : List Wn) (w : World) (h : WsAt w B v l) (hl : l.length ≤ 2000000) :
    Calls Tryd.prog 30 #[v] w fun e w' => WOut w.heap.size (srt l) e w' ∧ Below w.heap.size w w' := by
  obtain ⟨a, c, rfl, hlc, hA⟩ := h
  have HA := Lib.hid hA
  clear hA
  go_enter Tryd.func30, Tryd.ntmps30
  go_wp2
  go_loopw [3, 4] (fun ov iv wr => ∃ (j : Nat), iv = .int .i64 (j : Int) ∧ j ≤ l.length ∧ Hid (WsAt wr w.heap.size ov ((l.take j).foldl putW [])) ∧ Hid (Below w.heap.size w wr)) (fun _ i _ => l.length - (intOf i).toNat)
  case atStart => exact ⟨0, rfl, Nat.zero_le _, Lib.hid (WsAt.nil _ _), Lib.hid (Below.refl _ _)⟩
  case round =>
    obtain ⟨j, rfl, hj, HO, HB⟩ := hrel
    have hsr := HB.out.size
    by_cases hlt : j < l.length
    · obtain ⟨b, o, rfl, hb1, hb2, hcells⟩ := HA.out (by omega)
      obtain ⟨c0, c1⟩ := ws_cells hcells hlt
      have HT : Hid ((l.take (j + 1)).foldl putW [] = putW ((l.take j).foldl putW []) l[j]) := Lib.hid (by rw [List.take_succ_eq_append_getElem hlt, fold_snoc])
      have c0 := (HB.out.cell (p := ⟨b, o + j * 2, none⟩) hb2).trans c0
      have c1 := (HB.out.cell (p := ⟨b, o + j * 2 + 1, none⟩) hb2).trans c1
      have hAl : ((l.take j).foldl putW []).length ≤ 2000000 := by rw [fold_length]; simp; omega
      clear hcells
      generalize l[j] = x at *
      obtain ⟨x1, x2⟩ := x
      dsimp only at c0 c1
      have hbr : b < wr.heap.size := by omega
      have hj0 : (0 : Int) ≤ (j : Int) := by omega
      have hj1 : (j : Int) < (l.length : Int) := by omega
      generalize (l.take j).foldl putW [] = A at *
      go_wp2_with (go_at_call 42; refine (put_any _ _ A (x1, x2) _ HO.out hAl).mono ?_; rintro e w7 ⟨⟨v7, rfl, hv7⟩, hb7⟩)
      have HV7 : Hid (WsAt w7 w.heap.size v7 ((l.take (j + 1)).foldl putW [])) := Lib.hid (by rw [HT.out]; exact hv7.low (by omega))
      have HB7 := Lib.hid (HB.out.trans (hb7.mono hsr))
      clear hv7 hb7
      go_roundw
      case rel => exact ⟨j + 1, by go_num, by omega, HV7, HB7⟩
      case measure => simp [intOf]; omega
    · obtain rfl : j = l.length := by omega
      have HO2 : Hid (WsAt wr w.heap.size u3 (srt l)) := Lib.hid (by have := HO.out; rwa [List.take_length, srt_fold] at this)
      go_wp2
      go_ret
      exact ⟨⟨_, rfl, HO2.out⟩, HB.out⟩

end Go.Proofs.YtofollamkcgknaaDoor
