/-
The document's answer: Get, of ints.
-/
import Derived.Test.YtbafplnolmdlnaaDoorRg1
namespace Go.Proofs.YtbafplnolmdlnaaDoor
open Go.RowKit

theorem int_under (n : Nat) (h : n < 18446744073709551616) : wrap64 (IntKind.u64.wrap ((n : Int) - 9223372036854775808)) = (n : Int) - 9223372036854775808 := by
  simp only [wrap64, IntKind.wrap, IntKind.bits, IntKind.signed]
  simp
  omega

theorem okB_any {l : List UInt8} {m : Nat} {x : UInt8} (h : l[m]? = some x) : okB l m 255 = some x := by
  have := x.toNat_lt
  simp only [okB, h]
  rw [if_pos (by omega)]
theorem numL_short (l : List UInt8) : ∀ (k acc m : Nat), m ≤ l.length → l.length < m + k → numL l k acc m 255 = (l.length, none)
  | 0, acc, m, h1, h2 => by omega
  | k + 1, acc, m, h1, h2 => by
    by_cases hlt : m < l.length
    · simp only [numL, okB_any (List.getElem?_eq_getElem hlt)]
      exact numL_short l k _ (m + 1) (by omega) (by omega)
    · have hm : m = l.length := by omega
      have : okB l m 255 = none := by simp only [okB, List.getElem?_eq_none_iff.2 (show l.length ≤ m by omega)]
      simp only [numL, this]
      rw [hm]

set_option maxRecDepth 100000 in
set_option maxHeartbeats 2000000 in
theorem get_int (r Q : Nat) (S : Nat → Prop) (A : Option Addr) (c : Nat) (l : List UInt8) (m sz : Nat) (A0 : Option Addr) (n0 c0 : Nat) (w : World) (hB : BAt w S A l) (hlen : l.length ≤ 1000000) (hm : m ≤ l.length) (hQ : w.heap[Q]? = some (.cells #[.int .i64 (sz : Int)] 3 (0, 0))) :
    Calls Tryd.prog 24 #[.agg #[.int .i64 2, .slice A0 n0 c0], .slice A l.length c, .int .i64 (m : Int), .pointer (some ⟨Q, 0, none⟩)] w fun e w' => GgOut Q l (r + 1) w e w' (leafV intV sz (numL l 8 0 m 255)) := by
  have hQl := cell_lt hQ
  have HQ := Lib.hid hQ
  have HB := Lib.hid hB
  have hOO := Only.refl Q w
  clear hQ hB
  by_cases hlt : m + 8 ≤ l.length
  · have hge : decide ((l.length : Int) - (m : Int) < 8) = false := by simp; omega
    obtain ⟨b, o, hA, _, hj⟩ := HB.out (by omega)
    subst hA
    have hbl : b < w.heap.size := World.block_lt_of_cell? w _ (hj 0 _ (List.getElem?_eq_getElem (show 0 < l.length by omega)))
    have HJ := Lib.hid hj
    clear hj
    go_enter Tryd.func24, Tryd.ntmps24
    go_wp2_with (fail)
    obtain ⟨w0, hw0⟩ : ∃ w0, w0 = ((w.alloc (.cells #[.int .i64 2, .slice A0 n0 c0] 24)).alloc (.cells #[.int .i64 0, .int .i64 0, .string ⟨#[]⟩, .complex .f64 0 0, .slice none 0 0] 32)).alloc (.cells #[.int .i64 2, .int .i64 0, .string ⟨#[]⟩, .complex .f64 0 0, .slice none 0 0] 32) := ⟨_, rfl⟩
    have hb3 := (((Below.refl w.heap.size w).alloc (Nat.le_refl _) (.cells #[.int .i64 2, .slice A0 n0 c0] 24)).alloc (by simp) (.cells #[.int .i64 0, .int .i64 0, .string ⟨#[]⟩, .complex .f64 0 0, .slice none 0 0] 32)).alloc (by simp; omega) (.cells #[.int .i64 2, .int .i64 0, .string ⟨#[]⟩, .complex .f64 0 0, .slice none 0 0] 32)
    have hx1 : (((w.alloc (.cells #[.int .i64 2, .slice A0 n0 c0] 24)).alloc (.cells #[.int .i64 0, .int .i64 0, .string ⟨#[]⟩, .complex .f64 0 0, .slice none 0 0] 32)).alloc (.cells #[.int .i64 2, .int .i64 0, .string ⟨#[]⟩, .complex .f64 0 0, .slice none 0 0] 32)).heap[w.heap.size + 1]? = some (.cells #[.int .i64 0, .int .i64 0, .string ⟨#[]⟩, .complex .f64 0 0, .slice none 0 0] 32 (0, 0)) := heap_alloc_some (heap_new_at (by simp))
    have hx2 : (((w.alloc (.cells #[.int .i64 2, .slice A0 n0 c0] 24)).alloc (.cells #[.int .i64 0, .int .i64 0, .string ⟨#[]⟩, .complex .f64 0 0, .slice none 0 0] 32)).alloc (.cells #[.int .i64 2, .int .i64 0, .string ⟨#[]⟩, .complex .f64 0 0, .slice none 0 0] 32)).heap[w.heap.size + 2]? = some (.cells #[.int .i64 2, .int .i64 0, .string ⟨#[]⟩, .complex .f64 0 0, .slice none 0 0] 32 (0, 0)) := heap_new_at (by simp)
    have hsz0 : w0.heap.size = w.heap.size + 3 := by rw [hw0]; simp
    rw [← hw0] at hb3 hx1 hx2
    rw [← hw0]
    clear hw0
    have HX1 := Lib.hid hx1
    have HX2 := Lib.hid hx2
    clear hx1 hx2
    go_loopw [12, 13] (fun nv i wr => ∃ j acc : Nat, i = .int .i64 (j : Int) ∧ nv = .int .u64 (acc : Int) ∧ j ≤ 8 ∧ acc < 256 ^ j ∧ Hid (numL l 8 0 m 255 = numL l (8 - j) acc (m + j) 255) ∧ w0 = wr) (fun _ i _ => 10 - (intOf i).toNat)
    case atStart => exact ⟨0, 0, rfl, rfl, by omega, by simp, rfl, rfl⟩
    case round =>
      obtain ⟨j, acc, rfl, rfl, hj8, hacc, HE, rfl⟩ := hrel
      by_cases hj : j < 8
      · have hp : 256 ^ j ≤ 256 ^ 7 := Nat.pow_le_pow_right (by omega) (by omega)
        have hp2 : (256 : Nat) ^ 7 = 72057594037927936 := by decide
        have hac : acc < 72057594037927936 := by omega
        have hps : 256 ^ (j + 1) = 256 ^ j * 256 := Nat.pow_succ ..
        have hlj : m + j < l.length := by omega
        have hx := List.getElem?_eq_getElem hlj
        generalize l[m + j] = x at hx
        have hxl := x.toNat_lt
        have cx := (hb3.cell (p := ⟨b, o + (m + j), none⟩) hbl).trans (HJ.out (m + j) x hx)
        have HF : Hid (numL l 8 0 m 255 = numL l (8 - (j + 1)) (acc * 256 + x.toNat) (m + (j + 1)) 255) := by
          show _ = _
          rw [HE.out, show 8 - j = (8 - (j + 1)) + 1 by omega]
          simp only [numL, okB_any hx]
          rw [Nat.add_assoc]
        have hnew : acc * 256 + x.toNat < 256 ^ (j + 1) := by rw [hps]; omega
        have HNEW := Lib.hid hnew
        clear hx hp hp2 hps hacc hnew
        go_wp2_with (fail)
        go_roundw
        case rel => exact ⟨j + 1, acc * 256 + x.toNat, by go_num, by go_num, by omega, HNEW.out, HF, trivial⟩
        case measure => simp [intOf]; omega
      · have hje : j = 8 := by omega
        have HF : Hid (leafV intV sz (numL l 8 0 m 255) = (m + 8, some (intV acc, sz))) := by
          show _ = _; rw [HE.out, hje]; rfl
        have hac : acc < 18446744073709551616 := by rw [hje] at hacc; simpa using hacc
        have d0 := cell5_0 HX1.out
        have d1 := cell5_1 HX1.out
        have d2 := cell5_2 HX1.out
        have d3 := cell5_3 HX1.out
        have d4 := cell5_4 HX1.out
        have f0 := cell3_f HX1.out 0
        have f1 := cell3_f HX1.out 1
        have f2 := cell3_f HX1.out 2
        have f3 := cell3_f HX1.out 3
        have f4 := cell3_f HX1.out 4
        have e0 := cell5_0 HX2.out
        have e1 := cell5_1 HX2.out
        have e2 := cell5_2 HX2.out
        have e3 := cell5_3 HX2.out
        have e4 := cell5_4 HX2.out
        have g1 := cell3_f HX2.out 1
        have hl1 := cell_lt HX1.out
        have hl2 := cell_lt HX2.out
        clear hje hacc
        go_wp2_with (fail)
        refine bodyPost_ret (v := .tuple #[.agg #[.int .i64 2, .int .i64 ((acc : Int) - 9223372036854775808), .string ⟨#[]⟩, .complex .f64 0 0, .slice none 0 0], .int .i64 ((m : Int) + 8), .int .i64 0]) (by simp [results, Tryd.results24, go_sem, d0, d1, d2, d3, d4, e0, e1, e2, e3, e4]; exact int_under acc hac) rfl ?_
        rw [HF.out]
        have hOO : Only Q w w0 := Only.of_below hb3
        have hBX := (hb3.block Q hQl).trans HQ.out
        refine gg_good (VAt.of_leaf float_zero float_zero) (by omega) ?_ ?_
        · (repeat' (first | with_reducible assumption | with_reducible refine Only.more ?_ | with_reducible refine Only.far ?_ ?_ | (dsimp only; omega)))
        · (repeat' (first | with_reducible assumption | with_reducible refine heap_alloc_some ?_ | with_reducible refine heap_set_some ?_ ?_ | (dsimp only; omega)))
  · have hge : decide ((l.length : Int) - (m : Int) < 8) = true := by simp; omega
    have HF : Hid (leafV intV sz (numL l 8 0 m 255) = (l.length, none)) := by
      show _ = _; rw [numL_short l 8 0 m hm (by omega)]; rfl
    have HER : Hid (errA l l.length = 30) := by show _ = _; unfold errA; rw [if_pos rfl]
    go_enter Tryd.func24, Tryd.ntmps24
    go_wp2_with (fail)
    refine bodyPost_ret (v := .tuple #[.agg #[.int .i64 0, .int .i64 0, .string ⟨#[]⟩, .complex .f64 0 0, .slice none 0 0], .int .i64 (l.length : Int), .int .i64 30]) (by simp [results, Tryd.results24, go_sem]) rfl ?_
    rw [HF.out]
    refine gg_bad rfl HER.out.symm ?_
    (repeat' (first | with_reducible assumption | with_reducible refine Only.more ?_ | with_reducible refine Only.far ?_ ?_ | (dsimp only; omega)))
end Go.Proofs.YtbafplnolmdlnaaDoor
