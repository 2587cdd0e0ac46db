/-
The document's answer: getText.
-/
import Derived.Test.YtbafplnolmdlnaaDoorRwp
namespace Go.Proofs.YtbafplnolmdlnaaDoor
open Go.RowKit

/-- What the document's answer has: the value, the place, the error. -/
def GtOut {α : Type} (w : World) (l : List UInt8) (ok : World → Value → α → Prop) (e : Ending) (w' : World) : Nat × Option α → Prop
  | (m', none) => e = .returned (.tuple #[.agg #[.int .i64 0, .int .i64 0, .string ⟨#[]⟩, .complex .f64 0 0, .slice none 0 0], .int .i64 (m' : Int), .int .i64 (errA l m')])
  | (m', some x) => ∃ v, ok w' v x ∧ e = .returned (.tuple #[v, .int .i64 (m' : Int), .int .i64 0])

structure GtI (w : World) (k : Int) (acc : List UInt8) (v : Value) (wr : World) : Prop where
  own : wr.ownsRow (w.heap.size + 2) 5 1 v acc.length (bcl acc)
  below : Below w.heap.size w wr
  box : wr.heap[w.heap.size]? = some (.cells #[.int .i64 k, .int .i64 0, .string ⟨#[]⟩, .complex .f64 0 0, .slice none 0 0] 32 (0, 0))
  res : wr.heap[w.heap.size + 1]? = some (.cells #[.int .i64 0, .int .i64 0, .string ⟨#[]⟩, .complex .f64 0 0, .slice none 0 0] 32 (0, 0))

theorem GtI.app {w wr w7 : World} {k : Int} {acc : List UInt8} {v v' : Value} {o : Obj} {x : UInt8} (h : GtI w k acc v wr) (hg : (wr.alloc o).grownBy w7 v.ownBlock)
    (hown : w7.ownsRow (w.heap.size + 2) 5 1 v' (acc.length + 1) (bcl acc ++ [.int .u8 (x.toNat : Int)])) : GtI w k (acc ++ [x]) v' w7 := by
  have hl0 := cell_lt h.box
  have hl1 := cell_lt h.res
  have hs := h.below.size
  have far : ∀ b, b < w.heap.size + 2 → b < wr.heap.size → w7.heap[b]? = wr.heap[b]? := fun b hb hl => by
    rw [hg.block b (by simp; omega) (fun e => by have := (h.own.lt b e.symm).1; omega), Below.heap_alloc _ _ _ hl]
  refine ⟨by rw [bcl_snoc, List.length_append]; exact hown, (h.below.alloc hs o).grown hg (by simp; omega) (fun k hk => by have := (h.own.lt k hk).1; omega), ?_, ?_⟩
  · rw [far _ (by omega) hl0]; exact h.box
  · rw [far _ (by omega) hl1]; exact h.res

theorem textL_on {l : List UInt8} {f : Nat} {acc : List UInt8} {half : Bool} {m : Nat} {x : UInt8} (hx : l[m]? = some x) : textL l (f + 1) acc half m = (if x = 0 then (if half then (m + 1, some acc) else textL l f acc true (m + 1)) else if acc.length < 256 then (if half then (if x = 255 then textL l f (acc ++ [0]) false (m + 1) else (m, none)) else textL l f (acc ++ [x]) false (m + 1)) else (m, none)) := by
  simp only [textL, hx]
theorem textL_out {l : List UInt8} {f : Nat} {acc : List UInt8} {half : Bool} {m : Nat} (hx : l[m]? = none) : textL l (f + 1) acc half m = (m, none) := by
  simp only [textL, hx]

set_option maxRecDepth 100000 in
set_option maxHeartbeats 4000000 in
theorem gettext_any (S : Nat → Prop) (d : Nat) (k : Int) (A : Option Addr) (c : Nat) (l : List UInt8) (m0 : Nat) (w : World) (hB : BAt w S A l) (hlen : l.length ≤ 1000000) (hm0 : m0 ≤ l.length) :
    Calls Tryd.prog 36 #[.agg #[.int .i64 k, .int .i64 0, .string ⟨#[]⟩, .complex .f64 0 0, .slice none 0 0], .slice A l.length c, .int .i64 (m0 : Int)] w fun e w' => GtOut w l (fun w' v s => VAt w' (fun b => w.heap.size ≤ b) (d + 1) v (textV k s)) e w' (textL l (l.length + 1 - m0) [] false m0) ∧ Below w.heap.size w w' := by
  obtain ⟨i0, hi, hq0, hq1, hq2⟩ := info_parts info5
  have HB := Lib.hid hB
  have hx0 : ((w.alloc (.cells #[.int .i64 k, .int .i64 0, .string ⟨#[]⟩, .complex .f64 0 0, .slice none 0 0] 32)).alloc (.cells #[.int .i64 0, .int .i64 0, .string ⟨#[]⟩, .complex .f64 0 0, .slice none 0 0] 32)).heap[w.heap.size]? = some (.cells #[.int .i64 k, .int .i64 0, .string ⟨#[]⟩, .complex .f64 0 0, .slice none 0 0] 32 (0, 0)) := heap_alloc_some (heap_alloc_new w _)
  have hx1 : ((w.alloc (.cells #[.int .i64 k, .int .i64 0, .string ⟨#[]⟩, .complex .f64 0 0, .slice none 0 0] 32)).alloc (.cells #[.int .i64 0, .int .i64 0, .string ⟨#[]⟩, .complex .f64 0 0, .slice none 0 0] 32)).heap[w.heap.size + 1]? = some (.cells #[.int .i64 0, .int .i64 0, .string ⟨#[]⟩, .complex .f64 0 0, .slice none 0 0] 32 (0, 0)) := heap_new_at (by simp)
  have HX0 := Lib.hid hx0
  have HX1 := Lib.hid hx1
  clear hB hx0 hx1
  go_enter Tryd.func36, Tryd.ntmps36
  go_wp2_with (fail)
  go_loopw [2, 9] (fun av vs wr => ∃ (m : Nat) (acc : List UInt8), av = .int .i64 (m : Int) ∧ m ≤ l.length ∧ acc.length ≤ 256 ∧ Hid (textL l (l.length + 1 - m0) [] false m0 = textL l (l.length + 1 - m) acc false m) ∧ Hid (GtI w k acc vs wr)) (fun av _ _ => l.length + 1 - (intOf av).toNat)
  case atStart => exact ⟨m0, [], rfl, hm0, by simp, rfl, ⟨World.ownsRow_nil _ _ _ _, ((Below.refl _ _).alloc (Nat.le_refl _) _).alloc (by simp) _, HX0.out, HX1.out⟩⟩
  case round =>
    obtain ⟨m, acc, rfl, hm, hacc, HE, HI⟩ := hrel
    obtain ⟨Av, cv, hvs⟩ := own_slice HI.out.own
    subst hvs
    have hbr := HI.out.below
    have hsr := hbr.size
    have d0 := cell5_0 HI.out.res
    have d1 := cell5_1 HI.out.res
    have d2 := cell5_2 HI.out.res
    have d3 := cell5_3 HI.out.res
    have d4 := cell5_4 HI.out.res
    have f0 := cell3_f HI.out.res 0
    have f1 := cell3_f HI.out.res 1
    have f2 := cell3_f HI.out.res 2
    have f3 := cell3_f HI.out.res 3
    have f4 := cell3_f HI.out.res 4
    have hlr := cell_lt HI.out.res
    have e0 := cell5_0 HI.out.box
    have e1 := cell5_1 HI.out.box
    have e2 := cell5_2 HI.out.box
    have e3 := cell5_3 HI.out.box
    have e4 := cell5_4 HI.out.box
    have g2 := cell3_f HI.out.box 2
    have hlb := cell_lt HI.out.box
    have HBr := Lib.hid (HB.out.move (w' := wr) (S' := fun _ => True) fun b _ hl => ⟨trivial, fun _ => hbr.cell (p := ⟨b, _, none⟩) hl⟩)
    by_cases hlt : m < l.length
    · obtain ⟨b, o, hA, _, hj⟩ := HBr.out (by omega)
      subst hA
      have hx := List.getElem?_eq_getElem hlt
      generalize l[m] = x at hx
      have cx := hj m x hx
      have HX := Lib.hid hx
      have HJ := Lib.hid hj
      clear hx hj
      have hfu : l.length + 1 - m = (l.length + 1 - (m + 1)) + 1 := by omega
      have HFU := Lib.hid hfu
      clear hfu
      by_cases hx0 : x = 0
      · have hn0 : ((x.toNat : Int) != 0) = false := by simp [hx0]
        have HS1 : Hid (textL l (l.length + 1 - m0) [] false m0 = textL l (l.length + 1 - (m + 1)) acc true (m + 1)) := by
          show _ = _; rw [HE.out, HFU.out, textL_on HX.out, if_pos hx0]; rfl
        clear hx0
        by_cases hl1 : m + 1 < l.length
        · have hy := List.getElem?_eq_getElem hl1
          generalize l[m + 1] = y at hy
          have cy := HJ.out (m + 1) y hy
          have HY := Lib.hid hy
          clear hy
          have hfu2 : l.length + 1 - (m + 1) = (l.length + 1 - (m + 2)) + 1 := by omega
          have HFU2 := Lib.hid hfu2
          clear hfu2
          have hge : decide ((l.length : Int) ≤ (m : Int) + 1) = false := by simp; omega
          by_cases hy0 : y = 0
          · have hb0 : ((y.toNat : Int) == 0) = true := by simp [hy0]
            have HF : Hid (textL l (l.length + 1 - m0) [] false m0 = (m + 2, some acc)) := by
              show _ = _; rw [HS1.out, HFU2.out, textL_on HY.out, if_pos hy0]; rfl
            have hcv := string_run (w := wr) HI.out.own (fun _ _ => rfl)
            clear hy0
            go_wp2_with (fail)
            refine bodyPost_ret (v := .tuple #[.agg #[.int .i64 k, .int .i64 0, .string ⟨acc.toArray⟩, .complex .f64 0 0, .slice none 0 0], .int .i64 ((m : Int) + 2), .int .i64 0]) (by simp [results, Tryd.results36, go_sem, d0, d1, d2, d3, d4, e0, e1, e2, e3, e4]) rfl ?_
            rw [HF.out]
            refine ⟨⟨_, VAt.of_leaf float_zero float_zero, rfl⟩, ?_⟩
            (repeat' (first | with_reducible assumption | with_reducible refine Below.set_own ?_ ?_ | (dsimp only; omega)))
          · have hb0 : ((y.toNat : Int) == 0) = false := u8_beq_false (b := 0) hy0
            by_cases hff : y = 255 ∧ acc.length < 256
            · have hne : ((y.toNat : Int) != 255) = false := by simp [hff.1]
              have hl256 : ((acc.length : Int) == 256) = false := beq_eq_false_iff_ne.2 (by have := hff.2; omega)
              have hroom := hff.2
              have HF : Hid (textL l (l.length + 1 - m0) [] false m0 = textL l (l.length + 1 - (m + 2)) (acc ++ [0]) false (m + 2)) := by
                show _ = _; rw [HS1.out, HFU2.out, textL_on HY.out, if_neg hy0, if_pos hff.2, if_pos rfl, if_pos hff.1]
              clear hy0 hff
              go_wp2_with (at_builtin; refine wpList_append_own _ rfl _ _ 25 rfl (w.heap.size + 2) 5 i0 (.int .u8 0) 1 1 Tryd.underlying25 hi hq0 hq1 hq2 rfl (by decide) _ acc.length (bcl acc) rfl (HI.out.own.alloc _) ⟨wr.heap.size, 0, none⟩ 1 1 [.int .u8 ((0 : UInt8).toNat : Int)] rfl rfl (cell_one_new' _ _ _ _ rfl) (by intro u hu; simp at hu; subst hu; rfl) (by unfold maxLen; omega) (by omega) (by simp; omega) ?_; intro v' w7 hown7 hg7 _)
              go_roundw
              case rel => exact ⟨m + 2, acc ++ [0], by go_num, by omega, by simp; omega, HF, Lib.hid (HI.out.app hg7 hown7)⟩
              case measure => simp [intOf]; omega
            · have hways : ((y.toNat : Int) != 255) = true ∨ (((y.toNat : Int) != 255) = false ∧ ((acc.length : Int) == 256) = true) := by
                by_cases h255 : y = 255
                · right
                  refine ⟨by simp [h255], ?_⟩
                  have : acc.length = 256 := by
                    rcases Nat.lt_or_ge acc.length 256 with h | h
                    · exact absurd ⟨h255, h⟩ hff
                    · omega
                  simp [this]
                · left
                  have := u8_beq_false (b := 255) h255
                  have h5 : (((255 : UInt8).toNat : Int)) = 255 := rfl
                  rw [h5] at this
                  rw [bne, this]; rfl
              have HF : Hid (textL l (l.length + 1 - m0) [] false m0 = (m + 1, none)) := by
                show _ = _; rw [HS1.out, HFU2.out, textL_on HY.out, if_neg hy0]
                by_cases hr : acc.length < 256
                · rw [if_pos hr, if_pos rfl, if_neg (fun h => hff ⟨h, hr⟩)]
                · rw [if_neg hr]
              have HER : Hid (errA l (m + 1) = 31) := by show _ = _; unfold errA; rw [if_neg (by omega)]
              clear hy0 hff
              rcases hways with hw1 | ⟨hw1, hw2⟩
              · go_wp2_with (fail)
                refine bodyPost_ret (v := .tuple #[.agg #[.int .i64 0, .int .i64 0, .string ⟨#[]⟩, .complex .f64 0 0, .slice none 0 0], .int .i64 ((m : Int) + 1), .int .i64 31]) (by simp [results, Tryd.results36, go_sem, d0, d1, d2, d3, d4]) rfl ?_
                rw [HF.out]
                refine ⟨by show _ = _; rw [HER.out]; try (first | rfl | go_num | (congr 4; omega)), ?_⟩
                (repeat' (first | with_reducible assumption | with_reducible refine Below.set_own ?_ ?_ | (dsimp only; omega)))
              · go_wp2_with (fail)
                refine bodyPost_ret (v := .tuple #[.agg #[.int .i64 0, .int .i64 0, .string ⟨#[]⟩, .complex .f64 0 0, .slice none 0 0], .int .i64 ((m : Int) + 1), .int .i64 31]) (by simp [results, Tryd.results36, go_sem, d0, d1, d2, d3, d4]) rfl ?_
                rw [HF.out]
                refine ⟨by show _ = _; rw [HER.out]; try (first | rfl | go_num | (congr 4; omega)), ?_⟩
                (repeat' (first | with_reducible assumption | with_reducible refine Below.set_own ?_ ?_ | (dsimp only; omega)))
        · have hge : decide ((l.length : Int) ≤ (m : Int) + 1) = true := by simp; omega
          have HF : Hid (textL l (l.length + 1 - m0) [] false m0 = (m + 1, none)) := by
            show _ = _; rw [HS1.out, show l.length + 1 - (m + 1) = (l.length - (m + 1)) + 1 by omega, textL_out (List.getElem?_eq_none_iff.2 (by omega))]
          have HER : Hid (errA l (m + 1) = 30) := by show _ = _; unfold errA; rw [if_pos (by omega)]
          go_wp2_with (fail)
          refine bodyPost_ret (v := .tuple #[.agg #[.int .i64 0, .int .i64 0, .string ⟨#[]⟩, .complex .f64 0 0, .slice none 0 0], .int .i64 ((m : Int) + 1), .int .i64 30]) (by simp [results, Tryd.results36, go_sem, d0, d1, d2, d3, d4]) rfl ?_
          rw [HF.out]
          refine ⟨by show _ = _; rw [HER.out]; try (first | rfl | go_num | (congr 4; omega)), ?_⟩
          (repeat' (first | with_reducible assumption | with_reducible refine Below.set_own ?_ ?_ | (dsimp only; omega)))
      · have hn0 : ((x.toNat : Int) != 0) = true := by
          have := u8_beq_false (b := 0) hx0
          have h5 : (((0 : UInt8).toNat : Int)) = 0 := rfl
          rw [h5] at this
          rw [bne, this]; rfl
        by_cases hr : acc.length < 256
        · have hl256 : ((acc.length : Int) == 256) = false := beq_eq_false_iff_ne.2 (by omega)
          have HF : Hid (textL l (l.length + 1 - m0) [] false m0 = textL l (l.length + 1 - (m + 1)) (acc ++ [x]) false (m + 1)) := by
            show _ = _; rw [HE.out, HFU.out, textL_on HX.out, if_neg hx0, if_pos hr, if_neg (by simp)]
          clear hx0
          go_wp2_with (at_builtin; refine wpList_append_own _ rfl _ _ 25 rfl (w.heap.size + 2) 5 i0 (.int .u8 0) 1 1 Tryd.underlying25 hi hq0 hq1 hq2 rfl (by decide) _ acc.length (bcl acc) rfl (HI.out.own.alloc _) ⟨wr.heap.size, 0, none⟩ 1 1 [.int .u8 (x.toNat : Int)] rfl rfl (cell_one_new' _ _ _ _ rfl) (by intro u hu; simp at hu; subst hu; rfl) (by unfold maxLen; omega) (by omega) (by simp; omega) ?_; intro v' w7 hown7 hg7 _)
          go_roundw
          case rel => exact ⟨m + 1, acc ++ [x], by go_num, by omega, by simp; omega, HF, Lib.hid (HI.out.app hg7 hown7)⟩
          case measure => simp [intOf]; omega
        · have hl256 : ((acc.length : Int) == 256) = true := by simp; omega
          have HF : Hid (textL l (l.length + 1 - m0) [] false m0 = (m, none)) := by
            show _ = _; rw [HE.out, HFU.out, textL_on HX.out, if_neg hx0, if_neg hr]
          have HER : Hid (errA l m = 31) := by show _ = _; unfold errA; rw [if_neg (by omega)]
          clear hx0
          go_wp2_with (fail)
          refine bodyPost_ret (v := .tuple #[.agg #[.int .i64 0, .int .i64 0, .string ⟨#[]⟩, .complex .f64 0 0, .slice none 0 0], .int .i64 ((m : Int)), .int .i64 31]) (by simp [results, Tryd.results36, go_sem, d0, d1, d2, d3, d4]) rfl ?_
          rw [HF.out]
          refine ⟨by show _ = _; rw [HER.out]; try (first | rfl | go_num | (congr 4; omega)), ?_⟩
          (repeat' (first | with_reducible assumption | with_reducible refine Below.set_own ?_ ?_ | (dsimp only; omega)))
    · have hme : m = l.length := by omega
      have HF : Hid (textL l (l.length + 1 - m0) [] false m0 = (m, none)) := by
        show _ = _; rw [HE.out, show l.length + 1 - m = (l.length - m) + 1 by omega, textL_out (List.getElem?_eq_none_iff.2 (by omega))]
      have HER : Hid (errA l m = 30) := by show _ = _; unfold errA; rw [if_pos hme]
      clear hme
      go_wp2_with (fail)
      refine bodyPost_ret (v := .tuple #[.agg #[.int .i64 0, .int .i64 0, .string ⟨#[]⟩, .complex .f64 0 0, .slice none 0 0], .int .i64 ((m : Int)), .int .i64 30]) (by simp [results, Tryd.results36, go_sem, d0, d1, d2, d3, d4]) rfl ?_
      rw [HF.out]
      refine ⟨by show _ = _; rw [HER.out]; try (first | rfl | go_num | (congr 4; omega)), ?_⟩
      (repeat' (first | with_reducible assumption | with_reducible refine Below.set_own ?_ ?_ | (dsimp only; omega)))
end Go.Proofs.YtbafplnolmdlnaaDoor
