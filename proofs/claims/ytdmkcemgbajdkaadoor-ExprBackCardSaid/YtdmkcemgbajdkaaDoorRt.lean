/-
Package expr: readType; what is asked of layer 2's reader.
-/
import Derived.Test.YtdmkcemgbajdkaaDoorKc
import Derived.Test.YtdmkcemgbajdkaaDoorPt
namespace Go.Proofs.YtdmkcemgbajdkaaDoor
open Go.RowKit

theorem kp_le : ∀ x k, Knd.parseT x = (k, none) → k ≤ x.length := fun _ _ h => (Knd.parseT_bad h).1
theorem kp_ok : KpOk Knd.parseT := by
  refine ⟨kp_le, fun x x' k h hs => ?_, fun x k h => ?_⟩
  · obtain ⟨h1, _, h3⟩ := Knd.parseT_bad h
    rcases Nat.lt_or_ge k x.length with hlt | hge
    · have e : x' = x.take (k + 1) ++ x'.drop (k + 1) := by
        have e1 : x'.take (k + 1) = x.take (k + 1) := by
          apply List.ext_getElem?
          intro j
          rw [List.getElem?_take, List.getElem?_take]
          split
          · exact hs j (by omega)
          · rfl
        rw [← e1, List.take_append_drop]
      rw [e]
      exact h3 hlt _
    · have hk : k = x.length := by omega
      have hnone : x'[k]? = none := by rw [hs k (Nat.le_refl _), List.getElem?_eq_none_iff]; omega
      have hl' := List.getElem?_eq_none_iff.1 hnone
      have e : x' = x := by
        apply List.ext_getElem?
        intro j
        rcases Nat.lt_or_ge j (k + 1) with hj | hj
        · exact hs j (by omega)
        · have e1 : x'[j]? = none := List.getElem?_eq_none_iff.2 (by omega)
          have e2 : x[j]? = none := List.getElem?_eq_none_iff.2 (by omega)
          rw [e1, e2]
      rw [e]
      exact h
  · rcases (Knd.parseT_bad h).2.1 with h | ⟨t, h⟩
    · exact .inr h
    · exact .inl ⟨_, t, h⟩

theorem bl_from (s : ByteArray) (m : Nat) : (s.extract m s.size).data.toList = (bl s).drop m := by
  unfold bl
  simp [ByteArray.data_extract, Array.toList_extract, List.extract, List.take_of_length_le]
theorem bl_to (s : ByteArray) (k : Nat) : (s.extract 0 k).data.toList = (bl s).take k := by
  unfold bl
  simp [ByteArray.data_extract, Array.toList_extract, List.extract]
theorem bl_data (s : ByteArray) : s.data.toList = bl s := rfl

set_option maxRecDepth 100000 in
set_option maxHeartbeats 4000000 in
theorem readType_any (R : Nat) (s : ByteArray) (m : Nat) (w : World) (hR : 2 < R) (hG : Knd.Glob w) (h : Rdr w R s m) :
    Calls Tryd.prog 65 #[.pointer (some ⟨R, 0, none⟩)] w fun e w' => TOut R s w e w' (typR Knd.parseT (bl s) m) := by
  have hGl := hG.lt
  have hlen := h.len
  have hle := h.le
  have hRl := h.lt
  have c0 := cell2_0 h.box
  have c1 := cell2_1 h.box
  have HR := Lib.hid h
  have HG := Lib.hid hG
  obtain ⟨rs, hrs⟩ : ∃ rs, rs = s.extract m s.size := ⟨_, rfl⟩
  have hrz : rs.size = s.size - m := by rw [hrs]; simp
  have HRB : Hid (rs.data.toList = (bl s).drop m) := by show _ = _; rw [hrs, bl_from]
  clear h hG
  go_enter Tryd.func65, Tryd.ntmps65
  go_wp2_with (fail)
  go_quiet ((fail))
  rw [← hrs]
  go_wp2_with (fail)
  have hb1 : Below w.heap.size w ((w.alloc (.cells #[.int .i64 0, .slice none 0 0] 25)).drewN nq) := below_drewN ((Below.refl _ _).alloc (Nat.le_refl _) _) _
  have HC : Hid (((w.alloc (.cells #[.int .i64 0, .slice none 0 0] 25)).drewN nq).heap[w.heap.size]? = some (.cells #[.int .i64 0, .slice none 0 0] 25 (0, 0))) := heap_alloc_new w _
  have hs1 : ((w.alloc (.cells #[.int .i64 0, .slice none 0 0] 25)).drewN nq).heap.size = w.heap.size + 1 := by show (w.alloc _).heap.size = _; simp
  rw [← hrs]
  generalize (w.alloc (.cells #[.int .i64 0, .slice none 0 0] 25)).drewN nq = w1 at *
  have HG1 := Lib.hid (HG.out.kept (hb1.block 2 hGl))
  have HR1 := Lib.hid (HR.out.below hb1)
  refine (Knd.parse_any rs w1 (by omega) HG1.out).mono ?_
  rw [HRB.out]
  cases hp : Knd.parseT ((bl s).drop m) with
  | mk k o =>
  cases o with
  | some t =>
    have HF : Hid (typR Knd.parseT (bl s) m = (s.size, some t)) := by show _ = _; unfold typR; rw [hp, bl_length]
    clear hp
    rintro e w2 ⟨⟨v, rfl, hT⟩, hb2⟩
    obtain ⟨A, c, rfl⟩ := hT.form
    have HT := Lib.hid hT
    have HR2 := Lib.hid (HR1.out.below hb2)
    have HO2 : Hid (Only R w w2) := (Only.of_below hb1).trans (Only.of_below hb2)
    have HC2 := Lib.hid ((hb2.block w.heap.size (by omega)).trans HC.out)
    have x0 := cell2_0 HR2.out.box
    have x1 := cell2_1 HR2.out.box
    have xf := cell3_f HR2.out.box 1
    have y0 := cell2_0 HC2.out
    have y1 := cell2_1 HC2.out
    have yf0 := cell3_f HC2.out 0
    have yf1 := cell3_f HC2.out 1
    have hl2 := cell_lt HC2.out
    have hl3 := cell_lt HR2.out.box
    clear hT hb2 c0 c1
    go_wp2_with (fail)
    refine bodyPost_ret (v := .tuple #[.agg #[.int .i64 t.kind, .slice A t.args.length c], .bool true]) (by simp [results, Tryd.results65, go_sem, y0, y1, hl2]) rfl ?_
    rw [HF.out]
    have hoo := HO2.out
    have hrr := HR2.out.go s.size (Nat.le_refl _)
    refine ⟨t.kind, A, t.args.length, c, true, rfl, ?_, ?_, rfl, fun t' ht => ?_⟩
    · refine Only.more (Only.far (p := ⟨w.heap.size, 1, none⟩) (Nat.le_refl _) (Only.far (p := ⟨w.heap.size, 0, none⟩) (Nat.le_refl _) (hoo.trans (Only.set_ R 1 w2 _))))
    · exact Rdr.more (Rdr.far (p := ⟨w.heap.size, 1, none⟩) (by show R ≠ w.heap.size; omega) (Rdr.far (p := ⟨w.heap.size, 0, none⟩) (by show R ≠ w.heap.size; omega) hrr))
    · cases ht
      refine ⟨rfl, rfl, 6, TyAt.move (fun b hb hl => ?_) _ _ _ HT.out⟩
      have hb' : w.heap.size + 1 ≤ b := by omega
      refine ⟨by omega, fun o => World.cell?_of_block ?_⟩
      rw [Below.heap_alloc _ _ _ (by simp only [setCell_heap_size]; exact hl), Below.heap_setCell _ _ _ _ (by show b ≠ w.heap.size; omega), Below.heap_setCell _ _ _ _ (by show b ≠ w.heap.size; omega), Below.heap_setCell _ _ _ _ (by show b ≠ R; omega)]
  | none =>
    have hk := (Knd.parseT_bad hp).1
    rw [List.length_drop, bl_length] at hk
    have HP := Lib.hid hp
    clear hp
    rintro e w2 ⟨he, hb2⟩
    obtain rfl : e = .returned (.tuple #[.agg #[.int .i64 0, .slice none 0 0], .int .i64 (k : Int), .int .i64 40]) := he
    have HR2 := Lib.hid (HR1.out.below hb2)
    have HO2 : Hid (Only R w w2) := (Only.of_below hb1).trans (Only.of_below hb2)
    have HC2 := Lib.hid ((hb2.block w.heap.size (by omega)).trans HC.out)
    have x0 := cell2_0 HR2.out.box
    have x1 := cell2_1 HR2.out.box
    have xf := cell3_f HR2.out.box 1
    have hl2 := cell_lt HC2.out
    have hl3 := cell_lt HR2.out.box
    clear hb2 c0 c1
    have hkk : (k : Int) ≤ (rs.size : Int) := by omega
    go_wp2_with (fail)
    rw [← hrs]
    obtain ⟨u, hu⟩ : ∃ u, u = rs.extract 0 k := ⟨_, rfl⟩
    have huz : u.size ≤ 1000000 := by rw [hu]; simp; omega
    have HUB : Hid (u.data.toList = ((bl s).drop m).take k) := by show _ = _; rw [hu, bl_to, ← bl_data, HRB.out]
    have HR3 : Hid (Rdr (w2.setCell ⟨R, 1, none⟩ (.int .i64 ((m : Int) + (k : Int)))) R s (m + k)) := by
      have := HR2.out.go (m + k) (by omega)
      rw [Int.natCast_add] at this
      exact this
    have HO3 := Lib.hid (HO2.out.trans (Only.set_ R 1 w2 (.int .i64 ((m : Int) + (k : Int)))))
    have HC3 := Lib.hid ((Below.heap_setCell w2 ⟨R, 1, none⟩ (.int .i64 ((m : Int) + (k : Int))) w.heap.size (by show w.heap.size ≠ R; omega)).trans HC2.out)
    rw [← hu]
    clear hu x0 x1 xf
    have hw3s : (w2.setCell ⟨R, 1, none⟩ (.int .i64 ((m : Int) + (k : Int)))).heap.size = w2.heap.size := by simp
    generalize w2.setCell ⟨R, 1, none⟩ (.int .i64 ((m : Int) + (k : Int))) = w3 at *
    have hs3 := HO3.out.size
    have HG3 := Lib.hid (HG.out.kept (HO3.out.block 2 hGl (by simp; omega)))
    have HR4 := Lib.hid (Rdr.more (o := .cells #[.int .i64 0, .slice none 0 0] 25) HR3.out)
    have HO4 := Lib.hid (Only.more (o := .cells #[.int .i64 0, .slice none 0 0] 25) HO3.out)
    have hl3' := cell_lt HC3.out
    have HC4 := Lib.hid ((Below.heap_alloc w3 (.cells #[.int .i64 0, .slice none 0 0] 25) _ hl3').trans HC3.out)
    have HG4 := Lib.hid (HG3.out.kept (Below.heap_alloc w3 (.cells #[.int .i64 0, .slice none 0 0] 25) 2 (by omega)))
    have HT4 : Hid ((w3.alloc (.cells #[.int .i64 0, .slice none 0 0] 25)).heap[w2.heap.size]? = some (.cells #[.int .i64 0, .slice none 0 0] 25 (0, 0))) := by
      have := heap_alloc_new w3 (.cells #[.int .i64 0, .slice none 0 0] 25)
      rw [hw3s] at this
      exact this
    have hs4 : (w3.alloc (.cells #[.int .i64 0, .slice none 0 0] 25)).heap.size = w3.heap.size + 1 := by simp
    generalize w3.alloc (.cells #[.int .i64 0, .slice none 0 0] 25) = w4 at *
    refine (Knd.parse_any u w4 huz HG4.out).mono ?_
    rw [HUB.out]
    have HF : Hid (typR Knd.parseT (bl s) m = (m + k, (Knd.parseT (((bl s).drop m).take k)).2)) := by show _ = _; unfold typR; rw [HP.out]
    cases hp2 : Knd.parseT (((bl s).drop m).take k) with
    | mk k2 o2 =>
    cases o2 with
    | none =>
      have HF2 : Hid (typR Knd.parseT (bl s) m = (m + k, none)) := by show _ = _; rw [HF.out, hp2]
      clear hp2
      rintro e w5 ⟨he, hb5⟩
      obtain rfl : e = .returned (.tuple #[.agg #[.int .i64 0, .slice none 0 0], .int .i64 (k2 : Int), .int .i64 40]) := he
      have HR5 := Lib.hid (HR4.out.below hb5)
      have HO5 : Hid (Only R w w5) := HO4.out.trans (Only.of_below hb5)
      have HC5 := Lib.hid ((hb5.block w.heap.size (by omega)).trans HC4.out)
      have y0 := cell2_0 HC5.out
      have y1 := cell2_1 HC5.out
      have yf0 := cell3_f HC5.out 0
      have yf1 := cell3_f HC5.out 1
      have hl5 := cell_lt HC5.out
      have HT5 := Lib.hid ((hb5.block w2.heap.size (by omega)).trans HT4.out)
      have t0 := cell2_0 HT5.out
      have t1 := cell2_1 HT5.out
      have tf0 := cell3_f HT5.out 0
      have tf1 := cell3_f HT5.out 1
      have tl5 := cell_lt HT5.out
      clear hb5
      go_wp2_with (fail)
      refine bodyPost_ret (v := .tuple #[.agg #[.int .i64 0, .slice none 0 0], .bool false]) (by simp [results, Tryd.results65, go_sem, y0, y1]) rfl ?_
      rw [HF2.out]
      have hoo := HO5.out
      have hrr := HR5.out
      refine ⟨0, none, 0, 0, false, rfl, ?_, ?_, rfl, fun t' ht => by cases ht⟩
      · (repeat' (first | with_reducible assumption | with_reducible refine Only.far ?_ ?_ | with_reducible refine Only.more ?_ | (dsimp only; omega)))
      · (repeat' (first | with_reducible assumption | with_reducible refine Rdr.far ?_ ?_ | with_reducible refine Rdr.more ?_ | (dsimp only; omega)))
    | some t =>
      have HF2 : Hid (typR Knd.parseT (bl s) m = (m + k, some t)) := by show _ = _; rw [HF.out, hp2]
      clear hp2
      rintro e w5 ⟨⟨v, rfl, hT⟩, hb5⟩
      obtain ⟨A, c, rfl⟩ := hT.form
      have HT := Lib.hid hT
      have HR5 := Lib.hid (HR4.out.below hb5)
      have HO5 : Hid (Only R w w5) := HO4.out.trans (Only.of_below hb5)
      have HC5 := Lib.hid ((hb5.block w.heap.size (by omega)).trans HC4.out)
      have y0 := cell2_0 HC5.out
      have y1 := cell2_1 HC5.out
      have yf0 := cell3_f HC5.out 0
      have yf1 := cell3_f HC5.out 1
      have hl5 := cell_lt HC5.out
      have HT5 := Lib.hid ((hb5.block w2.heap.size (by omega)).trans HT4.out)
      have t0 := cell2_0 HT5.out
      have t1 := cell2_1 HT5.out
      have tf0 := cell3_f HT5.out 0
      have tf1 := cell3_f HT5.out 1
      have tl5 := cell_lt HT5.out
      clear hb5 hT
      go_wp2_with (fail)
      refine bodyPost_ret (v := .tuple #[.agg #[.int .i64 t.kind, .slice A t.args.length c], .bool true]) (by simp [results, Tryd.results65, go_sem, y0, y1]) rfl ?_
      rw [HF2.out]
      have hoo := HO5.out
      have hrr := HR5.out
      refine ⟨t.kind, A, t.args.length, c, true, rfl, ?_, ?_, rfl, fun t' ht => ?_⟩
      · (repeat' (first | with_reducible assumption | with_reducible refine Only.far ?_ ?_ | with_reducible refine Only.more ?_ | (dsimp only; omega)))
      · (repeat' (first | with_reducible assumption | with_reducible refine Rdr.far ?_ ?_ | with_reducible refine Rdr.more ?_ | (dsimp only; omega)))
      · cases ht
        refine ⟨rfl, rfl, 6, TyAt.move (fun b hb hl => ⟨by omega, fun o => World.cell?_of_block ?_⟩) _ _ _ HT.out⟩
        rw [Below.heap_setCell _ _ _ _ (by show b ≠ w.heap.size; omega), Below.heap_setCell _ _ _ _ (by show b ≠ w.heap.size; omega), Below.heap_setCell _ _ _ _ (by show b ≠ w2.heap.size; omega), Below.heap_setCell _ _ _ _ (by show b ≠ w2.heap.size; omega)]
end Go.Proofs.YtdmkcemgbajdkaaDoor
