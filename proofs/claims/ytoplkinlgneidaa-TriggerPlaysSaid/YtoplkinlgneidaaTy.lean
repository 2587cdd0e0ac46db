/-
TriggerPlays.
-/
import Derived.Test.YtoplkinlgneidaaTx
set_option linter.unusedVariables false
namespace Go.Proofs.Ytoplkinlgneidaa
open Go.RowKit

set_option maxRecDepth 100000 in
set_option maxHeartbeats 4000000 in
theorem plays_bad (E L T : Int) (a : Bool) (v : Value) (l : List Inf) (w : World) (h : IsAt w (fun _ => True) v l) (hs : ¬ SpecOk E L T) : Calls Try.prog 3 #[.agg #[.int .i64 E, .int .i64 L, .int .i64 T, .bool a], v] w fun e w' => e = .returned (.bool true) ∧ Below w.heap.size w w' := by
  have HN := fun w => Lib.hid (tnew_no E L T a w hs)
  have HC := fun w => Lib.hid (check_no E L T a w hs)
  have hr : RightB E L T = false := decide_eq_false hs
  have HR := fun w => Lib.hid (right_any E L T a w)
  rw [hr] at HR
  have HA := fun w => Lib.hid (tawake_any w)
  obtain ⟨ad, c, rfl, hlc, _⟩ := h
  clear hs hr
  go_enter Try.func3, Try.ntmps3
  go_upto_region 1 with (fail)
  have hb : ((w.alloc (.cells #[.int .i64 E, .int .i64 L, .int .i64 T, .bool a] 23))).heap[w.heap.size]? = some (.cells #[.int .i64 E, .int .i64 L, .int .i64 T, .bool a] 23 (0, 0)) := heap_alloc_new w _
  obtain ⟨b0, b1, b2, b3⟩ := spec_cells hb
  have hbl := cell_lt hb
  have HB := Lib.hid hb
  clear hb
  go_wp2_with (first
    | (go_at_call 8; (with_reducible refine (HN _).out.mono ?_); rintro e w1 ⟨rfl, hB⟩; obtain ⟨b0, b1, b2, b3⟩ := spec_cells ((hB.block _ hbl).trans HB.out); have HBw : Hid (Below w.heap.size w w1) := Lib.hid (((Below.refl _ w).alloc (Nat.le_refl _) _).trans (hB.mono (by simp))); have hbl1 : w.heap.size < w1.heap.size := Nat.lt_of_lt_of_le hbl hB.size; clear hB)
    | (go_at_call 9; (with_reducible refine (HR _).out.mono ?_); rintro e w2 ⟨rfl, rfl⟩)
    | (go_at_call 10; (with_reducible refine (HC _).out.mono ?_); rintro e w2 ⟨rfl, rfl⟩)
    | (go_at_call 11; (with_reducible refine (HA _).out.mono ?_); rintro e w3 ⟨rfl, hb3⟩; have HB3 := Lib.hid hb3; clear hb3))
  go_ret
  have h1 := HBw.out.alloc HBw.out.size (.cells #[.int .i64 E, .int .i64 L, .int .i64 T, .bool a] 30)
  have h2 := h1.alloc h1.size (.cells #[.int .i64 E, .int .i64 L, .int .i64 T, .bool a] 23)
  exact ⟨rfl, h2.trans (HB3.out.mono h2.size)⟩

set_option maxRecDepth 100000 in
set_option maxHeartbeats 8000000 in
theorem plays_good (E L T : Int) (a : Bool) (v : Value) (l : List Inf) (w : World) (h : IsAt w (fun _ => True) v l) (hs : SpecOk E L T) (hl : l.length * 24 ≤ 140737488351232) : Calls Try.prog 3 #[.agg #[.int .i64 E, .int .i64 L, .int .i64 T, .bool a], v] w fun e w' => e = .returned (.bool true) ∧ Below w.heap.size w w' := by
  have HN := Lib.hid (tnew_yes E L T a (w.alloc (.cells #[.int .i64 E, .int .i64 L, .int .i64 T, .bool a] 23)) hs)
  have HC := fun w => Lib.hid (check_yes E L T a w hs)
  have hr : RightB E L T = true := decide_eq_true hs
  have HR := fun w => Lib.hid (right_any E L T a w)
  rw [hr] at HR
  have HA := fun w => Lib.hid (tawake_any w)
  have HSP := Lib.hid hs
  obtain ⟨ad, cp, rfl, hlc, hcells⟩ := h
  have HCELLS := Lib.hid hcells
  clear hs hcells hr
  go_enter Try.func3, Try.ntmps3
  go_upto_region 1 with (fail)
  have hb : ((w.alloc (.cells #[.int .i64 E, .int .i64 L, .int .i64 T, .bool a] 23))).heap[w.heap.size]? = some (.cells #[.int .i64 E, .int .i64 L, .int .i64 T, .bool a] 23 (0, 0)) := heap_alloc_new w _
  obtain ⟨b0, b1, b2, b3⟩ := spec_cells hb
  have hbl := cell_lt hb
  have HB := Lib.hid hb
  clear hb
  go_upto_region 7 with (first
    | (go_at_call 8; (with_reducible refine HN.out.mono ?_); rintro e w1 ⟨m, g, rfl, hm, hg, hM, hB⟩; have hbx := (hB.block _ hbl).trans HB.out; obtain ⟨b0, b1, b2, b3⟩ := spec_cells hbx; have HBX := Lib.hid hbx; have HM1 : Hid (Mc w1 m g E L T a ([] : List Inf).length (stgL []) 0 false false) := Lib.hid hM; have HB1 : Hid (Below w.heap.size w w1) := Lib.hid (((Below.refl _ w).alloc (Nat.le_refl _) _).trans (hB.mono (by simp))); have hbl1 : w.heap.size < w1.heap.size := Nat.lt_of_lt_of_le hbl hB.size; have hmw : w.heap.size + 1 ≤ m := (by simp at hm; omega); have hgw : w.heap.size + 1 ≤ g := (by simp at hg; omega); clear hM hB HN hm hg hbx)
    | (go_at_call 9; (with_reducible refine (HR _).out.mono ?_); rintro e w2 ⟨rfl, rfl⟩)
    | (go_at_call 10; (with_reducible refine (HC _).out.mono ?_); rintro e w2 ⟨rfl, rfl⟩)
    | fail)
  have hbel : Below w1.heap.size w1 (((w1.alloc (.cells #[.int .i64 E, .int .i64 L, .int .i64 T, .bool a] 30)).alloc (.cells #[.int .i64 E, .int .i64 L, .int .i64 T, .bool a] 23)).alloc (.cells #[.int .i64 E, .int .i64 L, .int .i64 T, .bool a, .slice none 0 0, .int .i64 0, .bool false, .bool false] 36)) := (((Below.refl _ w1).alloc (Nat.le_refl _) _).alloc (by simp) _).alloc (by simp; omega) _
  have hxa : (((w1.alloc (.cells #[.int .i64 E, .int .i64 L, .int .i64 T, .bool a] 30)).alloc (.cells #[.int .i64 E, .int .i64 L, .int .i64 T, .bool a] 23)).alloc (.cells #[.int .i64 E, .int .i64 L, .int .i64 T, .bool a, .slice none 0 0, .int .i64 0, .bool false, .bool false] 36)).heap[w1.heap.size + 2]? = some (.cells (xcs E L T a (.slice none 0 0) 0 false false) 36 (0, 0)) := heap_new_at (by simp)
  have hsz : w1.heap.size + 3 ≤ (((w1.alloc (.cells #[.int .i64 E, .int .i64 L, .int .i64 T, .bool a] 30)).alloc (.cells #[.int .i64 E, .int .i64 L, .int .i64 T, .bool a] 23)).alloc (.cells #[.int .i64 E, .int .i64 L, .int .i64 T, .bool a, .slice none 0 0, .int .i64 0, .bool false, .bool false] 36)).heap.size := by simp
  generalize ((w1.alloc (.cells #[.int .i64 E, .int .i64 L, .int .i64 T, .bool a] 30)).alloc (.cells #[.int .i64 E, .int .i64 L, .int .i64 T, .bool a] 23)).alloc (.cells #[.int .i64 E, .int .i64 L, .int .i64 T, .bool a, .slice none 0 0, .int .i64 0, .bool false, .bool false] 36) = W0 at hbel hxa hsz ⊢
  have hm1 := cell_lt HM1.out.cells
  have hg1 := cell_lt HM1.out.line
  obtain ⟨x, hx⟩ : ∃ x, x = w1.heap.size + 2 := ⟨_, rfl⟩
  rw [← hx] at hxa ⊢
  obtain ⟨B, hB⟩ : ∃ B, B = w1.heap.size + 3 := ⟨_, rfl⟩
  have hxB : x < B := by omega
  have hmB : m < B := by omega
  have hgB : g < B := by omega
  have hxm : x ≠ m := by omega
  have hxg : x ≠ g := by omega
  have hxw : w.heap.size + 1 ≤ x := by omega
  have HX0 : Hid (Xc W0 x B E L T a (.slice none 0 0) [] 0 false false) := Lib.hid ⟨hxa, World.ownsRow_nil _ _ _ _, hxB⟩
  have HM0 := Lib.hid (HM1.out.low hbel hm1 hg1)
  have HBX0 := Lib.hid ((hbel.block _ hbl1).trans HBX.out)
  have hBW : B ≤ W0.heap.size := by omega
  have HB0 : Hid (Below w.heap.size w W0) := Lib.hid (HB1.out.trans (hbel.mono HB1.out.size))
  clear hx hB hxa hbel hsz
  go_wp2
  go_loopw [48] (fun iv wr => ∃ (j : Nat) (d : List Inf) (fr : Int) (p c : Bool) (dv : Value), iv = .int .i64 (j : Int) ∧ j ≤ l.length ∧ d.length ≤ j ∧ fr ≤ 2000 * (j : Int) ∧ Hid (Inv d fr p c) ∧ Hid (Mc wr m g E L T a d.length (stgL d) fr p c) ∧ Hid (Xc wr x B E L T a dv d fr p c) ∧ Hid (wr.heap[w.heap.size]? = some (.cells #[.int .i64 E, .int .i64 L, .int .i64 T, .bool a] 23 (0, 0))) ∧ Hid (Below w.heap.size w wr) ∧ B ≤ wr.heap.size) (fun iv _ => l.length - (intOf iv).toNat)
  case atStart => exact ⟨0, [], 0, false, false, _, rfl, Nat.zero_le _, Nat.le_refl _, by omega, Lib.hid .nil, HM0, HX0, HBX0, HB0, hBW⟩
  case round =>
    obtain ⟨j, d, fr, p, c, dv, rfl, hj, hdj, hfr, HI, HM, HX, HBXr, HBr, hBr⟩ := hrel
    have hsr := HBr.out.size
    by_cases hlt : j < l.length
    · obtain ⟨b, o, rfl, _, hb2, hcl⟩ := HCELLS.out (by omega)
      have hx := List.getElem?_eq_getElem hlt
      obtain ⟨c0, c1, c2⟩ := hcl j _ hx
      generalize l[j] = xx at *
      obtain ⟨k, q, old⟩ := xx
      dsimp only at c0 c1 c2
      have c0 := (HBr.out.cell (p := ⟨b, o + j * 3, none⟩) hb2).trans c0
      have c1 := (HBr.out.cell (p := ⟨b, o + j * 3 + 1, none⟩) hb2).trans c1
      have c2 := (HBr.out.cell (p := ⟨b, o + j * 3 + 2, none⟩) hb2).trans c2
      have hbr : b < wr.heap.size := by omega
      have hj0' : (0 : Int) ≤ (j : Int) := by omega
      have hj1' : (j : Int) < (l.length : Int) := by omega
      obtain ⟨z0, z1, z2, z3⟩ := spec_cells HBXr.out
      have hzl := cell_lt HBXr.out
      clear hx hcl
      have hA : Below wr.heap.size wr (wr.alloc (.cells #[.int .i64 k, .int .i64 q, .bool old] 38)) := (Below.refl _ wr).alloc (Nat.le_refl _) _
      have HST := Lib.hid (step_any m g x B E L T a dv d fr p c k q old (wr.alloc (.cells #[.int .i64 k, .int .i64 q, .bool old] 38)) (HM.out.low hA (cell_lt HM.out.cells) (cell_lt HM.out.line)) (HX.out.below hA) HI.out HSP.out hmB hgB ⟨hxm, hxg⟩ (by simp; omega) (by omega) (by omega))
      have HA' := Lib.hid hA
      clear hA
      go_wp2_with (go_at_call 12; (with_reducible refine HST.out.mono ?_); rintro e w2 ⟨rfl, d', fr', p', c', dv', hI, hM, hX, hd, hf, hb⟩; have HI2 := Lib.hid hI; have HM2 := Lib.hid hM; have HX2 := Lib.hid hX; have HBB := Lib.hid hb; clear hI hM hX hb)
      go_roundw
      case rel =>
        have h0 := HBB.out (w.heap.size + 1) hmw hgw hxw
        have hA1 := (HA'.out.mono (show w.heap.size + 1 ≤ wr.heap.size by omega)).trans h0
        have hsB := (HBB.out B)
        exact ⟨j + 1, d', fr', p', c', dv', by go_num, by omega, by omega, by omega, HI2, HM2, HX2, Lib.hid ((hA1.block _ (by omega)).trans HBXr.out), Lib.hid (HBr.out.trans (hA1.mono (by omega))), Nat.le_trans hBr hA1.size⟩
      case measure => simp [intOf]; omega
    · obtain rfl : j = l.length := by omega
      have HJ := fun w' => Lib.hid (join_self m w')
      go_wp2_with (first
        | (go_at_call 13; (with_reducible refine (HJ _).out.mono ?_); rintro e w2 ⟨rfl, rfl⟩)
        | (go_at_call 11; (with_reducible refine (HA _).out.mono ?_); rintro e w3 ⟨rfl, hb3⟩; have HB3 := Lib.hid hb3; clear hb3))
      go_ret
      exact ⟨rfl, HBr.out.trans (HB3.out.mono hsr)⟩

theorem plays_true (E L T : Int) (a : Bool) (v : Value) (l : List Inf) (w : World) (h : IsAt w (fun _ => True) v l) (hl : l.length * 24 ≤ 140737488351232) : Calls Try.prog 3 #[.agg #[.int .i64 E, .int .i64 L, .int .i64 T, .bool a], v] w fun e w' => e = .returned (.bool true) ∧ Below w.heap.size w w' := by
  by_cases hs : SpecOk E L T
  · exact plays_good E L T a v l w h hs hl
  · exact plays_bad E L T a v l w h hs

end Go.Proofs.Ytoplkinlgneidaa
