/-
Put of the document's reading.
-/
import Derived.Test.YtofollamkcgknaaDoorGq
import Derived.Test.YtofollamkcgknaaDoorVo
set_option linter.unusedVariables false
namespace Go.Proofs.YtofollamkcgknaaDoor
open Go.RowKit

theorem own_low {w w' : World} {B e size n : Nat} {v : Value} {xs : List Value} (h : w.ownsRow B e size v n xs) (hb : Below w.heap.size w w') : w'.ownsRow B e size v n xs := by
  obtain ⟨h1, h2⟩ := h
  refine ⟨h1, ?_⟩
  rcases h2 with h0 | ⟨g, cap, cur, hv, hg, hgg, hr⟩
  · exact .inl h0
  · exact .inr ⟨g, cap, cur, hv, hg, (hb.block g (cell_lt hgg)).trans hgg, hr⟩

theorem putW_length (A : List Wn) (y : Wn) : (putW A y).length = A.length + 1 := by rw [(putW_perm A y).length_eq]; rfl

/-- How far Put has come: the windows before the j-th, with the new one among them as soon as one of them stands after it. -/
def ptA (l : List Wn) (y : Wn) (j : Nat) (b : Bool) : List Wn := bif b then putW (l.take j) y else l.take j

theorem ptA_length (l : List Wn) (y : Wn) (j : Nat) (hj : j ≤ l.length) (b : Bool) : (ptA l y j b).length ≤ j + 1 ∧ (b = false → (ptA l y j b).length = j) := by
  cases b
  · simp [ptA]; omega
  · simp [ptA, putW_length]; omega

theorem pt_yes {l : List Wn} {y x : Wn} {j : Nat} (hT : l.take (j + 1) = l.take j ++ [x]) (hb : (l.take j).any (lsB y) = true) : (l.take (j + 1)).any (lsB y) = true ∧ ptA l y (j + 1) true = ptA l y j true ++ [x] := by
  constructor
  · rw [hT, List.any_append, hb]; rfl
  · show putW (l.take (j + 1)) y = putW (l.take j) y ++ [x]
    rw [hT, putW_snoc, if_pos hb]

theorem pt_now {l : List Wn} {y x : Wn} {j : Nat} (hT : l.take (j + 1) = l.take j ++ [x]) (hb : (l.take j).any (lsB y) = false) (hx : lsB y x = true) : (l.take (j + 1)).any (lsB y) = true ∧ ptA l y (j + 1) true = (ptA l y j false ++ [y]) ++ [x] := by
  constructor
  · rw [hT, List.any_append]; simp [hx]
  · show putW (l.take (j + 1)) y = (l.take j ++ [y]) ++ [x]
    rw [hT, putW_snoc, if_neg (by rw [hb]; simp), if_pos hx]
    simp

theorem pt_no {l : List Wn} {y x : Wn} {j : Nat} (hT : l.take (j + 1) = l.take j ++ [x]) (hb : (l.take j).any (lsB y) = false) (hx : lsB y x = false) : (l.take (j + 1)).any (lsB y) = false ∧ ptA l y (j + 1) false = ptA l y j false ++ [x] := by
  constructor
  · rw [hT, List.any_append, hb]; simp [hx]
  · exact hT

set_option maxRecDepth 100000 in
set_option maxHeartbeats 4000000 in
theorem put_any (B : Nat) (v : Value) (l : List Wn) (y : Wn) (w : World) (h : WsAt w B v l) (hl : l.length ≤ 2000000) :
    Calls Tryd.prog 42 #[v, .agg #[.int .i64 y.1, .int .i64 y.2]] w fun e w' => WOut w.heap.size (putW l y) e w' ∧ Below w.heap.size w w' := by
  obtain ⟨y1, y2⟩ := y
  obtain ⟨i0, hi, hq0, hq1, hq2⟩ := info_parts Tryd.infoR
  obtain ⟨a, c, rfl, hlc, hA⟩ := h
  have HA := Lib.hid hA
  clear hA
  go_enter Tryd.func42, Tryd.ntmps42
  go_wp2
  have hbx := heap_alloc_new w (.cells #[.int .i64 y1, .int .i64 y2] 43)
  have hb0 : Below w.heap.size w (w.alloc (.cells #[.int .i64 y1, .int .i64 y2] 43)) := (Below.refl _ _).alloc (Nat.le_refl _) _
  obtain ⟨W, hW⟩ : ∃ W, W = w.alloc (.cells #[.int .i64 y1, .int .i64 y2] 43) := ⟨_, rfl⟩
  rw [← hW] at hbx hb0 ⊢
  have hWz : W.heap.size = w.heap.size + 1 := by rw [hW]; simp
  clear hW
  have HX := Lib.hid hbx
  have HBW := Lib.hid hb0
  clear hbx hb0
  go_loopw [5, 6, 7] (fun ov fl iv wr => ∃ (j : Nat) (b : Bool), iv = .int .i64 (j : Int) ∧ j ≤ l.length ∧ fl = .bool b ∧ Hid ((l.take j).any (lsB (y1, y2)) = b) ∧ Hid (wr.ownsRow W.heap.size 43 2 ov (ptA l (y1, y2) j b).length (flat (ptA l (y1, y2) j b))) ∧ Hid (Below W.heap.size W wr)) (fun _ _ i _ => l.length - (intOf i).toNat)
  case atStart => exact ⟨0, false, rfl, Nat.zero_le _, rfl, Lib.hid rfl, Lib.hid (World.ownsRow_nil _ _ _ _), Lib.hid (Below.refl _ _)⟩
  case round =>
    obtain ⟨j, fb, rfl, hj, rfl, HF, HO, HB⟩ := hrel
    have hsr := HB.out.size
    have hyb : wr.heap[w.heap.size]? = some (.cells #[.int .i64 y1, .int .i64 y2] 43 (0, 0)) := (HB.out.block _ (by omega)).trans HX.out
    have hy0 := cell2_0 hyb
    have hy1 := cell2_1 hyb
    have hyz : w.heap.size < wr.heap.size := by omega
    obtain ⟨hpl1, hpl2⟩ := ptA_length l (y1, y2) j hj fb
    by_cases hlt : j < l.length
    · obtain ⟨b, o, rfl, hb1, hb2, hcells⟩ := HA.out (by omega)
      obtain ⟨c0, c1⟩ := ws_cells hcells hlt
      have HT : Hid (l.take (j + 1) = l.take j ++ [l[j]]) := Lib.hid (by rw [List.take_succ_eq_append_getElem hlt])
      have hbw : b < W.heap.size := by omega
      have CW0 := Lib.hid ((HBW.out.cell (p := ⟨b, o + j * 2, none⟩) hb2).trans c0)
      have CW1 := Lib.hid ((HBW.out.cell (p := ⟨b, o + j * 2 + 1, none⟩) hb2).trans c1)
      have c0 := (HB.out.cell (p := ⟨b, o + j * 2, none⟩) hbw).trans CW0.out
      have c1 := (HB.out.cell (p := ⟨b, o + j * 2 + 1, none⟩) hbw).trans CW1.out
      clear hcells
      generalize l[j] = x at *
      obtain ⟨x1, x2⟩ := x
      dsimp only at c0 c1 CW0 CW1
      have hbr : b < wr.heap.size := by omega
      have hj0 : (0 : Int) ≤ (j : Int) := by omega
      have hj1 : (j : Int) < (l.length : Int) := by omega
      cases fb with
      | true =>
        go_wp2
        refine wp_region_quiet_below (by kernel_rfl) (by kernel_rfl) ?_
        repeat (go_big_quiet_step (fail))
        refine wpQuiet_nil ?_
        rintro _ ⟨⟨wc, HBc⟩, rfl⟩
        have hcz := HBc.size
        have c0 := (HBc.cell (p := ⟨b, o + j * 2, none⟩) hbr).trans c0
        have c1 := (HBc.cell (p := ⟨b, o + j * 2 + 1, none⟩) hbr).trans c1
        have HO2 := Lib.hid (own_low HO.out HBc)
        have HB2 := Lib.hid (HB.out.trans (HBc.mono hsr))
        obtain ⟨HN1, HN2⟩ := pt_yes HT.out HF.out
        have HN1 := Lib.hid HN1
        have HN2 := Lib.hid HN2
        obtain ⟨Ac, Ax, rfl⟩ := own_slice HO.out
        generalize ptA l (y1, y2) j true = A at *
        go_wp2_with (at_builtin; refine wpList_append_own _ rfl _ _ 35 rfl W.heap.size 43 i0 (.agg #[.int .i64 0, .int .i64 0]) 2 16 Tryd.underlying35 hi hq0 hq1 hq2 rfl (by decide) _ _ (flat A) rfl (HO2.out.alloc _) ⟨_, 0, none⟩ 1 1 [.int .i64 x1, .int .i64 x2] rfl rfl (cell_two_new _ _ _ _ _ rfl) (two_one _ _) (by unfold maxLen; omega) (by omega) (by simp <;> omega) ?_; intro v7 w7 hown7 hg7 _)
        have HB7 : Below W.heap.size W w7 := (HB2.out.alloc (by omega) _).grown hg7 (by simp <;> omega) fun k hk => (HO2.out.lt k hk).1
        have HO7 : Hid (w7.ownsRow W.heap.size 43 2 v7 (ptA l (y1, y2) (j + 1) true).length (flat (ptA l (y1, y2) (j + 1) true))) := Lib.hid (by
          rw [HN2.out, flat_snoc, List.length_append]
          exact hown7)
        clear hown7 hg7
        go_roundw
        case rel => exact ⟨j + 1, true, by go_num, by omega, rfl, HN1, HO7, Lib.hid HB7⟩
        case measure => simp [intOf]; omega
      | false =>
        have g0 := Wb.cell c0 hbr
        have g1 := Wb.cell c1 hbr
        have g2 := Wb.cell hy0 hyz
        have g3 := Wb.cell hy1 hyz
        cases hls : lsB (y1, y2) (x1, x2) with
        | true =>
          have HLS := Lib.hid hls
          clear hls
          go_wp2
          refine wp_region_quiet_below (by kernel_rfl) (by kernel_rfl) ?_
          repeat (go_big_quiet_step ((go_at_call 28; exact Wb.call ((rless_any (y1, y2) (x1, x2) _).mono fun e w' h => ⟨by rw [h.1, HLS.out], h.2⟩))))
          refine wpQuiet_nil ?_
          rintro _ ⟨⟨wc, HBc⟩, rfl⟩
          have hcz := HBc.size
          have c0 := (HBc.cell (p := ⟨b, o + j * 2, none⟩) hbr).trans c0
          have c1 := (HBc.cell (p := ⟨b, o + j * 2 + 1, none⟩) hbr).trans c1
          have hy0 := (HBc.cell (p := ⟨w.heap.size, 0, none⟩) hyz).trans hy0
          have hy1 := (HBc.cell (p := ⟨w.heap.size, 1, none⟩) hyz).trans hy1
          have HO2 := Lib.hid (own_low HO.out HBc)
          have HB2 := Lib.hid (HB.out.trans (HBc.mono hsr))
          obtain ⟨HN1, HN2⟩ := pt_now HT.out HF.out HLS.out
          have HN1 := Lib.hid HN1
          have HN2 := Lib.hid HN2
          obtain ⟨Ac, Ax, rfl⟩ := own_slice HO.out
          clear hpl2
          generalize ptA l (y1, y2) j false = A at *
          clear g0 g1 g2 g3
          go_wp2_with (first
            | ((at_builtin; refine wpList_append_own _ rfl _ _ 35 rfl W.heap.size 43 i0 (.agg #[.int .i64 0, .int .i64 0]) 2 16 Tryd.underlying35 hi hq0 hq1 hq2 rfl (by decide) _ _ (flat (A ++ [(y1, y2)])) rfl (HO7.out.alloc _) ⟨_, 0, none⟩ 1 1 [.int .i64 x1, .int .i64 x2] rfl rfl (cell_two_new _ _ _ _ _ rfl) (two_one _ _) (by unfold maxLen; omega) (by omega) (by simp <;> omega) ?_; intro v8 w8 hown8 hg8 _))
            | ((at_builtin; refine wpList_append_own _ rfl _ _ 35 rfl W.heap.size 43 i0 (.agg #[.int .i64 0, .int .i64 0]) 2 16 Tryd.underlying35 hi hq0 hq1 hq2 rfl (by decide) _ _ (flat A) rfl (HO2.out.alloc _) ⟨_, 0, none⟩ 1 1 [.int .i64 y1, .int .i64 y2] rfl rfl (cell_two_new _ _ _ _ _ rfl) (two_one _ _) (by unfold maxLen; omega) (by omega) (by simp <;> omega) ?_; intro v7 w7 hown7 hg7 _); have HB7 : Hid (Below W.heap.size W w7) := Lib.hid ((HB2.out.alloc (by omega) _).grown hg7 (by simp <;> omega) fun k hk => (HO2.out.lt k hk).1); have HO7 : Hid (w7.ownsRow W.heap.size 43 2 v7 (A.length + 1) (flat (A ++ [(y1, y2)]))) := Lib.hid (by rw [flat_snoc]; exact hown7); have c0 := (HB7.out.cell (p := ⟨b, o + j * 2, none⟩) hbw).trans CW0.out; have c1 := (HB7.out.cell (p := ⟨b, o + j * 2 + 1, none⟩) hbw).trans CW1.out; have hz7 := HB7.out.size; clear hown7 hg7; obtain ⟨A7, c7, rfl⟩ := own_slice HO7.out))
          have HB8 : Below W.heap.size W w8 := (HB7.out.alloc (by omega) _).grown hg8 (by simp <;> omega) fun k hk => (HO7.out.lt k hk).1
          have HO8 : Hid (w8.ownsRow W.heap.size 43 2 v8 (ptA l (y1, y2) (j + 1) true).length (flat (ptA l (y1, y2) (j + 1) true))) := Lib.hid (by
            rw [HN2.out, flat_snoc, List.length_append, List.length_append]
            exact hown8)
          clear hown8 hg8
          go_roundw
          case rel => exact ⟨j + 1, true, by go_num, by omega, rfl, HN1, HO8, Lib.hid HB8⟩
          case measure => simp [intOf]; omega
        | false =>
          have HLS := Lib.hid hls
          clear hls
          go_wp2
          refine wp_region_quiet_below (by kernel_rfl) (by kernel_rfl) ?_
          repeat (go_big_quiet_step ((go_at_call 28; exact Wb.call ((rless_any (y1, y2) (x1, x2) _).mono fun e w' h => ⟨by rw [h.1, HLS.out], h.2⟩))))
          refine wpQuiet_nil ?_
          rintro _ ⟨⟨wc, HBc⟩, rfl⟩
          have hcz := HBc.size
          have c0 := (HBc.cell (p := ⟨b, o + j * 2, none⟩) hbr).trans c0
          have c1 := (HBc.cell (p := ⟨b, o + j * 2 + 1, none⟩) hbr).trans c1
          have HO2 := Lib.hid (own_low HO.out HBc)
          have HB2 := Lib.hid (HB.out.trans (HBc.mono hsr))
          obtain ⟨HN1, HN2⟩ := pt_no HT.out HF.out HLS.out
          have HN1 := Lib.hid HN1
          have HN2 := Lib.hid HN2
          obtain ⟨Ac, Ax, rfl⟩ := own_slice HO.out
          clear hpl2
          generalize ptA l (y1, y2) j false = A at *
          clear g0 g1 g2 g3
          go_wp2_with (at_builtin; refine wpList_append_own _ rfl _ _ 35 rfl W.heap.size 43 i0 (.agg #[.int .i64 0, .int .i64 0]) 2 16 Tryd.underlying35 hi hq0 hq1 hq2 rfl (by decide) _ _ (flat A) rfl (HO2.out.alloc _) ⟨_, 0, none⟩ 1 1 [.int .i64 x1, .int .i64 x2] rfl rfl (cell_two_new _ _ _ _ _ rfl) (two_one _ _) (by unfold maxLen; omega) (by omega) (by simp <;> omega) ?_; intro v7 w7 hown7 hg7 _)
          have HB7 : Below W.heap.size W w7 := (HB2.out.alloc (by omega) _).grown hg7 (by simp <;> omega) fun k hk => (HO2.out.lt k hk).1
          have HO7 : Hid (w7.ownsRow W.heap.size 43 2 v7 (ptA l (y1, y2) (j + 1) false).length (flat (ptA l (y1, y2) (j + 1) false))) := Lib.hid (by
            rw [HN2.out, flat_snoc, List.length_append]
            exact hown7)
          clear hown7 hg7
          go_roundw
          case rel => exact ⟨j + 1, false, by go_num, by omega, rfl, HN1, HO7, Lib.hid HB7⟩
          case measure => simp [intOf]; omega
    · obtain rfl : j = l.length := by omega
      have hHF := HF.out
      rw [List.take_length] at hHF
      cases fb with
      | true =>
        have HO3 : Hid (wr.ownsRow W.heap.size 43 2 u5 (putW l (y1, y2)).length (flat (putW l (y1, y2)))) := Lib.hid (by
          have := HO.out
          unfold ptA at this
          rwa [List.take_length] at this)
        clear hHF hpl2
        go_wp2
        go_ret
        exact ⟨⟨_, rfl, (WsAt.own HO3.out).low (by omega)⟩, HBW.out.trans (HB.out.mono (by omega))⟩
      | false =>
        have HO3 : Hid (wr.ownsRow W.heap.size 43 2 u5 l.length (flat l)) := Lib.hid (by
          have := HO.out
          unfold ptA at this
          rwa [List.take_length] at this)
        have HN : Hid (putW l (y1, y2) = l ++ [(y1, y2)]) := Lib.hid (putW_none _ _ hHF)
        obtain ⟨ov, rfl⟩ : ∃ ov : Value, ov = u5 := ⟨_, rfl⟩
        clear hHF hpl2
        obtain ⟨Ac, Ax, rfl⟩ := own_slice HO.out
        go_wp2_with (at_builtin; refine wpList_append_own _ rfl _ _ 35 rfl W.heap.size 43 i0 (.agg #[.int .i64 0, .int .i64 0]) 2 16 Tryd.underlying35 hi hq0 hq1 hq2 rfl (by decide) _ _ (flat l) rfl (HO3.out.alloc _) ⟨_, 0, none⟩ 1 1 [.int .i64 y1, .int .i64 y2] rfl rfl (cell_two_new _ _ _ _ _ rfl) (two_one _ _) (by unfold maxLen; omega) (by omega) (by simp <;> omega) ?_; intro v7 w7 hown7 hg7 _)
        go_ret
        have HB7 : Below W.heap.size W w7 := (HB.out.alloc (by omega) _).grown hg7 (by simp <;> omega) fun k hk => (HO3.out.lt k hk).1
        refine ⟨⟨_, rfl, (WsAt.own (B := W.heap.size) (e := 43) ?_).low (by omega)⟩, HBW.out.trans (HB7.mono (by omega))⟩
        rw [HN.out, flat_snoc, List.length_append]
        exact hown7

end Go.Proofs.YtofollamkcgknaaDoor
