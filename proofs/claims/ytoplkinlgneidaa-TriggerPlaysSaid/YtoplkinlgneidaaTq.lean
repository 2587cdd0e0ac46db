/-
TriggerPanes.
-/
import Derived.Test.YtoplkinlgneidaaTp
set_option linter.unusedVariables false
namespace Go.Proofs.Ytoplkinlgneidaa
open Go.RowKit

theorem own_only2 {w w' : World} {B R S e size n : Nat} {v : Value} {xs : List Value} (h : w.ownsRow B e size v n xs) (ho : Only2 R S w w') (hR : R < B) (hS : S < B) : w'.ownsRow B e size v n xs := by
  obtain ⟨h1, h2⟩ := h
  refine ⟨h1, ?_⟩
  rcases h2 with h | ⟨g, cap, cur, hv, hb, hg, rest⟩
  · exact .inl h
  · exact .inr ⟨g, cap, cur, hv, hb, ho.at hg (by omega) (by omega), rest⟩

theorem one_news {B b : Nat} {w : World} {x : Inf} (h : One B w b x) : ∀ j u, [Value.int .i64 x.1, Value.int .i64 x.2.1, Value.bool x.2.2][j]? = some u → w.cell? ((⟨b, 0, none⟩ : Addr).add j) = some u := by
  intro j u hj
  rw [addr_add, Nat.zero_add]
  exact cells_at h.2 j u (by simpa using hj)

theorem flat_after (d : List Inf) (x : Inf) : flat (d ++ [x]) = flat d ++ [.int .i64 x.1, .int .i64 x.2.1, .bool x.2.2] := flat_snoc d x

set_option maxRecDepth 100000 in
set_option maxHeartbeats 4000000 in
theorem panes_bad (E L T : Int) (a : Bool) (v : Value) (l : List Inf) (w : World) (h : IsAt w (fun _ => True) v l) (hs : ¬ SpecOk E L T) : Calls Try.prog 4 #[.agg #[.int .i64 E, .int .i64 L, .int .i64 T, .bool a], v] w fun e w' => e = .returned (.bool true) ∧ Below w.heap.size w w' := by
  have HN := fun w => Lib.hid (tnew_no E L T a w hs)
  have HC := fun w => Lib.hid (check_no E L T a w hs)
  have HA := fun w => Lib.hid (tawake_any w)
  obtain ⟨ad, c, rfl, hlc, _⟩ := h
  clear hs
  go_enter Try.func4, Try.ntmps4
  go_upto_region 1 with (fail)
  have hb : ((w.alloc (.cells #[.int .i64 E, .int .i64 L, .int .i64 T, .bool a] 23))).heap[w.heap.size]? = some (.cells #[.int .i64 E, .int .i64 L, .int .i64 T, .bool a] 23 (0, 0)) := heap_alloc_new w _
  obtain ⟨b0, b1, b2, b3⟩ := spec_cells hb
  have hbl := cell_lt hb
  have HB := Lib.hid hb
  clear hb
  go_wp2_with (first
    | (go_at_call 8; (with_reducible refine (HN _).out.mono ?_); rintro e w1 ⟨rfl, hB⟩; obtain ⟨b0, b1, b2, b3⟩ := spec_cells ((hB.block _ hbl).trans HB.out); have HBw : Hid (Below w.heap.size w w1) := Lib.hid (((Below.refl _ w).alloc (Nat.le_refl _) _).trans (hB.mono (by simp))); have hbl1 : w.heap.size < w1.heap.size := Nat.lt_of_lt_of_le hbl hB.size; clear hB)
    | (go_at_call 10; (with_reducible refine (HC _).out.mono ?_); rintro e w2 ⟨rfl, rfl⟩)
    | (go_at_call 11; (with_reducible refine (HA _).out.mono ?_); rintro e w3 ⟨rfl, hb3⟩; have HB3 := Lib.hid hb3; clear hb3))
  go_ret
  have h1 := HBw.out.alloc HBw.out.size (.cells #[.int .i64 E, .int .i64 L, .int .i64 T, .bool a] 23)
  exact ⟨rfl, h1.trans (HB3.out.mono h1.size)⟩

theorem cnt_take {l : List Inf} {j : Nat} {x : Inf} (h : l[j]? = some x) : cnt (l.take (j + 1)) = cnt (l.take j) + if x.2.1 = 1 then 1 else 0 := by
  rw [take_snoc h, cnt_snoc]

theorem cnt_le (l : List Inf) (j : Nat) : cnt (l.take j) ≤ j := by
  unfold cnt
  exact Nat.le_trans (List.countP_le_length) (List.length_take_le _ _)

set_option maxRecDepth 100000 in
set_option maxHeartbeats 8000000 in
theorem panes_good (E L T : Int) (a : Bool) (v : Value) (l : List Inf) (w : World) (h : IsAt w (fun _ => True) v l) (hs : SpecOk E L T) (hl : l.length * 24 ≤ 140737488351232) : Calls Try.prog 4 #[.agg #[.int .i64 E, .int .i64 L, .int .i64 T, .bool a], v] w fun e w' => e = .returned (.bool true) ∧ Below w.heap.size w w' := by
  obtain ⟨i0, hi, hq0, hq1, hq2⟩ := info_parts Try.infoI
  have HN := Lib.hid (tnew_yes E L T a (w.alloc (.cells #[.int .i64 E, .int .i64 L, .int .i64 T, .bool a] 23)) hs)
  have HA := fun w => Lib.hid (tawake_any w)
  obtain ⟨ad, cp, rfl, hlc, hcells⟩ := h
  have HCELLS := Lib.hid hcells
  clear hs hcells
  go_enter Try.func4, Try.ntmps4
  go_upto_region 1 with (fail)
  have hb : ((w.alloc (.cells #[.int .i64 E, .int .i64 L, .int .i64 T, .bool a] 23))).heap[w.heap.size]? = some (.cells #[.int .i64 E, .int .i64 L, .int .i64 T, .bool a] 23 (0, 0)) := heap_alloc_new w _
  obtain ⟨b0, b1, b2, b3⟩ := spec_cells hb
  have hbl := cell_lt hb
  clear hb
  go_wp2_with (go_at_call 8; (with_reducible refine HN.out.mono ?_); rintro e w1 ⟨m, g, rfl, hm, hg, hM, hB⟩; have HM1 : Hid (Mc w1 m g E L T a ([] : List Inf).length (stgL []) 0 false false) := Lib.hid hM; have HB1 : Hid (Below w.heap.size w w1) := Lib.hid (((Below.refl _ w).alloc (Nat.le_refl _) _).trans (hB.mono (by simp))); have hmw : w.heap.size ≤ m := (by simp at hm; omega); have hgw : w.heap.size ≤ g := (by simp at hg; omega); have hm1 := cell_lt hM.cells; have hg1 := cell_lt hM.line; clear hM hB HN hm hg)
  go_loopw [7, 36] (fun dv iv wr => ∃ (j : Nat) (d : List Inf) (fr : Int) (p c : Bool), iv = .int .i64 (j : Int) ∧ j ≤ l.length ∧ d.length ≤ j ∧ fr ≤ 1000 * (j : Int) ∧ Hid (Inv d fr p c) ∧ Hid (Mc wr m g E L T a d.length (stgL d) fr p c) ∧ Hid (wr.ownsRow w1.heap.size 49 3 dv d.length (flat d)) ∧ Hid (Below w.heap.size w wr) ∧ w1.heap.size ≤ wr.heap.size) (fun _ iv _ => l.length - (intOf iv).toNat)
  case atStart => exact ⟨0, [], 0, false, false, rfl, Nat.zero_le _, Nat.le_refl _, by omega, Lib.hid .nil, HM1, Lib.hid (World.ownsRow_nil _ _ _ _), HB1, Nat.le_refl _⟩
  case round =>
    obtain ⟨j, d, fr, p, c, rfl, hj, hdj, hfr, HI, HM, HO, HB, hs1⟩ := hrel
    have hsr := HB.out.size
    have hmr := cell_lt HM.out.cells
    have hgr := cell_lt HM.out.line
    obtain ⟨Av, cv, rfl⟩ := own_slice HO.out
    by_cases hlt : j < l.length
    · obtain ⟨b, o, rfl, _, hb2, hcl⟩ := HCELLS.out (by omega)
      have hx := List.getElem?_eq_getElem hlt
      obtain ⟨c0, c1, c2⟩ := hcl j _ hx
      generalize l[j] = x at *
      obtain ⟨k, q, old⟩ := x
      dsimp only at c0 c1 c2
      have c0 := (HB.out.cell (p := ⟨b, o + j * 3, none⟩) hb2).trans c0
      have c1 := (HB.out.cell (p := ⟨b, o + j * 3 + 1, none⟩) hb2).trans c1
      have c2 := (HB.out.cell (p := ⟨b, o + j * 3 + 2, none⟩) hb2).trans c2
      have hbr : b < wr.heap.size := by omega
      have hj0' : (0 : Int) ≤ (j : Int) := by omega
      have hj1' : (j : Int) < (l.length : Int) := by omega
      clear hx hcl
      go_upto_region 8 with (fail)
      have hX : (wr.alloc (.cells #[.int .i64 k, .int .i64 q, .bool old] 38)).heap[wr.heap.size]? = some (.cells #[.int .i64 k, .int .i64 q, .bool old] 38 (0, 0)) := heap_alloc_new wr _
      have HM' := Lib.hid (HM.out.low ((Below.refl wr.heap.size wr).alloc (Nat.le_refl _) (.cells #[.int .i64 k, .int .i64 q, .bool old] 38)) hmr hgr)
      have HO' := Lib.hid (HO.out.alloc (.cells #[.int .i64 k, .int .i64 q, .bool old] 38))
      have HB' := Lib.hid (HB.out.alloc hsr (.cells #[.int .i64 k, .int .i64 q, .bool old] 38))
      have hsW : w1.heap.size ≤ (wr.alloc (.cells #[.int .i64 k, .int .i64 q, .bool old] 38)).heap.size := by simp; omega
      generalize wr.alloc (.cells #[.int .i64 k, .int .i64 q, .bool old] 38) = W at hX HM' HO' HB' hsW ⊢
      generalize wr.heap.size = TB at hX ⊢
      have x0 := cell3_0 hX
      have x1 := cell3_1 hX
      have x2 := cell3_2 hX
      have hxl := cell_lt hX
      clear c0 c1 c2 hX
      by_cases hk1 : k = 1
      · subst hk1
        have HC := Lib.hid (padd_any m g E L T a d fr p c q W HM'.out HI.out (by omega) (by omega))
        have HI2 := Lib.hid (HI.out.add E L q)
        have hf2 := add_fresh E L d.length fr p c q HI.out.low
        generalize addP E L d.length fr p c q = r at HC HI2 hf2
        obtain ⟨o', code, fr', p', c'⟩ := r
        cases o' with
        | none =>
          go_wp2_with (first
            | (go_at_call 14; (with_reducible refine HC.out.mono ?_); rintro e w2 ⟨V, rfl, rfl, hM2, hO2⟩; have HM2 := Lib.hid hM2; have HO2 := Lib.hid hO2; have HR2 := Lib.hid (own_only2 HO'.out hO2 hm1 hg1); clear hM2 hO2)
            | (at_builtin; refine wpList_append_own_none rfl _ _ 42 rfl w1.heap.size 49 i0 3 Try.underlying42 hi _ d.length (flat d) rfl HR2.out rfl ?_))
          go_roundw
          case rel => exact ⟨j + 1, d, fr', p', c', by go_num, by omega, by omega, (by first | omega | (dsimp only at hf2; omega)), Lib.hid (by simpa [after] using HI2.out), Lib.hid (by simpa [after] using HM2.out), HR2, Lib.hid (HB'.out.trans (HO2.out.below hmw hgw HB'.out.size)), Nat.le_trans hsW HO2.out.size⟩
          case measure => simp [intOf]; omega
        | some x =>
          go_wp2_with (first
            | (go_at_call 14; (with_reducible refine HC.out.mono ?_); rintro e w2 ⟨V, rfl, ⟨bx, rfl, hone⟩, hM2, hO2⟩; have HONE := Lib.hid hone; have HM2 := Lib.hid hM2; have HO2 := Lib.hid hO2; have HR2 := Lib.hid (own_only2 HO'.out hO2 hm1 hg1); have hs2 := hO2.size; clear hone hM2 hO2)
            | (at_builtin; refine wpList_append_own _ rfl _ _ 42 rfl w1.heap.size 49 i0 (.agg #[.int .i64 0, .int .i64 0, .bool false]) 3 24 Try.underlying42 hi hq0 hq1 hq2 rfl (by decide) _ d.length (flat d) rfl HR2.out ⟨bx, 0, none⟩ 1 1 [.int .i64 x.1, .int .i64 x.2.1, .bool x.2.2] rfl rfl (one_news HONE.out) (three_one _ _ _) (by unfold maxLen; omega) (by omega) (by omega) ?_; intro v' w7 hown7 hg7 _; have HO7 := Lib.hid hown7; have HG7 := Lib.hid hg7; clear hown7 hg7))
          go_roundw
          case rel =>
            have hM7 : Mc w7 m g E L T a (after d (some x, code, fr', p', c')).length (stgL (after d (some x, code, fr', p', c'))) fr' p' c' := ⟨HM2.out.ne, grown_at HG7.out HM2.out.cells fun kk hk e => by have := (HR2.out.lt kk hk).1; omega, grown_at HG7.out HM2.out.line fun kk hk e => by have := (HR2.out.lt kk hk).1; omega⟩
            have hB2 := HB'.out.trans (HO2.out.below hmw hgw HB'.out.size)
            exact ⟨j + 1, d ++ [x], fr', p', c', by go_num, by omega, by simp; omega, (by first | omega | (dsimp only at hf2; omega)), HI2, Lib.hid hM7, Lib.hid (by rw [flat_after, List.length_append]; exact HO7.out), Lib.hid (hB2.grown HG7.out hB2.size fun kk hk => by have := (HR2.out.lt kk hk).1; omega), Nat.le_trans (Nat.le_trans hsW hs2) HG7.out.size⟩
          case measure => simp [intOf]; omega
      have e1 : (k == 1) = false := by simp [hk1]
      by_cases hk2 : k = 2
      · subst hk2
        have HC := Lib.hid (ppass_any m g E L T a d fr p c W HM'.out HI.out (by omega))
        have HI2 := Lib.hid (HI.out.pass T)
        have hf2 := pass_fresh T d.length fr p c HI.out.low
        generalize passP T d.length fr p c = r at HC HI2 hf2
        obtain ⟨o', code, fr', p', c'⟩ := r
        cases o' with
        | none =>
          go_wp2_with (first
            | (go_at_call 15; (with_reducible refine HC.out.mono ?_); rintro e w2 ⟨V, rfl, rfl, hM2, hO2⟩; have HM2 := Lib.hid hM2; have HO2 := Lib.hid hO2; have HR2 := Lib.hid (own_only2 HO'.out hO2 hm1 hg1); clear hM2 hO2)
            | (at_builtin; refine wpList_append_own_none rfl _ _ 42 rfl w1.heap.size 49 i0 3 Try.underlying42 hi _ d.length (flat d) rfl HR2.out rfl ?_))
          go_roundw
          case rel => exact ⟨j + 1, d, fr', p', c', by go_num, by omega, by omega, (by first | omega | (dsimp only at hf2; omega)), Lib.hid (by simpa [after] using HI2.out), Lib.hid (by simpa [after] using HM2.out), HR2, Lib.hid (HB'.out.trans (HO2.out.below hmw hgw HB'.out.size)), Nat.le_trans hsW HO2.out.size⟩
          case measure => simp [intOf]; omega
        | some x =>
          go_wp2_with (first
            | (go_at_call 15; (with_reducible refine HC.out.mono ?_); rintro e w2 ⟨V, rfl, ⟨bx, rfl, hone⟩, hM2, hO2⟩; have HONE := Lib.hid hone; have HM2 := Lib.hid hM2; have HO2 := Lib.hid hO2; have HR2 := Lib.hid (own_only2 HO'.out hO2 hm1 hg1); have hs2 := hO2.size; clear hone hM2 hO2)
            | (at_builtin; refine wpList_append_own _ rfl _ _ 42 rfl w1.heap.size 49 i0 (.agg #[.int .i64 0, .int .i64 0, .bool false]) 3 24 Try.underlying42 hi hq0 hq1 hq2 rfl (by decide) _ d.length (flat d) rfl HR2.out ⟨bx, 0, none⟩ 1 1 [.int .i64 x.1, .int .i64 x.2.1, .bool x.2.2] rfl rfl (one_news HONE.out) (three_one _ _ _) (by unfold maxLen; omega) (by omega) (by omega) ?_; intro v' w7 hown7 hg7 _; have HO7 := Lib.hid hown7; have HG7 := Lib.hid hg7; clear hown7 hg7))
          go_roundw
          case rel =>
            have hM7 : Mc w7 m g E L T a (after d (some x, code, fr', p', c')).length (stgL (after d (some x, code, fr', p', c'))) fr' p' c' := ⟨HM2.out.ne, grown_at HG7.out HM2.out.cells fun kk hk e => by have := (HR2.out.lt kk hk).1; omega, grown_at HG7.out HM2.out.line fun kk hk e => by have := (HR2.out.lt kk hk).1; omega⟩
            have hB2 := HB'.out.trans (HO2.out.below hmw hgw HB'.out.size)
            exact ⟨j + 1, d ++ [x], fr', p', c', by go_num, by omega, by simp; omega, (by first | omega | (dsimp only at hf2; omega)), HI2, Lib.hid hM7, Lib.hid (by rw [flat_after, List.length_append]; exact HO7.out), Lib.hid (hB2.grown HG7.out hB2.size fun kk hk => by have := (HR2.out.lt kk hk).1; omega), Nat.le_trans (Nat.le_trans hsW hs2) HG7.out.size⟩
          case measure => simp [intOf]; omega
      have e2 : (k == 2) = false := by simp [hk2]
      by_cases hk3 : k = 3
      · subst hk3
        have HC := Lib.hid (pclose_any m g E L T a d fr p c W HM'.out HI.out (by omega))
        have HI2 := Lib.hid (HI.out.close)
        have hf2 := close_fresh d.length fr p c HI.out.low
        generalize closeP d.length fr p c = r at HC HI2 hf2
        obtain ⟨o', code, fr', p', c'⟩ := r
        cases o' with
        | none =>
          go_wp2_with (first
            | (go_at_call 16; (with_reducible refine HC.out.mono ?_); rintro e w2 ⟨V, rfl, rfl, hM2, hO2⟩; have HM2 := Lib.hid hM2; have HO2 := Lib.hid hO2; have HR2 := Lib.hid (own_only2 HO'.out hO2 hm1 hg1); clear hM2 hO2)
            | (at_builtin; refine wpList_append_own_none rfl _ _ 42 rfl w1.heap.size 49 i0 3 Try.underlying42 hi _ d.length (flat d) rfl HR2.out rfl ?_))
          go_roundw
          case rel => exact ⟨j + 1, d, fr', p', c', by go_num, by omega, by omega, (by first | omega | (dsimp only at hf2; omega)), Lib.hid (by simpa [after] using HI2.out), Lib.hid (by simpa [after] using HM2.out), HR2, Lib.hid (HB'.out.trans (HO2.out.below hmw hgw HB'.out.size)), Nat.le_trans hsW HO2.out.size⟩
          case measure => simp [intOf]; omega
        | some x =>
          go_wp2_with (first
            | (go_at_call 16; (with_reducible refine HC.out.mono ?_); rintro e w2 ⟨V, rfl, ⟨bx, rfl, hone⟩, hM2, hO2⟩; have HONE := Lib.hid hone; have HM2 := Lib.hid hM2; have HO2 := Lib.hid hO2; have HR2 := Lib.hid (own_only2 HO'.out hO2 hm1 hg1); have hs2 := hO2.size; clear hone hM2 hO2)
            | (at_builtin; refine wpList_append_own _ rfl _ _ 42 rfl w1.heap.size 49 i0 (.agg #[.int .i64 0, .int .i64 0, .bool false]) 3 24 Try.underlying42 hi hq0 hq1 hq2 rfl (by decide) _ d.length (flat d) rfl HR2.out ⟨bx, 0, none⟩ 1 1 [.int .i64 x.1, .int .i64 x.2.1, .bool x.2.2] rfl rfl (one_news HONE.out) (three_one _ _ _) (by unfold maxLen; omega) (by omega) (by omega) ?_; intro v' w7 hown7 hg7 _; have HO7 := Lib.hid hown7; have HG7 := Lib.hid hg7; clear hown7 hg7))
          go_roundw
          case rel =>
            have hM7 : Mc w7 m g E L T a (after d (some x, code, fr', p', c')).length (stgL (after d (some x, code, fr', p', c'))) fr' p' c' := ⟨HM2.out.ne, grown_at HG7.out HM2.out.cells fun kk hk e => by have := (HR2.out.lt kk hk).1; omega, grown_at HG7.out HM2.out.line fun kk hk e => by have := (HR2.out.lt kk hk).1; omega⟩
            have hB2 := HB'.out.trans (HO2.out.below hmw hgw HB'.out.size)
            exact ⟨j + 1, d ++ [x], fr', p', c', by go_num, by omega, by simp; omega, (by first | omega | (dsimp only at hf2; omega)), HI2, Lib.hid hM7, Lib.hid (by rw [flat_after, List.length_append]; exact HO7.out), Lib.hid (hB2.grown HG7.out hB2.size fun kk hk => by have := (HR2.out.lt kk hk).1; omega), Nat.le_trans (Nat.le_trans hsW hs2) HG7.out.size⟩
          case measure => simp [intOf]; omega
      have e3 : (k == 3) = false := by simp [hk3]
      clear hk1 hk2 hk3
      go_wp2_with (at_builtin; refine wpList_append_own_none rfl _ _ 42 rfl w1.heap.size 49 i0 3 Try.underlying42 hi _ d.length (flat d) rfl HO'.out rfl ?_)
      go_roundw
      case rel => exact ⟨j + 1, d, fr, p, c, by go_num, by omega, by omega, by omega, HI, HM', HO', HB', hsW⟩
      case measure => simp [intOf]; omega
    · obtain rfl : j = l.length := by omega
      have HC1 := Lib.hid (check_any _ _ d wr (IsAt.own HO.out) (by omega))
      go_wp2_with (go_at_call 17; (with_reducible refine HC1.out.mono ?_); rintro e w2 ⟨he, hb⟩; obtain rfl := chk_right HI.out.gd he; have HM2 := Lib.hid (HM.out.low hb hmr hgr); have HO2 := Lib.hid (own_low HO.out hb); have HB2 : Hid (Below w.heap.size w w2) := Lib.hid (HB.out.trans (hb.mono hsr)); clear he hb)
      have HIA := Lib.hid (IsAt.own HO2.out)
      obtain ⟨w2', hw2'⟩ : ∃ w2' : World, w2' = w2 := ⟨_, rfl⟩
      subst hw2'
      go_loopw [13, 76] (fun nv iv wr => ∃ (i : Nat), iv = .int .i64 (i : Int) ∧ i ≤ d.length ∧ nv = .int .i64 ((cnt (d.take i) : Nat) : Int) ∧ Hid (Below w2'.heap.size w2' wr)) (fun _ iv _ => d.length - (intOf iv).toNat)
      case atStart => exact ⟨0, rfl, Nat.zero_le _, rfl, Lib.hid (Below.refl _ _)⟩
      case round =>
        obtain ⟨i, rfl, hi', rfl, HBB⟩ := hrel
        have hcl := cnt_le d i
        have hCN : Hid (∀ x, d[i]? = some x → cnt (d.take (i + 1)) = cnt (d.take i) + if x.2.1 = 1 then 1 else 0) := Lib.hid fun x hx => cnt_take hx
        have HCE : Hid (i = d.length → cnt (d.take i) = cnt d) := Lib.hid fun e => by rw [e, List.take_length]
        generalize cnt (d.take i) = N at *
        by_cases hlt2 : i < d.length
        · obtain ⟨a', c', hv', _, hc'⟩ := HIA.out
          obtain ⟨bb, oo, ha', _, hbb, hcc⟩ := hc' (by omega)
          injection hv' with hv1 hv2 hv3
          subst hv1; subst ha'; subst hv3
          have hx := List.getElem?_eq_getElem hlt2
          obtain ⟨c0, c1, c2⟩ := hcc i _ hx
          have HCX := Lib.hid (hCN.out _ hx)
          generalize d[i] = x at *
          obtain ⟨x0, x1, x2⟩ := x
          dsimp only at c0 c1 c2 HCX
          have c0 := (HBB.out.cell (p := ⟨bb, oo + i * 3, none⟩) hbb).trans c0
          have c1 := (HBB.out.cell (p := ⟨bb, oo + i * 3 + 1, none⟩) hbb).trans c1
          have c2 := (HBB.out.cell (p := ⟨bb, oo + i * 3 + 2, none⟩) hbb).trans c2
          have hbr : bb < wr.heap.size := Nat.lt_of_lt_of_le hbb HBB.out.size
          have hi0' : (0 : Int) ≤ (i : Int) := by omega
          have hi1' : (i : Int) < (d.length : Int) := by omega
          clear hx hcc hc' hv2
          by_cases hx1 : x1 = 1
          · subst hx1
            go_wp2
            go_roundw
            case rel => exact ⟨i + 1, by go_num, by omega, by rw [HCX.out]; go_num, Lib.hid (HBB.out.alloc HBB.out.size _)⟩
            case measure => simp [intOf]; omega
          · have e1 : (x1 == 1) = false := by simp [hx1]
            have HX1 := Lib.hid hx1
            clear hx1
            go_wp2
            go_roundw
            case rel => exact ⟨i + 1, by go_num, by omega, by rw [HCX.out, if_neg HX1.out]; rfl, Lib.hid (HBB.out.alloc HBB.out.size _)⟩
            case measure => simp [intOf]; omega
        · obtain rfl : i = d.length := by omega
          have hone : N = if p = true then 1 else 0 := (HCE.out rfl).trans HI.out.one
          have HM3 := Lib.hid (HM2.out.low HBB.out (cell_lt HM2.out.cells) (cell_lt HM2.out.line))
          have HS := Lib.hid (state_any m g E L T a d.length (stgL d) fr p c wr HM3.out)
          have HBW : Hid (Below w.heap.size w wr) := Lib.hid (HB2.out.trans (HBB.out.mono HB2.out.size))
          have HSH := Lib.hid HI.out.shut
          cases p with
          | false =>
            obtain ⟨hst, rfl⟩ := HI.out.early rfl
            obtain rfl : N = 0 := hone
            clear hst
            go_wp2_with (first
              | (go_at_call 18; (with_reducible refine HS.out.mono ?_); rintro e w4 ⟨rfl, hb⟩; have HB4 : Hid (Below w.heap.size w w4) := Lib.hid (HBW.out.trans (hb.mono HBW.out.size)); have hz4 := HB4.out.size; clear hb)
              | (go_at_call 11; (with_reducible refine (HA _).out.mono ?_); rintro e w5 ⟨rfl, hb⟩; have HB5 := Lib.hid hb; clear hb))
            go_ret
            have h1 := HB4.out.alloc HB4.out.size (.cells #[.int .i64 (d.length : Int), .int .i64 (stgL d), .int .i64 fr, .bool false, .bool false] 51)
            exact ⟨rfl, h1.trans (HB5.out.mono h1.size)⟩
          | true =>
            obtain rfl : N = 1 := hone
            cases c with
            | false =>
              go_wp2_with (first
                | (go_at_call 18; (with_reducible refine HS.out.mono ?_); rintro e w4 ⟨rfl, hb⟩; have HB4 : Hid (Below w.heap.size w w4) := Lib.hid (HBW.out.trans (hb.mono HBW.out.size)); have hz4 := HB4.out.size; clear hb)
                | (go_at_call 11; (with_reducible refine (HA _).out.mono ?_); rintro e w5 ⟨rfl, hb⟩; have HB5 := Lib.hid hb; clear hb))
              go_ret
              have h1 := HB4.out.alloc HB4.out.size (.cells #[.int .i64 (d.length : Int), .int .i64 (stgL d), .int .i64 fr, .bool true, .bool false] 51)
              exact ⟨rfl, h1.trans (HB5.out.mono h1.size)⟩
            | true =>
              obtain rfl : fr = 0 := HSH.out rfl
              go_wp2_with (first
                | (go_at_call 18; (with_reducible refine HS.out.mono ?_); rintro e w4 ⟨rfl, hb⟩; have HB4 : Hid (Below w.heap.size w w4) := Lib.hid (HBW.out.trans (hb.mono HBW.out.size)); have hz4 := HB4.out.size; clear hb)
                | (go_at_call 11; (with_reducible refine (HA _).out.mono ?_); rintro e w5 ⟨rfl, hb⟩; have HB5 := Lib.hid hb; clear hb))
              go_ret
              have h1 := HB4.out.alloc HB4.out.size (.cells #[.int .i64 (d.length : Int), .int .i64 (stgL d), .int .i64 0, .bool true, .bool true] 51)
              exact ⟨rfl, h1.trans (HB5.out.mono h1.size)⟩

theorem panes_true (E L T : Int) (a : Bool) (v : Value) (l : List Inf) (w : World) (h : IsAt w (fun _ => True) v l) (hl : l.length * 24 ≤ 140737488351232) : Calls Try.prog 4 #[.agg #[.int .i64 E, .int .i64 L, .int .i64 T, .bool a], v] w fun e w' => e = .returned (.bool true) ∧ Below w.heap.size w w' := by
  by_cases hs : SpecOk E L T
  · exact panes_good E L T a v l w h hs hl
  · exact panes_bad E L T a v l w h hs

end Go.Proofs.Ytoplkinlgneidaa
