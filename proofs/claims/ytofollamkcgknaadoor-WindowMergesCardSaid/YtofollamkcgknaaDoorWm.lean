/-
The walk of WindowMerges.
-/
import Derived.Test.YtofollamkcgknaaDoorOn
import Derived.Test.YtofollamkcgknaaDoorLs
import Derived.Test.YtofollamkcgknaaDoorHs
import Derived.Test.YtofollamkcgknaaDoorPm
set_option linter.unusedVariables false
namespace Go.Proofs.YtofollamkcgknaaDoor
open Go.RowKit

set_option maxRecDepth 100000 in
set_option maxHeartbeats 4000000 in
theorem merges_long (v : Value) (l : List Wn) (w : World) (h : WsAt w 0 v l) (hp : Prp v) (hl : 60 < l.length) (hl2 : l.length ≤ 9223372036854775807) :
    Calls Tryd.prog 4 #[v] w fun e w' => e = .returned (.bool true) ∧ Below w.heap.size w w' := by
  obtain ⟨a, c, rfl, hlc, _⟩ := h
  have hd : decide ((60 : Int) < (l.length : Int)) = true := decide_eq_true (by omega)
  go_enter Tryd.func4, Tryd.ntmps4
  go_wp2_with (go_at_call 17; refine (awake_any _).mono ?_; rintro e wc ⟨rfl, hbc⟩)
  go_ret
  exact ⟨rfl, hbc⟩

theorem all_bad {l : List Wn} (h : (l.all fun x => gdB x.1 x.2) = false) : ∃ x ∈ l, ¬ GdW x := by
  rw [List.all_eq_false] at h
  obtain ⟨x, hx, h1⟩ := h
  exact ⟨x, hx, fun hg => h1 (decide_eq_true hg)⟩

theorem all_good {l : List Wn} (h : (l.all fun x => gdB x.1 x.2) = true) : ∀ x ∈ l, GdW x := fun x hx => gd_of (List.all_eq_true.1 h x hx)

theorem merge_both (B : Nat) (v : Value) (l : List Wn) (w : World) (h : WsAt w B v l) (hp : Prp v) (hl : l.length ≤ 2000000) (ob : Bool) (hob : (l.all fun x => gdB x.1 x.2) = ob) :
    Calls Tryd.prog 21 #[v] w fun e w' => (∃ u, e = .returned (.tuple #[u, .int .i64 (bif ob then 0 else 70)]) ∧ (ob = true → WsAt w' w.heap.size u (mrg l)) ∧ (ob = false → u = .slice none 0 0)) ∧ Below w.heap.size w w' := by
  cases ob with
  | true => exact (merge_ok B v l w h hp hl (all_good hob)).mono fun e w' ⟨⟨u, he, h1, _⟩, hb⟩ => ⟨⟨u, he, fun _ => h1, fun h => by cases h⟩, hb⟩
  | false => exact (merge_bad B v l w h hl (all_bad hob)).mono fun e w' ⟨he, hb⟩ => ⟨⟨_, he, (fun h => by cases h), fun _ => rfl⟩, hb⟩

theorem sort_both (B : Nat) (v : Value) (l : List Wn) (w : World) (h : WsAt w B v l) (hp : Prp v) (hl : l.length ≤ 2000000) (ob : Bool) (hob : (l.all fun x => gdB x.1 x.2) = ob) :
    Calls Tryd.prog 22 #[v] w fun e w' => (∃ u, e = .returned (.tuple #[u, .int .i64 (bif ob then 0 else 70)]) ∧ (ob = true → WsAt w' w.heap.size u (srt l)) ∧ (ob = false → u = .slice none 0 0)) ∧ Below w.heap.size w w' := by
  cases ob with
  | true => exact (sort_ok B v l w h hp hl (all_good hob)).mono fun e w' ⟨⟨a, c, he, h1⟩, hb⟩ => ⟨⟨_, he, fun _ => h1, fun h => by cases h⟩, hb⟩
  | false => exact (sort_bad B v l w h hl (all_bad hob)).mono fun e w' ⟨he, hb⟩ => ⟨⟨_, he, (fun h => by cases h), fun _ => rfl⟩, hb⟩

set_option maxRecDepth 100000 in
set_option maxHeartbeats 8000000 in
theorem merges_short (v : Value) (l : List Wn) (w : World) (h : WsAt w 0 v l) (hp : Prp v) (hl : l.length ≤ 60) :
    Calls Tryd.prog 4 #[v] w fun e w' => e = .returned (.bool true) ∧ Below w.heap.size w w' := by
  obtain ⟨i0, hi, hq0, hq1, hq2⟩ := info_parts Tryd.infoW
  have HW := Lib.hid h
  obtain ⟨a, c, rfl, hlc, hA⟩ := h
  have HA := Lib.hid hA
  have HP := Lib.hid hp
  have hd : decide ((60 : Int) < (l.length : Int)) = false := decide_eq_false (by omega)
  clear hA hp
  go_enter Tryd.func4, Tryd.ntmps4
  go_upto_region 3 with (fail)
  go_cut [3] (fun s3 wx => WsAt wx w.heap.size s3 l ∧ Prp s3 ∧ Below w.heap.size w wx)
  case first =>
    cases a with
    | none =>
      have h0 := HP.out _ _ rfl
      injection h0 with _ h1 h2
      obtain rfl : l = [] := List.length_eq_zero_iff.1 h1
      subst h2
      go_wp2_with (fail)
      go_meet
      exact ⟨⟨_, 0, rfl, Nat.le_refl _, fun h => absurd h (Nat.lt_irrefl _)⟩, (fun n c e => by cases e), (Below.refl _ _).alloc (Nat.le_refl _) _⟩
    | some ad =>
      have HNEWS : Hid (∀ j u, (flat l)[j]? = some u → (w.alloc (.cells #[] 41)).cell? (ad.add j) = some u) := Lib.hid (by
        intro j u hu
        have hl0 : 0 < l.length := by have := (List.getElem?_eq_some_iff.1 hu).1; rw [flat_length] at this; omega
        obtain ⟨b, o, hab, hb1, hb2, hcells⟩ := HA.out hl0
        injection hab with hab
        subst hab
        exact cell_alloc_some (ws_news (l := l) hcells j u hu))
      go_wp2_with (at_builtin; refine wpList_append_own _ rfl _ _ 24 rfl w.heap.size 41 i0 (.agg #[.int .i64 0, .int .i64 0]) 2 16 Tryd.underlying24 hi hq0 hq1 hq2 rfl (by decide) _ 0 [] rfl (World.ownsRow_made w #[] 0 (Nat.le_refl _) (Nat.zero_le _) rfl) ad l.length c (flat l) rfl (flat_length l) HNEWS.out (flat_one l) (by unfold maxLen; omega) (by omega) (by simp <;> omega) ?_; intro v' w7 hown7 hg7 hiff)
      go_meet
      rw [Nat.zero_add, List.nil_append] at hown7
      refine ⟨WsAt.own hown7, fun n c e => ?_, ((Below.refl _ w).alloc (Nat.le_refl _) _).grown hg7 (by simp <;> omega) fun k hk => Nat.le_of_eq (Option.some.inj hk)⟩
      rcases hown7.2 with ⟨h1, _⟩ | ⟨g', cap', cur, h1, _⟩
      · exact h1
      · rw [h1] at e; cases e
  obtain ⟨hin, hip, hb1⟩ := hcut
  obtain ⟨w1, hw1⟩ : ∃ w1 : World, w1 = wc := ⟨_, rfl⟩
  subst hw1
  obtain ⟨ob, hob⟩ : ∃ ob, (l.all fun x => gdB x.1 x.2) = ob := ⟨_, rfl⟩
  have HOB := Lib.hid hob
  have HI1 := Lib.hid hin
  have HIP := Lib.hid hip
  have HB1 := Lib.hid hb1
  have hs1 := hb1.size
  obtain ⟨ia, ic, rfl, hic, hIA⟩ := hin
  have HM1 := Lib.hid (merge_both _ _ l w1 HI1.out HIP.out (by omega) ob HOB.out)
  have HS1 := fun (w2 : World) (hb : Below w1.heap.size w1 w2) => Lib.hid (sort_both _ _ l w2 (HI1.out.below hb) HIP.out (by omega) ob HOB.out)
  have HIA := Lib.hid hIA
  clear hob hip hb1 hIA
  go_wp2_with (go_at_call 21; refine HM1.out.mono ?_; rintro e w2 ⟨⟨mv, rfl, hm1, hm2⟩, hb2⟩)
  go_wp2_with (go_at_call 22; refine (HS1 w2 hb2).out.mono ?_; rintro e w3 ⟨⟨sv, rfl, hs1', hs2'⟩, hb3⟩)
  have HMT : Hid (ob = true → WsAt w3 w.heap.size mv (mrg l)) := Lib.hid fun h => ((hm1 h).low hs1).below hb3
  have HMF : Hid (ob = false → mv = .slice none 0 0) := Lib.hid hm2
  have HST : Hid (ob = true → WsAt w3 w.heap.size sv (srt l)) := Lib.hid fun h => (hs1' h).low (by have := hb2.size; omega)
  have HSF : Hid (ob = false → sv = .slice none 0 0) := Lib.hid hs2'
  have HB12 : Hid (Below w1.heap.size w1 w3) := Lib.hid (hb2.trans (hb3.mono hb2.size))
  have HB3 : Hid (Below w.heap.size w w3) := Lib.hid (HB1.out.trans (HB12.out.mono hs1))
  have hs3 := HB3.out.size
  have hs13 := HB12.out.size
  clear hm1 hm2 hs1' hs2' hb2 hb3 HM1 HS1
  go_loopw [8, 33] (fun okv iv wr => ∃ (j : Nat) (bb : Bool), iv = .int .i64 (j : Int) ∧ j ≤ l.length ∧ okv = .bool bb ∧ Hid ((l.take j).all (fun x => gdB x.1 x.2) = bb) ∧ Hid (Below w3.heap.size w3 wr)) (fun _ iv _ => l.length - (intOf iv).toNat)
  case atStart => exact ⟨0, true, rfl, Nat.zero_le _, rfl, Lib.hid rfl, Lib.hid (Below.refl _ _)⟩
  case round =>
    obtain ⟨j, bb, rfl, hj, rfl, HBB, HB⟩ := hrel
    have hsr := HB.out.size
    by_cases hlt : j < l.length
    · obtain ⟨b, o, rfl, hb0, hb2, hcells⟩ := HA.out (by omega)
      obtain ⟨bi, oi, rfl, hbi0, hbi2, hicells⟩ := HIA.out (by omega)
      obtain ⟨c0, c1⟩ := ws_cells hcells hlt
      obtain ⟨e0, e1⟩ := ws_cells hicells hlt
      have HC := Lib.hid hcells
      have HT : Hid (l.take (j + 1) = l.take j ++ [l[j]]) := Lib.hid (by rw [List.take_succ_eq_append_getElem hlt])
      have HBL : Hid (Below w.heap.size w wr) := Lib.hid (HB3.out.trans (HB.out.mono hs3))
      have HBI : Hid (Below w1.heap.size w1 wr) := Lib.hid (HB12.out.trans (HB.out.mono hs13))
      have hbr : b < wr.heap.size := by have := HBL.out.size; omega
      have hbir : bi < wr.heap.size := by have := HBI.out.size; omega
      have c0 := (HBL.out.cell (p := ⟨b, o + j * 2, none⟩) hb2).trans c0
      have c1 := (HBL.out.cell (p := ⟨b, o + j * 2 + 1, none⟩) hb2).trans c1
      have e0 := (HBI.out.cell (p := ⟨bi, oi + j * 2, none⟩) hbi2).trans e0
      have e1 := (HBI.out.cell (p := ⟨bi, oi + j * 2 + 1, none⟩) hbi2).trans e1
      clear hcells hicells
      generalize l[j] = x at *
      obtain ⟨x1, x2⟩ := x
      dsimp only at c0 c1 e0 e1
      have hj0' : (0 : Int) ≤ (j : Int) := by omega
      have hj1' : (j : Int) < (l.length : Int) := by omega
      cases hgd : gdB x1 x2 with
      | true =>
        have HG := Lib.hid hgd
        clear hgd
        have HN : Hid ((l.take (j + 1)).all (fun x => gdB x.1 x.2) = (bb && true)) := Lib.hid (by rw [HT.out, List.all_append, ← HBB.out]; simp [HG.out])
        go_upto_region 11 with (go_at_call 23; refine (good_r x1 x2 _ true HG.out).mono ?_; rintro e wa ⟨rfl, hba⟩)
        have hxa := (hba.block _ (by simp)).trans (heap_alloc_new wr (.cells #[.int .i64 x1, .int .i64 x2] 41))
        have HBA : Hid (Below w3.heap.size w3 wa) := Lib.hid ((HB.out.alloc hsr _).trans (hba.mono (by simp; omega)))
        have HWA : Hid (Below wr.heap.size wr wa) := Lib.hid (((Below.refl _ wr).alloc (Nat.le_refl _) _).trans (hba.mono (by simp)))
        have HXA := Lib.hid hxa
        clear hba hxa
        go_cut [8] (fun s8 wx => wx = wa ∧ s8 = .bool (bb && true))
        case first =>
          have hxa := HXA.out
          cases bb
          all_goals (
            go_wp2_with (fail)
            go_meet
            exact ⟨rfl, rfl⟩)
        obtain ⟨hwc, rfl⟩ := hcut
        subst hwc
        have k0 := cell2_0 HXA.out
        have k1 := cell2_1 HXA.out
        go_wp2_with (go_at_call 24; refine (stamp_yes x1 x2 _ (gd_of HG.out)).mono ?_; rintro e wb ⟨rfl, hbb⟩)
        clear k0 k1
        have hxb := (hbb.block _ (cell_lt HXA.out)).trans HXA.out
        have HBB2 : Hid (Below w3.heap.size w3 wb) := Lib.hid (HBA.out.trans (hbb.mono HBA.out.size))
        have HWB : Hid (Below wr.heap.size wr wb) := Lib.hid (HWA.out.trans (hbb.mono HWA.out.size))
        have hxbl := cell_lt hxb
        have hwbz := HWB.out.size
        have hwb3 := HBB2.out.size
        have HXB := Lib.hid hxb
        have g0 := Wb.cell (cell2_0 hxb) hxbl
        have g1 := Wb.cell (cell2_1 hxb) hxbl
        have g2 := Wb.cell ((HWB.out.cell (p := ⟨bi, oi + j * 2, none⟩) hbir).trans e0) (show bi < wb.heap.size by omega)
        have g3 := Wb.cell ((HWB.out.cell (p := ⟨bi, oi + j * 2 + 1, none⟩) hbir).trans e1) (show bi < wb.heap.size by omega)
        clear hxb hbb
        generalize hst : stampI x2 = sx
        refine wp_region_quiet_below (by kernel_rfl) (by kernel_rfl) ?_
        repeat (go_big_quiet_step ((first
            | (go_at_call 25; (with_reducible exact Wb.call (wcheck_yes x1 x2 _ (gd_of HG.out))))
            | (go_at_call 26; (with_reducible exact Wb.call ((rstamp_any x1 x2 _ (gd_of HG.out)).mono fun e w' h => ⟨by rw [h.1, hst], h.2⟩))))))
        refine wpQuiet_nil ?_
        rintro wd ⟨⟨_, HBd⟩, rfl⟩
        clear g0 g1 g2 g3
        have hxd := (HBd.block _ hxbl).trans HXB.out
        have HBD : Hid (Below w3.heap.size w3 wd) := Lib.hid (HBB2.out.trans (HBd.mono hwb3))
        have HWD : Hid (Below wr.heap.size wr wd) := Lib.hid (HWB.out.trans (HBd.mono hwbz))
        have hxdl := cell_lt hxd
        have hwdz := HWD.out.size
        have HXD := Lib.hid hxd
        clear hxd HBd
        by_cases hj0 : j = 0
        · have hj3 : decide ((0 : Int) < (j : Int)) = false := decide_eq_false (by omega)
          have hj4 : ¬ (0 : Int) < (j : Int) := by omega
          have hj5 : ¬ 0 < j := by omega
          clear hj0
          go_wp2_with (fail)
          refine wp_region_quiet_below (by kernel_rfl) (by kernel_rfl) ?_
          repeat (go_big_quiet_step (fail))
          refine wpQuiet_nil ?_
          rintro wf ⟨⟨_, HBf⟩, rfl⟩
          have HBF : Hid (Below w3.heap.size w3 wf) := Lib.hid (HBD.out.trans (HBf.mono HBD.out.size))
          go_wp2_with (fail)
          go_roundw
          case rel => exact ⟨j + 1, bb && true, by go_num, by omega, by simp, HN, HBF⟩
          case measure => simp [intOf]; omega
        · obtain ⟨k, rfl⟩ : ∃ k, j = k + 1 := ⟨j - 1, by omega⟩
          obtain ⟨d0, d1⟩ := ws_cells HC.out (show k < l.length by omega)
          obtain ⟨y, hy⟩ : ∃ y, y = l[k] := ⟨_, rfl⟩
          rw [← hy] at d0 d1
          clear hy
          obtain ⟨y1, y2⟩ := y
          dsimp only at d0 d1
          have d0 := (HWD.out.cell (p := ⟨b, o + k * 2, none⟩) hbr).trans ((HBL.out.cell (p := ⟨b, o + k * 2, none⟩) hb2).trans d0)
          have d1 := (HWD.out.cell (p := ⟨b, o + k * 2 + 1, none⟩) hbr).trans ((HBL.out.cell (p := ⟨b, o + k * 2 + 1, none⟩) hb2).trans d1)
          have g0 := Wb.cell (cell2_0 HXD.out) hxdl
          have g1 := Wb.cell (cell2_1 HXD.out) hxdl
          have g2 := Wb.cell d0 (show b < wd.heap.size by omega)
          have g3 := Wb.cell d1 (show b < wd.heap.size by omega)
          have q6 : IntKind.i64.wrap ((k : Int) + 1 - 1) = (k : Int) := by rw [IntWalk.i64_in _ (by omega)]; omega
          have hi0 : (0 : Int) ≤ (k : Int) := by omega
          have hi1 : (k : Int) < (l.length : Int) := by omega
          have hi2 : (0 : Int) < (k : Int) + 1 := by omega
          have hi3 : decide ((0 : Int) < (k : Int) + 1) = true := decide_eq_true (by omega)
          obtain ⟨lb, hlb⟩ : ∃ lb, lb = lsB (x1, x2) (y1, y2) := ⟨_, rfl⟩
          have HLB := Lib.hid hlb
          clear hj0 hlb
          go_wp2_with (fail)
          refine wp_region_quiet_below (by kernel_rfl) (by kernel_rfl) ?_
          repeat (go_big_quiet_step ((first
            | (go_at_call 27; (with_reducible exact Wb.call ((less_any (x1, x2) (y1, y2) _).mono fun e w' h => ⟨by rw [h.1, ← HLB.out], h.2⟩)))
            | (go_at_call 28; (with_reducible exact Wb.call ((rless_any (x1, x2) (y1, y2) _).mono fun e w' h => ⟨by rw [h.1, ← HLB.out], h.2⟩))))))
          refine wpQuiet_nil ?_
          rintro wf ⟨⟨_, HBf⟩, rfl⟩
          have HBF : Hid (Below w3.heap.size w3 wf) := Lib.hid (HBD.out.trans (HBf.mono HBD.out.size))
          clear g0 g1 g2 g3 d0 d1
          go_wp2_with (fail)
          go_roundw
          case rel => exact ⟨k + 1 + 1, bb && true, by go_num, by omega, by simp, HN, HBF⟩
          case measure => simp [intOf]; omega

      | false =>
        have HG := Lib.hid hgd
        clear hgd
        have HN : Hid ((l.take (j + 1)).all (fun x => gdB x.1 x.2) = (bb && false)) := Lib.hid (by rw [HT.out, List.all_append, ← HBB.out]; simp [HG.out])
        go_upto_region 11 with (go_at_call 23; refine (good_r x1 x2 _ false HG.out).mono ?_; rintro e wa ⟨rfl, hba⟩)
        have hxa := (hba.block _ (by simp)).trans (heap_alloc_new wr (.cells #[.int .i64 x1, .int .i64 x2] 41))
        have HBA : Hid (Below w3.heap.size w3 wa) := Lib.hid ((HB.out.alloc hsr _).trans (hba.mono (by simp; omega)))
        have HWA : Hid (Below wr.heap.size wr wa) := Lib.hid (((Below.refl _ wr).alloc (Nat.le_refl _) _).trans (hba.mono (by simp)))
        have HXA := Lib.hid hxa
        clear hba hxa
        go_cut [8] (fun s8 wx => wx = wa ∧ s8 = .bool (bb && false))
        case first =>
          have hxa := HXA.out
          cases bb
          all_goals (
            go_wp2_with (fail)
            go_meet
            exact ⟨rfl, rfl⟩)
        obtain ⟨hwc, rfl⟩ := hcut
        subst hwc
        have k0 := cell2_0 HXA.out
        have k1 := cell2_1 HXA.out
        go_wp2_with (go_at_call 24; refine (stamp_no x1 x2 _ (gd_not HG.out)).mono ?_; rintro e wb ⟨rfl, hbb⟩)
        clear k0 k1
        have hxb := (hbb.block _ (cell_lt HXA.out)).trans HXA.out
        have HBB2 : Hid (Below w3.heap.size w3 wb) := Lib.hid (HBA.out.trans (hbb.mono HBA.out.size))
        have HWB : Hid (Below wr.heap.size wr wb) := Lib.hid (HWA.out.trans (hbb.mono HWA.out.size))
        have hxbl := cell_lt hxb
        have hwbz := HWB.out.size
        have hwb3 := HBB2.out.size
        have HXB := Lib.hid hxb
        have g0 := Wb.cell (cell2_0 hxb) hxbl
        have g1 := Wb.cell (cell2_1 hxb) hxbl
        have g2 := Wb.cell ((HWB.out.cell (p := ⟨bi, oi + j * 2, none⟩) hbir).trans e0) (show bi < wb.heap.size by omega)
        have g3 := Wb.cell ((HWB.out.cell (p := ⟨bi, oi + j * 2 + 1, none⟩) hbir).trans e1) (show bi < wb.heap.size by omega)
        clear hxb hbb
        generalize hst : stampI x2 = sx
        refine wp_region_quiet_below (by kernel_rfl) (by kernel_rfl) ?_
        repeat (go_big_quiet_step ((first
            | (go_at_call 25; (with_reducible exact Wb.call (wcheck_no x1 x2 _ (gd_not HG.out)))))))
        refine wpQuiet_nil ?_
        rintro wd ⟨⟨_, HBd⟩, rfl⟩
        clear g0 g1 g2 g3
        have hxd := (HBd.block _ hxbl).trans HXB.out
        have HBD : Hid (Below w3.heap.size w3 wd) := Lib.hid (HBB2.out.trans (HBd.mono hwb3))
        have HWD : Hid (Below wr.heap.size wr wd) := Lib.hid (HWB.out.trans (HBd.mono hwbz))
        have hxdl := cell_lt hxd
        have hwdz := HWD.out.size
        have HXD := Lib.hid hxd
        clear hxd HBd
        by_cases hj0 : j = 0
        · have hj3 : decide ((0 : Int) < (j : Int)) = false := decide_eq_false (by omega)
          have hj4 : ¬ (0 : Int) < (j : Int) := by omega
          have hj5 : ¬ 0 < j := by omega
          clear hj0
          go_wp2_with (fail)
          refine wp_region_quiet_below (by kernel_rfl) (by kernel_rfl) ?_
          repeat (go_big_quiet_step (fail))
          refine wpQuiet_nil ?_
          rintro wf ⟨⟨_, HBf⟩, rfl⟩
          have HBF : Hid (Below w3.heap.size w3 wf) := Lib.hid (HBD.out.trans (HBf.mono HBD.out.size))
          go_wp2_with (fail)
          go_roundw
          case rel => exact ⟨j + 1, bb && false, by go_num, by omega, by simp, HN, HBF⟩
          case measure => simp [intOf]; omega
        · obtain ⟨k, rfl⟩ : ∃ k, j = k + 1 := ⟨j - 1, by omega⟩
          obtain ⟨d0, d1⟩ := ws_cells HC.out (show k < l.length by omega)
          obtain ⟨y, hy⟩ : ∃ y, y = l[k] := ⟨_, rfl⟩
          rw [← hy] at d0 d1
          clear hy
          obtain ⟨y1, y2⟩ := y
          dsimp only at d0 d1
          have d0 := (HWD.out.cell (p := ⟨b, o + k * 2, none⟩) hbr).trans ((HBL.out.cell (p := ⟨b, o + k * 2, none⟩) hb2).trans d0)
          have d1 := (HWD.out.cell (p := ⟨b, o + k * 2 + 1, none⟩) hbr).trans ((HBL.out.cell (p := ⟨b, o + k * 2 + 1, none⟩) hb2).trans d1)
          have g0 := Wb.cell (cell2_0 HXD.out) hxdl
          have g1 := Wb.cell (cell2_1 HXD.out) hxdl
          have g2 := Wb.cell d0 (show b < wd.heap.size by omega)
          have g3 := Wb.cell d1 (show b < wd.heap.size by omega)
          have q6 : IntKind.i64.wrap ((k : Int) + 1 - 1) = (k : Int) := by rw [IntWalk.i64_in _ (by omega)]; omega
          have hi0 : (0 : Int) ≤ (k : Int) := by omega
          have hi1 : (k : Int) < (l.length : Int) := by omega
          have hi2 : (0 : Int) < (k : Int) + 1 := by omega
          have hi3 : decide ((0 : Int) < (k : Int) + 1) = true := decide_eq_true (by omega)
          obtain ⟨lb, hlb⟩ : ∃ lb, lb = lsB (x1, x2) (y1, y2) := ⟨_, rfl⟩
          have HLB := Lib.hid hlb
          clear hj0 hlb
          go_wp2_with (fail)
          refine wp_region_quiet_below (by kernel_rfl) (by kernel_rfl) ?_
          repeat (go_big_quiet_step ((first
            | (go_at_call 27; (with_reducible exact Wb.call ((less_any (x1, x2) (y1, y2) _).mono fun e w' h => ⟨by rw [h.1, ← HLB.out], h.2⟩)))
            | (go_at_call 28; (with_reducible exact Wb.call ((rless_any (x1, x2) (y1, y2) _).mono fun e w' h => ⟨by rw [h.1, ← HLB.out], h.2⟩))))))
          refine wpQuiet_nil ?_
          rintro wf ⟨⟨_, HBf⟩, rfl⟩
          have HBF : Hid (Below w3.heap.size w3 wf) := Lib.hid (HBD.out.trans (HBf.mono HBD.out.size))
          clear g0 g1 g2 g3 d0 d1
          go_wp2_with (fail)
          go_roundw
          case rel => exact ⟨k + 1 + 1, bb && false, by go_num, by omega, by simp, HN, HBF⟩
          case measure => simp [intOf]; omega

    · obtain rfl : j = l.length := by omega
      have HBE : Hid (ob = bb) := Lib.hid (by have h := HBB.out; rw [List.take_length] at h; rw [← HOB.out, h])
      have HBL : Hid (Below w.heap.size w wr) := Lib.hid (HB3.out.trans (HB.out.mono hs3))
      have hlz := HBL.out.size
      obtain rfl : ob = bb := HBE.out
      cases ob with
      | false =>
        obtain rfl : mv = .slice none 0 0 := HMF.out rfl
        obtain rfl : sv = .slice none 0 0 := HSF.out rfl
        go_wp2_with (go_at_call 17; refine (awake_any _).mono ?_; rintro e wz ⟨rfl, hbz⟩)
        go_ret
        exact ⟨rfl, HBL.out.trans (hbz.mono hlz)⟩
      | true =>
        have HWL := Lib.hid (HW.out.below HBL.out)
        have HWM := Lib.hid ((HMT.out rfl).below HB.out)
        have HWS := Lib.hid ((HST.out rfl).below HB.out)
        have HGD := Lib.hid (all_good HOB.out)
        have hml := mrg_len l
        have hsl2 : (srt l).length ≤ 2000000 := by rw [(srt_perm l).length_eq]; omega
        have hml2 : (mrg l).length ≤ 2000000 := by omega
        have hl2 : l.length ≤ 2000000 := by omega
        clear hml
        go_wp2_with (fail)
        refine (of_any _ mv _ wr HWM.out hml2).mono ?_
        rintro e v1 ⟨⟨o1, rfl, ho1⟩, hb1⟩
        have HO1 := Lib.hid ho1
        have HL1 := Lib.hid (HWL.out.below hb1)
        have HS1 := Lib.hid (HWS.out.below hb1)
        have HV1 : Hid (Below w.heap.size w v1) := Lib.hid (HBL.out.trans (hb1.mono hlz))
        clear ho1 hb1
        go_wp2_with (fail)
        refine (of_any _ _ _ v1 HL1.out hl2).mono ?_
        rintro e v2 ⟨⟨o2, rfl, ho2⟩, hb2⟩
        have HO1 := Lib.hid (HO1.out.below hb2)
        have HO2 := Lib.hid ho2
        have HL2 := Lib.hid (HL1.out.below hb2)
        have HS2 := Lib.hid (HS1.out.below hb2)
        have HV2 : Hid (Below w.heap.size w v2) := Lib.hid (HV1.out.trans (hb2.mono HV1.out.size))
        clear ho2 hb2
        go_wp2_with (fail)
        refine (rmerge_any _ _ _ v2 HO2.out hl2 HGD.out).mono ?_
        rintro e v3 ⟨⟨o3, rfl, ho3⟩, hb3⟩
        have HO1 := Lib.hid (HO1.out.below hb3)
        have HO3 := Lib.hid ho3
        have HL3 := Lib.hid (HL2.out.below hb3)
        have HS3 := Lib.hid (HS2.out.below hb3)
        have HV3 : Hid (Below w.heap.size w v3) := Lib.hid (HV2.out.trans (hb3.mono HV2.out.size))
        clear ho3 hb3
        go_wp2_with (fail)
        refine (same_yes _ _ _ _ _ v3 HO1.out HO3.out hml2).mono ?_
        rintro e v4 ⟨rfl, hb4⟩
        have HL4 := Lib.hid (HL3.out.below hb4)
        have HS4 := Lib.hid (HS3.out.below hb4)
        have HV4 : Hid (Below w.heap.size w v4) := Lib.hid (HV3.out.trans (hb4.mono HV3.out.size))
        clear hb4
        go_wp2_with (fail)
        refine (of_any _ sv _ v4 HS4.out hsl2).mono ?_
        rintro e v5 ⟨⟨o5, rfl, ho5⟩, hb5⟩
        have HO5 := Lib.hid ho5
        have HL5 := Lib.hid (HL4.out.below hb5)
        have HV5 : Hid (Below w.heap.size w v5) := Lib.hid (HV4.out.trans (hb5.mono HV4.out.size))
        clear ho5 hb5
        go_wp2_with (fail)
        refine (of_any _ _ _ v5 HL5.out hl2).mono ?_
        rintro e v6 ⟨⟨o6, rfl, ho6⟩, hb6⟩
        have HO5 := Lib.hid (HO5.out.below hb6)
        have HO6 := Lib.hid ho6
        have HV6 : Hid (Below w.heap.size w v6) := Lib.hid (HV5.out.trans (hb6.mono HV5.out.size))
        clear ho6 hb6
        go_wp2_with (fail)
        refine (rsort_any _ _ _ v6 HO6.out hl2).mono ?_
        rintro e v7 ⟨⟨o7, rfl, ho7⟩, hb7⟩
        have HO5 := Lib.hid (HO5.out.below hb7)
        have HO7 := Lib.hid ho7
        have HV7 : Hid (Below w.heap.size w v7) := Lib.hid (HV6.out.trans (hb7.mono HV6.out.size))
        clear ho7 hb7
        go_wp2_with (fail)
        refine (same_yes _ _ _ _ _ v7 HO5.out HO7.out hsl2).mono ?_
        rintro e v8 ⟨rfl, hb8⟩
        have HV8 : Hid (Below w.heap.size w v8) := Lib.hid (HV7.out.trans (hb8.mono HV7.out.size))
        clear hb8
        go_wp2_with (go_at_call 17; refine (awake_any _).mono ?_; rintro e wz ⟨rfl, hbz⟩)
        go_ret
        exact ⟨rfl, HV8.out.trans (hbz.mono HV8.out.size)⟩

theorem merges_true (v : Value) (l : List Wn) (w : World) (h : WsAt w 0 v l) (hp : Prp v) (hl : l.length ≤ maxLen) :
    Calls Tryd.prog 4 #[v] w fun e w' => e = .returned (.bool true) ∧ Below w.heap.size w w' := by
  by_cases h60 : 60 < l.length
  · exact merges_long v l w h hp h60 (by unfold maxLen at hl; omega)
  · exact merges_short v l w h hp (by omega)

end Go.Proofs.YtofollamkcgknaaDoor
