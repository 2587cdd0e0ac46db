/-
The walk of WindowOne.
-/
import Derived.Test.YtofollamkcgknaaDoorMg
import Derived.Test.YtofollamkcgknaaDoorVt
set_option linter.unusedVariables false
namespace Go.Proofs.YtofollamkcgknaaDoor
open Go.RowKit

def hasB (l : List Wn) (t : Int) : Bool := l.any fun x => decide (x.1 ≤ t) && decide (t < x.2)

theorem hasB_iff (l : List Wn) (t : Int) : hasB l t = true ↔ Has l t := by
  unfold hasB Has
  simp [List.any_eq_true]

theorem hasB_eq {l m : List Wn} {t : Int} (h : Has m t ↔ Has l t) : hasB l t = hasB m t := by
  rw [Bool.eq_iff_iff, hasB_iff, hasB_iff]; exact h.symm

set_option maxRecDepth 100000 in
set_option maxHeartbeats 1000000 in
theorem has_any (B : Nat) (v : Value) (l : List Wn) (t : Int) (w : World) (h : WsAt w B v l) (hl : l.length ≤ 2000000) :
    Calls Tryd.prog 33 #[v, .int .i64 t] w fun e w' => e = .returned (.bool (hasB l t)) ∧ Below w.heap.size w w' := by
  obtain ⟨a, c, rfl, hlc, hA⟩ := h
  have HA := Lib.hid hA
  obtain ⟨r, hr⟩ : ∃ r, r = hasB l t := ⟨_, rfl⟩
  have HR := Lib.hid hr
  rw [← hr]
  clear hA hr
  go_enter Tryd.func33, Tryd.ntmps33
  go_wp2
  go_loopw [9] (fun iv wr => ∃ j : Nat, iv = .int .i64 (j : Int) ∧ j ≤ l.length ∧ Hid (hasB (l.take j) t = false) ∧ Hid (Below w.heap.size w wr)) (fun iv _ => l.length - (intOf iv).toNat)
  case atStart => exact ⟨0, rfl, Nat.zero_le _, Lib.hid rfl, Lib.hid (Below.refl _ _)⟩
  case round =>
    obtain ⟨j, rfl, hj, HN, HB⟩ := hrel
    have hsr := HB.out.size
    by_cases hlt : j < l.length
    · obtain ⟨b, o, rfl, hb1, hb2, hcells⟩ := HA.out (by omega)
      obtain ⟨c0, c1⟩ := ws_cells hcells hlt
      have HT : Hid (hasB (l.take (j + 1)) t = (decide ((l[j]).1 ≤ t) && decide (t < (l[j]).2))) := Lib.hid (by
        rw [List.take_succ_eq_append_getElem hlt]
        unfold hasB
        rw [List.any_append]
        have := HN.out
        unfold hasB at this
        rw [this]
        simp)
      have HM : Hid (l[j] ∈ l) := Lib.hid (List.getElem_mem hlt)
      have c0 := (HB.out.cell (p := ⟨b, o + j * 2, none⟩) hb2).trans c0
      have c1 := (HB.out.cell (p := ⟨b, o + j * 2 + 1, none⟩) hb2).trans c1
      clear hcells
      generalize l[j] = x at *
      obtain ⟨x1, x2⟩ := x
      dsimp only at c0 c1
      by_cases h1 : x1 ≤ t
      · by_cases h2 : t < x2
        · have HRT : Hid (true = r) := Lib.hid (by
            rw [HR.out]; exact ((hasB_iff l t).2 ⟨_, HM.out, h1, h2⟩).symm)
          go_wp2
          go_ret
          exact ⟨ret_bool HRT.out, HB.out.alloc HB.out.size _⟩
        · have HF : Hid (hasB (l.take (j + 1)) t = false) := Lib.hid (by rw [HT.out]; simp; omega)
          go_wp2
          go_roundw
          case rel => exact ⟨j + 1, by go_num, by omega, HF, Lib.hid (HB.out.alloc HB.out.size _)⟩
          case measure => simp [intOf]; omega
      · have HF : Hid (hasB (l.take (j + 1)) t = false) := Lib.hid (by rw [HT.out]; simp; omega)
        go_wp2
        go_roundw
        case rel => exact ⟨j + 1, by go_num, by omega, HF, Lib.hid (HB.out.alloc HB.out.size _)⟩
        case measure => simp [intOf]; omega
    · have HRF : Hid (false = r) := Lib.hid (by
        have := HN.out
        rw [List.take_of_length_le (by omega)] at this
        rw [HR.out, this])
      go_wp2
      go_ret
      exact ⟨ret_bool HRF.out, HB.out⟩

theorem mrgR_len : ∀ (l st : List Wn), (mrgR st l).length ≤ st.length + l.length
  | [], st => by simp [mrgR]
  | x :: l, st => by
    have h1 := mrgR_len l (pushW st x)
    have h2 := push_len st x
    show (mrgR (pushW st x) l).length ≤ _
    simp; omega

theorem mrg_len (l : List Wn) : (mrg l).length ≤ l.length := by
  unfold mrg
  rw [List.length_reverse]
  have := mrgR_len (srt l) []
  have h := (srt_perm l).length_eq
  simp at this; omega

set_option maxRecDepth 100000 in
set_option maxHeartbeats 4000000 in
theorem one_long (v : Value) (l : List Wn) (t : Int) (w : World) (h : WsAt w 0 v l) (hp : Prp v) (hl : 60 < l.length) (hl2 : l.length ≤ 9223372036854775807) :
    Calls Tryd.prog 7 #[v, .int .i64 t] w fun e w' => e = .returned (.bool true) ∧ Below w.heap.size w w' := by
  obtain ⟨a, c, rfl, hlc, _⟩ := h
  have hd : decide ((60 : Int) < (l.length : Int)) = true := decide_eq_true (by omega)
  go_enter Tryd.func7, Tryd.ntmps7
  go_wp2_with (go_at_call 17; refine (awake_any _).mono ?_; rintro e wc ⟨rfl, hbc⟩)
  go_ret
  exact ⟨rfl, hbc⟩

set_option maxRecDepth 100000 in
set_option maxHeartbeats 4000000 in
theorem one_bad (v : Value) (l : List Wn) (t : Int) (w : World) (h : WsAt w 0 v l) (hp : Prp v) (hl : l.length ≤ 60) (hb : ∃ x ∈ l, ¬ GdW x) :
    Calls Tryd.prog 7 #[v, .int .i64 t] w fun e w' => e = .returned (.bool true) ∧ Below w.heap.size w w' := by
  have H := Lib.hid (merge_bad 0 v l w h (by omega) hb)
  obtain ⟨a, c, rfl, hlc, _⟩ := h
  have hd : decide ((60 : Int) < (l.length : Int)) = false := decide_eq_false (by omega)
  clear hb hp
  go_enter Tryd.func7, Tryd.ntmps7
  go_wp2_with (first
    | (go_at_call 17; refine (awake_any _).mono ?_; rintro e wc ⟨rfl, hbc⟩)
    | (go_at_call 21; refine H.out.mono ?_; rintro e w1 ⟨rfl, hb1⟩))
  go_ret
  exact ⟨rfl, hb1.trans (hbc.mono hb1.size)⟩

set_option maxRecDepth 100000 in
set_option maxHeartbeats 4000000 in
theorem one_ok (v : Value) (l : List Wn) (t : Int) (w : World) (h : WsAt w 0 v l) (hp : Prp v) (hl : l.length ≤ 60) (hg : ∀ x ∈ l, GdW x) :
    Calls Tryd.prog 7 #[v, .int .i64 t] w fun e w' => e = .returned (.bool true) ∧ Below w.heap.size w w' := by
  obtain ⟨i0, hi, hq0, hq1, hq2⟩ := info_parts Tryd.infoW
  have H1 := Lib.hid (merge_ok 0 v l w h hp (by omega) hg)
  have HMF := Lib.hid (mrg_fits l hg)
  have HMA : Hid (mrg (mrg l) = mrg l) := Lib.hid (mrg_again l hg)
  have HMR : Hid (mrg l.reverse = mrg l) := Lib.hid (mrg_perm (List.reverse_perm l))
  have hml := mrg_len l
  have HG := Lib.hid hg
  have HW := Lib.hid h
  obtain ⟨a, c, rfl, hlc, hA⟩ := h
  have HA := Lib.hid hA
  have hd : decide ((60 : Int) < (l.length : Int)) = false := decide_eq_false (by omega)
  obtain ⟨M, hM⟩ : ∃ M, M = mrg l := ⟨_, rfl⟩
  rw [← hM] at H1 HMF HMA HMR hml
  clear hg hp hA hM
  go_enter Tryd.func7, Tryd.ntmps7
  go_wp2_with (go_at_call 21; refine H1.out.mono ?_; rintro e w1 ⟨⟨um, rfl, hm, hmp⟩, hb1⟩; have HM1 := Lib.hid hm; have HMP := Lib.hid hmp; have HB1 := Lib.hid hb1; clear hm hmp hb1)
  have hs1 := HB1.out.size
  go_loopw [7, 32] (fun bv iv wr => ∃ (j : Nat), iv = .int .i64 (j : Int) ∧ j ≤ l.length ∧ Hid (wr.ownsRow w1.heap.size 41 2 bv j (flat (l.reverse.take j))) ∧ Hid (Below w1.heap.size w1 wr)) (fun _ iv _ => l.length - (intOf iv).toNat)
  case atStart => exact ⟨0, rfl, Nat.zero_le _, Lib.hid (World.ownsRow_nil _ _ _ _), Lib.hid (Below.refl _ _)⟩
  case round =>
    obtain ⟨j, rfl, hj, HO, HB⟩ := hrel
    obtain ⟨bv, rfl⟩ : ∃ bv : Value, bv = u7 := ⟨_, rfl⟩
    have hsr := HB.out.size
    by_cases hlt : j < l.length
    · obtain ⟨q, hq⟩ : ∃ q, l.length = q + 1 + j := ⟨l.length - 1 - j, by omega⟩
      obtain ⟨b, o, rfl, hb1, hb2, hcells⟩ := HA.out (by omega)
      obtain ⟨c0, c1⟩ := ws_cells hcells (show q < l.length by omega)
      have HT : Hid (l.reverse.take (j + 1) = l.reverse.take j ++ [l[q]]) := Lib.hid (by
        have hjr : j < l.reverse.length := by rw [List.length_reverse]; exact hlt
        rw [List.take_succ_eq_append_getElem hjr, List.getElem_reverse]
        congr 3
        omega)
      have hb2' : b < w1.heap.size := by omega
      have c0 := (HB.out.cell (p := ⟨b, o + q * 2, none⟩) hb2').trans ((HB1.out.cell (p := ⟨b, o + q * 2, none⟩) hb2).trans c0)
      have c1 := (HB.out.cell (p := ⟨b, o + q * 2 + 1, none⟩) hb2').trans ((HB1.out.cell (p := ⟨b, o + q * 2 + 1, none⟩) hb2).trans c1)
      clear hcells
      generalize l[q] = x at *
      obtain ⟨x1, x2⟩ := x
      dsimp only at c0 c1
      have hq1' : (l.length : Int) - 1 - (j : Int) = (q : Int) := by omega
      have hqs : (q : Int) < (l.length : Int) := by omega
      have hq0' : (0 : Int) ≤ (q : Int) := by omega
      have HQ := Lib.hid hq
      clear hq
      go_wp2_with (at_builtin; refine wpList_append_own _ rfl _ _ 24 rfl w1.heap.size 41 i0 (.agg #[.int .i64 0, .int .i64 0]) 2 16 Tryd.underlying24 hi hq0 hq1 hq2 rfl (by decide) _ j (flat (l.reverse.take j)) rfl (HO.out.alloc _) ⟨wr.heap.size, 0, none⟩ 1 1 [.int .i64 x1, .int .i64 x2] rfl rfl (cell_two_new _ _ _ _ _ (by simp)) (two_one _ _) (by unfold maxLen; omega) (by omega) (by simp; omega) ?_; intro v' w7 hown7 hg7 _)
      go_roundw
      case rel =>
        refine ⟨j + 1, by go_num, by omega, Lib.hid ?_, Lib.hid ?_⟩
        · rw [HT.out, flat_snoc]; exact hown7
        · exact (HB.out.alloc (by omega) _).grown hg7 (by simp; omega) fun k hk => (HO.out.lt k hk).1
      case measure => simp [intOf]; omega
    · obtain rfl : j = l.length := by omega
      have HBK : Hid (WsAt wr w1.heap.size bv l.reverse) := Lib.hid (by
        have h := HO.out
        rw [List.take_of_length_le (by rw [List.length_reverse]; exact Nat.le_refl _)] at h
        exact WsAt.own (by rw [List.length_reverse]; exact h))
      have HBP : Hid (Prp bv) := Lib.hid fun n c e => by
        rcases HO.out.2 with ⟨h1, _⟩ | ⟨g', cap', cur, h1, _⟩
        · exact h1
        · rw [h1] at e; cases e
      have HGR : Hid (∀ x ∈ l.reverse, GdW x) := Lib.hid fun x hx => HG.out x (List.mem_reverse.1 hx)
      have HGM : Hid (∀ x ∈ M, GdW x) := Lib.hid HMF.out.1
      have HMG2 := fun (v : Value) (w : World) (h : WsAt w w1.heap.size v l.reverse) (hp : Prp v) => Lib.hid (merge_ok _ v l.reverse w h hp (by rw [List.length_reverse]; omega) HGR.out)
      have HMG3 := fun (v : Value) (w : World) (h : WsAt w w.heap.size v M) => True
      clear HMG3
      go_wp2_with (fail)
      refine (HMG2 bv wr HBK.out HBP.out).out.mono ?_
      rintro e w3 ⟨⟨un, rfl, hn, hnp⟩, hb3⟩
      rw [HMR.out] at hn
      have HN1 := Lib.hid hn
      have HB3 : Hid (Below w1.heap.size w1 w3) := Lib.hid (HB.out.trans (hb3.mono hsr))
      have HM3 : Hid (WsAt w3 w.heap.size um M) := Lib.hid (HM1.out.below HB3.out)
      clear hn hnp hb3 HMG2
      go_wp2_with (fail)
      refine (merge_ok _ um M w3 HM3.out HMP.out (by omega) HGM.out).mono ?_
      rintro e w4 ⟨⟨uk, rfl, hk, hkp⟩, hb4⟩
      rw [HMA.out] at hk
      have HK1 := Lib.hid hk
      have HB4 : Hid (Below w1.heap.size w1 w4) := Lib.hid (HB3.out.trans (hb4.mono HB3.out.size))
      have HN4 : Hid (WsAt w4 wr.heap.size un M) := Lib.hid (HN1.out.below hb4)
      have HM4 : Hid (WsAt w4 w.heap.size um M) := Lib.hid (HM3.out.below hb4)
      clear hk hkp hb4
      have hMl : M.length ≤ 2000000 := by omega
      go_wp2_with (fail)
      refine (of_any _ um M w4 HM4.out hMl).mono ?_
      rintro e w5 ⟨⟨o1, rfl, ho1⟩, hb5⟩
      have HO1 := Lib.hid ho1
      have HN5 := Lib.hid (HN4.out.below hb5)
      have HK5 := Lib.hid (HK1.out.below hb5)
      have HM5 := Lib.hid (HM4.out.below hb5)
      have HB5 : Hid (Below w1.heap.size w1 w5) := Lib.hid (HB4.out.trans (hb5.mono HB4.out.size))
      clear ho1 hb5
      go_wp2_with (fail)
      refine (of_any _ un M w5 HN5.out hMl).mono ?_
      rintro e w6 ⟨⟨o2, rfl, ho2⟩, hb6⟩
      have HO2 := Lib.hid ho2
      have HO1' := Lib.hid (HO1.out.below hb6)
      have HK6 := Lib.hid (HK5.out.below hb6)
      have HM6 := Lib.hid (HM5.out.below hb6)
      have HB6 : Hid (Below w1.heap.size w1 w6) := Lib.hid (HB5.out.trans (hb6.mono HB5.out.size))
      clear ho2 hb6
      go_wp2_with (fail)
      refine (same_yes _ _ o1 o2 M w6 HO1'.out HO2.out hMl).mono ?_
      rintro e w7 ⟨rfl, hb7⟩
      have HK7 := Lib.hid (HK6.out.below hb7)
      have HM7 := Lib.hid (HM6.out.below hb7)
      have HB7 : Hid (Below w1.heap.size w1 w7) := Lib.hid (HB6.out.trans (hb7.mono HB6.out.size))
      clear hb7
      go_wp2_with (fail)
      refine (of_any _ um M w7 HM7.out hMl).mono ?_
      rintro e w8 ⟨⟨o3, rfl, ho3⟩, hb8⟩
      have HO3 := Lib.hid ho3
      have HK8 := Lib.hid (HK7.out.below hb8)
      have HM8 := Lib.hid (HM7.out.below hb8)
      have HB8 : Hid (Below w1.heap.size w1 w8) := Lib.hid (HB7.out.trans (hb8.mono HB7.out.size))
      clear ho3 hb8
      go_wp2_with (fail)
      refine (of_any _ uk M w8 HK8.out hMl).mono ?_
      rintro e w9 ⟨⟨o4, rfl, ho4⟩, hb9⟩
      have HO4 := Lib.hid ho4
      have HO3' := Lib.hid (HO3.out.below hb9)
      have HM9 := Lib.hid (HM8.out.below hb9)
      have HB9 : Hid (Below w1.heap.size w1 w9) := Lib.hid (HB8.out.trans (hb9.mono HB8.out.size))
      clear ho4 hb9
      go_wp2_with (fail)
      refine (same_yes _ _ o3 o4 M w9 HO3'.out HO4.out hMl).mono ?_
      rintro e w10 ⟨rfl, hb10⟩
      have HM10 := Lib.hid (HM9.out.below hb10)
      have HB10 : Hid (Below w1.heap.size w1 w10) := Lib.hid (HB9.out.trans (hb10.mono HB9.out.size))
      clear hb10
      obtain ⟨ma, mc, rfl, _⟩ := HM10.out.form
      obtain ⟨ma', mc', hme, hmc, hmA⟩ := HM10.out
      injection hme with e1 e2 e3
      subst e1; subst e3
      have HMC := Lib.hid hmA
      have hs10 := HB10.out.size
      clear hmA
      go_wp2_with (fail)
      go_loopw [81] (fun iv wr => ∃ j : Nat, iv = .int .i64 (j : Int) ∧ j ≤ M.length ∧ Hid (Below w10.heap.size w10 wr)) (fun iv _ => M.length - (intOf iv).toNat)
      case atStart => exact ⟨0, rfl, Nat.zero_le _, Lib.hid (Below.refl _ _)⟩
      case round =>
        obtain ⟨j, rfl, hj', HBJ⟩ := hrel
        have hsj := HBJ.out.size
        by_cases hlt : j < M.length
        · obtain ⟨mb, mo, rfl, _, hmb, hmcells⟩ := HMC.out (by omega)
          obtain ⟨c0, c1⟩ := ws_cells hmcells hlt
          have c0 := (HBJ.out.cell (p := ⟨mb, mo + j * 2, none⟩) hmb).trans c0
          have c1 := (HBJ.out.cell (p := ⟨mb, mo + j * 2 + 1, none⟩) hmb).trans c1
          have HWHO : Hid ((l.any fun y => y.1 == (M[j]).1) = true) := Lib.hid (by
            rw [List.any_eq_true]
            obtain ⟨y, hy, e⟩ := HMF.out.2.2.2 M[j] (List.getElem_mem hlt)
            exact ⟨y, hy, by simpa using e⟩)
          have HPW : Hid (∀ k (hk : k + 1 = j), (M[k]'(by omega)).2 ≤ (M[j]).1) := Lib.hid fun k hk => by
            subst hk
            exact List.pairwise_iff_getElem.1 HMF.out.2.1 k (k + 1) _ _ (by omega)
          have HMX := Lib.hid hmcells
          clear hmcells
          obtain ⟨x, hx⟩ : ∃ x, x = M[j] := ⟨_, rfl⟩
          rw [← hx] at c0 c1 HWHO
          have HX := Lib.hid hx
          clear hx
          obtain ⟨x1, x2⟩ := x
          dsimp only at c0 c1
          have hmr : mb < wr.heap.size := by omega
          have hx0 := heap_alloc_new wr (.cells #[.int .i64 x1, .int .i64 x2] 41)
          have hBW : Below w10.heap.size w10 (wr.alloc (.cells #[.int .i64 x1, .int .i64 x2] 41)) := HBJ.out.alloc HBJ.out.size _
          by_cases hj0 : j = 0
          · have hj3 : decide ((0 : Int) < (j : Int)) = false := decide_eq_false (by omega)
            have hj4 : ¬ (0 : Int) < (j : Int) := by omega
            have hj5 : ¬ 0 < j := by omega
            clear hj0
            go_wp2
            go_quiet (fail)
            go_wp2
            have HBW2 : Hid (Below w10.heap.size w10 ((wr.alloc (.cells #[.int .i64 x1, .int .i64 x2] 41)).drewN nq)) := Lib.hid (below_drewN hBW nq)
            have hx0' : ((wr.alloc (.cells #[.int .i64 x1, .int .i64 x2] 41)).drewN nq).heap[wr.heap.size]? = some (.cells #[.int .i64 x1, .int .i64 x2] 41 (0, 0)) := hx0
            have hWs : ((wr.alloc (.cells #[.int .i64 x1, .int .i64 x2] 41)).drewN nq).heap.size = wr.heap.size + 1 := by show (wr.alloc _).heap.size = _; simp
            obtain ⟨X, hX⟩ : ∃ X, X = wr.heap.size := ⟨_, rfl⟩
            rw [← hX] at hx0' hWs ⊢
            generalize (wr.alloc (.cells #[.int .i64 x1, .int .i64 x2] 41)).drewN nq = W at *
            have HBOX := Lib.hid hx0'
            have hXl := cell_lt hx0'
            have hsW := HBW2.out.size
            clear hx0 hx0' hBW hX hWs c0 c1
            obtain ⟨wo, hwo⟩ : ∃ wo : World, wo = wr := ⟨_, rfl⟩
            subst hwo
            go_loopw [15, 101] (fun av iv wq => ∃ (i : Nat), iv = .int .i64 (i : Int) ∧ i ≤ l.length ∧ av = .bool ((l.take i).any fun y => y.1 == x1) ∧ Hid (Below W.heap.size W wq)) (fun _ iv _ => l.length - (intOf iv).toNat)
            case atStart => exact ⟨0, rfl, by omega, by simp, Lib.hid (Below.refl _ _)⟩
            case round =>
              obtain ⟨i, rfl, hi, rfl, HBQ⟩ := hrel
              have hsq := HBQ.out.size
              have hbx := (HBQ.out.block _ hXl).trans HBOX.out
              have k0 := cell2_0 hbx
              have k1 := cell2_1 hbx
              have hXq := cell_lt hbx
              have HBF : Hid (Below w10.heap.size w10 wr) := Lib.hid (HBW2.out.trans (HBQ.out.mono hsW))
              have HBL : Hid (Below w.heap.size w wr) := Lib.hid (HB1.out.trans ((HB10.out.trans (HBF.out.mono hs10)).mono hs1))
              clear hbx
              by_cases hil : i < l.length
              · obtain ⟨b, o, rfl, hb1, hb2, hcells⟩ := HA.out (by omega)
                obtain ⟨d0, d1⟩ := ws_cells hcells hil
                have d0 := (HBL.out.cell (p := ⟨b, o + i * 2, none⟩) hb2).trans d0
                have d1 := (HBL.out.cell (p := ⟨b, o + i * 2 + 1, none⟩) hb2).trans d1
                have HTK : Hid (((l.take (i + 1)).any fun y => y.1 == x1) = (((l.take i).any fun y => y.1 == x1) || ((l[i]).1 == x1))) := Lib.hid (by rw [List.take_succ_eq_append_getElem hil, List.any_append]; simp)
                clear hcells
                generalize l[i] = z at *
                obtain ⟨z1, z2⟩ := z
                dsimp only at d0 d1
                have hbq : b < wr.heap.size := by have := HBL.out.size; omega
                obtain ⟨bb, hbb⟩ : ∃ bb, bb = (l.take i).any fun y => y.1 == x1 := ⟨_, rfl⟩
                rw [← hbb] at HTK ⊢
                clear hbb
                cases bb with
                | true =>
                  have HT2 : Hid (((l.take (i + 1)).any fun y => y.1 == x1) = true) := Lib.hid (by rw [HTK.out]; rfl)
                  go_wp2
                  go_roundw
                  case rel => exact ⟨i + 1, by go_num, by omega, by rw [HT2.out], Lib.hid (HBQ.out.alloc HBQ.out.size _)⟩
                  case measure => simp [intOf]; omega
                | false =>
                  have HT2 : Hid (((l.take (i + 1)).any fun y => y.1 == x1) = (z1 == x1)) := Lib.hid (by rw [HTK.out]; rfl)
                  go_wp2
                  go_roundw
                  case rel => exact ⟨i + 1, by go_num, by omega, by rw [HT2.out], Lib.hid (HBQ.out.alloc HBQ.out.size _)⟩
                  case measure => simp [intOf]; omega
              · obtain rfl : i = l.length := by omega
                rw [List.take_length, HWHO.out]
                go_wp2
                go_roundw
                case rel => exact ⟨j + 1, by go_num, by omega, HBF⟩
                case measure => simp [intOf]; omega
          · obtain ⟨k, rfl⟩ : ∃ k, j = k + 1 := ⟨j - 1, by omega⟩
            obtain ⟨d0, d1⟩ := ws_cells HMX.out (show k < M.length by omega)
            have d0 := (HBJ.out.cell (p := ⟨mb, mo + k * 2, none⟩) hmb).trans d0
            have d1 := (HBJ.out.cell (p := ⟨mb, mo + k * 2 + 1, none⟩) hmb).trans d1
            have hyx := HPW.out k rfl
            rw [← HX.out] at hyx
            generalize M[k] = y at *
            obtain ⟨y1, y2⟩ := y
            dsimp only at d0 d1 hyx
            have q6 : IntKind.i64.wrap ((k : Int) + 1 - 1) = (k : Int) := by rw [IntWalk.i64_in _ (by omega)]; omega
            have hi0 : (0 : Int) ≤ (k : Int) := by omega
            have hi1 : (k : Int) < (M.length : Int) := by omega
            have hi2 : (0 : Int) < (k : Int) + 1 := by omega
            have hd9 : decide (x1 < y2) = false := decide_eq_false (by omega)
            clear hj0
            go_wp2
            go_quiet (fail)
            go_wp2
            have HBW2 : Hid (Below w10.heap.size w10 ((wr.alloc (.cells #[.int .i64 x1, .int .i64 x2] 41)).drewN nq)) := Lib.hid (below_drewN hBW nq)
            have hx0' : ((wr.alloc (.cells #[.int .i64 x1, .int .i64 x2] 41)).drewN nq).heap[wr.heap.size]? = some (.cells #[.int .i64 x1, .int .i64 x2] 41 (0, 0)) := hx0
            have hWs : ((wr.alloc (.cells #[.int .i64 x1, .int .i64 x2] 41)).drewN nq).heap.size = wr.heap.size + 1 := by show (wr.alloc _).heap.size = _; simp
            obtain ⟨X, hX⟩ : ∃ X, X = wr.heap.size := ⟨_, rfl⟩
            rw [← hX] at hx0' hWs ⊢
            generalize (wr.alloc (.cells #[.int .i64 x1, .int .i64 x2] 41)).drewN nq = W at *
            have HBOX := Lib.hid hx0'
            have hXl := cell_lt hx0'
            have hsW := HBW2.out.size
            clear hx0 hx0' hBW hX hWs c0 c1 d0 d1
            obtain ⟨wo, hwo⟩ : ∃ wo : World, wo = wr := ⟨_, rfl⟩
            subst hwo
            go_loopw [15, 101] (fun av iv wq => ∃ (i : Nat), iv = .int .i64 (i : Int) ∧ i ≤ l.length ∧ av = .bool ((l.take i).any fun y => y.1 == x1) ∧ Hid (Below W.heap.size W wq)) (fun _ iv _ => l.length - (intOf iv).toNat)
            case atStart => exact ⟨0, rfl, by omega, by simp, Lib.hid (Below.refl _ _)⟩
            case round =>
              obtain ⟨i, rfl, hi, rfl, HBQ⟩ := hrel
              have hsq := HBQ.out.size
              have hbx := (HBQ.out.block _ hXl).trans HBOX.out
              have k0 := cell2_0 hbx
              have k1 := cell2_1 hbx
              have hXq := cell_lt hbx
              have HBF : Hid (Below w10.heap.size w10 wr) := Lib.hid (HBW2.out.trans (HBQ.out.mono hsW))
              have HBL : Hid (Below w.heap.size w wr) := Lib.hid (HB1.out.trans ((HB10.out.trans (HBF.out.mono hs10)).mono hs1))
              clear hbx
              by_cases hil : i < l.length
              · obtain ⟨b, o, rfl, hb1, hb2, hcells⟩ := HA.out (by omega)
                obtain ⟨d0, d1⟩ := ws_cells hcells hil
                have d0 := (HBL.out.cell (p := ⟨b, o + i * 2, none⟩) hb2).trans d0
                have d1 := (HBL.out.cell (p := ⟨b, o + i * 2 + 1, none⟩) hb2).trans d1
                have HTK : Hid (((l.take (i + 1)).any fun y => y.1 == x1) = (((l.take i).any fun y => y.1 == x1) || ((l[i]).1 == x1))) := Lib.hid (by rw [List.take_succ_eq_append_getElem hil, List.any_append]; simp)
                clear hcells
                generalize l[i] = z at *
                obtain ⟨z1, z2⟩ := z
                dsimp only at d0 d1
                have hbq : b < wr.heap.size := by have := HBL.out.size; omega
                obtain ⟨bb, hbb⟩ : ∃ bb, bb = (l.take i).any fun y => y.1 == x1 := ⟨_, rfl⟩
                rw [← hbb] at HTK ⊢
                clear hbb
                cases bb with
                | true =>
                  have HT2 : Hid (((l.take (i + 1)).any fun y => y.1 == x1) = true) := Lib.hid (by rw [HTK.out]; rfl)
                  go_wp2
                  go_roundw
                  case rel => exact ⟨i + 1, by go_num, by omega, by rw [HT2.out], Lib.hid (HBQ.out.alloc HBQ.out.size _)⟩
                  case measure => simp [intOf]; omega
                | false =>
                  have HT2 : Hid (((l.take (i + 1)).any fun y => y.1 == x1) = (z1 == x1)) := Lib.hid (by rw [HTK.out]; rfl)
                  go_wp2
                  go_roundw
                  case rel => exact ⟨i + 1, by go_num, by omega, by rw [HT2.out], Lib.hid (HBQ.out.alloc HBQ.out.size _)⟩
                  case measure => simp [intOf]; omega
              · obtain rfl : i = l.length := by omega
                rw [List.take_length, HWHO.out]
                go_wp2
                go_roundw
                case rel => exact ⟨k + 1 + 1, by go_num, by omega, HBF⟩
                case measure => simp [intOf]; omega
        · obtain rfl : j = M.length := by omega
          have HBZ : Hid (Below w.heap.size w wr) := Lib.hid (HB1.out.trans ((HB10.out.trans (HBJ.out.mono hs10)).mono hs1))
          have HMZ : Hid (WsAt wr w.heap.size (.slice ma M.length mc) M) := Lib.hid (HM10.out.below HBJ.out)
          have HEQ := Lib.hid (hasB_eq (HMF.out.2.2.1 t))
          go_wp2_with (fail)
          refine (has_any _ _ l t wr (HW.out.below HBZ.out) (by omega)).mono ?_
          rw [HEQ.out]
          obtain ⟨r, hr⟩ : ∃ r, r = hasB M t := ⟨_, rfl⟩
          rw [← hr]
          rintro e wA ⟨rfl, hbA⟩
          have HRR := Lib.hid hr
          have HMA2 := Lib.hid (HMZ.out.below hbA)
          have HBA2 : Hid (Below w.heap.size w wA) := Lib.hid (HBZ.out.trans (hbA.mono HBZ.out.size))
          clear hr hbA
          go_wp2_with (fail)
          refine (has_any _ _ M t wA HMA2.out (by omega)).mono ?_
          rw [← HRR.out]
          rintro e wB ⟨rfl, hbB⟩
          have HBB2 : Hid (Below w.heap.size w wB) := Lib.hid (HBA2.out.trans (hbB.mono HBA2.out.size))
          clear hbB
          have hrr : (r == r) = true := by simp
          cases r
          all_goals
            go_wp2_with (go_at_call 17; refine (awake_any _).mono ?_; rintro e wc ⟨rfl, hbc⟩)
            go_ret
            exact ⟨rfl, HBB2.out.trans (hbc.mono HBB2.out.size)⟩

end Go.Proofs.YtofollamkcgknaaDoor
