/-
The walk of WindowHas.
-/
import Derived.Test.YtofollamkcgknaaDoorHp
import Derived.Test.YtofollamkcgknaaDoorLt
import Derived.Test.YtofollamkcgknaaDoorSd
set_option linter.unusedVariables false
namespace Go.Proofs.YtofollamkcgknaaDoor
open Go.RowKit

set_option maxRecDepth 100000 in
set_option maxHeartbeats 4000000 in
theorem has_bad (k s p o t u : Int) (w : World) (n1 : Int) (hn : (n1 == 0) = false) (hn2 : (n1 != 0) = true) (h1 : ∀ w, Calls Tryd.prog 12 #[.agg #[.int .i64 k, .int .i64 s, .int .i64 p, .int .i64 o], .int .i64 t] w fun e w' => e = .returned (.tuple #[.slice none 0 0, .int .i64 n1]) ∧ Below w.heap.size w w') :
    Calls Tryd.prog 6 #[.agg #[.int .i64 k, .int .i64 s, .int .i64 p, .int .i64 o], .int .i64 t, .int .i64 u] w fun e w' => e = .returned (.bool true) ∧ Below w.heap.size w w' := by
  have H1 := Lib.hid h1
  clear h1
  go_enter Tryd.func6, Tryd.ntmps6
  go_wp2_with (first
    | (go_at_call 17; refine (awake_any _).mono ?_; rintro e wc ⟨rfl, hbc⟩; have HBc : Below w.heap.size w wc := HB2.trans (hbc.mono HB2.size))
    | (go_at_call 12; have tok := hz1; refine (assign_some k s p o u _).mono ?_; rintro e w2 ⟨⟨v2, n2, rfl⟩, hb2⟩; have HB2 : Below w.heap.size w w2 := HB1.trans (hb2.mono HB1.size); have hx2 := (hb2.block _ hz1).trans HX1.out; have HX2 := Lib.hid hx2; obtain ⟨b0, b1, b2, b3⟩ := box4 hx2; have hz2 : w.heap.size < w2.heap.size := cell_lt hx2; clear hx2 hb2 a0 a1 a2 a3)
    | (go_at_call 12; refine (H1.out _).mono ?_; rintro e w1 ⟨rfl, hb1⟩; have HB1 : Below w.heap.size w w1 := ((Below.refl _ _).alloc (Nat.le_refl _) _).trans (hb1.mono (by simp <;> omega)); have hx1 := (hb1.block w.heap.size (by simp <;> omega)).trans (heap_new_at rfl); have HX1 := Lib.hid hx1; obtain ⟨a0, a1, a2, a3⟩ := box4 hx1; have hz1 : w.heap.size < w1.heap.size := cell_lt hx1; clear hx1 hb1))
  go_ret
  exact ⟨rfl, HBc⟩

set_option maxRecDepth 100000 in
set_option maxHeartbeats 4000000 in
theorem has_late (k s p o t u : Int) (w : World) (hr : rgtB k s p o = true) (ht : 0 ≤ t) (ht2 : t ≤ 1048576) (hu : ¬ (0 ≤ u ∧ u ≤ 1048576)) :
    Calls Tryd.prog 6 #[.agg #[.int .i64 k, .int .i64 s, .int .i64 p, .int .i64 o], .int .i64 t, .int .i64 u] w fun e w' => e = .returned (.bool true) ∧ Below w.heap.size w w' := by
  have HR := Lib.hid hr
  have HU := Lib.hid hu
  clear hr hu
  go_enter Tryd.func6, Tryd.ntmps6
  go_wp2_with (first
    | (go_at_call 17; refine (awake_any _).mono ?_; rintro e wc ⟨rfl, hbc⟩; have HBc : Below w.heap.size w wc := HB2.trans (hbc.mono HB2.size))
    | (go_at_call 12; have tok := hz1; refine (assign_late k s p o u _ HR.out HU.out).mono ?_; rintro e w2 ⟨rfl, hb2⟩; have HB2 : Below w.heap.size w w2 := HB1.trans (hb2.mono HB1.size); have hx2 := (hb2.block _ hz1).trans HX1.out; have HX2 := Lib.hid hx2; obtain ⟨b0, b1, b2, b3⟩ := box4 hx2; have hz2 : w.heap.size < w2.heap.size := cell_lt hx2; clear hx2 hb2 a0 a1 a2 a3)
    | (go_at_call 12; refine (assign_ok k s p o t _ HR.out ht ht2).mono ?_; rintro e w1 ⟨⟨la, lc, rfl, hl1⟩, hb1⟩; have HB1 : Below w.heap.size w w1 := ((Below.refl _ _).alloc (Nat.le_refl _) _).trans (hb1.mono (by simp <;> omega)); have hx1 := (hb1.block w.heap.size (by simp <;> omega)).trans (heap_new_at rfl); have HX1 := Lib.hid hx1; obtain ⟨a0, a1, a2, a3⟩ := box4 hx1; have hz1 : w.heap.size < w1.heap.size := cell_lt hx1; clear hx1 hb1))
  go_ret
  exact ⟨rfl, HBc⟩

set_option maxRecDepth 100000 in
set_option maxHeartbeats 4000000 in
theorem has_ok (k s p o t u : Int) (w : World) (hr : rgtB k s p o = true) (ht : 0 ≤ t) (ht2 : t ≤ 1048576) (hu : 0 ≤ u) (hu2 : u ≤ 1048576) :
    Calls Tryd.prog 6 #[.agg #[.int .i64 k, .int .i64 s, .int .i64 p, .int .i64 o], .int .i64 t, .int .i64 u] w fun e w' => e = .returned (.bool true) ∧ Below w.heap.size w w' := by
  have HR := Lib.hid hr
  have hp1 := asg_pos k s p o t (rgt_of hr)
  have hp16 := asg_16 k s p o t (rgt_of hr)
  have hq1 := asg_pos k s p o u (rgt_of hr)
  have hq16 := asg_16 k s p o u (rgt_of hr)
  have HIN := Lib.hid (asg_in k s p o t (rgt_of hr) ht ht2)
  have HST := Lib.hid (asg_step k s p o t (rgt_of hr))
  have HM : Hid (¬ k = 3 → ∀ x ∈ asg k s p o u, (x ∈ asg k s p o t ↔ x.1 ≤ t ∧ t < x.2)) := Lib.hid fun hk x hx => asg_mem k s p o t u (rgt_of hr) hk ht ht2 x hx
  have HL3 : Hid (k = 3 → (asg k s p o t).length = 1) := Lib.hid fun h => by subst h; rfl
  have HA1 := fun w => Lib.hid (assign_ok k s p o t w hr ht ht2)
  have HA2 := fun w => Lib.hid (assign_ok k s p o u w hr hu hu2)
  generalize asg k s p o t = l at *
  generalize asg k s p o u = m at *
  clear hr
  go_enter Tryd.func6, Tryd.ntmps6
  go_wp2_with (first
    | (go_at_call 12; have tok := hz1; refine ((HA2 _).out).mono ?_; rintro e w2 ⟨⟨ma, mc, rfl, hm2⟩, hb2⟩; have HL2 := Lib.hid (HL1.out.below hb2); have HM2 := Lib.hid hm2; clear hm2; have HB2 : Below w.heap.size w w2 := HB1.trans (hb2.mono HB1.size); have hx2 := (hb2.block _ hz1).trans HX1.out; have HX2 := Lib.hid hx2; obtain ⟨b0, b1, b2, b3⟩ := box4 hx2; have hz2 : w.heap.size < w2.heap.size := cell_lt hx2; clear hx2 hb2 a0 a1 a2 a3)
    | (go_at_call 12; refine ((HA1 _).out).mono ?_; rintro e w1 ⟨⟨la, lc, rfl, hl1⟩, hb1⟩; have HL1 := Lib.hid hl1; clear hl1; have HB1 : Below w.heap.size w w1 := ((Below.refl _ _).alloc (Nat.le_refl _) _).trans (hb1.mono (by simp <;> omega)); have hx1 := (hb1.block w.heap.size (by simp <;> omega)).trans (heap_new_at rfl); have HX1 := Lib.hid hx1; obtain ⟨a0, a1, a2, a3⟩ := box4 hx1; have hz1 : w.heap.size < w1.heap.size := cell_lt hx1; clear hx1 hb1))
  obtain ⟨la', lc', hle, hlc, hlA⟩ := HL2.out
  injection hle with hle1 hle2 hle3
  subst hle1; subst hle3
  obtain ⟨lb, lo, rfl, _, hlb, HLC⟩ := hlA (by omega)
  obtain ⟨ma', mc', hme, hmc, hmA⟩ := HM2.out
  injection hme with hme1 hme2 hme3
  subst hme1; subst hme3
  obtain ⟨mb, mo, rfl, _, hmb, HMC⟩ := hmA (by omega)
  have HLC := Lib.hid HLC
  have HMC := Lib.hid HMC
  clear hlA hmA HL1 HL2 HM2 HX1 HB1 hz1 tok
  go_loopw [39] (fun iv wr => ∃ j : Nat, iv = .int .i64 (j : Int) ∧ j ≤ l.length ∧ Hid (Below w2.heap.size w2 wr)) (fun iv _ => l.length - (intOf iv).toNat)
  case atStart => exact ⟨0, rfl, by omega, Lib.hid (Below.refl _ _)⟩
  case round =>
    obtain ⟨j, rfl, hj, HB⟩ := hrel
    have hsr := HB.out.size
    by_cases hlt : j < l.length
    · obtain ⟨c0, c1⟩ := ws_cells HLC.out hlt
      have c0 := (HB.out.cell (p := ⟨lb, lo + j * 2, none⟩) hlb).trans c0
      have c1 := (HB.out.cell (p := ⟨lb, lo + j * 2 + 1, none⟩) hlb).trans c1
      have hxg : l[j]? = some l[j] := List.getElem?_eq_getElem hlt
      have hin := HIN.out l[j] (List.getElem_mem hlt)
      have HXG := Lib.hid hxg
      clear hxg
      generalize l[j] = x at *
      obtain ⟨x1, x2⟩ := x
      dsimp only at c0 c1 hin
      obtain ⟨hin1, hin2, hin3⟩ := hin
      have HG := Lib.hid hin3
      clear hin3
      have hj0 : (0 : Int) ≤ (j : Int) := by omega
      have hj1 : (j : Int) < (l.length : Int) := by omega
      have hd1 : decide (t < x1) = false := decide_eq_false (by omega)
      have hd2 : decide (x2 ≤ t) = false := decide_eq_false (by omega)
      have hbr : lb < wr.heap.size := by omega
      by_cases hj2 : j = 0
      · have hj3 : decide ((0 : Int) < (j : Int)) = false := by simp; omega
        have hj4 : ¬ (0 : Int) < (j : Int) := by omega
        have hj5 : ¬ 0 < j := by omega
        clear hj2
        go_wp2
        obtain ⟨W, hW⟩ : ∃ W, W = wr.alloc (.cells #[.int .i64 x1, .int .i64 x2] 41) := ⟨_, rfl⟩
        have hy := heap_alloc_new wr (.cells #[.int .i64 x1, .int .i64 x2] 41)
        have hBW : Below w2.heap.size w2 W := by rw [hW]; exact HB.out.alloc HB.out.size _
        rw [← hW] at hy ⊢
        have HBW := Lib.hid hBW
        have g0 := Wb.cell (cell2_0 hy) (cell_lt hy)
        have g1 := Wb.cell (cell2_1 hy) (cell_lt hy)
        clear hW hBW hy c0 c1
        refine wp_region_quiet_below (by kernel_rfl) (by kernel_rfl) ?_
        repeat (go_big_quiet_step ((go_at_call 25; exact Wb.call (wcheck_yes x1 x2 _ HG.out))))
        refine wpQuiet_nil ?_
        rintro _ ⟨⟨wc, HBc⟩, rfl⟩
        go_wp2
        go_roundw
        case rel => exact ⟨j + 1, by go_num, by omega, Lib.hid (HBW.out.trans (HBc.mono HBW.out.size))⟩
        case measure => simp [intOf]; omega
      · obtain ⟨i, rfl⟩ : ∃ i, j = i + 1 := ⟨j - 1, by omega⟩
        obtain ⟨d0, d1⟩ := ws_cells HLC.out (show i < l.length by omega)
        have d0 := (HB.out.cell (p := ⟨lb, lo + i * 2, none⟩) hlb).trans d0
        have d1 := (HB.out.cell (p := ⟨lb, lo + i * 2 + 1, none⟩) hlb).trans d1
        have HLS := Lib.hid (HST.out i l[i] (x1, x2) (List.getElem?_eq_getElem (by omega)) HXG.out)
        generalize l[i] = y at *
        obtain ⟨y1, y2⟩ := y
        dsimp only at d0 d1
        have q6 : IntKind.i64.wrap ((i : Int) + 1 - 1) = (i : Int) := by rw [IntWalk.i64_in _ (by omega)]; omega
        have hi0 : (0 : Int) ≤ (i : Int) := by omega
        have hi1 : (i : Int) < (l.length : Int) := by omega
        have hi2 : (0 : Int) < (i : Int) + 1 := by omega
        clear hj2
        go_wp2
        obtain ⟨W, hW⟩ : ∃ W, W = wr.alloc (.cells #[.int .i64 x1, .int .i64 x2] 41) := ⟨_, rfl⟩
        have hy := heap_alloc_new wr (.cells #[.int .i64 x1, .int .i64 x2] 41)
        have hBW : Below w2.heap.size w2 W := by rw [hW]; exact HB.out.alloc HB.out.size _
        have hk0 : W.cell? ⟨lb, lo + i * 2, none⟩ = some (.int .i64 y1) := by rw [hW]; exact cell_alloc_some d0
        have hk1 : W.cell? ⟨lb, lo + i * 2 + 1, none⟩ = some (.int .i64 y2) := by rw [hW]; exact cell_alloc_some d1
        have hbW : lb < W.heap.size := by rw [hW]; simp; omega
        rw [← hW] at hy ⊢
        have HBW := Lib.hid hBW
        have g0 := Wb.cell (cell2_0 hy) (cell_lt hy)
        have g1 := Wb.cell (cell2_1 hy) (cell_lt hy)
        have g2 := Wb.cell hk0 hbW
        have g3 := Wb.cell hk1 hbW
        clear hW hBW hy c0 c1 d0 d1 hk0 hk1
        refine wp_region_quiet_below (by kernel_rfl) (by kernel_rfl) ?_
        repeat (go_big_quiet_step ((first
          | (go_at_call 25; exact Wb.call (wcheck_yes x1 x2 _ HG.out))
          | (go_at_call 27; exact Wb.call ((less_any (y1, y2) (x1, x2) _).mono fun e w' h => ⟨by rw [h.1, HLS.out], h.2⟩)))))
        refine wpQuiet_nil ?_
        rintro _ ⟨⟨wc, HBc⟩, rfl⟩
        go_wp2
        go_roundw
        case rel => exact ⟨i + 1 + 1, by go_num, by omega, Lib.hid (HBW.out.trans (HBc.mono HBW.out.size))⟩
        case measure => simp [intOf]; omega
    · obtain rfl : j = l.length := by omega
      have hx := (HB.out.block _ hz2).trans HX2.out
      obtain ⟨e0, e1, e2, e3⟩ := box4 hx
      have hzr : w.heap.size < wr.heap.size := cell_lt hx
      clear hx b0 b1 b2 b3
      by_cases hk : k = 3
      · have hl1 := HL3.out hk
        have hd1 : ((l.length : Int) == 1) = true := by rw [hl1]; rfl
        subst hk
        clear hl1
        go_wp2_with (go_at_call 17; refine (awake_any _).mono ?_; rintro e wc ⟨rfl, hbc⟩)
        go_ret
        exact ⟨rfl, HB2.trans ((HB.out.trans (hbc.mono HB.out.size)).mono HB2.size)⟩
      · have hkd : (k == 3) = false := by simpa using hk
        have HM2 := Lib.hid (HM.out hk)
        clear hk
        go_wp2
        obtain ⟨wa, HBA⟩ : ∃ wa : World, wa = wr := ⟨_, rfl⟩
        subst HBA
        have HBA := HB
        clear HB e0 e1 e2 e3
        have hsa := hsr
        go_loopw [85] (fun iv wr => ∃ j : Nat, iv = .int .i64 (j : Int) ∧ j ≤ m.length ∧ Hid (Below w2.heap.size w2 wr)) (fun iv _ => m.length - (intOf iv).toNat)
        case atStart => exact ⟨0, rfl, by omega, Lib.hid HBA.out⟩
        case round =>
          obtain ⟨j, rfl, hj', HB⟩ := hrel
          have hsr' := HB.out.size
          by_cases hlt : j < m.length
          · obtain ⟨c0, c1⟩ := ws_cells HMC.out hlt
            have c0 := (HB.out.cell (p := ⟨mb, mo + j * 2, none⟩) hmb).trans c0
            have c1 := (HB.out.cell (p := ⟨mb, mo + j * 2 + 1, none⟩) hmb).trans c1
            have HIFF := Lib.hid (HM2.out m[j] (List.getElem_mem hlt))
            generalize m[j] = x at *
            obtain ⟨x1, x2⟩ := x
            dsimp only at c0 c1
            have hmr : mb < wr.heap.size := by omega
            go_wp2
            have hy := heap_alloc_new wr (.cells #[.int .i64 x1, .int .i64 x2] 41)
            have hBW : Below w2.heap.size w2 (wr.alloc (.cells #[.int .i64 x1, .int .i64 x2] 41)) := HB.out.alloc HB.out.size _
            obtain ⟨X, hX⟩ : ∃ X, X = wr.heap.size := ⟨_, rfl⟩
            rw [← hX] at hy ⊢
            obtain ⟨W, hW⟩ : ∃ W, W = wr.alloc (.cells #[.int .i64 x1, .int .i64 x2] 41) := ⟨_, rfl⟩
            have hWs : W.heap.size = wr.heap.size + 1 := by rw [hW]; simp
            rw [← hW] at hy hBW ⊢
            have HBW := Lib.hid hBW
            have HY := Lib.hid hy
            have hXl := cell_lt hy
            have hX2 : w2.heap.size ≤ X := by omega
            clear hW hBW hy c0 c1 hX hWs
            obtain ⟨wo, hwo⟩ : ∃ wo : World, wo = wr := ⟨_, rfl⟩
            subst hwo
            go_loopw [15, 91] (fun av iv wq => ∃ (i : Nat), iv = .int .i64 (i : Int) ∧ i ≤ l.length ∧ av = .bool (decide ((x1, x2) ∈ l.take i)) ∧ Hid (Below W.heap.size W wq)) (fun _ iv _ => l.length - (intOf iv).toNat)
            case atStart => exact ⟨0, rfl, by omega, by simp, Lib.hid (Below.refl _ _)⟩
            case round =>
              obtain ⟨i, rfl, hi, rfl, HBQ⟩ := hrel
              have hsq := HBQ.out.size
              have hbx := (HBQ.out.block _ hXl).trans HY.out
              have k0 := cell2_0 hbx
              have k1 := cell2_1 hbx
              have hXq := cell_lt hbx
              clear hbx
              by_cases hil : i < l.length
              · obtain ⟨d0, d1⟩ := ws_cells HLC.out hil
                have HBQ2 := Lib.hid (HBW.out.trans (HBQ.out.mono HBW.out.size))
                have d0 := (HBQ2.out.cell (p := ⟨lb, lo + i * 2, none⟩) hlb).trans d0
                have d1 := (HBQ2.out.cell (p := ⟨lb, lo + i * 2 + 1, none⟩) hlb).trans d1
                have HTK : Hid (((x1, x2) ∈ l.take (i + 1)) ↔ ((x1, x2) ∈ l.take i ∨ (x1, x2) = l[i])) := Lib.hid (by rw [List.take_succ_eq_append_getElem hil, List.mem_append, List.mem_singleton])
                generalize l[i] = y at *
                obtain ⟨y1, y2⟩ := y
                dsimp only at d0 d1
                have hlbq : lb < wr.heap.size := by have := HBQ2.out.size; omega
                by_cases hm : (x1, x2) ∈ l.take i
                · have hd : decide ((x1, x2) ∈ l.take i) = true := decide_eq_true hm
                  have HD2 : Hid (decide ((x1, x2) ∈ l.take (i + 1)) = true) := Lib.hid (decide_eq_true (HTK.out.2 (.inl hm)))
                  rw [hd]
                  clear hd hm
                  go_wp2
                  go_roundw
                  case rel => exact ⟨i + 1, by go_num, by omega, by rw [HD2.out], Lib.hid (HBQ.out.alloc HBQ.out.size _)⟩
                  case measure => simp [intOf]; omega
                · have hd : decide ((x1, x2) ∈ l.take i) = false := decide_eq_false hm
                  have HD2 : Hid (decide ((x1, x2) ∈ l.take (i + 1)) = (y1 == x1 && y2 == x2)) := Lib.hid (by
                    rw [Bool.eq_iff_iff, decide_eq_true_eq, HTK.out]
                    simp only [Bool.and_eq_true, beq_iff_eq, Prod.mk.injEq]
                    constructor
                    · rintro (h | ⟨h1, h2⟩)
                      · exact absurd h hm
                      · exact ⟨h1.symm, h2.symm⟩
                    · rintro ⟨h1, h2⟩; exact .inr ⟨h1.symm, h2.symm⟩)
                  rw [hd]
                  clear hd hm
                  by_cases e1 : y1 = x1
                  · by_cases e2 : y2 = x2
                    · subst e1; subst e2
                      go_wp2
                      go_roundw
                      case rel => exact ⟨i + 1, by go_num, by omega, by rw [HD2.out]; simp, Lib.hid (HBQ.out.alloc HBQ.out.size _)⟩
                      case measure => simp [intOf]; omega
                    · subst e1
                      have e3 : (y2 == x2) = false := by simpa using e2
                      go_wp2
                      go_roundw
                      case rel => exact ⟨i + 1, by go_num, by omega, by rw [HD2.out, e3]; simp, Lib.hid (HBQ.out.alloc HBQ.out.size _)⟩
                      case measure => simp [intOf]; omega
                  · have e3 : (y1 == x1) = false := by simpa using e1
                    go_wp2
                    go_roundw
                    case rel => exact ⟨i + 1, by go_num, by omega, by rw [HD2.out, e3]; simp, Lib.hid (HBQ.out.alloc HBQ.out.size _)⟩
                    case measure => simp [intOf]; omega
              · obtain rfl : i = l.length := by omega
                rw [List.take_length]
                have hBF := HBW.out.trans (HBQ.out.mono HBW.out.size)
                have HBF := Lib.hid hBF
                clear hBF
                by_cases h1 : x1 ≤ t
                · by_cases h2 : t < x2
                  · have hd : decide ((x1, x2) ∈ l) = true := decide_eq_true (HIFF.out.2 ⟨h1, h2⟩)
                    rw [hd]
                    clear hd
                    go_wp2
                    go_roundw
                    case rel => exact ⟨j + 1, by go_num, by omega, HBF⟩
                    case measure => simp [intOf]; omega
                  · have hd : decide ((x1, x2) ∈ l) = false := decide_eq_false fun h => h2 (HIFF.out.1 h).2
                    rw [hd]
                    clear hd
                    go_wp2
                    go_roundw
                    case rel => exact ⟨j + 1, by go_num, by omega, HBF⟩
                    case measure => simp [intOf]; omega
                · have hd : decide ((x1, x2) ∈ l) = false := decide_eq_false fun h => h1 (HIFF.out.1 h).1
                  rw [hd]
                  clear hd
                  go_wp2
                  go_roundw
                  case rel => exact ⟨j + 1, by go_num, by omega, HBF⟩
                  case measure => simp [intOf]; omega
          · obtain rfl : j = m.length := by omega
            have hd1 : decide (1 ≤ (l.length : Int)) = true := by simp; omega
            have hd2 : decide ((l.length : Int) ≤ 16) = true := by simp; omega
            go_wp2_with (go_at_call 17; refine (awake_any _).mono ?_; rintro e wc ⟨rfl, hbc⟩)
            go_ret
            exact ⟨rfl, HB2.trans ((HB.out.trans (hbc.mono HB.out.size)).mono HB2.size)⟩

theorem has_true (k s p o t u : Int) (w : World) : Calls Tryd.prog 6 #[.agg #[.int .i64 k, .int .i64 s, .int .i64 p, .int .i64 o], .int .i64 t, .int .i64 u] w fun e w' => e = .returned (.bool true) ∧ Below w.heap.size w w' := by
  cases hr : rgtB k s p o with
  | false => exact has_bad k s p o t u w 70 rfl rfl fun w => assign_bad k s p o t w hr
  | true =>
    by_cases ht : 0 ≤ t ∧ t ≤ 1048576
    · by_cases hu : 0 ≤ u ∧ u ≤ 1048576
      · exact has_ok k s p o t u w hr ht.1 ht.2 hu.1 hu.2
      · exact has_late k s p o t u w hr ht.1 ht.2 hu
    · exact has_bad k s p o t u w 71 rfl rfl fun w => assign_late k s p o t w hr ht

end Go.Proofs.YtofollamkcgknaaDoor
