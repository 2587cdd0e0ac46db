/-
The document's answer for package expr: expr: a digit behind a word.
-/
import Derived.Test.YtadbnlnifacblaaGreatDoorQeA
namespace Go.Proofs.YtadbnlnifacblaaGreatDoor
open Go.RowKit
set_option maxRecDepth 100000 in
set_option maxHeartbeats 64000000 in
theorem expr_stepD (r : Nat) (_hr : r ≤ 23) (IH : 0 < r → ExD r) (s : ByteArray) (m : Nat) (w : World) (hs : s.size ≤ 1000000) (hm : m ≤ s.size) (hX : ∀ p least, wdP (spel (bl s) (skip (bl s) m)) = some (p, least) → hasB p 101 = false ∧ p ≠ [116] ∧ p ≠ []) (hL : isLet (lkB (bl s) (skip (bl s) m)) = true) (hZ : ¬ ((spel (bl s) (skip (bl s) m)).length = 16 ∧ nmB (lkB (bl s) (skip (bl s) m + 16)) = true)) (hN0 : wdP (spel (bl s) (skip (bl s) m)) = none → False) : ExC r s m w := by
  unfold ExC
  have HIH := Lib.hid IH
  have hsk := skip_le (l := bl s) (m := m) (by rw [bl_length]; exact hm)
  rw [bl_length] at hsk
  obtain ⟨q, hq⟩ : ∃ q, q = skip (bl s) m := ⟨_, rfl⟩
  rw [← hq] at hsk hX hL hZ hN0 ⊢
  have HL := Lib.hid hL
  have HZ := Lib.hid hZ
  have HN0 := Lib.hid hN0
  clear hL hZ hN0
  have HX := Lib.hid hX
  clear hX
  have HQ := Lib.hid hq
  clear hq IH
  have hb0 := (Below.refl w.heap.size w).alloc (Nat.le_refl _) (.cells #[.string ⟨#[]⟩, .int .i64 0, .string ⟨#[]⟩, .int .i64 0, .slice none 0 0, .slice none 0 0] 37)
  have HC0 := Lib.hid (heap_alloc_new w (.cells #[.string ⟨#[]⟩, .int .i64 0, .string ⟨#[]⟩, .int .i64 0, .slice none 0 0, .slice none 0 0] 37))
  have hs0 : (w.alloc (.cells #[.string ⟨#[]⟩, .int .i64 0, .string ⟨#[]⟩, .int .i64 0, .slice none 0 0, .slice none 0 0] 37)).heap.size = w.heap.size + 1 := by simp
  have HB0 := Lib.hid hb0
  clear hb0
  go_enter Tryz.func45, Tryz.ntmps45
  go_wp2_with (fail)
  refine (skip_d s m _ hs hm).mono ?_
  rw [← HQ.out]
  rintro e w1 ⟨rfl, hw1⟩
  subst hw1
  generalize w.alloc (.cells #[.string ⟨#[]⟩, .int .i64 0, .string ⟨#[]⟩, .int .i64 0, .slice none 0 0, .slice none 0 0] 37) = w1 at *
  have z0 := cell6_0 HC0.out
  have z1 := cell6_1 HC0.out
  have z2 := cell6_2 HC0.out
  have z3 := cell6_3 HC0.out
  have z4 := cell6_4 HC0.out
  have z5 := cell6_5 HC0.out
  have zf0 := cell3_f HC0.out 0
  have zf1 := cell3_f HC0.out 1
  have zf2 := cell3_f HC0.out 2
  have zf3 := cell3_f HC0.out 3
  have zf4 := cell3_f HC0.out 4
  have zf5 := cell3_f HC0.out 5
  have zl := cell_lt HC0.out
  by_cases hqe : q < s.size
  · have hqI : decide (s.size ≤ q) = false := by simp; omega
    have hix := str_index s q hqe hs
    rw [← bl_at s q hqe] at hix
    have HQL : Hid ((exprR Knd.parseT (bl s) (r + 1) q).1 ≤ s.size) := by
      have := (expr_in kp_ok (l := bl s) (r + 1) q (by rw [bl_length]; omega)).2
      rw [bl_length] at this
      exact this
    have HEX : Hid (exprR Knd.parseT (bl s) (r + 1) q = (if decide (lkB (bl s) q = 45) || isDig (lkB (bl s) q) then numN (bl s) q
      else if lkB (bl s) q = 34 then strN (bl s) q
      else if isLet (lkB (bl s) q) then (match wdP (spel (bl s) q) with
        | none => (q + (spel (bl s) q).length, some (nameN (spel (bl s) q)))
        | some (p, least) => if hasB p 101 && decide (r = 0) then (q + (spel (bl s) q).length, none)
          else if p = [] then (q + (spel (bl s) q).length, some (.mk (spel (bl s) q) 0 [] ty0 []))
          else partsR Knd.parseT (exprR Knd.parseT (bl s) r) (bl s) least p 0 40 (q + (spel (bl s) q).length) (.mk (spel (bl s) q) 0 [] ty0 []))
      else (q, none))) := Lib.hid rfl
    by_cases h34 : lkB (bl s) q = 34
    · exact absurd (by have h := HL.out; rw [h34] at h; exact h : isLet 34 = true) (by decide)
    · have g34 : (((lkB (bl s) q).toNat : Int) == 34) = false := by
        simp only [beq_eq_false_iff_ne, ne_eq]
        intro hh
        exact h34 (UInt8.toNat_inj.1 (by have h34 : (34 : UInt8).toNat = 34 := rfl; omega))
      have HNB : Hid (rdB (bl s) q 45 = true ∨ (rdB (bl s) q 45 = false ∧ isDig (lkB (bl s) q) = true) → Calls Tryz.prog 81 #[.string s, .int .i64 (q : Int)] w1 fun e w' => NbO (bl s) q e ∧ w' = w1) := fun h => by
        rcases h with h | ⟨h, h'⟩
        · exact number_neg s q w1 hs hqe h
        · exact number_pos s q w1 hs hqe h h'
      have HNM : Hid (∀ (v : Int) (ok : Bool), RelD (bl s) ((numN (bl s) q).1, if ok = true then some (.mk intW v [] ty0 []) else none) (numN (bl s) q) → exprR Knd.parseT (bl s) (r + 1) q = numN (bl s) q → (∃ d', RelD (bl s) d' (exprR Knd.parseT (bl s) (r + 1) q) ∧ NdO w ((((((w1.setCell ⟨w.heap.size, 0, none⟩ (.string ⟨#[105, 110, 116]⟩)).setCell ⟨w.heap.size, 1, none⟩ (.int .i64 v)).setCell ⟨w.heap.size, 2, none⟩ (.string ⟨#[]⟩)).setCell ⟨w.heap.size, 3, none⟩ (.int .i64 0)).setCell ⟨w.heap.size, 4, none⟩ (.slice none 0 0)).setCell ⟨w.heap.size, 5, none⟩ (.slice none 0 0)) d' (.returned (.tuple #[.agg #[.string ⟨#[105, 110, 116]⟩, .int .i64 v, .string ⟨#[]⟩, .int .i64 0, .slice none 0 0, .slice none 0 0], .int .i64 ((numN (bl s) q).1 : Int), .bool ok])) ∧ d'.1 ≤ s.size) ∧ Below w.heap.size w ((((((w1.setCell ⟨w.heap.size, 0, none⟩ (.string ⟨#[105, 110, 116]⟩)).setCell ⟨w.heap.size, 1, none⟩ (.int .i64 v)).setCell ⟨w.heap.size, 2, none⟩ (.string ⟨#[]⟩)).setCell ⟨w.heap.size, 3, none⟩ (.int .i64 0)).setCell ⟨w.heap.size, 4, none⟩ (.slice none 0 0)).setCell ⟨w.heap.size, 5, none⟩ (.slice none 0 0))) := fun v ok hR hE => by
        have hl := HQL.out
        cases ok with
        | true => exact ex_end (s := s) (d := ((numN (bl s) q).1, some (.mk intW v [] ty0 []))) hl (by rw [hE]; exact hR) HB0.out (fun n h => by cases h; exact ⟨1, NdAt.leaf _ _ 0 intW v []⟩)
        | false => exact ex_end (s := s) (d := ((numN (bl s) q).1, none)) hl (by rw [hE]; exact hR) HB0.out (fun n h => by cases h)
      by_cases h45 : rdB (bl s) q 45 = true
      · exact absurd (by have h := HL.out; rw [show lkB (bl s) q = 45 from of_decide_eq_true h45] at h; exact h : isLet 45 = true) (by decide)
      · have h45f : rdB (bl s) q 45 = false := by simpa using h45
        have g45 : (((lkB (bl s) q).toNat : Int) == 45) = false := by
          simp only [beq_eq_false_iff_ne, ne_eq]
          intro hh
          exact h45 (decide_eq_true (UInt8.toNat_inj.1 (by have h45 : (45 : UInt8).toNat = 45 := rfl; omega)))
        have HDG := Lib.hid (digit_d (lkB (bl s) q) w1)
        have h45d : decide (lkB (bl s) q = 45) = false := h45f
        cases hdg : isDig (lkB (bl s) q) with
        | true => exact absurd hdg (by rw [let_dig HL.out]; decide)
        | false =>
          rw [hdg] at HDG
          have HWD := Lib.hid (word_d s q w1 hs (by omega))
          have HEW : Hid (exprR Knd.parseT (bl s) (r + 1) q = (if isLet (lkB (bl s) q) then (match wdP (spel (bl s) q) with
              | none => (q + (spel (bl s) q).length, some (nameN (spel (bl s) q)))
              | some (p, least) => if hasB p 101 && decide (r = 0) then (q + (spel (bl s) q).length, none)
                else if p = [] then (q + (spel (bl s) q).length, some (.mk (spel (bl s) q) 0 [] ty0 []))
                else partsR Knd.parseT (exprR Knd.parseT (bl s) r) (bl s) least p 0 40 (q + (spel (bl s) q).length) (.mk (spel (bl s) q) 0 [] ty0 []))
            else (q, none))) := by show _ = _; rw [HEX.out, hdg, h45d, if_neg h34]; rfl
          clear h34 h45 h45f h45d hdg HEX HNB HNM
          cases hlt : isLet (lkB (bl s) q) with
          | false => exact absurd HL.out (by rw [hlt]; decide)
          | true =>
            have HF : Hid (isLet (lkB (bl s) q) = true) := Lib.hid hlt
            clear hlt
            obtain ⟨t, ht⟩ : ∃ t, t = spel (bl s) q := ⟨_, rfl⟩
            obtain ⟨en, hen⟩ : ∃ en, en = q + (spel (bl s) q).length := ⟨_, rfl⟩
            have hen2 : en ≤ s.size := by
              have := nmL_le ((bl s).drop q)
              rw [hen, spel_len]
              rw [List.length_drop, bl_length] at this
              omega
            by_cases h16 : (spel (bl s) q).length = 16 ∧ nmB (lkB (bl s) (q + 16)) = true
            · exact absurd h16 HZ.out
            · 
              have HG := Lib.hid h16
              have HPD := Lib.hid (parts_any_d t w1)
              have HDP : Hid (partsD t = docP (spel (bl s) q)) := by show _ = _; rw [ht]; exact partsD_wd _
              have HT := Lib.hid ht
              have HEN := Lib.hid hen
              clear h16 ht hen
              go_wp2_with (fail)
              refine HDG.out.mono ?_
              rintro e w2 ⟨rfl, rfl⟩
              go_wp2_with (fail)
              refine HWD.out.mono ?_
              rintro e w2 ⟨hW, hw2⟩
              subst hw2
              unfold WdO at hW
              rw [HF.out, if_pos rfl, if_neg HG.out, ← HT.out] at hW
              rw [show q + t.length = en by rw [HEN.out, HT.out]] at hW
              subst hW
              go_wp2_with (fail)
              refine HPD.out.mono ?_
              rintro e w2 ⟨hP, hb2⟩
              rw [HDP.out] at hP
              have HB2 := Lib.hid (HB0.out.trans (hb2.mono (by omega)))
              have HC2 := Lib.hid (below_at hb2 HC0.out)
              clear hb2 z0 zf0 z1 zf1 z2 zf2 z3 zf3 z4 zf4 z5 zf5 zl HC0 HB0
              have z0 := cell6_0 HC2.out
              have z1 := cell6_1 HC2.out
              have z2 := cell6_2 HC2.out
              have z3 := cell6_3 HC2.out
              have z4 := cell6_4 HC2.out
              have z5 := cell6_5 HC2.out
              have zf0 := cell3_f HC2.out 0
              have zf1 := cell3_f HC2.out 1
              have zf2 := cell3_f HC2.out 2
              have zf3 := cell3_f HC2.out 3
              have zf4 := cell3_f HC2.out 4
              have zf5 := cell3_f HC2.out 5
              have zl := cell_lt HC2.out
              cases hwp : wdP (spel (bl s) q) with
              | none => exact (HN0.out hwp).elim
              | some x =>
                obtain ⟨p, least⟩ := x
                have HXP := Lib.hid (HX.out p least hwp)
                obtain ⟨g, hg⟩ : ∃ g, g = (if spel (bl s) q = listW then [108] else p) := ⟨_, rfl⟩
                rw [show docP (spel (bl s) q) = some g by unfold docP; rw [hwp, hg]; rfl] at hP
                have hP' : e = .returned (.tuple #[.string ⟨g.toArray⟩, .bool true]) := hP
                subst hP'
                have hgf := word_facts hwp
                rw [← hg] at hgf
                have HGF := Lib.hid hgf
                have HEP : Hid (exprR Knd.parseT (bl s) (r + 1) q = if hasB p 101 && decide (r = 0) then (en, none) else if p = [] then (en, some (.mk t 0 [] ty0 [])) else partsR Knd.parseT (exprR Knd.parseT (bl s) r) (bl s) least p 0 40 en (.mk t 0 [] ty0 [])) := by
                  show _ = _
                  rw [HEW.out, HF.out, if_pos rfl, hwp, ← HT.out, show q + t.length = en by rw [HEN.out, HT.out]]
                have HP64 := Lib.hid (wd_p64 hwp)
                clear hP hwp hg hgf HEW
                go_upto_region 17 with (fail)
                have HPN0 := Lib.hid (PnD.new w2 t)
                have hba := (Below.refl w2.heap.size w2).alloc (Nat.le_refl _) (.cells #[.string ⟨t.toArray⟩, .int .i64 0, .string ⟨#[]⟩, .int .i64 0, .slice none 0 0, .slice none 0 0] 37)
                have HB3 := Lib.hid (HB2.out.trans (hba.mono (by omega)))
                have HC3 := Lib.hid ((hba.block w.heap.size (by omega)).trans HC2.out)
                have hRP0 : w.heap.size < w2.heap.size := by omega
                have hPs0 : w2.heap.size < (w2.alloc (.cells #[.string ⟨t.toArray⟩, .int .i64 0, .string ⟨#[]⟩, .int .i64 0, .slice none 0 0, .slice none 0 0] 37)).heap.size := by simp
                clear hba HC2 HB2 z0 zf0 z1 zf1 z2 zf2 z3 zf3 z4 zf4 z5 zf5 zl
                generalize w2.alloc (.cells #[.string ⟨t.toArray⟩, .int .i64 0, .string ⟨#[]⟩, .int .i64 0, .slice none 0 0, .slice none 0 0] 37) = w3 at *
                generalize w2.heap.size = P at *
                have z0 := cell6_0 HC3.out
                have z1 := cell6_1 HC3.out
                have z2 := cell6_2 HC3.out
                have z3 := cell6_3 HC3.out
                have z4 := cell6_4 HC3.out
                have z5 := cell6_5 HC3.out
                have zf0 := cell3_f HC3.out 0
                have zf1 := cell3_f HC3.out 1
                have zf2 := cell3_f HC3.out 2
                have zf3 := cell3_f HC3.out 3
                have zf4 := cell3_f HC3.out 4
                have zf5 := cell3_f HC3.out 5
                have zl := cell_lt HC3.out
                by_cases hgn : g = []
                · exact absurd (no_parts2 HGF.out hgn) HXP.out.2.2
                · have hGn : g.isEmpty = false := by cases g with | nil => exact absurd rfl hgn | cons a b => rfl
                  have hGn2 : (g == []) = false := by simp [hgn]
                  have hpn : p ≠ [] := by
                    rcases HGF.out.2 with h | h | h | h
                    · exact absurd h.1 hgn
                    · rw [h.2]; simp
                    · rw [h.2]; simp
                    · exact h.2.2.1
                  have HEQ : Hid (exprR Knd.parseT (bl s) (r + 1) q = if hasB p 101 && decide (r = 0) then (en, none) else partsR Knd.parseT (exprR Knd.parseT (bl s) r) (bl s) least p 0 40 en (.mk t 0 [] ty0 [])) := by
                    show _ = _
                    rw [HEP.out, if_neg hpn]
                  have HPNE := Lib.hid hpn
                  clear hgn hpn HEP
                  by_cases hwe : hasB p 101 = true
                  · exact absurd (HXP.out.1.symm.trans hwe) (by decide)
                  · have hgd : (g = [100] ∧ p = [100]) ∨ (g = [116] ∧ p = [116]) := by
                      rcases HGF.out.2 with h | h | h | h
                      · exact absurd h.2 HPNE.out
                      · exact .inl h
                      · exact .inr h
                      · exact absurd h.1 hwe
                    have hl1 : least = 1 := by
                      rcases HGF.out.1 with ⟨h, _, _⟩ | ⟨_, _, h⟩
                      · rcases hgd with ⟨h2, _⟩ | ⟨h2, _⟩ <;> rw [h2] at h <;> exact absurd h (by decide)
                      · rcases hgd with ⟨h2, _⟩ | ⟨h2, _⟩ <;> rw [h, h2] <;> rfl
                    obtain ⟨m1, hm1⟩ : ∃ m1, m1 = skip (bl s) en := ⟨_, rfl⟩
                    have hm1s : m1 ≤ s.size := by
                      have := (skip_le (l := bl s) (m := en) (by rw [bl_length]; exact hen2)).2
                      rw [bl_length] at this
                      omega
                    have hwf : hasB p 101 = false := by simpa using hwe
                    have HRQ : Hid (∀ b, p = [b] → exprR Knd.parseT (bl s) (r + 1) q = if lkB (bl s) m1 = 40 then bindP (partR Knd.parseT (exprR Knd.parseT (bl s) r) (bl s) b (m1 + 1) (.mk t 0 [] ty0 [])) (contP Knd.parseT (exprR Knd.parseT (bl s) r) (bl s) 1 [] 0) else (m1, none)) := fun b hb => by
                      rw [HEQ.out, hwf, Bool.false_and, if_neg (by simp), hl1, hb, partsR_step]
                      unfold markR rdB
                      rw [← hm1]
                      by_cases h : lkB (bl s) m1 = 40
                      · rw [if_pos h, decide_eq_true h]; rfl
                      · rw [if_neg h, decide_eq_false h]; rfl
                    have HM1 := Lib.hid hm1
                    clear hm1 hl1 hwf hwe HEQ HIH HGF HPNE HP64 hGn hGn2
                    rcases hgd with ⟨hg, hp⟩ | ⟨hg, hp⟩
                    · have HRR := Lib.hid (HRQ.out 100 hp)
                      clear HRQ hp
                      subst hg
                      by_cases hr0 : r = 0
                      · 
                        have hrI : (r : Int) + 1 = 1 := by omega
                        clear hr0
                        go_wp2_with (fail)
                        refine (skip_d s en _ hs hen2).mono ?_
                        rw [← HM1.out]
                        rintro e w4 ⟨rfl, hw4⟩
                        have hw5 := hw4.symm
                        subst hw5
                        by_cases h40 : lkB (bl s) m1 = 40
                        · have hm1l : m1 < s.size := by
                            have := lkB_lt (l := bl s) (m := m1) (by rw [h40]; decide)
                            rw [bl_length] at this
                            exact this
                          have HST : Hid (exprR Knd.parseT (bl s) (r + 1) q = bindP (partR Knd.parseT (exprR Knd.parseT (bl s) r) (bl s) 100 (m1 + 1) (.mk t 0 [] ty0 [])) (contP Knd.parseT (exprR Knd.parseT (bl s) r) (bl s) 1 [] 0)) := by
                            show _ = _
                            rw [HRR.out, if_pos h40]
                          have hm1I : decide (s.size ≤ m1) = false := by simp; omega
                          have hix1 := str_index s m1 hm1l hs
                          rw [← bl_at s m1 hm1l, h40] at hix1
                          clear h40 HRR
                          go_wp2_with (fail)
                          clear hm1I hix1
                          go_loopw [1, 21] (fun av iv wr => av = .int .i64 (m1 : Int) ∧ iv = .int .i64 ((0 : Nat) : Int) ∧ wr = w3) (fun _ _ _ => 1)
                          case atStart => exact ⟨rfl, rfl, rfl⟩
                          case round =>
                            obtain ⟨rfl, rfl, hw⟩ := hrel
                            have hw6 := hw.symm
                            subst hw6
                            obtain ⟨m4, hm4⟩ : ∃ m4, m4 = skip (bl s) (m1 + 1) := ⟨_, rfl⟩
                            have hm4s : m4 ≤ s.size := by
                              have := (skip_le (l := bl s) (m := m1 + 1) (by rw [bl_length]; omega)).2
                              rw [bl_length] at this
                              omega
                            have HM4 := Lib.hid hm4
                            clear hm4
                            go_wp2_with (fail)
                            rw [show ((m1 : Int) + 1) = ((m1 + 1 : Nat) : Int) by omega]
                            refine (skip_d s (m1 + 1) _ hs (by omega)).mono ?_
                            rw [← HM4.out]
                            rintro e w4 ⟨rfl, hw4⟩
                            have hw5 := hw4.symm
                            subst hw5
                            have HRX : Hid (exprR Knd.parseT (bl s) (r + 1) q = bindP (bindP (digR (bl s) m4) fun m' i => (m', some (.mk t i [] ty0 []))) (contP Knd.parseT (exprR Knd.parseT (bl s) r) (bl s) 1 [] 0)) := by
                              show _ = _
                              rw [HST.out, part_dg, ← HM4.out]
                              rfl
                            by_cases hm4l : m4 < s.size
                            · have hix4 := str_index s m4 hm4l hs
                              rw [← bl_at s m4 hm4l] at hix4
                              have hm4I : decide (s.size ≤ m4) = false := by simp; omega
                              have HDG4 := Lib.hid (digit_d (lkB (bl s) m4) w3)
                              cases hdg : isDig (lkB (bl s) m4) with
                              | false =>
                                have HRT : Hid (exprR Knd.parseT (bl s) (r + 1) q = (m4, none)) := by
                                  show _ = _
                                  rw [HRX.out]; unfold digR; rw [hdg]; rfl
                                rw [hdg] at HDG4
                                clear hdg
                                go_wp2_with (fail)
                                refine HDG4.out.mono ?_
                                rintro e w5 ⟨rfl, rfl⟩
                                go_wp2_with (fail)
                                refine bodyPost_ret (v := .tuple #[.agg #[.string ⟨#[]⟩, .int .i64 0, .string ⟨#[]⟩, .int .i64 0, .slice none 0 0, .slice none 0 0], .int .i64 (m4 : Int), .bool false]) (by simp [results, Tryz.results45, go_sem, z0, z1, z2, z3, z4, z5]) rfl ?_
                                exact ex_end (s := s) (d := (m4, none)) HQL.out (by rw [HRT.out]; exact .rfl') HB3.out (fun n h => by cases h)
                              | true =>
                                obtain ⟨m5, hm5e⟩ : ∃ m5, m5 = m4 + 1 := ⟨_, rfl⟩
                                have hm5 : m5 ≤ s.size := by omega
                                have HCT : Hid (exprR Knd.parseT (bl s) (r + 1) q = contP Knd.parseT (exprR Knd.parseT (bl s) r) (bl s) 1 [] 0 m5 (.mk t (((lkB (bl s) m4).toNat : Int) - 48) [] ty0 [])) := by
                                  show _ = _
                                  rw [HRX.out]; unfold digR; rw [hdg, hm5e]; rfl
                                rw [hdg] at HDG4
                                have hd48 : 48 ≤ (lkB (bl s) m4).toNat ∧ (lkB (bl s) m4).toNat ≤ 57 := by
                                  unfold isDig at hdg
                                  simp only [Bool.and_eq_true, decide_eq_true_eq] at hdg
                                  exact hdg
                                have hm5I : (m4 : Int) + 1 = (m5 : Int) := by omega
                                clear hdg HRX HST hm5e
                                have HNX := Lib.hid (HPN0.out.int (((lkB (bl s) m4).toNat : Int) - 48))
                                have HBX := Lib.hid (HB3.out.setCell (p := ⟨P, 1, none⟩) (by show w.heap.size ≤ P; omega) (.int .i64 (((lkB (bl s) m4).toNat : Int) - 48)))
                                have HCX := Lib.hid ((Below.heap_setCell w3 ⟨P, 1, none⟩ (.int .i64 (((lkB (bl s) m4).toNat : Int) - 48)) w.heap.size (by show w.heap.size ≠ P; omega)).trans HC3.out)
                                have yb1 := cell6_1 HPN0.out.box
                                have yf1 := cell3_f HPN0.out.box 1
                                have ypl := cell_lt HPN0.out.box
                                go_wp2_with (fail)
                                refine HDG4.out.mono ?_
                                rintro e w5 ⟨rfl, rfl⟩
                                go_upto_region 55 with (fail)
                                clear z0 zf0 z1 zf1 z2 zf2 z3 zf3 z4 zf4 z5 zf5 zl yb1 yf1 ypl HDG4 hix4
                                generalize w3.setCell ⟨P, 1, none⟩ (.int .i64 (((lkB (bl s) m4).toNat : Int) - 48)) = W at *
                                have HNW : Hid (PnD W P 1 (.mk t (((lkB (bl s) m4).toNat : Int) - 48) [] ty0 []) none 0 (.slice none 0 0) []) := HNX
                                have HBW := HBX
                                have HCW := HCX
                                clear HNX HBX HCX
                                have HNB : Hid (W.heap[P]? = some (.cells #[.string ⟨t.toArray⟩, .int .i64 (((lkB (bl s) m4).toNat : Int) - 48), .string ⟨#[]⟩, .int .i64 0, .slice none 0 0, .slice none 0 0] 37 (0, 0))) := HNW.out.box
                                have z0 := cell6_0 HCW.out
                                have z1 := cell6_1 HCW.out
                                have z2 := cell6_2 HCW.out
                                have z3 := cell6_3 HCW.out
                                have z4 := cell6_4 HCW.out
                                have z5 := cell6_5 HCW.out
                                have zf0 := cell3_f HCW.out 0
                                have zf1 := cell3_f HCW.out 1
                                have zf2 := cell3_f HCW.out 2
                                have zf3 := cell3_f HCW.out 3
                                have zf4 := cell3_f HCW.out 4
                                have zf5 := cell3_f HCW.out 5
                                have zl := cell_lt HCW.out
                                have HFX : Hid (exprR Knd.parseT (bl s) (r + 1) q = contP Knd.parseT (exprR Knd.parseT (bl s) r) (bl s) 1 [] 0 m5 (.mk t (((lkB (bl s) m4).toNat : Int) - 48) [] ty0 [])) := HCT.out
                                obtain ⟨m6, hm6⟩ : ∃ m6, m6 = skip (bl s) m5 := ⟨_, rfl⟩
                                have hm6s : m6 ≤ s.size := by
                                  have := (skip_le (l := bl s) (m := m5) (by rw [bl_length]; exact hm5)).2
                                  rw [bl_length] at this
                                  omega
                                have HM6 := Lib.hid hm6
                                clear hm6
                                go_wp2_with (fail)
                                refine (skip_d s m5 _ hs hm5).mono ?_
                                rw [← HM6.out]
                                rintro e w4 ⟨rfl, hw4⟩
                                have hw5 := hw4.symm
                                subst hw5
                                by_cases hm6l : m6 < s.size
                                · have hix6 := str_index s m6 hm6l hs
                                  rw [← bl_at s m6 hm6l] at hix6
                                  have hm6I : decide (s.size ≤ m6) = false := by simp; omega
                                  by_cases h41 : lkB (bl s) m6 = 41
                                  · have HRT : Hid (exprR Knd.parseT (bl s) (r + 1) q = (m6 + 1, some (.mk t (((lkB (bl s) m4).toNat : Int) - 48) [] ty0 []))) := by
                                      show _ = _
                                      rw [HFX.out, cont_close (by rw [← HM6.out]; exact h41) (by omega), ← HM6.out]
                                    rw [h41] at hix6
                                    have g41 : ((41 : UInt8).toNat : Int) = 41 := rfl
                                    clear h41
                                    have y0 := cell6_0 HNB.out
                                    have y1 := cell6_1 HNB.out
                                    have y2 := cell6_2 HNB.out
                                    have y3 := cell6_3 HNB.out
                                    have y4 := cell6_4 HNB.out
                                    have y5 := cell6_5 HNB.out
                                    go_wp2_with (fail)
                                    refine bodyPost_ret (v := .tuple #[.agg #[.string ⟨t.toArray⟩, .int .i64 (((lkB (bl s) m4).toNat : Int) - 48), .string ⟨#[]⟩, .int .i64 0, .slice none 0 0, .slice none 0 0], .int .i64 ((m6 + 1 : Nat) : Int), .bool true]) (by simp [results, Tryz.results45, go_sem, z0, z1, z2, z3, z4, z5]) rfl ?_
                                    exact ex_end (s := s) (d := (m6 + 1, some (.mk t (((lkB (bl s) m4).toNat : Int) - 48) [] ty0 []))) HQL.out (by rw [HRT.out]; exact .rfl') HBW.out (fun n h => by cases h; exact ⟨1 + 1, NdAt.wider HNW.out.nd (fun b hb => by have hb : P < b := hb; show w.heap.size < b; omega)⟩)
                                  · have HRT : Hid (exprR Knd.parseT (bl s) (r + 1) q = (m6, none)) := by
                                      show _ = _
                                      rw [HFX.out, cont_other (.inr rfl) (.inl (by rw [← HM6.out]; exact h41)) (fun _ => by omega), ← HM6.out]
                                    have g41 : (((lkB (bl s) m6).toNat : Int) == 41) = false := by
                                      simp only [beq_eq_false_iff_ne, ne_eq]
                                      intro hh
                                      exact h41 (UInt8.toNat_inj.1 (by have h41 : (41 : UInt8).toNat = 41 := rfl; omega))
                                    clear h41
                                    go_wp2_with (fail)
                                    all_goals (
                                      refine bodyPost_ret (v := .tuple #[.agg #[.string ⟨#[]⟩, .int .i64 0, .string ⟨#[]⟩, .int .i64 0, .slice none 0 0, .slice none 0 0], .int .i64 (m6 : Int), .bool false]) (by simp [results, Tryz.results45, go_sem, z0, z1, z2, z3, z4, z5]) rfl ?_
                                      exact ex_end (s := s) (d := (m6, none)) HQL.out (by rw [HRT.out]; exact .rfl') HBW.out (fun n h => by cases h))
                                · have hm6I : decide (s.size ≤ m6) = true := by simp; omega
                                  have HRT : Hid (exprR Knd.parseT (bl s) (r + 1) q = (m6, none)) := by
                                    show _ = _
                                    rw [HFX.out, cont_other (.inr rfl) (.inl (by rw [← HM6.out, lkB_end (by rw [bl_length]; omega)]; decide)) (fun _ => by omega), ← HM6.out]
                                  go_wp2_with (fail)
                                  refine bodyPost_ret (v := .tuple #[.agg #[.string ⟨#[]⟩, .int .i64 0, .string ⟨#[]⟩, .int .i64 0, .slice none 0 0, .slice none 0 0], .int .i64 (m6 : Int), .bool false]) (by simp [results, Tryz.results45, go_sem, z0, z1, z2, z3, z4, z5]) rfl ?_
                                  exact ex_end (s := s) (d := (m6, none)) HQL.out (by rw [HRT.out]; exact .rfl') HBW.out (fun n h => by cases h)
                            · have hm4I : decide (s.size ≤ m4) = true := by simp; omega
                              have HRT : Hid (exprR Knd.parseT (bl s) (r + 1) q = (m4, none)) := by
                                show _ = _
                                rw [HRX.out]; unfold digR; rw [lkB_end (by rw [bl_length]; omega)]; rfl
                              go_wp2_with (fail)
                              refine bodyPost_ret (v := .tuple #[.agg #[.string ⟨#[]⟩, .int .i64 0, .string ⟨#[]⟩, .int .i64 0, .slice none 0 0, .slice none 0 0], .int .i64 (m4 : Int), .bool false]) (by simp [results, Tryz.results45, go_sem, z0, z1, z2, z3, z4, z5]) rfl ?_
                              exact ex_end (s := s) (d := (m4, none)) HQL.out (by rw [HRT.out]; exact .rfl') HB3.out (fun n h => by cases h)
                        · have HRT : Hid (exprR Knd.parseT (bl s) (r + 1) q = (m1, none)) := by
                            show _ = _
                            rw [HRR.out, if_neg h40]
                          by_cases hm1l : m1 < s.size
                          · have hm1I : decide (s.size ≤ m1) = false := by simp; omega
                            have hix1 := str_index s m1 hm1l hs
                            rw [← bl_at s m1 hm1l] at hix1
                            have g40 : (((lkB (bl s) m1).toNat : Int) == 40) = false := by
                              simp only [beq_eq_false_iff_ne, ne_eq]
                              intro hh
                              exact h40 (UInt8.toNat_inj.1 (by have h40 : (40 : UInt8).toNat = 40 := rfl; omega))
                            have g40n : (((lkB (bl s) m1).toNat : Int) != 40) = true := by simp only [bne, g40]; rfl
                            clear h40
                            go_wp2_with (fail)
                            refine bodyPost_ret (v := .tuple #[.agg #[.string ⟨#[]⟩, .int .i64 0, .string ⟨#[]⟩, .int .i64 0, .slice none 0 0, .slice none 0 0], .int .i64 (m1 : Int), .bool false]) (by simp [results, Tryz.results45, go_sem, z0, z1, z2, z3, z4, z5]) rfl ?_
                            exact ex_end (s := s) (d := (m1, none)) HQL.out (by rw [HRT.out]; exact .rfl') HB3.out (fun n h => by cases h)
                          · have hm1I : decide (s.size ≤ m1) = true := by simp; omega
                            clear h40
                            go_wp2_with (fail)
                            refine bodyPost_ret (v := .tuple #[.agg #[.string ⟨#[]⟩, .int .i64 0, .string ⟨#[]⟩, .int .i64 0, .slice none 0 0, .slice none 0 0], .int .i64 (m1 : Int), .bool false]) (by simp [results, Tryz.results45, go_sem, z0, z1, z2, z3, z4, z5]) rfl ?_
                            exact ex_end (s := s) (d := (m1, none)) HQL.out (by rw [HRT.out]; exact .rfl') HB3.out (fun n h => by cases h)
                      · 
                        have hrI : ¬ (r : Int) + 1 = 1 := by omega
                        clear hr0
                        go_wp2_with (fail)
                        refine (skip_d s en _ hs hen2).mono ?_
                        rw [← HM1.out]
                        rintro e w4 ⟨rfl, hw4⟩
                        have hw5 := hw4.symm
                        subst hw5
                        by_cases h40 : lkB (bl s) m1 = 40
                        · have hm1l : m1 < s.size := by
                            have := lkB_lt (l := bl s) (m := m1) (by rw [h40]; decide)
                            rw [bl_length] at this
                            exact this
                          have HST : Hid (exprR Knd.parseT (bl s) (r + 1) q = bindP (partR Knd.parseT (exprR Knd.parseT (bl s) r) (bl s) 100 (m1 + 1) (.mk t 0 [] ty0 [])) (contP Knd.parseT (exprR Knd.parseT (bl s) r) (bl s) 1 [] 0)) := by
                            show _ = _
                            rw [HRR.out, if_pos h40]
                          have hm1I : decide (s.size ≤ m1) = false := by simp; omega
                          have hix1 := str_index s m1 hm1l hs
                          rw [← bl_at s m1 hm1l, h40] at hix1
                          clear h40 HRR
                          go_wp2_with (fail)
                          clear hm1I hix1
                          go_loopw [1, 21] (fun av iv wr => av = .int .i64 (m1 : Int) ∧ iv = .int .i64 ((0 : Nat) : Int) ∧ wr = w3) (fun _ _ _ => 1)
                          case atStart => exact ⟨rfl, rfl, rfl⟩
                          case round =>
                            obtain ⟨rfl, rfl, hw⟩ := hrel
                            have hw6 := hw.symm
                            subst hw6
                            obtain ⟨m4, hm4⟩ : ∃ m4, m4 = skip (bl s) (m1 + 1) := ⟨_, rfl⟩
                            have hm4s : m4 ≤ s.size := by
                              have := (skip_le (l := bl s) (m := m1 + 1) (by rw [bl_length]; omega)).2
                              rw [bl_length] at this
                              omega
                            have HM4 := Lib.hid hm4
                            clear hm4
                            go_wp2_with (fail)
                            rw [show ((m1 : Int) + 1) = ((m1 + 1 : Nat) : Int) by omega]
                            refine (skip_d s (m1 + 1) _ hs (by omega)).mono ?_
                            rw [← HM4.out]
                            rintro e w4 ⟨rfl, hw4⟩
                            have hw5 := hw4.symm
                            subst hw5
                            have HRX : Hid (exprR Knd.parseT (bl s) (r + 1) q = bindP (bindP (digR (bl s) m4) fun m' i => (m', some (.mk t i [] ty0 []))) (contP Knd.parseT (exprR Knd.parseT (bl s) r) (bl s) 1 [] 0)) := by
                              show _ = _
                              rw [HST.out, part_dg, ← HM4.out]
                              rfl
                            by_cases hm4l : m4 < s.size
                            · have hix4 := str_index s m4 hm4l hs
                              rw [← bl_at s m4 hm4l] at hix4
                              have hm4I : decide (s.size ≤ m4) = false := by simp; omega
                              have HDG4 := Lib.hid (digit_d (lkB (bl s) m4) w3)
                              cases hdg : isDig (lkB (bl s) m4) with
                              | false =>
                                have HRT : Hid (exprR Knd.parseT (bl s) (r + 1) q = (m4, none)) := by
                                  show _ = _
                                  rw [HRX.out]; unfold digR; rw [hdg]; rfl
                                rw [hdg] at HDG4
                                clear hdg
                                go_wp2_with (fail)
                                refine HDG4.out.mono ?_
                                rintro e w5 ⟨rfl, rfl⟩
                                go_wp2_with (fail)
                                refine bodyPost_ret (v := .tuple #[.agg #[.string ⟨#[]⟩, .int .i64 0, .string ⟨#[]⟩, .int .i64 0, .slice none 0 0, .slice none 0 0], .int .i64 (m4 : Int), .bool false]) (by simp [results, Tryz.results45, go_sem, z0, z1, z2, z3, z4, z5]) rfl ?_
                                exact ex_end (s := s) (d := (m4, none)) HQL.out (by rw [HRT.out]; exact .rfl') HB3.out (fun n h => by cases h)
                              | true =>
                                obtain ⟨m5, hm5e⟩ : ∃ m5, m5 = m4 + 1 := ⟨_, rfl⟩
                                have hm5 : m5 ≤ s.size := by omega
                                have HCT : Hid (exprR Knd.parseT (bl s) (r + 1) q = contP Knd.parseT (exprR Knd.parseT (bl s) r) (bl s) 1 [] 0 m5 (.mk t (((lkB (bl s) m4).toNat : Int) - 48) [] ty0 [])) := by
                                  show _ = _
                                  rw [HRX.out]; unfold digR; rw [hdg, hm5e]; rfl
                                rw [hdg] at HDG4
                                have hd48 : 48 ≤ (lkB (bl s) m4).toNat ∧ (lkB (bl s) m4).toNat ≤ 57 := by
                                  unfold isDig at hdg
                                  simp only [Bool.and_eq_true, decide_eq_true_eq] at hdg
                                  exact hdg
                                have hm5I : (m4 : Int) + 1 = (m5 : Int) := by omega
                                clear hdg HRX HST hm5e
                                have HNX := Lib.hid (HPN0.out.int (((lkB (bl s) m4).toNat : Int) - 48))
                                have HBX := Lib.hid (HB3.out.setCell (p := ⟨P, 1, none⟩) (by show w.heap.size ≤ P; omega) (.int .i64 (((lkB (bl s) m4).toNat : Int) - 48)))
                                have HCX := Lib.hid ((Below.heap_setCell w3 ⟨P, 1, none⟩ (.int .i64 (((lkB (bl s) m4).toNat : Int) - 48)) w.heap.size (by show w.heap.size ≠ P; omega)).trans HC3.out)
                                have yb1 := cell6_1 HPN0.out.box
                                have yf1 := cell3_f HPN0.out.box 1
                                have ypl := cell_lt HPN0.out.box
                                go_wp2_with (fail)
                                refine HDG4.out.mono ?_
                                rintro e w5 ⟨rfl, rfl⟩
                                go_upto_region 55 with (fail)
                                clear z0 zf0 z1 zf1 z2 zf2 z3 zf3 z4 zf4 z5 zf5 zl yb1 yf1 ypl HDG4 hix4
                                generalize w3.setCell ⟨P, 1, none⟩ (.int .i64 (((lkB (bl s) m4).toNat : Int) - 48)) = W at *
                                have HNW : Hid (PnD W P 1 (.mk t (((lkB (bl s) m4).toNat : Int) - 48) [] ty0 []) none 0 (.slice none 0 0) []) := HNX
                                have HBW := HBX
                                have HCW := HCX
                                clear HNX HBX HCX
                                have HNB : Hid (W.heap[P]? = some (.cells #[.string ⟨t.toArray⟩, .int .i64 (((lkB (bl s) m4).toNat : Int) - 48), .string ⟨#[]⟩, .int .i64 0, .slice none 0 0, .slice none 0 0] 37 (0, 0))) := HNW.out.box
                                have z0 := cell6_0 HCW.out
                                have z1 := cell6_1 HCW.out
                                have z2 := cell6_2 HCW.out
                                have z3 := cell6_3 HCW.out
                                have z4 := cell6_4 HCW.out
                                have z5 := cell6_5 HCW.out
                                have zf0 := cell3_f HCW.out 0
                                have zf1 := cell3_f HCW.out 1
                                have zf2 := cell3_f HCW.out 2
                                have zf3 := cell3_f HCW.out 3
                                have zf4 := cell3_f HCW.out 4
                                have zf5 := cell3_f HCW.out 5
                                have zl := cell_lt HCW.out
                                have HFX : Hid (exprR Knd.parseT (bl s) (r + 1) q = contP Knd.parseT (exprR Knd.parseT (bl s) r) (bl s) 1 [] 0 m5 (.mk t (((lkB (bl s) m4).toNat : Int) - 48) [] ty0 [])) := HCT.out
                                obtain ⟨m6, hm6⟩ : ∃ m6, m6 = skip (bl s) m5 := ⟨_, rfl⟩
                                have hm6s : m6 ≤ s.size := by
                                  have := (skip_le (l := bl s) (m := m5) (by rw [bl_length]; exact hm5)).2
                                  rw [bl_length] at this
                                  omega
                                have HM6 := Lib.hid hm6
                                clear hm6
                                go_wp2_with (fail)
                                refine (skip_d s m5 _ hs hm5).mono ?_
                                rw [← HM6.out]
                                rintro e w4 ⟨rfl, hw4⟩
                                have hw5 := hw4.symm
                                subst hw5
                                by_cases hm6l : m6 < s.size
                                · have hix6 := str_index s m6 hm6l hs
                                  rw [← bl_at s m6 hm6l] at hix6
                                  have hm6I : decide (s.size ≤ m6) = false := by simp; omega
                                  by_cases h41 : lkB (bl s) m6 = 41
                                  · have HRT : Hid (exprR Knd.parseT (bl s) (r + 1) q = (m6 + 1, some (.mk t (((lkB (bl s) m4).toNat : Int) - 48) [] ty0 []))) := by
                                      show _ = _
                                      rw [HFX.out, cont_close (by rw [← HM6.out]; exact h41) (by omega), ← HM6.out]
                                    rw [h41] at hix6
                                    have g41 : ((41 : UInt8).toNat : Int) = 41 := rfl
                                    clear h41
                                    have y0 := cell6_0 HNB.out
                                    have y1 := cell6_1 HNB.out
                                    have y2 := cell6_2 HNB.out
                                    have y3 := cell6_3 HNB.out
                                    have y4 := cell6_4 HNB.out
                                    have y5 := cell6_5 HNB.out
                                    go_wp2_with (fail)
                                    refine bodyPost_ret (v := .tuple #[.agg #[.string ⟨t.toArray⟩, .int .i64 (((lkB (bl s) m4).toNat : Int) - 48), .string ⟨#[]⟩, .int .i64 0, .slice none 0 0, .slice none 0 0], .int .i64 ((m6 + 1 : Nat) : Int), .bool true]) (by simp [results, Tryz.results45, go_sem, z0, z1, z2, z3, z4, z5]) rfl ?_
                                    exact ex_end (s := s) (d := (m6 + 1, some (.mk t (((lkB (bl s) m4).toNat : Int) - 48) [] ty0 []))) HQL.out (by rw [HRT.out]; exact .rfl') HBW.out (fun n h => by cases h; exact ⟨1 + 1, NdAt.wider HNW.out.nd (fun b hb => by have hb : P < b := hb; show w.heap.size < b; omega)⟩)
                                  · have HRT : Hid (exprR Knd.parseT (bl s) (r + 1) q = (m6, none)) := by
                                      show _ = _
                                      rw [HFX.out, cont_other (.inr rfl) (.inl (by rw [← HM6.out]; exact h41)) (fun _ => by omega), ← HM6.out]
                                    have g41 : (((lkB (bl s) m6).toNat : Int) == 41) = false := by
                                      simp only [beq_eq_false_iff_ne, ne_eq]
                                      intro hh
                                      exact h41 (UInt8.toNat_inj.1 (by have h41 : (41 : UInt8).toNat = 41 := rfl; omega))
                                    clear h41
                                    go_wp2_with (fail)
                                    all_goals (
                                      refine bodyPost_ret (v := .tuple #[.agg #[.string ⟨#[]⟩, .int .i64 0, .string ⟨#[]⟩, .int .i64 0, .slice none 0 0, .slice none 0 0], .int .i64 (m6 : Int), .bool false]) (by simp [results, Tryz.results45, go_sem, z0, z1, z2, z3, z4, z5]) rfl ?_
                                      exact ex_end (s := s) (d := (m6, none)) HQL.out (by rw [HRT.out]; exact .rfl') HBW.out (fun n h => by cases h))
                                · have hm6I : decide (s.size ≤ m6) = true := by simp; omega
                                  have HRT : Hid (exprR Knd.parseT (bl s) (r + 1) q = (m6, none)) := by
                                    show _ = _
                                    rw [HFX.out, cont_other (.inr rfl) (.inl (by rw [← HM6.out, lkB_end (by rw [bl_length]; omega)]; decide)) (fun _ => by omega), ← HM6.out]
                                  go_wp2_with (fail)
                                  refine bodyPost_ret (v := .tuple #[.agg #[.string ⟨#[]⟩, .int .i64 0, .string ⟨#[]⟩, .int .i64 0, .slice none 0 0, .slice none 0 0], .int .i64 (m6 : Int), .bool false]) (by simp [results, Tryz.results45, go_sem, z0, z1, z2, z3, z4, z5]) rfl ?_
                                  exact ex_end (s := s) (d := (m6, none)) HQL.out (by rw [HRT.out]; exact .rfl') HBW.out (fun n h => by cases h)
                            · have hm4I : decide (s.size ≤ m4) = true := by simp; omega
                              have HRT : Hid (exprR Knd.parseT (bl s) (r + 1) q = (m4, none)) := by
                                show _ = _
                                rw [HRX.out]; unfold digR; rw [lkB_end (by rw [bl_length]; omega)]; rfl
                              go_wp2_with (fail)
                              refine bodyPost_ret (v := .tuple #[.agg #[.string ⟨#[]⟩, .int .i64 0, .string ⟨#[]⟩, .int .i64 0, .slice none 0 0, .slice none 0 0], .int .i64 (m4 : Int), .bool false]) (by simp [results, Tryz.results45, go_sem, z0, z1, z2, z3, z4, z5]) rfl ?_
                              exact ex_end (s := s) (d := (m4, none)) HQL.out (by rw [HRT.out]; exact .rfl') HB3.out (fun n h => by cases h)
                        · have HRT : Hid (exprR Knd.parseT (bl s) (r + 1) q = (m1, none)) := by
                            show _ = _
                            rw [HRR.out, if_neg h40]
                          by_cases hm1l : m1 < s.size
                          · have hm1I : decide (s.size ≤ m1) = false := by simp; omega
                            have hix1 := str_index s m1 hm1l hs
                            rw [← bl_at s m1 hm1l] at hix1
                            have g40 : (((lkB (bl s) m1).toNat : Int) == 40) = false := by
                              simp only [beq_eq_false_iff_ne, ne_eq]
                              intro hh
                              exact h40 (UInt8.toNat_inj.1 (by have h40 : (40 : UInt8).toNat = 40 := rfl; omega))
                            have g40n : (((lkB (bl s) m1).toNat : Int) != 40) = true := by simp only [bne, g40]; rfl
                            clear h40
                            go_wp2_with (fail)
                            refine bodyPost_ret (v := .tuple #[.agg #[.string ⟨#[]⟩, .int .i64 0, .string ⟨#[]⟩, .int .i64 0, .slice none 0 0, .slice none 0 0], .int .i64 (m1 : Int), .bool false]) (by simp [results, Tryz.results45, go_sem, z0, z1, z2, z3, z4, z5]) rfl ?_
                            exact ex_end (s := s) (d := (m1, none)) HQL.out (by rw [HRT.out]; exact .rfl') HB3.out (fun n h => by cases h)
                          · have hm1I : decide (s.size ≤ m1) = true := by simp; omega
                            clear h40
                            go_wp2_with (fail)
                            refine bodyPost_ret (v := .tuple #[.agg #[.string ⟨#[]⟩, .int .i64 0, .string ⟨#[]⟩, .int .i64 0, .slice none 0 0, .slice none 0 0], .int .i64 (m1 : Int), .bool false]) (by simp [results, Tryz.results45, go_sem, z0, z1, z2, z3, z4, z5]) rfl ?_
                            exact ex_end (s := s) (d := (m1, none)) HQL.out (by rw [HRT.out]; exact .rfl') HB3.out (fun n h => by cases h)
                    · exact absurd hp HXP.out.2.1
  · exact absurd HL.out (by rw [lkB_end (by rw [bl_length]; omega)]; decide)
end Go.Proofs.YtadbnlnifacblaaGreatDoor
