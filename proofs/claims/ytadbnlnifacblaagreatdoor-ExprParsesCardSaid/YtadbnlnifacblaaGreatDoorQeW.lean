/-
The document's answer for package expr: expr: words with expressions and names behind them.
-/
import Derived.Test.YtadbnlnifacblaaGreatDoorQeA
namespace Go.Proofs.YtadbnlnifacblaaGreatDoor
open Go.RowKit
set_option maxRecDepth 100000 in
set_option maxHeartbeats 64000000 in
theorem expr_stepBW (r : Nat) (_hr : r ≤ 23) (IH : 0 < r → ExD r) (s : ByteArray) (m : Nat) (w : World) (hs : s.size ≤ 1000000) (hm : m ≤ s.size) (hX : ∀ p least, wdP (spel (bl s) (skip (bl s) m)) = some (p, least) → hasB p 101 = true) (hL : isLet (lkB (bl s) (skip (bl s) m)) = true) (hZ : ¬ ((spel (bl s) (skip (bl s) m)).length = 16 ∧ nmB (lkB (bl s) (skip (bl s) m + 16)) = true)) (hN0 : wdP (spel (bl s) (skip (bl s) m)) = none → False) (hR0 : ¬ r = 0) (hS8 : ¬ spel (bl s) (skip (bl s) m) = listW) : ExC r s m w := by
  unfold ExC
  have HIH := Lib.hid IH
  have hsk := skip_le (l := bl s) (m := m) (by rw [bl_length]; exact hm)
  rw [bl_length] at hsk
  obtain ⟨q, hq⟩ : ∃ q, q = skip (bl s) m := ⟨_, rfl⟩
  rw [← hq] at hsk hX hL hZ hN0 hS8 ⊢
  have HS8 := Lib.hid hS8
  clear hS8
  have HL := Lib.hid hL
  have HZ := Lib.hid hZ
  have HN0 := Lib.hid hN0
  have HR0 := Lib.hid hR0
  clear hL hZ hN0 hR0
  have HX := Lib.hid hX
  clear hX
  have HQ := Lib.hid hq
  clear hq IH
  have hb0 := (Below.refl w.heap.size w).alloc (Nat.le_refl _) (.cells #[.string ⟨#[]⟩, .int .i64 0, .string ⟨#[]⟩, .int .i64 0, .slice none 0 0, .slice none 0 0] 37)
  have HC0 := Lib.hid (heap_alloc_new w (.cells #[.string ⟨#[]⟩, .int .i64 0, .string ⟨#[]⟩, .int .i64 0, .slice none 0 0, .slice none 0 0] 37))
  have hs0 : (w.alloc (.cells #[.string ⟨#[]⟩, .int .i64 0, .string ⟨#[]⟩, .int .i64 0, .slice none 0 0, .slice none 0 0] 37)).heap.size = w.heap.size + 1 := by simp
  have HB0 := Lib.hid hb0
  clear hb0
  go_enter Tryz.func45, Tryz.ntmps45
  go_wp2_with (fail)
  refine (skip_d s m _ hs hm).mono ?_
  rw [← HQ.out]
  rintro e w1 ⟨rfl, hw1⟩
  subst hw1
  generalize w.alloc (.cells #[.string ⟨#[]⟩, .int .i64 0, .string ⟨#[]⟩, .int .i64 0, .slice none 0 0, .slice none 0 0] 37) = w1 at *
  have z0 := cell6_0 HC0.out
  have z1 := cell6_1 HC0.out
  have z2 := cell6_2 HC0.out
  have z3 := cell6_3 HC0.out
  have z4 := cell6_4 HC0.out
  have z5 := cell6_5 HC0.out
  have zf0 := cell3_f HC0.out 0
  have zf1 := cell3_f HC0.out 1
  have zf2 := cell3_f HC0.out 2
  have zf3 := cell3_f HC0.out 3
  have zf4 := cell3_f HC0.out 4
  have zf5 := cell3_f HC0.out 5
  have zl := cell_lt HC0.out
  by_cases hqe : q < s.size
  · have hqI : decide (s.size ≤ q) = false := by simp; omega
    have hix := str_index s q hqe hs
    rw [← bl_at s q hqe] at hix
    have HQL : Hid ((exprR Knd.parseT (bl s) (r + 1) q).1 ≤ s.size) := by
      have := (expr_in kp_ok (l := bl s) (r + 1) q (by rw [bl_length]; omega)).2
      rw [bl_length] at this
      exact this
    have HEX : Hid (exprR Knd.parseT (bl s) (r + 1) q = (if decide (lkB (bl s) q = 45) || isDig (lkB (bl s) q) then numN (bl s) q
      else if lkB (bl s) q = 34 then strN (bl s) q
      else if isLet (lkB (bl s) q) then (match wdP (spel (bl s) q) with
        | none => (q + (spel (bl s) q).length, some (nameN (spel (bl s) q)))
        | some (p, least) => if hasB p 101 && decide (r = 0) then (q + (spel (bl s) q).length, none)
          else if p = [] then (q + (spel (bl s) q).length, some (.mk (spel (bl s) q) 0 [] ty0 []))
          else partsR Knd.parseT (exprR Knd.parseT (bl s) r) (bl s) least p 0 40 (q + (spel (bl s) q).length) (.mk (spel (bl s) q) 0 [] ty0 []))
      else (q, none))) := Lib.hid rfl
    by_cases h34 : lkB (bl s) q = 34
    · exact absurd (by have h := HL.out; rw [h34] at h; exact h : isLet 34 = true) (by decide)
    · have g34 : (((lkB (bl s) q).toNat : Int) == 34) = false := by
        simp only [beq_eq_false_iff_ne, ne_eq]
        intro hh
        exact h34 (UInt8.toNat_inj.1 (by have h34 : (34 : UInt8).toNat = 34 := rfl; omega))
      have HNB : Hid (rdB (bl s) q 45 = true ∨ (rdB (bl s) q 45 = false ∧ isDig (lkB (bl s) q) = true) → Calls Tryz.prog 81 #[.string s, .int .i64 (q : Int)] w1 fun e w' => NbO (bl s) q e ∧ w' = w1) := fun h => by
        rcases h with h | ⟨h, h'⟩
        · exact number_neg s q w1 hs hqe h
        · exact number_pos s q w1 hs hqe h h'
      have HNM : Hid (∀ (v : Int) (ok : Bool), RelD (bl s) ((numN (bl s) q).1, if ok = true then some (.mk intW v [] ty0 []) else none) (numN (bl s) q) → exprR Knd.parseT (bl s) (r + 1) q = numN (bl s) q → (∃ d', RelD (bl s) d' (exprR Knd.parseT (bl s) (r + 1) q) ∧ NdO w ((((((w1.setCell ⟨w.heap.size, 0, none⟩ (.string ⟨#[105, 110, 116]⟩)).setCell ⟨w.heap.size, 1, none⟩ (.int .i64 v)).setCell ⟨w.heap.size, 2, none⟩ (.string ⟨#[]⟩)).setCell ⟨w.heap.size, 3, none⟩ (.int .i64 0)).setCell ⟨w.heap.size, 4, none⟩ (.slice none 0 0)).setCell ⟨w.heap.size, 5, none⟩ (.slice none 0 0)) d' (.returned (.tuple #[.agg #[.string ⟨#[105, 110, 116]⟩, .int .i64 v, .string ⟨#[]⟩, .int .i64 0, .slice none 0 0, .slice none 0 0], .int .i64 ((numN (bl s) q).1 : Int), .bool ok])) ∧ d'.1 ≤ s.size) ∧ Below w.heap.size w ((((((w1.setCell ⟨w.heap.size, 0, none⟩ (.string ⟨#[105, 110, 116]⟩)).setCell ⟨w.heap.size, 1, none⟩ (.int .i64 v)).setCell ⟨w.heap.size, 2, none⟩ (.string ⟨#[]⟩)).setCell ⟨w.heap.size, 3, none⟩ (.int .i64 0)).setCell ⟨w.heap.size, 4, none⟩ (.slice none 0 0)).setCell ⟨w.heap.size, 5, none⟩ (.slice none 0 0))) := fun v ok hR hE => by
        have hl := HQL.out
        cases ok with
        | true => exact ex_end (s := s) (d := ((numN (bl s) q).1, some (.mk intW v [] ty0 []))) hl (by rw [hE]; exact hR) HB0.out (fun n h => by cases h; exact ⟨1, NdAt.leaf _ _ 0 intW v []⟩)
        | false => exact ex_end (s := s) (d := ((numN (bl s) q).1, none)) hl (by rw [hE]; exact hR) HB0.out (fun n h => by cases h)
      by_cases h45 : rdB (bl s) q 45 = true
      · exact absurd (by have h := HL.out; rw [show lkB (bl s) q = 45 from of_decide_eq_true h45] at h; exact h : isLet 45 = true) (by decide)
      · have h45f : rdB (bl s) q 45 = false := by simpa using h45
        have g45 : (((lkB (bl s) q).toNat : Int) == 45) = false := by
          simp only [beq_eq_false_iff_ne, ne_eq]
          intro hh
          exact h45 (decide_eq_true (UInt8.toNat_inj.1 (by have h45 : (45 : UInt8).toNat = 45 := rfl; omega)))
        have HDG := Lib.hid (digit_d (lkB (bl s) q) w1)
        have h45d : decide (lkB (bl s) q = 45) = false := h45f
        cases hdg : isDig (lkB (bl s) q) with
        | true => exact absurd hdg (by rw [let_dig HL.out]; decide)
        | false =>
          rw [hdg] at HDG
          have HWD := Lib.hid (word_d s q w1 hs (by omega))
          have HEW : Hid (exprR Knd.parseT (bl s) (r + 1) q = (if isLet (lkB (bl s) q) then (match wdP (spel (bl s) q) with
              | none => (q + (spel (bl s) q).length, some (nameN (spel (bl s) q)))
              | some (p, least) => if hasB p 101 && decide (r = 0) then (q + (spel (bl s) q).length, none)
                else if p = [] then (q + (spel (bl s) q).length, some (.mk (spel (bl s) q) 0 [] ty0 []))
                else partsR Knd.parseT (exprR Knd.parseT (bl s) r) (bl s) least p 0 40 (q + (spel (bl s) q).length) (.mk (spel (bl s) q) 0 [] ty0 []))
            else (q, none))) := by show _ = _; rw [HEX.out, hdg, h45d, if_neg h34]; rfl
          clear h34 h45 h45f h45d hdg HEX HNB HNM
          cases hlt : isLet (lkB (bl s) q) with
          | false => exact absurd HL.out (by rw [hlt]; decide)
          | true =>
            have HF : Hid (isLet (lkB (bl s) q) = true) := Lib.hid hlt
            clear hlt
            obtain ⟨t, ht⟩ : ∃ t, t = spel (bl s) q := ⟨_, rfl⟩
            obtain ⟨en, hen⟩ : ∃ en, en = q + (spel (bl s) q).length := ⟨_, rfl⟩
            have hen2 : en ≤ s.size := by
              have := nmL_le ((bl s).drop q)
              rw [hen, spel_len]
              rw [List.length_drop, bl_length] at this
              omega
            by_cases h16 : (spel (bl s) q).length = 16 ∧ nmB (lkB (bl s) (q + 16)) = true
            · exact absurd h16 HZ.out
            · 
              have HG := Lib.hid h16
              have HPD := Lib.hid (parts_any_d t w1)
              have HDP : Hid (partsD t = docP (spel (bl s) q)) := by show _ = _; rw [ht]; exact partsD_wd _
              have HT := Lib.hid ht
              have HEN := Lib.hid hen
              clear h16 ht hen
              go_wp2_with (fail)
              refine HDG.out.mono ?_
              rintro e w2 ⟨rfl, rfl⟩
              go_wp2_with (fail)
              refine HWD.out.mono ?_
              rintro e w2 ⟨hW, hw2⟩
              subst hw2
              unfold WdO at hW
              rw [HF.out, if_pos rfl, if_neg HG.out, ← HT.out] at hW
              rw [show q + t.length = en by rw [HEN.out, HT.out]] at hW
              subst hW
              go_wp2_with (fail)
              refine HPD.out.mono ?_
              rintro e w2 ⟨hP, hb2⟩
              rw [HDP.out] at hP
              have HB2 := Lib.hid (HB0.out.trans (hb2.mono (by omega)))
              have HC2 := Lib.hid (below_at hb2 HC0.out)
              clear hb2 z0 zf0 z1 zf1 z2 zf2 z3 zf3 z4 zf4 z5 zf5 zl HC0 HB0
              have z0 := cell6_0 HC2.out
              have z1 := cell6_1 HC2.out
              have z2 := cell6_2 HC2.out
              have z3 := cell6_3 HC2.out
              have z4 := cell6_4 HC2.out
              have z5 := cell6_5 HC2.out
              have zf0 := cell3_f HC2.out 0
              have zf1 := cell3_f HC2.out 1
              have zf2 := cell3_f HC2.out 2
              have zf3 := cell3_f HC2.out 3
              have zf4 := cell3_f HC2.out 4
              have zf5 := cell3_f HC2.out 5
              have zl := cell_lt HC2.out
              cases hwp : wdP (spel (bl s) q) with
              | none => exact (HN0.out hwp).elim
              | some x =>
                obtain ⟨p, least⟩ := x
                have HXP := Lib.hid (HX.out p least hwp)
                obtain ⟨g, hg⟩ : ∃ g, g = (if spel (bl s) q = listW then [108] else p) := ⟨_, rfl⟩
                rw [show docP (spel (bl s) q) = some g by unfold docP; rw [hwp, hg]; rfl] at hP
                have hP' : e = .returned (.tuple #[.string ⟨g.toArray⟩, .bool true]) := hP
                subst hP'
                have hgf := word_facts hwp
                rw [← hg] at hgf
                have HGF := Lib.hid hgf
                have HG8 : Hid (g = p) := by show _ = _; rw [hg, if_neg HS8.out]
                have HEP : Hid (exprR Knd.parseT (bl s) (r + 1) q = if hasB p 101 && decide (r = 0) then (en, none) else if p = [] then (en, some (.mk t 0 [] ty0 [])) else partsR Knd.parseT (exprR Knd.parseT (bl s) r) (bl s) least p 0 40 en (.mk t 0 [] ty0 [])) := by
                  show _ = _
                  rw [HEW.out, HF.out, if_pos rfl, hwp, ← HT.out, show q + t.length = en by rw [HEN.out, HT.out]]
                have HP64 := Lib.hid (wd_p64 hwp)
                clear hP hwp hg hgf HEW
                go_upto_region 17 with (fail)
                have HPN0 := Lib.hid (PnD.new w2 t)
                have hba := (Below.refl w2.heap.size w2).alloc (Nat.le_refl _) (.cells #[.string ⟨t.toArray⟩, .int .i64 0, .string ⟨#[]⟩, .int .i64 0, .slice none 0 0, .slice none 0 0] 37)
                have HB3 := Lib.hid (HB2.out.trans (hba.mono (by omega)))
                have HC3 := Lib.hid ((hba.block w.heap.size (by omega)).trans HC2.out)
                have hRP0 : w.heap.size < w2.heap.size := by omega
                have hPs0 : w2.heap.size < (w2.alloc (.cells #[.string ⟨t.toArray⟩, .int .i64 0, .string ⟨#[]⟩, .int .i64 0, .slice none 0 0, .slice none 0 0] 37)).heap.size := by simp
                clear hba HC2 HB2 z0 zf0 z1 zf1 z2 zf2 z3 zf3 z4 zf4 z5 zf5 zl
                generalize w2.alloc (.cells #[.string ⟨t.toArray⟩, .int .i64 0, .string ⟨#[]⟩, .int .i64 0, .slice none 0 0, .slice none 0 0] 37) = w3 at *
                generalize w2.heap.size = P at *
                have z0 := cell6_0 HC3.out
                have z1 := cell6_1 HC3.out
                have z2 := cell6_2 HC3.out
                have z3 := cell6_3 HC3.out
                have z4 := cell6_4 HC3.out
                have z5 := cell6_5 HC3.out
                have zf0 := cell3_f HC3.out 0
                have zf1 := cell3_f HC3.out 1
                have zf2 := cell3_f HC3.out 2
                have zf3 := cell3_f HC3.out 3
                have zf4 := cell3_f HC3.out 4
                have zf5 := cell3_f HC3.out 5
                have zl := cell_lt HC3.out
                by_cases hgn : g = []
                · exact absurd HXP.out (no_parts HGF.out hgn)
                · have hGn : g.isEmpty = false := by cases g with | nil => exact absurd rfl hgn | cons a b => rfl
                  have hGn2 : (g == []) = false := by simp [hgn]
                  have hpn : p ≠ [] := by
                    rcases HGF.out.2 with h | h | h | h
                    · exact absurd h.1 hgn
                    · rw [h.2]; simp
                    · rw [h.2]; simp
                    · exact h.2.2.1
                  have HEQ : Hid (exprR Knd.parseT (bl s) (r + 1) q = if hasB p 101 && decide (r = 0) then (en, none) else partsR Knd.parseT (exprR Knd.parseT (bl s) r) (bl s) least p 0 40 en (.mk t 0 [] ty0 [])) := by
                    show _ = _
                    rw [HEP.out, if_neg hpn]
                  have HPNE := Lib.hid hpn
                  clear hgn hpn HEP
                  by_cases hwe : hasB p 101 = true
                  · have HWE := Lib.hid hwe
                    have hgd : g ≠ [100] ∧ g ≠ [116] ∧ ∀ b ∈ p, b = 101 ∨ b = 110 := by
                      rcases HGF.out.2 with h | h | h | h
                      · exact absurd h.2 HPNE.out
                      · rw [h.2] at hwe; exact absurd hwe (by decide)
                      · rw [h.2] at hwe; exact absurd hwe (by decide)
                      · exact h.2.2.2
                    have HPB := Lib.hid hgd.2.2
                    have hG100 : (g == [100]) = false := by simp [hgd.1]
                    have hG116 : (g == [116]) = false := by simp [hgd.2.1]
                    have hH100 := hgd.1
                    have hH116 := hgd.2.1
                    clear hwe hgd
                    by_cases hr0 : r = 0
                    · exact absurd hr0 HR0.out
                    · have hrI : ¬ (r : Int) + 1 = 1 := by omega
                      have HIH2 := Lib.hid (HIH.out (by omega))
                      obtain ⟨p0, ps0, hpp⟩ : ∃ p0 ps0, p = p0 :: ps0 := by
                        cases hp : p with
                        | nil => exact absurd hp HPNE.out
                        | cons a b => exact ⟨a, b, rfl⟩
                      obtain ⟨m1, hm1⟩ : ∃ m1, m1 = skip (bl s) en := ⟨_, rfl⟩
                      have hm1s : m1 ≤ s.size := by
                        have := (skip_le (l := bl s) (m := en) (by rw [bl_length]; exact hen2)).2
                        rw [bl_length] at this
                        omega
                      have HRR : Hid (exprR Knd.parseT (bl s) (r + 1) q = if lkB (bl s) m1 = 40 then bindP (partR Knd.parseT (exprR Knd.parseT (bl s) r) (bl s) p0 (m1 + 1) (.mk t 0 [] ty0 [])) (contP Knd.parseT (exprR Knd.parseT (bl s) r) (bl s) least ps0 0) else (m1, none)) := by
                        show _ = _
                        rw [HEQ.out, decide_eq_false hr0, Bool.and_false, if_neg (by simp), hpp, partsR_step]
                        unfold markR rdB
                        rw [← hm1]
                        by_cases h : lkB (bl s) m1 = 40
                        · rw [if_pos h, decide_eq_true h]; rfl
                        · rw [if_neg h, decide_eq_false h]; rfl
                      have HPP := Lib.hid hpp
                      have HM1 := Lib.hid hm1
                      clear hr0 hpp hm1 HEQ HIH
                      go_wp2_with (fail)
                      refine (skip_d s en _ hs hen2).mono ?_
                      rw [← HM1.out]
                      rintro e w4 ⟨rfl, hw4⟩
                      subst hw4
                      by_cases h40 : lkB (bl s) m1 = 40
                      · have hm1l : m1 < s.size := by
                          have := lkB_lt (l := bl s) (m := m1) (by rw [h40]; decide)
                          rw [bl_length] at this
                          exact this
                        have HST : Hid (exprR Knd.parseT (bl s) (r + 1) q = bindP (partR Knd.parseT (exprR Knd.parseT (bl s) r) (bl s) p0 (m1 + 1) (.mk t 0 [] ty0 [])) (contP Knd.parseT (exprR Knd.parseT (bl s) r) (bl s) least ps0 0)) := by
                          show _ = _
                          rw [HRR.out, if_pos h40]
                        have hm1I : decide (s.size ≤ m1) = false := by simp; omega
                        have hix1 := str_index s m1 hm1l hs
                        rw [← bl_at s m1 hm1l, h40] at hix1
                        clear h40
                        go_wp2_with (fail)
                        clear z0 zf0 z1 zf1 z2 zf2 z3 zf3 z4 zf4 z5 zf5 zl hm1I hix1
                        go_loopw [1, 21] (fun av iv wr => ∃ (m3 i d c : Nat) (nd : Nd) (A : Option Addr) (vs : Value) (cs : List Value) (pb : UInt8) (pr : List UInt8), av = .int .i64 (m3 : Int) ∧ iv = .int .i64 (i : Int) ∧ m3 < s.size ∧ i ≤ 63 ∧ Hid (p.drop i = pb :: pr) ∧ nd.kids.length ≤ 63 ∧ Hid (nd.kids.length = i) ∧ Hid (PnD wr P (d + 1) nd A c vs cs) ∧ Hid (Below w.heap.size w wr) ∧ Hid (wr.heap[w.heap.size]? = some (.cells #[.string ⟨#[]⟩, .int .i64 0, .string ⟨#[]⟩, .int .i64 0, .slice none 0 0, .slice none 0 0] 37 (0, 0))) ∧ Hid (exprR Knd.parseT (bl s) (r + 1) q = bindP (partR Knd.parseT (exprR Knd.parseT (bl s) r) (bl s) pb (m3 + 1) nd) (contP Knd.parseT (exprR Knd.parseT (bl s) r) (bl s) least pr i))) (fun _ iv _ => 64 - (intOf iv).toNat)
                        case atStart => exact ⟨m1, 0, 0, 0, .mk t 0 [] ty0 [], none, .slice none 0 0, [], p0, ps0, rfl, rfl, hm1l, by omega, by show _ = _; rw [HPP.out]; rfl, by simp [Nd.kids], rfl, HPN0, HB3, HC3, HST⟩
                        case round =>
                          obtain ⟨m3, i, d, c, nd, A, vs, cs, pb, pr, rfl, rfl, hms, hi63, HDR, hkl, HKL, HN, HB, HC, HE⟩ := hrel
                          clear HPN0 HB3 HC3 HST HRR HPP HM1 hm1l hm1s hPs0
                          have z0 := cell6_0 HC.out
                          have z1 := cell6_1 HC.out
                          have z2 := cell6_2 HC.out
                          have z3 := cell6_3 HC.out
                          have z4 := cell6_4 HC.out
                          have z5 := cell6_5 HC.out
                          have zf0 := cell3_f HC.out 0
                          have zf1 := cell3_f HC.out 1
                          have zf2 := cell3_f HC.out 2
                          have zf3 := cell3_f HC.out 3
                          have zf4 := cell3_f HC.out 4
                          have zf5 := cell3_f HC.out 5
                          have zl := cell_lt HC.out
                          obtain ⟨m4, hm4⟩ : ∃ m4, m4 = skip (bl s) (m3 + 1) := ⟨_, rfl⟩
                          have hm4s : m4 ≤ s.size := by
                            have := (skip_le (l := bl s) (m := m3 + 1) (by rw [bl_length]; omega)).2
                            rw [bl_length] at this
                            omega
                          have HM4 := Lib.hid hm4
                          clear hm4
                          go_wp2_with (fail)
                          rw [show ((m3 : Int) + 1) = ((m3 + 1 : Nat) : Int) by omega]
                          refine (skip_d s (m3 + 1) _ hs (by omega)).mono ?_
                          rw [← HM4.out]
                          rintro e w4 ⟨rfl, hw4⟩
                          subst hw4
                          go_upto_if 139 with (fail)
                          go_cut [22] (fun v wx => wx = w4 ∧ v = .int .u8 (pb.toNat : Int))
                          case first => 
                            rcases HGF.out.1 with ⟨hg, hp, _⟩ | ⟨hg, hp, _⟩
                            · exact absurd (hg.symm.trans (HG8.out.trans hp)) (by decide)
                            · have hil : i < g.length := by
                                have h1 : (p.drop i).length = pr.length + 1 := by rw [HDR.out]; rfl
                                rw [List.length_drop, hp] at h1
                                omega
                              have hgl : g.length ≤ 64 := by rw [← hp]; exact HP64.out
                              have hgi := str_index ⟨g.toArray⟩ i (by show i < g.toArray.size; simpa using hil) (by show g.toArray.size ≤ _; simp; omega)
                              rw [← bl_at ⟨g.toArray⟩ i (by show i < g.toArray.size; simpa using hil), show bl ⟨g.toArray⟩ = g by simp [bl]] at hgi
                              have hpb : lkB g i = pb := by
                                have h1 : (p.drop i)[0]? = some pb := by rw [HDR.out]; rfl
                                rw [hp, List.getElem?_drop] at h1
                                unfold lkB
                                rw [show i = i + 0 from rfl, h1]; rfl
                              rw [hpb] at hgi
                              have hg1 : (g == [108]) = false := by simp [hg]
                              have hg2 : (g != [108]) = true := by simp [hg]
                              have hg3 : ¬ g = [108] := hg
                              have hg4 : (!(g == [108])) = true := by simp [hg]
                              clear hp hpb
                              go_wp2_with (fail)
                              all_goals (first | (exfalso; rename_i hx; simp [hg] at hx; done) | (go_meet; exact ⟨rfl, rfl⟩))
                          obtain ⟨rfl, rfl⟩ := hcut
                          have HPL : Hid (i + 1 ≤ p.length ∧ (i + 1 < p.length ↔ pr ≠ [])) := by
                            have h1 : (p.drop i).length = pr.length + 1 := by rw [HDR.out]; rfl
                            rw [List.length_drop] at h1
                            refine ⟨by omega, ?_⟩
                            constructor
                            · intro h e; rw [e] at h1; simp at h1; omega
                            · intro h; have := List.length_pos_iff.2 h; omega
                          go_upto_block 2 with (fail)
                          go_cut [1] (fun v wx => ∃ (m5 d' c' : Nat) (nd' : Nd) (A' : Option Addr) (vs' : Value) (cs' : List Value), v = .int .i64 (m5 : Int) ∧ m5 ≤ s.size ∧ Hid (nd'.kids.length = i + 1) ∧ Hid (PnD wx P (d' + 1) nd' A' c' vs' cs') ∧ Hid (Below w.heap.size w wx) ∧ Hid (wx.heap[w.heap.size]? = some (.cells #[.string ⟨#[]⟩, .int .i64 0, .string ⟨#[]⟩, .int .i64 0, .slice none 0 0, .slice none 0 0] 37 (0, 0))) ∧ Hid (exprR Knd.parseT (bl s) (r + 1) q = contP Knd.parseT (exprR Knd.parseT (bl s) r) (bl s) least pr i m5 nd'))
                          case first => 
                            obtain ⟨i0, hi, hq0, hq1, hq2⟩ := info_parts infoD
                            have hmem : pb = 101 ∨ pb = 110 := HPB.out pb (List.mem_of_mem_drop (by rw [HDR.out]; exact List.mem_cons_self))
                            rcases hmem with hb | hb
                            · 
                              subst hb
                              have HEe : Hid (exprR Knd.parseT (bl s) (r + 1) q = bindP (bindP (exprR Knd.parseT (bl s) r m4) fun m' k => (m', some (.mk nd.op nd.int nd.text nd.ty (nd.kids ++ [k])))) (contP Knd.parseT (exprR Knd.parseT (bl s) r) (bl s) least pr i)) := by
                                show _ = _
                                rw [HE.out, part_ex, ← HM4.out]
                              clear HE
                              go_wp2_with (fail)
                              refine (HIH2.out s m4 wc hs hm4s).mono ?_
                              rintro e wk ⟨⟨dk, hR, ⟨k0, k1, k2, k3, KA, kn, kc, KK, km, kk, rfl, hn⟩, hle⟩, hbk⟩
                              rw [HM4.out, skip_skip2, ← HM4.out] at hR
                              obtain ⟨mk, ok⟩ := dk
                              have HBk := Lib.hid (HB.out.trans (hbk.mono (by omega)))
                              have HCk := Lib.hid (below_at hbk HC.out)
                              have HNk := Lib.hid (HN.out.only hRP0 (Only.of_below hbk))
                              have hsk2 := hbk.size
                              have HRk := Lib.hid hR
                              have Hnk := Lib.hid hn
                              have HBk0 := Lib.hid hbk
                              clear HC HB hbk hR hn z0 zf0 z1 zf1 z2 zf2 z3 zf3 z4 zf4 z5 zf5 zl
                              have z0 := cell6_0 HCk.out
                              have z1 := cell6_1 HCk.out
                              have z2 := cell6_2 HCk.out
                              have z3 := cell6_3 HCk.out
                              have z4 := cell6_4 HCk.out
                              have z5 := cell6_5 HCk.out
                              have zf0 := cell3_f HCk.out 0
                              have zf1 := cell3_f HCk.out 1
                              have zf2 := cell3_f HCk.out 2
                              have zf3 := cell3_f HCk.out 3
                              have zf4 := cell3_f HCk.out 4
                              have zf5 := cell3_f HCk.out 5
                              have zl := cell_lt HCk.out
                              cases ok with
                              | none =>
                                have HF : Hid (RelD (bl s) (mk, none) (exprR Knd.parseT (bl s) (r + 1) q)) := by
                                  show RelD _ _ _
                                  rw [HEe.out]
                                  rcases HRk.out with h | ⟨e, x, h1, h2, h3⟩
                                  · rw [← h]
                                    exact .inl rfl
                                  · rw [h1]
                                    injection h2 with h2 _
                                    subst h2
                                    exact .inl (blD_cont h3 _ _ _ _).symm
                                go_upto_region 33 with (fail)
                                have hba := (Below.refl wk.heap.size wk).alloc (Nat.le_refl _) (.cells #[.string k0, .int .i64 k1, .string k2, .int .i64 k3, .slice KA kn kc, .slice KK km kk] 37)
                                have HBW := Lib.hid (HBk.out.trans (hba.mono (by omega)))
                                have HCW := Lib.hid ((hba.block w.heap.size (by omega)).trans HCk.out)
                                clear hba HBk HCk z0 z1 z2 z3 z4 z5 zf0 zf1 zf2 zf3 zf4 zf5 zl
                                generalize wk.alloc (.cells #[.string k0, .int .i64 k1, .string k2, .int .i64 k3, .slice KA kn kc, .slice KK km kk] 37) = W at *
                                have z0 := cell6_0 HCW.out
                                have z1 := cell6_1 HCW.out
                                have z2 := cell6_2 HCW.out
                                have z3 := cell6_3 HCW.out
                                have z4 := cell6_4 HCW.out
                                have z5 := cell6_5 HCW.out
                                have zf0 := cell3_f HCW.out 0
                                have zf1 := cell3_f HCW.out 1
                                have zf2 := cell3_f HCW.out 2
                                have zf3 := cell3_f HCW.out 3
                                have zf4 := cell3_f HCW.out 4
                                have zf5 := cell3_f HCW.out 5
                                have zl := cell_lt HCW.out
                                go_wp2_with (fail)
                                refine bodyPost_ret (v := .tuple #[.agg #[.string ⟨#[]⟩, .int .i64 0, .string ⟨#[]⟩, .int .i64 0, .slice none 0 0, .slice none 0 0], .int .i64 (mk : Int), .bool false]) (by simp [results, Tryz.results45, go_sem, z0, z1, z2, z3, z4, z5]) rfl ?_
                                refine ex_end (s := s) (d := (mk, none)) HQL.out HF.out HBW.out (fun n h => by cases h)
                              | some k =>
                                have HQk : Hid (exprR Knd.parseT (bl s) r m4 = (mk, some k)) := by
                                  show _ = _
                                  rcases HRk.out with h | ⟨e, x, h1, h2, h3⟩
                                  · exact h.symm
                                  · cases h2
                                have HEk : Hid (exprR Knd.parseT (bl s) (r + 1) q = contP Knd.parseT (exprR Knd.parseT (bl s) r) (bl s) least pr i mk (.mk nd.op nd.int nd.text nd.ty (nd.kids ++ [k]))) := by
                                  show _ = _
                                  rw [HEe.out, HQk.out]
                                  rfl
                                clear HEe HQk HRk
                                go_upto_region 34 with (fail)
                                obtain ⟨dd, hdd⟩ := Hnk.out k rfl
                                have hba := (Below.refl wk.heap.size wk).alloc (Nat.le_refl _) (.cells #[.string k0, .int .i64 k1, .string k2, .int .i64 k3, .slice KA kn kc, .slice KK km kk] 37)
                                have HKW := Lib.hid (heap_alloc_new wk (.cells #[.string k0, .int .i64 k1, .string k2, .int .i64 k3, .slice KA kn kc, .slice KK km kk] 37))
                                have hsW : (wk.alloc (.cells #[.string k0, .int .i64 k1, .string k2, .int .i64 k3, .slice KA kn kc, .slice KK km kk] 37)).heap.size = wk.heap.size + 1 := by simp
                                have HOW0 : Hid (Only w.heap.size wc (wk.alloc (.cells #[.string k0, .int .i64 k1, .string k2, .int .i64 k3, .slice KA kn kc, .slice KK km kk] 37))) := (Only.of_below HBk0.out).trans (Only.of_below hba)
                                have HVW : Hid (NdAt (wk.alloc (.cells #[.string k0, .int .i64 k1, .string k2, .int .i64 k3, .slice KA kn kc, .slice KK km kk] 37)) (fun b => wc.heap.size ≤ b) (max (d + 1) dd) (.agg #[.string k0, .int .i64 k1, .string k2, .int .i64 k3, .slice KA kn kc, .slice KK km kk]) k) := NdAt.more _ _ _ _ (Nat.le_max_right (d + 1) dd) (NdAt.move (fun b hb hl => ⟨hb, fun o => World.cell?_of_block (hba.block b hl)⟩) dd _ _ hdd)
                                have HBW := Lib.hid (HBk.out.trans (hba.mono (by omega)))
                                have HCW := Lib.hid ((hba.block w.heap.size (by omega)).trans HCk.out)
                                have HNW := Lib.hid (HNk.out.only hRP0 (Only.of_below hba))
                                clear hba hdd Hnk HBk0 HBk HCk HNk z0 z1 z2 z3 z4 z5 zf0 zf1 zf2 zf3 zf4 zf5 zl
                                generalize wk.alloc (.cells #[.string k0, .int .i64 k1, .string k2, .int .i64 k3, .slice KA kn kc, .slice KK km kk] 37) = W at *
                                generalize wk.heap.size = KB at *
                                obtain ⟨Av, cv, hvs⟩ := own_slice HNW.out.own
                                subst hvs
                                have hkl2 := cell_lt HKW.out
                                have hpl := cell_lt HNW.out.box
                                have hKP : P ≠ KB := by have := cell_lt HN.out.box; omega
                                have x0 := cell6_0 HKW.out
                                have x1 := cell6_1 HKW.out
                                have x2 := cell6_2 HKW.out
                                have x3 := cell6_3 HKW.out
                                have x4 := cell6_4 HKW.out
                                have x5 := cell6_5 HKW.out
                                obtain ⟨n, hn⟩ : ∃ n, n = nd.kids.length := ⟨_, rfl⟩
                                have HOW : Hid (W.ownsRow (P + 1) 37 6 (.slice Av n cv) n cs) := by rw [hn]; exact HNW.out.own
                                have HPW : Hid (W.heap[P]? = some (.cells #[.string ⟨nd.op.toArray⟩, .int .i64 nd.int, .string ⟨nd.text.toArray⟩, .int .i64 nd.ty.kind, .slice A nd.ty.args.length c, .slice Av n cv] 37 (0, 0))) := by rw [hn]; exact HNW.out.box
                                have HKO : Hid (∀ k, (Value.slice Av n cv).ownBlock = some k → P + 1 ≤ k) := fun k hk => (HOW.out.lt k hk).1
                                have y5 := cell6_5 HPW.out
                                have yf := cell3_f HPW.out 5
                                rw [← hn] at hkl
                                have HNN := Lib.hid hn
                                clear hn
                                have HSW := Lib.hid hsW
                                clear hsW
                                have hnn : (n : Int) < (n : Int) + 1 := by omega
                                have hcl : cs.length = n * 6 := HOW.out.1
                                have HCL := Lib.hid hcl
                                clear hcl
                                go_wp2_with (at_builtin; refine wpList_append_own_at _ rfl _ _ 35 rfl (P + 1) 37 i0 (.agg #[.string ⟨#[]⟩, .int .i64 0, .string ⟨#[]⟩, .int .i64 0, .slice none 0 0, .slice none 0 0]) 6 96 Tryz.underlying35 hi hq0 hq1 hq2 rfl (by decide) (.slice Av n cv) n cs rfl (HOW.out.alloc _) ⟨W.heap.size, 0, none⟩ 1 1 [.string k0, .int .i64 k1, .string k2, .int .i64 k3, .slice KA kn kc, .slice KK km kk] rfl rfl (cellsD_new _ _ _ _ _ _ _ _ _ rfl) (sixD_one _ _ _ _ _ _ _ _ _ _) (by unfold maxLen; omega) (by omega) (by simp; omega) ?_; intro v' w7 hown7 hg7 _ hat7; obtain ⟨gg, cap, rfl⟩ := own_some hown7; have hP7 := (hg7.block P (by simp; omega) (fun e => by have := HKO.out P e.symm; omega)).trans ((Below.heap_alloc W _ P hpl).trans HPW.out); have y57 := cell6_5 hP7; have yf7 := cell3_f hP7 5; have hpl7 := cell_lt hP7; have hA := afd_own HOW.out hpl hg7 hown7 (hat7.imp (fun h => h.symm) (fun h => by simpa [Value.ownBlock] using h)); clear hown7 hg7 hat7)
                                obtain ⟨wx, hwx⟩ : ∃ wx, wx = w7.setCell ⟨P, 5, none⟩ (.slice (some ⟨gg, 0, none⟩) (n + 1) cap) := ⟨_, rfl⟩
                                rw [← hwx] at hA ⊢
                                have HA := Lib.hid hA
                                clear hA hwx hP7 y57 yf7 hpl7 x0 x1 x2 x3 x4 x5 y5 yf hnn
                                go_wp2_with (fail)
                                go_meet
                                have hA := HA.out
                                rw [HNN.out] at hA
                                obtain ⟨vs', cs', hpn, _⟩ := afd_pn (HN.out.more (Nat.le_max_left (d + 1) dd)) hRP0 HOW0.out hA HVW.out
                                have hbW := afd_below hA (fun g hg => (HNW.out.own.lt g hg).1) (Nat.le_of_lt hRP0) hpl
                                obtain ⟨gx, capx, _, _, _, _, _, _, _, hblk⟩ := hA
                                exact ⟨mk, max d (dd - 1), c, .mk nd.op nd.int nd.text nd.ty (nd.kids ++ [k]), A, vs', cs', rfl, hle, by show (nd.kids ++ [k]).length = i + 1; rw [List.length_append, HKL.out]; rfl, by rw [show max d (dd - 1) + 1 = max (d + 1) dd by omega]; exact hpn, HBW.out.trans hbW, by show _ = _; exact (hblk w.heap.size (by omega) (by omega) (fun e => by have := (HNW.out.own.lt _ e.symm).1; omega)).trans HCW.out, HEk⟩
                            · 
                              subst hb
                              have HEe : Hid (exprR Knd.parseT (bl s) (r + 1) q = bindP (bindP (nameR (bl s) m4) fun m' k => (m', some (.mk nd.op nd.int nd.text nd.ty (nd.kids ++ [k])))) (contP Knd.parseT (exprR Knd.parseT (bl s) r) (bl s) least pr i)) := by
                                show _ = _
                                rw [HE.out, part_nm, ← HM4.out]
                              clear HE
                              obtain ⟨x, hx⟩ : ∃ x, x = spel (bl s) m4 := ⟨_, rfl⟩
                              obtain ⟨mk, hmk⟩ : ∃ mk, mk = m4 + (spel (bl s) m4).length := ⟨_, rfl⟩
                              have hle : mk ≤ s.size := by
                                have := spel_in (l := bl s) (m := m4) (by rw [bl_length]; exact hm4s)
                                rw [bl_length] at this
                                omega
                              have HX := Lib.hid hx
                              have HMK := Lib.hid hmk
                              clear hx hmk
                              go_wp2_with (fail)
                              refine (word_d s m4 wc hs hm4s).mono ?_
                              rintro e wk ⟨hW, hw⟩
                              have hw2 := hw.symm
                              subst hw2
                              unfold WdO at hW
                              by_cases hlt : isLet (lkB (bl s) m4) = true
                              · rw [if_pos hlt] at hW
                                by_cases h16 : (spel (bl s) m4).length = 16 ∧ nmB (lkB (bl s) (m4 + 16)) = true
                                · rw [if_pos h16] at hW
                                  subst hW
                                  have HF : Hid (RelD (bl s) (m4 + 16, none) (exprR Knd.parseT (bl s) (r + 1) q)) := by
                                    show RelD _ _ _
                                    rw [HEe.out]
                                    unfold nameR
                                    rw [h16.1]
                                    split
                                    · exact .inl (blD_cont h16.2 _ _ _ _).symm
                                    · exact .inl rfl
                                  clear h16 hlt HEe
                                  go_wp2_with (fail)
                                  refine bodyPost_ret (v := .tuple #[.agg #[.string ⟨#[]⟩, .int .i64 0, .string ⟨#[]⟩, .int .i64 0, .slice none 0 0, .slice none 0 0], .int .i64 (((m4 + 16 : Nat)) : Int), .bool false]) (by simp [results, Tryz.results45, go_sem, z0, z1, z2, z3, z4, z5]) rfl ?_
                                  exact ex_end (s := s) (d := (((m4 + 16 : Nat)), none)) HQL.out (HF.out) HB.out (fun n h => by cases h)
                                · rw [if_neg h16, ← HX.out, show m4 + x.length = mk by rw [HMK.out, HX.out]] at hW
                                  subst hW
                                  have HND := Lib.hid (nameDoc_nm hlt)
                                  rw [← HX.out] at HND
                                  have HEf : Hid (exprR Knd.parseT (bl s) (r + 1) q = bindP (bindP (mk, if isNm x then some (nameN x) else none) fun m' k => (m', some (.mk nd.op nd.int nd.text nd.ty (nd.kids ++ [k])))) (contP Knd.parseT (exprR Knd.parseT (bl s) r) (bl s) least pr i)) := by
                                    show _ = _
                                    rw [HEe.out]
                                    unfold nameR
                                    rw [← HX.out, show m4 + x.length = mk by rw [HMK.out, HX.out]]
                                  clear h16 hlt HEe
                                  go_wp2_with (fail)
                                  refine (name_d x wc).mono ?_
                                  rintro e W ⟨rfl, hbk⟩
                                  rw [HND.out]
                                  have HBk := Lib.hid (HB.out.trans (hbk.mono (by omega)))
                                  have HCk := Lib.hid (below_at hbk HC.out)
                                  have HNk := Lib.hid (HN.out.only hRP0 (Only.of_below hbk))
                                  have hsk2 := hbk.size
                                  have HBk0 := Lib.hid hbk
                                  clear HC HB hbk z0 zf0 z1 zf1 z2 zf2 z3 zf3 z4 zf4 z5 zf5 zl
                                  have z0 := cell6_0 HCk.out
                                  have z1 := cell6_1 HCk.out
                                  have z2 := cell6_2 HCk.out
                                  have z3 := cell6_3 HCk.out
                                  have z4 := cell6_4 HCk.out
                                  have z5 := cell6_5 HCk.out
                                  have zf0 := cell3_f HCk.out 0
                                  have zf1 := cell3_f HCk.out 1
                                  have zf2 := cell3_f HCk.out 2
                                  have zf3 := cell3_f HCk.out 3
                                  have zf4 := cell3_f HCk.out 4
                                  have zf5 := cell3_f HCk.out 5
                                  have zl := cell_lt HCk.out
                                  by_cases hnm : isNm x = true
                                  · have HEk : Hid (exprR Knd.parseT (bl s) (r + 1) q = contP Knd.parseT (exprR Knd.parseT (bl s) r) (bl s) least pr i mk (.mk nd.op nd.int nd.text nd.ty (nd.kids ++ [nameN x]))) := by
                                      show _ = _
                                      rw [HEf.out, hnm]
                                      rfl
                                    rw [hnm]
                                    clear hnm HEf HND
                                    go_upto_region 53 with (fail)
                                    have HOW0 : Hid (Only w.heap.size wc W) := Only.of_below HBk0.out
                                    obtain ⟨dd, hdd1⟩ : ∃ dd, dd = 1 := ⟨_, rfl⟩
                                    have HNW := HNk
                                    have HBW := HBk
                                    have HCW := HCk
                                    clear HNk HBk HCk z0 z1 z2 z3 z4 z5 zf0 zf1 zf2 zf3 zf4 zf5 zl
                                    obtain ⟨Av, cv, hvs⟩ := own_slice HNW.out.own
                                    subst hvs
                                    have hpl := cell_lt HNW.out.box
                                    obtain ⟨n, hn⟩ : ∃ n, n = nd.kids.length := ⟨_, rfl⟩
                                    have HOW : Hid (W.ownsRow (P + 1) 37 6 (.slice Av n cv) n cs) := by rw [hn]; exact HNW.out.own
                                    have HPW : Hid (W.heap[P]? = some (.cells #[.string ⟨nd.op.toArray⟩, .int .i64 nd.int, .string ⟨nd.text.toArray⟩, .int .i64 nd.ty.kind, .slice A nd.ty.args.length c, .slice Av n cv] 37 (0, 0))) := by rw [hn]; exact HNW.out.box
                                    have HKO : Hid (∀ k, (Value.slice Av n cv).ownBlock = some k → P + 1 ≤ k) := fun k hk => (HOW.out.lt k hk).1
                                    have y5 := cell6_5 HPW.out
                                    have yf := cell3_f HPW.out 5
                                    rw [← hn] at hkl
                                    have HNN := Lib.hid hn
                                    clear hn
                                    have hnn : (n : Int) < (n : Int) + 1 := by omega
                                    have hcl : cs.length = n * 6 := HOW.out.1
                                    have HCL := Lib.hid hcl
                                    clear hcl
                                    have HVW : Hid (NdAt W (fun b => wc.heap.size ≤ b) (max (d + 1) 1) (.agg #[.string ⟨#[110, 97, 109, 101]⟩, .int .i64 0, .string ⟨x.toArray⟩, .int .i64 0, .slice none 0 0, .slice none 0 0]) (nameN x)) := NdAt.more _ _ _ _ (Nat.le_max_right (d + 1) 1) (NdAt.leaf _ _ 0 [110, 97, 109, 101] 0 x)
                                    go_wp2_with (at_builtin; refine wpList_append_own_at _ rfl _ _ 35 rfl (P + 1) 37 i0 (.agg #[.string ⟨#[]⟩, .int .i64 0, .string ⟨#[]⟩, .int .i64 0, .slice none 0 0, .slice none 0 0]) 6 96 Tryz.underlying35 hi hq0 hq1 hq2 rfl (by decide) (.slice Av n cv) n cs rfl (HOW.out.alloc _) ⟨W.heap.size, 0, none⟩ 1 1 [.string ⟨#[110, 97, 109, 101]⟩, .int .i64 0, .string ⟨x.toArray⟩, .int .i64 0, .slice none 0 0, .slice none 0 0] rfl rfl (cellsD_new _ _ _ _ _ _ _ _ _ rfl) (sixD_one _ _ _ _ _ _ _ _ _ _) (by unfold maxLen; omega) (by omega) (by simp; omega) ?_; intro v' w7 hown7 hg7 _ hat7; obtain ⟨gg, cap, rfl⟩ := own_some hown7; have hP7 := (hg7.block P (by simp; omega) (fun e => by have := HKO.out P e.symm; omega)).trans ((Below.heap_alloc W _ P hpl).trans HPW.out); have y57 := cell6_5 hP7; have yf7 := cell3_f hP7 5; have hpl7 := cell_lt hP7; have hA := afd_own HOW.out hpl hg7 hown7 (hat7.imp (fun h => h.symm) (fun h => by simpa [Value.ownBlock] using h)); clear hown7 hg7 hat7)
                                    obtain ⟨wx, hwx⟩ : ∃ wx, wx = w7.setCell ⟨P, 5, none⟩ (.slice (some ⟨gg, 0, none⟩) (n + 1) cap) := ⟨_, rfl⟩
                                    rw [← hwx] at hA ⊢
                                    have HA := Lib.hid hA
                                    clear hA hwx hP7 y57 yf7 hpl7 y5 yf hnn
                                    go_wp2_with (fail)
                                    go_meet
                                    have hA := HA.out
                                    rw [HNN.out] at hA
                                    obtain ⟨vs', cs', hpn, _⟩ := afd_pn (HN.out.more (Nat.le_max_left (d + 1) 1)) hRP0 HOW0.out hA HVW.out
                                    have hbW := afd_below hA (fun g hg => (HNW.out.own.lt g hg).1) (Nat.le_of_lt hRP0) hpl
                                    obtain ⟨gx, capx, _, _, _, _, _, _, _, hblk⟩ := hA
                                    exact ⟨mk, max d 0, c, .mk nd.op nd.int nd.text nd.ty (nd.kids ++ [nameN x]), A, vs', cs', rfl, hle, by show (nd.kids ++ [nameN x]).length = i + 1; rw [List.length_append, HKL.out]; rfl, by rw [show max d 0 + 1 = max (d + 1) 1 by omega]; exact hpn, HBW.out.trans hbW, by show _ = _; exact (hblk w.heap.size (by omega) (by omega) (fun e => by have := (HNW.out.own.lt _ e.symm).1; omega)).trans HCW.out, HEk⟩
                                  · have hnf : isNm x = false := by simpa using hnm
                                    have HF : Hid (RelD (bl s) (mk, none) (exprR Knd.parseT (bl s) (r + 1) q)) := by
                                      show RelD _ _ _
                                      rw [HEf.out, hnf]
                                      exact .inl rfl
                                    rw [hnf]
                                    clear hnm hnf HEf HND
                                    go_wp2_with (fail)
                                    refine bodyPost_ret (v := .tuple #[.agg #[.string ⟨#[]⟩, .int .i64 0, .string ⟨#[]⟩, .int .i64 0, .slice none 0 0, .slice none 0 0], .int .i64 (mk : Int), .bool false]) (by simp [results, Tryz.results45, go_sem, z0, z1, z2, z3, z4, z5]) rfl ?_
                                    exact ex_end (s := s) (d := (mk, none)) HQL.out (HF.out) HBk.out (fun n h => by cases h)
                              · rw [if_neg hlt] at hW
                                subst hW
                                have HF : Hid (RelD (bl s) (m4, none) (exprR Knd.parseT (bl s) (r + 1) q)) := by
                                  show RelD _ _ _
                                  rw [HEe.out]
                                  unfold nameR
                                  rw [spel_none (by simpa using hlt)]
                                  exact .inl rfl
                                clear hlt HEe
                                go_wp2_with (fail)
                                refine bodyPost_ret (v := .tuple #[.agg #[.string ⟨#[]⟩, .int .i64 0, .string ⟨#[]⟩, .int .i64 0, .slice none 0 0, .slice none 0 0], .int .i64 (m4 : Int), .bool false]) (by simp [results, Tryz.results45, go_sem, z0, z1, z2, z3, z4, z5]) rfl ?_
                                exact ex_end (s := s) (d := (m4, none)) HQL.out (HF.out) HB.out (fun n h => by cases h)
                          obtain ⟨m5, d', c', nd', A', vs', cs', rfl, hm5, HKL', HN', HB', HC', HE'⟩ := hcut
                          clear HC HB HN HE hkl HKL z0 zf0 z1 zf1 z2 zf2 z3 zf3 z4 zf4 z5 zf5 zl
                          have z0 := cell6_0 HC'.out
                          have z1 := cell6_1 HC'.out
                          have z2 := cell6_2 HC'.out
                          have z3 := cell6_3 HC'.out
                          have z4 := cell6_4 HC'.out
                          have z5 := cell6_5 HC'.out
                          have zf0 := cell3_f HC'.out 0
                          have zf1 := cell3_f HC'.out 1
                          have zf2 := cell3_f HC'.out 2
                          have zf3 := cell3_f HC'.out 3
                          have zf4 := cell3_f HC'.out 4
                          have zf5 := cell3_f HC'.out 5
                          have zl := cell_lt HC'.out
                          obtain ⟨m6, hm6⟩ : ∃ m6, m6 = skip (bl s) m5 := ⟨_, rfl⟩
                          have hm6s : m6 ≤ s.size := by
                            have := (skip_le (l := bl s) (m := m5) (by rw [bl_length]; omega)).2
                            rw [bl_length] at this
                            omega
                          have HM6 := Lib.hid hm6
                          clear hm6
                          go_wp2_with (fail)
                          refine (skip_d s m5 _ hs hm5).mono ?_
                          rw [← HM6.out]
                          rintro e w4 ⟨rfl, hw4⟩
                          subst hw4
                          have HFL : Hid (lkB (bl s) m6 ≠ 44 ∨ pr = [] → lkB (bl s) m6 ≠ 41 ∨ ¬ least ≤ i + 1 → exprR Knd.parseT (bl s) (r + 1) q = (m6, none)) := fun h1 h2 => by
                            have hlp : least ≤ p.length := by
                              rcases HGF.out.1 with ⟨_, hp, hl⟩ | ⟨_, hp, hl⟩
                              · rw [hp, hl]; decide
                              · rw [hp, hl]; exact Nat.le_refl _
                            rw [HE'.out, HM6.out]
                            rw [HM6.out] at h1 h2
                            refine cont_other h1 h2 (fun e => ?_)
                            have h3 := HPL.out.1
                            have h4 := HPL.out.2
                            have h5 : ¬ i + 1 < p.length := fun h => h4.1 h e
                            omega
                          by_cases h44 : lkB (bl s) m6 = 44
                          · 
                            have hm6l : m6 < s.size := by
                              have := lkB_lt (l := bl s) (m := m6) (by rw [h44]; decide)
                              rw [bl_length] at this
                              exact this
                            have hix6 := str_index s m6 hm6l hs
                            rw [← bl_at s m6 hm6l, h44] at hix6
                            have g44 : ((44 : UInt8).toNat : Int) = 44 := rfl
                            have H44 := Lib.hid h44
                            clear h44
                            cases hpr : pr with
                            | cons p' pr' =>
                              have HNX : Hid (exprR Knd.parseT (bl s) (r + 1) q = bindP (partR Knd.parseT (exprR Knd.parseT (bl s) r) (bl s) p' (m6 + 1) nd') (contP Knd.parseT (exprR Knd.parseT (bl s) r) (bl s) least pr' (i + 1))) := by
                                show _ = _
                                rw [HE'.out, hpr, cont_comma (by rw [← HM6.out]; exact H44.out), ← HM6.out]
                              have hi1 : i + 1 < p.length := HPL.out.2.2 (by rw [hpr]; simp)
                              have HDR' : Hid (p.drop (i + 1) = p' :: pr') := by show _ = _; rw [← List.tail_drop, HDR.out, hpr]; rfl
                              have h64 := HP64.out
                              have hi62 : i + 1 ≤ 63 := by omega
                              have hi63' : i < 63 := by omega
                              rcases HGF.out.1 with ⟨hg, hp, _⟩ | ⟨hg, hp, _⟩
                              · exact absurd (hg.symm.trans (HG8.out.trans hp)) (by decide)
                              · have hil : i + 1 < g.length := by rw [← hp]; exact hi1
                                have hg1 : (g == [108]) = false := by simp [hg]
                                have hg2 : (g != [108]) = true := by simp [hg]
                                have hg3 : ¬ g = [108] := hg
                                have hil2 : (i : Int) + 1 < (g.length : Int) := by omega
                                clear hp hi1 h64
                                go_wp2_with (fail)
                                go_roundw
                                case rel => exact ⟨m6, i + 1, d', c', nd', A', vs', cs', p', pr', by go_num, by go_num, hm6l, hi62, HDR', by rw [HKL'.out]; exact hi62, HKL', HN', HB', HC', HNX⟩
                                case measure => simp [intOf]; omega
                            | nil =>
                              have HFF := Lib.hid (HFL.out (.inr hpr) (.inl (by rw [H44.out]; decide)))
                              have hni : ¬ i + 1 < p.length := fun h => HPL.out.2.1 h hpr
                              rcases HGF.out.1 with ⟨hg, hp, _⟩ | ⟨hg, hp, _⟩
                              · exact absurd (hg.symm.trans (HG8.out.trans hp)) (by decide)
                              · have hil2 : ¬ (i : Int) + 1 < (g.length : Int) := by rw [← hp]; omega
                                have hg1 : (g == [108]) = false := by simp [hg]
                                have hg2 : (g != [108]) = true := by simp [hg]
                                have hg3 : ¬ g = [108] := hg
                                clear hp hni hpr
                                go_wp2_with (fail)
                                refine bodyPost_ret (v := .tuple #[.agg #[.string ⟨#[]⟩, .int .i64 0, .string ⟨#[]⟩, .int .i64 0, .slice none 0 0, .slice none 0 0], .int .i64 (m6 : Int), .bool false]) (by simp [results, Tryz.results45, go_sem, z0, z1, z2, z3, z4, z5]) rfl ?_
                                exact ex_end (s := s) (d := (m6, none)) HQL.out (by rw [HFF.out]; exact .rfl') HB'.out (fun n h => by cases h)
                          · 
                            by_cases hm6l : m6 < s.size
                            · have hix6 := str_index s m6 hm6l hs
                              rw [← bl_at s m6 hm6l] at hix6
                              have g44 : (((lkB (bl s) m6).toNat : Int) == 44) = false := by
                                simp only [beq_eq_false_iff_ne, ne_eq]
                                intro hh
                                exact h44 (UInt8.toNat_inj.1 (by have h44 : (44 : UInt8).toNat = 44 := rfl; omega))
                              have H44 := Lib.hid h44
                              clear h44
                              by_cases h41 : lkB (bl s) m6 = 41
                              · have H41 := Lib.hid h41
                                have g41 : ((lkB (bl s) m6).toNat : Int) = 41 := by rw [h41]; rfl
                                rw [g41] at hix6 g44
                                have HCL : Hid (least ≤ i + 1 → exprR Knd.parseT (bl s) (r + 1) q = (m6 + 1, some nd')) := fun h => by
                                  rw [HE'.out, cont_close (by rw [← HM6.out]; exact H41.out) h, ← HM6.out]
                                clear h41 g41
                                obtain ⟨Av, cv, hvs⟩ := own_slice HN'.out.own
                                subst hvs
                                rcases HGF.out.1 with ⟨hg, hp, hl⟩ | ⟨hg, hp, hl⟩
                                · exact absurd (hg.symm.trans (HG8.out.trans hp)) (by decide)
                                · have hg1 : (g == [108]) = false := by simp [hg]
                                  have hg2 : (g != [108]) = true := by simp [hg]
                                  have hg3 : ¬ g = [108] := hg
                                  have hle : i + 1 ≤ g.length := by rw [← hp]; exact HPL.out.1
                                  by_cases hlt : least ≤ i + 1
                                  · have HRT := Lib.hid (HCL.out hlt)
                                    have hil2 : (i : Int) + 1 = (g.length : Int) := by omega
                                    clear hp hl hlt hle
                                    have y0 := cell6_0 HN'.out.box
                                    have y1 := cell6_1 HN'.out.box
                                    have y2 := cell6_2 HN'.out.box
                                    have y3 := cell6_3 HN'.out.box
                                    have y4 := cell6_4 HN'.out.box
                                    have y5 := cell6_5 HN'.out.box
                                    go_wp2_with (fail)
                                    refine bodyPost_ret (v := .tuple #[.agg #[.string ⟨nd'.op.toArray⟩, .int .i64 nd'.int, .string ⟨nd'.text.toArray⟩, .int .i64 nd'.ty.kind, .slice A' nd'.ty.args.length c', .slice Av nd'.kids.length cv], .int .i64 ((m6 + 1 : Nat) : Int), .bool true]) (by simp [results, Tryz.results45, go_sem, z0, z1, z2, z3, z4, z5]) rfl ?_
                                    exact ex_end (s := s) (d := (m6 + 1, some nd')) HQL.out (by rw [HRT.out]; exact .rfl') HB'.out (fun n h => by cases h; exact ⟨d' + 1 + 1, NdAt.wider HN'.out.nd (fun b hb => by have hb : P < b := hb; show w.heap.size < b; omega)⟩)
                                  · have HFF := Lib.hid (HFL.out (.inl H44.out) (.inr hlt))
                                    have hil2 : ¬ (i : Int) + 1 = (g.length : Int) := by omega
                                    clear hp hl hlt hle
                                    go_wp2_with (fail)
                                    refine bodyPost_ret (v := .tuple #[.agg #[.string ⟨#[]⟩, .int .i64 0, .string ⟨#[]⟩, .int .i64 0, .slice none 0 0, .slice none 0 0], .int .i64 (m6 : Int), .bool false]) (by simp [results, Tryz.results45, go_sem, z0, z1, z2, z3, z4, z5]) rfl ?_
                                    exact ex_end (s := s) (d := (m6, none)) HQL.out (by rw [HFF.out]; exact .rfl') HB'.out (fun n h => by cases h)
                              · have HFF := Lib.hid (HFL.out (.inl H44.out) (.inl h41))
                                have g41 : (((lkB (bl s) m6).toNat : Int) == 41) = false := by
                                  simp only [beq_eq_false_iff_ne, ne_eq]
                                  intro hh
                                  exact h41 (UInt8.toNat_inj.1 (by have h41 : (41 : UInt8).toNat = 41 := rfl; omega))
                                clear h41
                                go_wp2_with (fail)
                                refine bodyPost_ret (v := .tuple #[.agg #[.string ⟨#[]⟩, .int .i64 0, .string ⟨#[]⟩, .int .i64 0, .slice none 0 0, .slice none 0 0], .int .i64 (m6 : Int), .bool false]) (by simp [results, Tryz.results45, go_sem, z0, z1, z2, z3, z4, z5]) rfl ?_
                                exact ex_end (s := s) (d := (m6, none)) HQL.out (by rw [HFF.out]; exact .rfl') HB'.out (fun n h => by cases h)
                            · have HFF := Lib.hid (HFL.out (.inl h44) (.inl (by rw [lkB_end (by rw [bl_length]; omega)]; decide)))
                              clear h44
                              go_wp2_with (fail)
                              refine bodyPost_ret (v := .tuple #[.agg #[.string ⟨#[]⟩, .int .i64 0, .string ⟨#[]⟩, .int .i64 0, .slice none 0 0, .slice none 0 0], .int .i64 (m6 : Int), .bool false]) (by simp [results, Tryz.results45, go_sem, z0, z1, z2, z3, z4, z5]) rfl ?_
                              exact ex_end (s := s) (d := (m6, none)) HQL.out (by rw [HFF.out]; exact .rfl') HB'.out (fun n h => by cases h)
                      · 
                        have HST : Hid (exprR Knd.parseT (bl s) (r + 1) q = (m1, none)) := by
                          show _ = _
                          rw [HRR.out, if_neg h40]
                        by_cases hm1l : m1 < s.size
                        · have hm1I : decide (s.size ≤ m1) = false := by simp; omega
                          have hix1 := str_index s m1 hm1l hs
                          rw [← bl_at s m1 hm1l] at hix1
                          have g40 : (((lkB (bl s) m1).toNat : Int) == 40) = false := by
                            simp only [beq_eq_false_iff_ne, ne_eq]
                            intro hh
                            exact h40 (UInt8.toNat_inj.1 (by have h40 : (40 : UInt8).toNat = 40 := rfl; omega))
                          have g40n : (((lkB (bl s) m1).toNat : Int) != 40) = true := by simp only [bne, g40]; rfl
                          clear h40
                          go_wp2_with (fail)
                          refine bodyPost_ret (v := .tuple #[.agg #[.string ⟨#[]⟩, .int .i64 0, .string ⟨#[]⟩, .int .i64 0, .slice none 0 0, .slice none 0 0], .int .i64 (m1 : Int), .bool false]) (by simp [results, Tryz.results45, go_sem, z0, z1, z2, z3, z4, z5]) rfl ?_
                          exact ex_end (s := s) (d := (m1, none)) HQL.out (by rw [HST.out]; exact .rfl') HB3.out (fun n h => by cases h)
                        · have hm1I : decide (s.size ≤ m1) = true := by simp; omega
                          clear h40
                          go_wp2_with (fail)
                          refine bodyPost_ret (v := .tuple #[.agg #[.string ⟨#[]⟩, .int .i64 0, .string ⟨#[]⟩, .int .i64 0, .slice none 0 0, .slice none 0 0], .int .i64 (m1 : Int), .bool false]) (by simp [results, Tryz.results45, go_sem, z0, z1, z2, z3, z4, z5]) rfl ?_
                          exact ex_end (s := s) (d := (m1, none)) HQL.out (by rw [HST.out]; exact .rfl') HB3.out (fun n h => by cases h)
                  · exact absurd HXP.out hwe
  · exact absurd HL.out (by rw [lkB_end (by rw [bl_length]; omega)]; decide)
end Go.Proofs.YtadbnlnifacblaaGreatDoor
