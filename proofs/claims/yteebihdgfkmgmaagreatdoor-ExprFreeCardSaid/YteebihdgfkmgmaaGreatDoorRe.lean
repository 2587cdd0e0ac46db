/-
Package expr: readExpr, Parse.
-/
import Derived.Test.YteebihdgfkmgmaaGreatDoorPv
import Derived.Test.YteebihdgfkmgmaaGreatDoorSp3
namespace Go.Proofs.YteebihdgfkmgmaaGreatDoor
open Go.RowKit

theorem expr_word (kp : List UInt8 → Nat × Option Ty) (l : List UInt8) (r m : Nat) : exprR kp l (r + 1) m = (if decide (lkB l m = 45) || isDig (lkB l m) then numN l m else if lkB l m = 34 then strN l m else if isLet (lkB l m) then wordR kp l r m else (m, none)) := by
  rw [exprR]
  unfold wordR
  rfl

set_option maxRecDepth 100000 in
set_option maxHeartbeats 4000000 in
theorem expr_any : ∀ (r : Nat), r ≤ 24 → ∀ (R : Nat) (s : ByteArray), 0 < R → 0 < r → ExOk r R s
  | 0, _, _, _, _, h => absurd h (by omega)
  | r + 1, hr, R, s, hR, _ => fun m w hG h => by
    have IH : Hid (0 < r → ExOk r R s) := fun h0 => expr_any r (by omega) R s hR h0
    have HR := Lib.hid h
    have HG := Lib.hid hG
    have hRl := h.lt
    have hlen := h.len
    have hle := h.le
    have hb1 := (Below.refl w.heap.size w).alloc (Nat.le_refl _) (.cells #[.string ⟨#[]⟩, .int .i64 0, .string ⟨#[]⟩, .int .i64 0, .slice none 0 0, .slice none 0 0] 27)
    have HN1 := Lib.hid (heap_alloc_new w (.cells #[.string ⟨#[]⟩, .int .i64 0, .string ⟨#[]⟩, .int .i64 0, .slice none 0 0, .slice none 0 0] 27))
    have HR1 := Lib.hid (h.below hb1)
    have HE := Lib.hid (expr_word Knd.parseT (bl s) r m)
    rw [show ((r + 1 : Nat) : Int) = (r : Int) + 1 by omega]
    clear h hG
    go_enter Tryz.func47, Tryz.ntmps47
    go_wp2_with (fail)
    obtain ⟨w1, hw1⟩ : ∃ w1, w1 = w.alloc (.cells #[.string ⟨#[]⟩, .int .i64 0, .string ⟨#[]⟩, .int .i64 0, .slice none 0 0, .slice none 0 0] 27) := ⟨_, rfl⟩
    have hs1 : w1.heap.size = w.heap.size + 1 := by rw [hw1]; simp
    rw [← hw1] at hb1 HN1 HR1
    rw [← hw1]
    clear hw1
    refine (look_any R s m w1 HR1.out).mono ?_
    rintro e w2 ⟨rfl, hb2⟩
    have hb12 := hb1.trans (hb2.mono (by omega))
    have HR2 := Lib.hid (HR.out.below hb12)
    have HO2 : Hid (Only R w w2) := Only.of_below hb12
    have HN2 := Lib.hid ((hb2.block w.heap.size (by omega)).trans HN1.out)
    have hs2 := hb2.size
    obtain ⟨c, hc⟩ : ∃ c, c = lkB (bl s) m := ⟨_, rfl⟩
    rw [← hc] at HE
    rw [← hc]
    have HC := Lib.hid hc
    clear hb1 hb2 hb12 HR1 HN1 hc
    by_cases h1 : c = 45
    · subst h1
      go_wp2_with (fail)
      refine (number_any R s m w2 HR2.out).mono ?_
      have HF : Hid (exprR Knd.parseT (bl s) (r + 1) m = ((numS (bl s) m).1, if (numS (bl s) m).2.2 then some (.mk intW (numV (rdB (bl s) m 45) (numS (bl s) m).2.1) [] ty0 []) else none)) := by show _ = _; rw [HE.out, if_pos (by simp [*])]; rfl
      revert HF
      generalize rdB (bl s) m 45 = neg
      generalize numS (bl s) m = q
      obtain ⟨m3, n3, g3⟩ := q
      intro HF
      rintro e w3 ⟨rfl, ho, hr3⟩
      have HN3 := Lib.hid ((ho.block w.heap.size (by omega) (by simp; omega)).trans HN2.out)
      have HO3 := Lib.hid (HO2.out.trans ho)
      have HR3 := Lib.hid hr3
      have d0 := cell6_0 HN3.out
      have d1 := cell6_1 HN3.out
      have d2 := cell6_2 HN3.out
      have d3 := cell6_3 HN3.out
      have d4 := cell6_4 HN3.out
      have d5 := cell6_5 HN3.out
      have f0 := cell3_f HN3.out 0
      have f1 := cell3_f HN3.out 1
      have f2 := cell3_f HN3.out 2
      have f3 := cell3_f HN3.out 3
      have f4 := cell3_f HN3.out 4
      have f5 := cell3_f HN3.out 5
      have hl := cell_lt HN3.out
      clear ho hr3
      cases g3 with
      | true =>
        have HF2 : Hid (exprR Knd.parseT (bl s) (r + 1) m = (m3, some (.mk intW (numV neg n3) [] ty0 []))) := HF
        clear HF HE
        go_wp2_with (fail)
        refine bodyPost_ret (v := .tuple #[.agg #[.string ⟨#[105, 110, 116]⟩, .int .i64 (numV neg n3), .string ⟨#[]⟩, .int .i64 0, .slice none 0 0, .slice none 0 0], .bool true]) (by simp [results, Tryz.results47, go_sem, d0, d1, d2, d3, d4, d5]) rfl ?_
        rw [HF2.out]
        have hOO := HO3.out
        have hRR := HR3.out
        refine nout_good ?_ ?_ ?_
        · exact NdAt.leaf _ _ (r + 1) intW (numV neg n3) []
        · (repeat' (first | with_reducible assumption | with_reducible refine Only.far ?_ ?_ | with_reducible refine Only.more ?_ | (dsimp only; omega)))
        · (repeat' (first | with_reducible assumption | with_reducible refine Rdr.far ?_ ?_ | with_reducible refine Rdr.more ?_ | (dsimp only; omega)))
      | false =>
        have HF2 : Hid (exprR Knd.parseT (bl s) (r + 1) m = (m3, none)) := HF
        clear HF HE
        go_wp2_with (fail)
        refine bodyPost_ret (v := .tuple #[.agg #[.string ⟨#[105, 110, 116]⟩, .int .i64 (numV neg n3), .string ⟨#[]⟩, .int .i64 0, .slice none 0 0, .slice none 0 0], .bool false]) (by simp [results, Tryz.results47, go_sem, d0, d1, d2, d3, d4, d5]) rfl ?_
        rw [HF2.out]
        have hOO := HO3.out
        have hRR := HR3.out
        refine nout_bad ⟨_, _, _, _, _, _, _, _, _, _, rfl⟩ ?_ ?_
        · (repeat' (first | with_reducible assumption | with_reducible refine Only.far ?_ ?_ | with_reducible refine Only.more ?_ | (dsimp only; omega)))
        · (repeat' (first | with_reducible assumption | with_reducible refine Rdr.far ?_ ?_ | with_reducible refine Rdr.more ?_ | (dsimp only; omega)))
    · have g1 : ((c.toNat : Int) == 45) = false := u8_beq_false (b := 45) h1
      go_wp2_with (fail)
      refine (isDigit_any c w2).mono ?_
      rintro e w3 ⟨rfl, rfl⟩
      cases h2 : isDig c with
      | true =>
        go_wp2_with (fail)
        refine (number_any R s m w2 HR2.out).mono ?_
        have HF : Hid (exprR Knd.parseT (bl s) (r + 1) m = ((numS (bl s) m).1, if (numS (bl s) m).2.2 then some (.mk intW (numV (rdB (bl s) m 45) (numS (bl s) m).2.1) [] ty0 []) else none)) := by show _ = _; rw [HE.out, if_pos (by simp [*])]; rfl
        revert HF
        generalize rdB (bl s) m 45 = neg
        generalize numS (bl s) m = q
        obtain ⟨m3, n3, g3⟩ := q
        intro HF
        rintro e w3 ⟨rfl, ho, hr3⟩
        have HN3 := Lib.hid ((ho.block w.heap.size (by omega) (by simp; omega)).trans HN2.out)
        have HO3 := Lib.hid (HO2.out.trans ho)
        have HR3 := Lib.hid hr3
        have d0 := cell6_0 HN3.out
        have d1 := cell6_1 HN3.out
        have d2 := cell6_2 HN3.out
        have d3 := cell6_3 HN3.out
        have d4 := cell6_4 HN3.out
        have d5 := cell6_5 HN3.out
        have f0 := cell3_f HN3.out 0
        have f1 := cell3_f HN3.out 1
        have f2 := cell3_f HN3.out 2
        have f3 := cell3_f HN3.out 3
        have f4 := cell3_f HN3.out 4
        have f5 := cell3_f HN3.out 5
        have hl := cell_lt HN3.out
        clear ho hr3
        cases g3 with
        | true =>
          have HF2 : Hid (exprR Knd.parseT (bl s) (r + 1) m = (m3, some (.mk intW (numV neg n3) [] ty0 []))) := HF
          clear HF HE
          go_wp2_with (fail)
          refine bodyPost_ret (v := .tuple #[.agg #[.string ⟨#[105, 110, 116]⟩, .int .i64 (numV neg n3), .string ⟨#[]⟩, .int .i64 0, .slice none 0 0, .slice none 0 0], .bool true]) (by simp [results, Tryz.results47, go_sem, d0, d1, d2, d3, d4, d5]) rfl ?_
          rw [HF2.out]
          have hOO := HO3.out
          have hRR := HR3.out
          refine nout_good ?_ ?_ ?_
          · exact NdAt.leaf _ _ (r + 1) intW (numV neg n3) []
          · (repeat' (first | with_reducible assumption | with_reducible refine Only.far ?_ ?_ | with_reducible refine Only.more ?_ | (dsimp only; omega)))
          · (repeat' (first | with_reducible assumption | with_reducible refine Rdr.far ?_ ?_ | with_reducible refine Rdr.more ?_ | (dsimp only; omega)))
        | false =>
          have HF2 : Hid (exprR Knd.parseT (bl s) (r + 1) m = (m3, none)) := HF
          clear HF HE
          go_wp2_with (fail)
          refine bodyPost_ret (v := .tuple #[.agg #[.string ⟨#[105, 110, 116]⟩, .int .i64 (numV neg n3), .string ⟨#[]⟩, .int .i64 0, .slice none 0 0, .slice none 0 0], .bool false]) (by simp [results, Tryz.results47, go_sem, d0, d1, d2, d3, d4, d5]) rfl ?_
          rw [HF2.out]
          have hOO := HO3.out
          have hRR := HR3.out
          refine nout_bad ⟨_, _, _, _, _, _, _, _, _, _, rfl⟩ ?_ ?_
          · (repeat' (first | with_reducible assumption | with_reducible refine Only.far ?_ ?_ | with_reducible refine Only.more ?_ | (dsimp only; omega)))
          · (repeat' (first | with_reducible assumption | with_reducible refine Rdr.far ?_ ?_ | with_reducible refine Rdr.more ?_ | (dsimp only; omega)))
      | false =>
        by_cases h3 : c = 34
        · have hms : m < s.size := by have := lkB_lt (l := bl s) (m := m) (by rw [← HC.out, h3]; decide); rwa [bl_length] at this
          subst h3
          go_wp2_with (fail)
          refine (string_any R s m w2 hms HR2.out).mono ?_
          have HF : Hid (exprR Knd.parseT (bl s) (r + 1) m = bindP (strS (bl s) m) fun m' t => (m', some (.mk textW 0 t ty0 []))) := by show _ = _; rw [HE.out, if_neg (by decide), if_pos trivial]; rfl
          revert HF
          generalize strS (bl s) m = q
          match q with
          | (m3, none) =>
            intro HF
            rintro e w3 ⟨rfl, ho, hr3⟩
            have HN3 := Lib.hid ((ho.block w.heap.size (by omega) (by simp; omega)).trans HN2.out)
            have HO3 := Lib.hid (HO2.out.trans ho)
            have HR3 := Lib.hid hr3
            have d0 := cell6_0 HN3.out
            have d1 := cell6_1 HN3.out
            have d2 := cell6_2 HN3.out
            have d3 := cell6_3 HN3.out
            have d4 := cell6_4 HN3.out
            have d5 := cell6_5 HN3.out
            have f0 := cell3_f HN3.out 0
            have f1 := cell3_f HN3.out 1
            have f2 := cell3_f HN3.out 2
            have f3 := cell3_f HN3.out 3
            have f4 := cell3_f HN3.out 4
            have f5 := cell3_f HN3.out 5
            have hl := cell_lt HN3.out
            clear ho hr3
            have HF2 : Hid (exprR Knd.parseT (bl s) (r + 1) m = (m3, none)) := HF
            clear HF HE
            go_wp2_with (fail)
            refine bodyPost_ret (v := .tuple #[.agg #[.string ⟨#[116, 101, 120, 116, 95, 111, 102]⟩, .int .i64 0, .string ⟨#[]⟩, .int .i64 0, .slice none 0 0, .slice none 0 0], .bool false]) (by simp [results, Tryz.results47, go_sem, d0, d1, d2, d3, d4, d5]) rfl ?_
            rw [HF2.out]
            have hOO := HO3.out
            have hRR := HR3.out
            refine nout_bad ⟨_, _, _, _, _, _, _, _, _, _, rfl⟩ ?_ ?_
            · (repeat' (first | with_reducible assumption | with_reducible refine Only.far ?_ ?_ | with_reducible refine Only.more ?_ | (dsimp only; omega)))
            · (repeat' (first | with_reducible assumption | with_reducible refine Rdr.far ?_ ?_ | with_reducible refine Rdr.more ?_ | (dsimp only; omega)))
          | (m3, some t3) =>
            intro HF
            rintro e w3 ⟨rfl, ho, hr3⟩
            have HN3 := Lib.hid ((ho.block w.heap.size (by omega) (by simp; omega)).trans HN2.out)
            have HO3 := Lib.hid (HO2.out.trans ho)
            have HR3 := Lib.hid hr3
            have d0 := cell6_0 HN3.out
            have d1 := cell6_1 HN3.out
            have d2 := cell6_2 HN3.out
            have d3 := cell6_3 HN3.out
            have d4 := cell6_4 HN3.out
            have d5 := cell6_5 HN3.out
            have f0 := cell3_f HN3.out 0
            have f1 := cell3_f HN3.out 1
            have f2 := cell3_f HN3.out 2
            have f3 := cell3_f HN3.out 3
            have f4 := cell3_f HN3.out 4
            have f5 := cell3_f HN3.out 5
            have hl := cell_lt HN3.out
            clear ho hr3
            have HF2 : Hid (exprR Knd.parseT (bl s) (r + 1) m = (m3, some (.mk textW 0 t3 ty0 []))) := HF
            clear HF HE
            go_wp2_with (fail)
            refine bodyPost_ret (v := .tuple #[.agg #[.string ⟨#[116, 101, 120, 116, 95, 111, 102]⟩, .int .i64 0, .string ⟨t3.toArray⟩, .int .i64 0, .slice none 0 0, .slice none 0 0], .bool true]) (by simp [results, Tryz.results47, go_sem, d0, d1, d2, d3, d4, d5]) rfl ?_
            rw [HF2.out]
            have hOO := HO3.out
            have hRR := HR3.out
            refine nout_good ?_ ?_ ?_
            · exact NdAt.leaf _ _ (r + 1) textW 0 t3
            · (repeat' (first | with_reducible assumption | with_reducible refine Only.far ?_ ?_ | with_reducible refine Only.more ?_ | (dsimp only; omega)))
            · (repeat' (first | with_reducible assumption | with_reducible refine Rdr.far ?_ ?_ | with_reducible refine Rdr.more ?_ | (dsimp only; omega)))
        · have g3 : ((c.toNat : Int) == 34) = false := u8_beq_false (b := 34) h3
          go_wp2_with (fail)
          refine (isLetter_any c w2).mono ?_
          rintro e w3 ⟨rfl, rfl⟩
          cases h4 : isLet c with
          | true =>
            go_wp2_with (fail)
            refine (word_any r R s m w2 hR (glob_only hR HO2.out HG.out) HR2.out (by omega) IH.out).mono ?_
            have HF : Hid (exprR Knd.parseT (bl s) (r + 1) m = wordR Knd.parseT (bl s) r m) := by show _ = _; rw [HE.out, if_neg (by simp [h1, h2]), if_neg h3, if_pos h4]
            intro e w3 h3'
            obtain ⟨k0, k1, k2, k3, KA, kn, kc, KK, km, kk, good, rfl, ho, hr3, hgood, hv3⟩ := h3'.parts
            have HV3 := Lib.hid hv3
            have HGD := Lib.hid hgood
            have HN3 := Lib.hid ((ho.block w.heap.size (by omega) (by simp; omega)).trans HN2.out)
            have HO3 := Lib.hid (HO2.out.trans ho)
            have HR3 := Lib.hid hr3
            have d0 := cell6_0 HN3.out
            have d1 := cell6_1 HN3.out
            have d2 := cell6_2 HN3.out
            have d3 := cell6_3 HN3.out
            have d4 := cell6_4 HN3.out
            have d5 := cell6_5 HN3.out
            have f0 := cell3_f HN3.out 0
            have f1 := cell3_f HN3.out 1
            have f2 := cell3_f HN3.out 2
            have f3 := cell3_f HN3.out 3
            have f4 := cell3_f HN3.out 4
            have f5 := cell3_f HN3.out 5
            have hl := cell_lt HN3.out
            clear ho hr3
            clear hv3 hgood h3'
            go_wp2_with (fail)
            refine bodyPost_ret (v := .tuple #[.agg #[.string k0, .int .i64 k1, .string k2, .int .i64 k3, .slice KA kn kc, .slice KK km kk], .bool good]) (by simp [results, Tryz.results47, go_sem, d0, d1, d2, d3, d4, d5]) rfl ?_
            rw [HF.out]
            have hOO := HO3.out
            have hRR := HR3.out
            have hg := HGD.out
            have hv := HV3.out
            revert hRR hg hv
            generalize wordR Knd.parseT (bl s) r m = q
            match q with
            | (m3, none) =>
              intro hRR hg hv
              obtain rfl : good = false := hg
              refine nout_bad ⟨_, _, _, _, _, _, _, _, _, _, rfl⟩ ?_ ?_
              · (repeat' (first | with_reducible assumption | with_reducible refine Only.far ?_ ?_ | with_reducible refine Only.more ?_ | (dsimp only; omega)))
              · (repeat' (first | with_reducible assumption | with_reducible refine Rdr.far ?_ ?_ | with_reducible refine Rdr.more ?_ | (dsimp only; omega)))
            | (m3, some nd) =>
              intro hRR hg hv
              obtain rfl : good = true := hg
              refine nout_good ?_ ?_ ?_
              · refine NdAt.move (fun b hb hlb => ⟨by omega, fun o => World.cell?_of_block ?_⟩) (r + 2) _ _ (hv nd rfl)
                first
                  | exact set6_block (by show b ≠ w.heap.size; omega)
                  | exact (set6_block (by show b ≠ w.heap.size; omega)).trans (Below.heap_alloc _ _ _ hlb)
              · (repeat' (first | with_reducible assumption | with_reducible refine Only.far ?_ ?_ | with_reducible refine Only.more ?_ | (dsimp only; omega)))
              · (repeat' (first | with_reducible assumption | with_reducible refine Rdr.far ?_ ?_ | with_reducible refine Rdr.more ?_ | (dsimp only; omega)))
          | false =>
            have HF : Hid (exprR Knd.parseT (bl s) (r + 1) m = (m, none)) := by show _ = _; rw [HE.out, if_neg (by simp [h1, h2]), if_neg h3, if_neg (by rw [h4]; decide)]
            have hr3 := HR2.out
            have ho : Only R w2 w2 := Only.refl _ _
            obtain ⟨w3, hw3⟩ : ∃ w3 : World, w3 = w2 := ⟨_, rfl⟩
            subst hw3
            have HN3 := Lib.hid ((ho.block w.heap.size (by omega) (by simp; omega)).trans HN2.out)
            have HO3 := HO2
            have HR3 := Lib.hid hr3
            have d0 := cell6_0 HN3.out
            have d1 := cell6_1 HN3.out
            have d2 := cell6_2 HN3.out
            have d3 := cell6_3 HN3.out
            have d4 := cell6_4 HN3.out
            have d5 := cell6_5 HN3.out
            have f0 := cell3_f HN3.out 0
            have f1 := cell3_f HN3.out 1
            have f2 := cell3_f HN3.out 2
            have f3 := cell3_f HN3.out 3
            have f4 := cell3_f HN3.out 4
            have f5 := cell3_f HN3.out 5
            have hl := cell_lt HN3.out
            clear ho hr3
            go_wp2_with (fail)
            refine bodyPost_ret (v := .tuple #[.agg #[.string ⟨#[]⟩, .int .i64 0, .string ⟨#[]⟩, .int .i64 0, .slice none 0 0, .slice none 0 0], .bool false]) (by simp [results, Tryz.results47, go_sem, d0, d1, d2, d3, d4, d5]) rfl ?_
            rw [HF.out]
            have hOO := HO3.out
            have hRR := HR3.out
            refine nout_bad ⟨_, _, _, _, _, _, _, _, _, _, rfl⟩ ?_ ?_
            · (repeat' (first | with_reducible assumption | with_reducible refine Only.far ?_ ?_ | with_reducible refine Only.more ?_ | (dsimp only; omega)))
            · (repeat' (first | with_reducible assumption | with_reducible refine Rdr.far ?_ ?_ | with_reducible refine Rdr.more ?_ | (dsimp only; omega)))
end Go.Proofs.YteebihdgfkmgmaaGreatDoor
