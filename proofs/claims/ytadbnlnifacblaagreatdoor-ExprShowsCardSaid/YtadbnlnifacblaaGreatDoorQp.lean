/-
The document's answer for package expr: skip, itself, nibble, word.
-/
import Derived.Test.YtadbnlnifacblaaGreatDoorPrt
import Derived.Test.YtadbnlnifacblaaGreatDoorRc3
import Derived.Test.YtadbnlnifacblaaGreatDoorRc7
import Derived.Test.YtadbnlnifacblaaGreatDoorPn
namespace Go.Proofs.YtadbnlnifacblaaGreatDoor
open Go.RowKit
set_option maxRecDepth 100000 in
set_option maxHeartbeats 1000000 in
theorem skip_d (s : ByteArray) (m : Nat) (w : World) (hs : s.size ≤ 1000000) (hm : m ≤ s.size) :
    Calls Tryz.prog 46 #[.string s, .int .i64 (m : Int)] w fun e w' => e = .returned (.int .i64 (skip (bl s) m : Nat)) ∧ w' = w := by
  go_enter Tryz.func46, Tryz.ntmps46
  go_wp2_with (fail)
  go_loopw [1] (fun iv wr => ∃ j : Nat, iv = .int .i64 (j : Int) ∧ j ≤ s.size ∧ Hid (skip (bl s) m = skip (bl s) j) ∧ wr = w) (fun iv _ => 1000001 - (intOf iv).toNat)
  case atStart => exact ⟨m, rfl, hm, Lib.hid rfl, rfl⟩
  case round =>
    obtain ⟨j, rfl, hj, HS, hw⟩ := hrel
    have hww := hw.symm
    subst hww
    by_cases hlt : j < s.size
    · have hjl : decide ((j : Int) < (s.size : Int)) = true := by simp; omega
      have hix := str_index s j hlt hs
      rw [← bl_at s j hlt] at hix
      by_cases hb : lkB (bl s) j = 32
      · have gb : ((lkB (bl s) j).toNat : Int) = 32 := by rw [hb]; rfl
        have HS2 : Hid (skip (bl s) m = skip (bl s) (j + 1)) := by show _ = _; rw [HS.out, skip_on hb]
        rw [gb] at hix
        clear hb gb
        go_wp2_with (fail)
        go_roundw
        case rel => exact ⟨j + 1, by go_num, by omega, HS2, trivial⟩
        case measure => simp [intOf]; omega
      · have gb : (((lkB (bl s) j).toNat : Int) == 32) = false := by
          simp only [beq_eq_false_iff_ne, ne_eq]
          intro hh
          exact hb (UInt8.toNat_inj.1 (by have h32 : (32 : UInt8).toNat = 32 := rfl; omega))
        have HS2 : Hid (skip (bl s) m = j) := by show _ = _; rw [HS.out, skip_off hb]
        clear hb
        go_wp2_with (fail)
        go_ret
        rw [HS2.out]
        exact ⟨rfl, rfl⟩
    · have hjl : decide ((j : Int) < (s.size : Int)) = false := by simp; omega
      have HS2 : Hid (skip (bl s) m = j) := by show _ = _; rw [HS.out, skip_off (by rw [lkB_end (by rw [bl_length]; omega)]; decide)]
      go_wp2_with (fail)
      go_ret
      rw [HS2.out]
      exact ⟨rfl, rfl⟩
theorem itself_d (n : Nat) (hn : n < 256) (w : World) : Calls Tryz.prog 59 #[.int .i64 (n : Int)] w fun e w' => e = .returned (.bool (isPl (UInt8.ofNat n))) ∧ w' = w := by
  have hto : (UInt8.ofNat n).toNat = n := by rw [UInt8.toNat_ofNat']; omega
  by_cases h1 : 32 ≤ n
  · have g1 : decide ((32 : Int) ≤ (n : Int)) = true := by simp; omega
    by_cases h2 : n ≤ 126
    · have g2 : decide ((n : Int) ≤ 126) = true := by simp; omega
      by_cases h3 : n = 34
      · subst h3
        go_enter Tryz.func59, Tryz.ntmps59
        go_wp2
        go_ret
        exact ⟨rfl, rfl⟩
      · have g3 : ((n : Int) != 34) = true := by simp; omega
        have HF : Hid (isPl (UInt8.ofNat n) = ((n : Int) != 92)) := by show _ = _; unfold isPl; rw [hto, decide_eq_true h1, decide_eq_true h2, decide_eq_true h3, Bool.true_and, Bool.true_and, Bool.true_and, Bool.eq_iff_iff]; simp; omega
        clear h1 h2 h3 hto
        go_enter Tryz.func59, Tryz.ntmps59
        go_wp2
        go_ret
        rw [HF.out]
        exact ⟨rfl, rfl⟩
    · have g2 : decide ((n : Int) ≤ 126) = false := by simp; omega
      have HF : Hid (isPl (UInt8.ofNat n) = false) := by show _ = _; unfold isPl; rw [hto, decide_eq_false h2]; simp
      clear h1 h2 hto
      go_enter Tryz.func59, Tryz.ntmps59
      go_wp2
      go_ret
      rw [HF.out]
      exact ⟨rfl, rfl⟩
  · have g1 : decide ((32 : Int) ≤ (n : Int)) = false := by simp; omega
    have HF : Hid (isPl (UInt8.ofNat n) = false) := by show _ = _; unfold isPl; rw [hto, decide_eq_false h1]; simp
    clear h1 hto
    go_enter Tryz.func59, Tryz.ntmps59
    go_wp2
    go_ret
    rw [HF.out]
    exact ⟨rfl, rfl⟩
theorem nibble_d (b : UInt8) (w : World) : Calls Tryz.prog 119 #[.int .u8 (b.toNat : Int)] w fun e w' => e = .returned (.int .i64 (hexZ b)) ∧ w' = w := by
  have hb := b.toNat_lt
  cases hd : isDig b with
  | true =>
    have HD := Lib.hid (digit_d b w)
    rw [hd] at HD
    have hr : 48 ≤ b.toNat ∧ b.toNat ≤ 57 := by unfold isDig at hd; simpa using hd
    have HF : Hid (hexZ b = (b.toNat : Int) - 48) := by show _ = _; unfold hexZ hexI; rw [if_pos hd]; simp; omega
    clear hd
    go_enter Tryz.func119, Tryz.ntmps119
    go_wp2_with (fail)
    refine HD.out.mono ?_
    rintro e w2 ⟨rfl, rfl⟩
    go_wp2_with (fail)
    go_ret
    rw [HF.out]
    exact ⟨rfl, rfl⟩
  | false =>
    have HD := Lib.hid (digit_d b w)
    rw [hd] at HD
    by_cases h1 : 97 ≤ b.toNat
    · have g1 : decide ((97 : Int) ≤ (b.toNat : Int)) = true := by simp; omega
      by_cases h2 : b.toNat ≤ 102
      · have g2 : ((b.toNat : Int) ≤ 102) := by omega
        have HF : Hid (hexZ b = (b.toNat : Int) - 97 + 10) := by show _ = _; unfold hexZ hexI; rw [hd, if_neg (by simp), if_pos ⟨h1, h2⟩]; simp; omega
        clear hd
        go_enter Tryz.func119, Tryz.ntmps119
        go_wp2_with (fail)
        refine HD.out.mono ?_
        rintro e w2 ⟨rfl, rfl⟩
        go_wp2_with (fail)
        go_ret
        rw [HF.out]
        exact ⟨rfl, rfl⟩
      · have g2 : ¬ ((b.toNat : Int) ≤ 102) := by omega
        have HF : Hid (hexZ b = -1) := by show _ = _; unfold hexZ hexI; rw [hd, if_neg (by simp), if_neg (fun h => h2 h.2)]
        clear hd
        go_enter Tryz.func119, Tryz.ntmps119
        go_wp2_with (fail)
        refine HD.out.mono ?_
        rintro e w2 ⟨rfl, rfl⟩
        go_wp2_with (fail)
        go_ret
        rw [HF.out]
        exact ⟨rfl, rfl⟩
    · have g1 : decide ((97 : Int) ≤ (b.toNat : Int)) = false := by simp; omega
      have HF : Hid (hexZ b = -1) := by show _ = _; unfold hexZ hexI; rw [hd, if_neg (by simp), if_neg (fun h => h1 h.1)]
      clear hd
      go_enter Tryz.func119, Tryz.ntmps119
      go_wp2_with (fail)
      refine HD.out.mono ?_
      rintro e w2 ⟨rfl, rfl⟩
      go_wp2_with (fail)
      go_ret
      rw [HF.out]
      exact ⟨rfl, rfl⟩
end Go.Proofs.YtadbnlnifacblaaGreatDoor
namespace Go.Proofs.YtadbnlnifacblaaGreatDoor
open Go.RowKit
theorem lkB_drop (l : List UInt8) (m j : Nat) : lkB (l.drop m) j = lkB l (m + j) := by unfold lkB; rw [List.getElem?_drop]
def WdO (l : List UInt8) (m : Nat) (e : Ending) : Prop :=
  if isLet (lkB l m) = true then (if (spel l m).length = 16 ∧ nmB (lkB l (m + 16)) = true then e = .returned (.tuple #[.string ⟨#[]⟩, .int .i64 ((m + 16 : Nat) : Int), .bool false])
    else e = .returned (.tuple #[.string ⟨(spel l m).toArray⟩, .int .i64 ((m + (spel l m).length : Nat) : Int), .bool true]))
  else e = .returned (.tuple #[.string ⟨#[]⟩, .int .i64 (m : Int), .bool false])
set_option maxRecDepth 100000 in
set_option maxHeartbeats 4000000 in
theorem word_d (s : ByteArray) (m : Nat) (w : World) (hs : s.size ≤ 1000000) (hm : m ≤ s.size) :
    Calls Tryz.prog 82 #[.string s, .int .i64 (m : Int)] w fun e w' => WdO (bl s) m e ∧ w' = w := by
  by_cases hme : m = s.size
  · have HF : Hid (isLet (lkB (bl s) m) = false) := by show _ = _; rw [lkB_end (by rw [bl_length]; omega)]; rfl
    subst hme
    go_enter Tryz.func82, Tryz.ntmps82
    go_wp2_with (fail)
    go_ret3
    unfold WdO
    rw [HF.out, if_neg (by simp)]
    exact ⟨rfl, rfl⟩
  · have g0 : decide (s.size ≤ m) = false := by simp; omega
    have hix := str_index s m (by omega) hs
    rw [← bl_at s m (by omega)] at hix
    have HLT := Lib.hid (letter_d (lkB (bl s) m) w)
    cases hlt : isLet (lkB (bl s) m) with
    | false =>
      rw [hlt] at HLT
      have HF := Lib.hid hlt
      clear hlt
      go_enter Tryz.func82, Tryz.ntmps82
      go_wp2_with (fail)
      refine HLT.out.mono ?_
      rintro e w2 ⟨rfl, rfl⟩
      go_wp2_with (fail)
      go_ret3
      unfold WdO
      rw [HF.out, if_neg (by simp)]
      exact ⟨rfl, rfl⟩
    | true =>
      rw [hlt] at HLT
      have HF := Lib.hid hlt
      clear hlt
      go_enter Tryz.func82, Tryz.ntmps82
      go_wp2_with (fail)
      refine HLT.out.mono ?_
      rintro e w2 ⟨rfl, rfl⟩
      clear HLT hix
      go_wp2_with (fail)
      obtain ⟨t, ht⟩ : ∃ t, t = spel (bl s) m := ⟨_, rfl⟩
      have hdl : ((bl s).drop m).length = s.size - m := by rw [List.length_drop, bl_length]
      have hnl := nmL_le ((bl s).drop m)
      have htl : t.length = nmL ((bl s).drop m) := by rw [ht]; unfold spel; rw [List.length_take]; omega
      have HT := Lib.hid ht
      have HTL := Lib.hid htl
      clear ht htl
      go_loopw [7] (fun ev wr => ∃ j : Nat, ev = .int .i64 ((m + j : Nat) : Int) ∧ j ≤ 16 ∧ m + j ≤ s.size ∧ Hid (nmL ((bl s).drop m) = nlF ((bl s).drop m) (16 - j) j) ∧ wr = w) (fun ev _ => 1000001 - (intOf ev).toNat)
      case atStart => exact ⟨0, rfl, by omega, by omega, Lib.hid rfl, rfl⟩
      case round =>
        obtain ⟨j, rfl, hj, hmj, HN, hw⟩ := hrel
        have hww := hw.symm
        subst hww
        obtain ⟨k, hk⟩ : ∃ k, k = m + j := ⟨_, rfl⟩
        rw [← hk]
        rw [← hk] at hmj
        have HKK := Lib.hid hk
        have hkm : (k : Int) - (m : Int) = (j : Int) := by omega
        have hkj : m ≤ k := by omega
        clear hk
        have HSTOP : Hid ((k < s.size → nmB (lkB (bl s) k) = false) → t.length = j) := fun h => by
          rw [HTL.out, HN.out]
          cases hf : 16 - j with
          | zero => rfl
          | succ f =>
            unfold nlF
            rw [if_neg]
            rintro ⟨h1, h2⟩
            rw [hdl] at h1
            have h3 := h (by omega)
            rw [lkB_drop, ← HKK.out] at h2
            unfold nmB at h3
            simp only [Bool.or_eq_true, Bool.and_eq_true, Bool.or_eq_false_iff] at h2 h3
            rcases h2 with h2 | ⟨_, h2 | h2⟩
            · rw [h2] at h3; simp at h3
            · rw [h2] at h3; simp at h3
            · rw [h2] at h3; simp at h3
        have HGO : Hid (k < s.size → j < 16 → nmB (lkB (bl s) k) = true → nmL ((bl s).drop m) = nlF ((bl s).drop m) (16 - (j + 1)) (j + 1)) := fun h1 h2 h3 => by
          rw [HN.out, show 16 - j = (16 - (j + 1)) + 1 by omega]
          conv => lhs; unfold nlF
          rw [if_pos]
          refine ⟨by rw [hdl]; omega, ?_⟩
          rw [lkB_drop, ← HKK.out]
          unfold nmB at h3
          by_cases hj0 : j = 0
          · have : isLet (lkB (bl s) k) = true := by rw [show k = m by omega]; exact HF.out
            rw [this]; rfl
          · rw [decide_eq_true (show 0 < j by omega), Bool.true_and]
            simpa [Bool.or_assoc] using h3
        have HEND : Hid (t.length = j → (if isLet (lkB (bl s) m) = true then (if (spel (bl s) m).length = 16 ∧ nmB (lkB (bl s) (m + 16)) = true then False else True) else False) → WdO (bl s) m (.returned (.tuple #[.string ⟨t.toArray⟩, .int .i64 (k : Int), .bool true]))) := fun h h2 => by
          unfold WdO
          rw [if_pos HF.out] at h2 ⊢
          rw [if_neg (fun hh => by rw [if_pos hh] at h2; exact h2), ← HT.out, h, ← HKK.out]
        have hslice : t.length = j → ∀ W : World, (Instr.slice 9 (.string s) (some (.int .i64 (m : Int))) (some (.int .i64 (k : Int))) none).run Tryz.prog W = .ok (.string ⟨t.toArray⟩) W := by
          intro hh W
          have hex : s.extract m k = ⟨t.toArray⟩ := by
            rw [← str_bl (s.extract m k), bl_extract s m k (by omega)]
            congr 2
            rw [HT.out]
            unfold spel
            rw [← HTL.out, hh, List.drop_take, show k - m = j by omega]
          rw [← hex]
          go_simp
          all_goals (first | rw [if_pos ⟨by omega, by omega⟩] | rw [if_pos (by omega)])
        have HSL := Lib.hid hslice
        clear hslice
        by_cases hks : k < s.size
        · have hjl : decide ((k : Int) < (s.size : Int)) = true := by simp; omega
          have hix := str_index s k hks hs
          rw [← bl_at s k hks] at hix
          have HLT := Lib.hid (letter_d (lkB (bl s) k) w)
          have HDG := Lib.hid (digit_d (lkB (bl s) k) w)
          cases hl : isLet (lkB (bl s) k) with
          | true =>
            rw [hl] at HLT
            have HNB : Hid (nmB (lkB (bl s) k) = true) := by show _ = _; unfold nmB; rw [hl]; rfl
            clear hl
            by_cases hj16 : j = 16
            · have gj : ((j : Int) == 16) = true := by simp; omega
              have HR : Hid (WdO (bl s) m (.returned (.tuple #[.string ⟨#[]⟩, .int .i64 (k : Int), .bool false]))) := by
                show WdO _ _ _
                have h16 : (spel (bl s) m).length = 16 := by
                  have h1 := HN.out
                  rw [hj16] at h1
                  have h2 : nmL ((bl s).drop m) = 16 := h1
                  rw [← HT.out, HTL.out, h2]
                unfold WdO
                rw [if_pos HF.out, if_pos ⟨h16, by rw [show m + 16 = k by omega]; exact HNB.out⟩, show m + 16 = k by omega]
              clear hj16
              go_wp2_with (fail)
              refine HLT.out.mono ?_
              rintro e w2 ⟨rfl, rfl⟩
              go_wp2_with (fail)
              go_ret3
              exact ⟨HR.out, rfl⟩
            · have gj : ((j : Int) == 16) = false := by simp; omega
              have HN2 := Lib.hid (HGO.out hks (by omega) HNB.out)
              have hj15 : j < 16 := by omega
              clear hj16
              go_wp2_with (fail)
              refine HLT.out.mono ?_
              rintro e w2 ⟨rfl, rfl⟩
              go_wp2_with (fail)
              go_roundw
              case rel => exact ⟨j + 1, by go_num, by omega, by omega, HN2, trivial⟩
              case measure => simp [intOf]; omega
          | false =>
            rw [hl] at HLT
            cases hd : isDig (lkB (bl s) k) with
            | true =>
              rw [hd] at HDG
              have HNB : Hid (nmB (lkB (bl s) k) = true) := by show _ = _; unfold nmB; rw [hl, hd]; rfl
              clear hl hd
              by_cases hj16 : j = 16
              · have gj : ((j : Int) == 16) = true := by simp; omega
                have HR : Hid (WdO (bl s) m (.returned (.tuple #[.string ⟨#[]⟩, .int .i64 (k : Int), .bool false]))) := by
                  show WdO _ _ _
                  have h16 : (spel (bl s) m).length = 16 := by
                    have h1 := HN.out
                    rw [hj16] at h1
                    have h2 : nmL ((bl s).drop m) = 16 := h1
                    rw [← HT.out, HTL.out, h2]
                  unfold WdO
                  rw [if_pos HF.out, if_pos ⟨h16, by rw [show m + 16 = k by omega]; exact HNB.out⟩, show m + 16 = k by omega]
                clear hj16
                go_wp2_with (fail)
                refine HLT.out.mono ?_
                rintro e w2 ⟨rfl, rfl⟩
                go_wp2_with (fail)
                refine HDG.out.mono ?_
                rintro e w2 ⟨rfl, rfl⟩
                go_wp2_with (fail)
                go_ret3
                exact ⟨HR.out, rfl⟩
              · have gj : ((j : Int) == 16) = false := by simp; omega
                have HN2 := Lib.hid (HGO.out hks (by omega) HNB.out)
                have hj15 : j < 16 := by omega
                clear hj16
                go_wp2_with (fail)
                refine HLT.out.mono ?_
                rintro e w2 ⟨rfl, rfl⟩
                go_wp2_with (fail)
                refine HDG.out.mono ?_
                rintro e w2 ⟨rfl, rfl⟩
                go_wp2_with (fail)
                go_roundw
                case rel => exact ⟨j + 1, by go_num, by omega, by omega, HN2, trivial⟩
                case measure => simp [intOf]; omega
            | false =>
              rw [hd] at HDG
              by_cases hu : lkB (bl s) k = 95
              · have gu : ((lkB (bl s) k).toNat : Int) = 95 := by rw [hu]; rfl
                have HNB : Hid (nmB (lkB (bl s) k) = true) := by show _ = _; unfold nmB; rw [hl, hd, hu]; rfl
                rw [gu] at hix HLT HDG
                clear hl hd hu gu
                by_cases hj16 : j = 16
                · have gj : ((j : Int) == 16) = true := by simp; omega
                  have HR : Hid (WdO (bl s) m (.returned (.tuple #[.string ⟨#[]⟩, .int .i64 (k : Int), .bool false]))) := by
                    show WdO _ _ _
                    have h16 : (spel (bl s) m).length = 16 := by
                      have h1 := HN.out
                      rw [hj16] at h1
                      have h2 : nmL ((bl s).drop m) = 16 := h1
                      rw [← HT.out, HTL.out, h2]
                    unfold WdO
                    rw [if_pos HF.out, if_pos ⟨h16, by rw [show m + 16 = k by omega]; exact HNB.out⟩, show m + 16 = k by omega]
                  clear hj16
                  go_wp2_with (fail)
                  refine HLT.out.mono ?_
                  rintro e w2 ⟨rfl, rfl⟩
                  go_wp2_with (fail)
                  refine HDG.out.mono ?_
                  rintro e w2 ⟨rfl, rfl⟩
                  go_wp2_with (fail)
                  go_ret3
                  exact ⟨HR.out, rfl⟩
                · have gj : ((j : Int) == 16) = false := by simp; omega
                  have HN2 := Lib.hid (HGO.out hks (by omega) HNB.out)
                  have hj15 : j < 16 := by omega
                  clear hj16
                  go_wp2_with (fail)
                  refine HLT.out.mono ?_
                  rintro e w2 ⟨rfl, rfl⟩
                  go_wp2_with (fail)
                  refine HDG.out.mono ?_
                  rintro e w2 ⟨rfl, rfl⟩
                  go_wp2_with (fail)
                  go_roundw
                  case rel => exact ⟨j + 1, by go_num, by omega, by omega, HN2, trivial⟩
                  case measure => simp [intOf]; omega
              · have gu : (((lkB (bl s) k).toNat : Int) == 95) = false := by
                  simp only [beq_eq_false_iff_ne, ne_eq]
                  intro hh
                  exact hu (UInt8.toNat_inj.1 (by have h95 : (95 : UInt8).toNat = 95 := rfl; omega))
                have HNB : Hid (nmB (lkB (bl s) k) = false) := by show _ = _; unfold nmB; rw [hl, hd]; simp [hu]
                have htj := HSTOP.out (fun _ => HNB.out)
                have hsl := HSL.out htj
                have HR : Hid (WdO (bl s) m (.returned (.tuple #[.string ⟨t.toArray⟩, .int .i64 (k : Int), .bool true]))) := by
                  refine HEND.out htj ?_
                  rw [if_pos HF.out, if_neg]
                  · trivial
                  · rintro ⟨h1, h2⟩
                    rw [← HT.out, htj] at h1
                    rw [show m + 16 = k by omega, HNB.out] at h2
                    cases h2
                clear hl hd hu
                go_wp2_with (fail)
                refine HLT.out.mono ?_
                rintro e w2 ⟨rfl, rfl⟩
                go_wp2_with (fail)
                refine HDG.out.mono ?_
                rintro e w2 ⟨rfl, rfl⟩
                go_wp2_with (fail)
                go_ret3
                exact ⟨HR.out, rfl⟩
        · have hke : k = s.size := by omega
          have htj := HSTOP.out (fun h => absurd h hks)
          have hsl := HSL.out htj
          have HR : Hid (WdO (bl s) m (.returned (.tuple #[.string ⟨t.toArray⟩, .int .i64 (k : Int), .bool true]))) := by
            refine HEND.out htj ?_
            rw [if_pos HF.out, if_neg]
            · trivial
            · rintro ⟨h1, h2⟩
              rw [← HT.out, htj] at h1
              rw [show m + 16 = k by omega, lkB_end (by rw [bl_length]; omega)] at h2
              revert h2; decide
          have hjl : decide ((k : Int) < (s.size : Int)) = false := by simp; omega
          clear hke
          go_wp2_with (fail)
          go_ret3
          exact ⟨HR.out, rfl⟩
end Go.Proofs.YtadbnlnifacblaaGreatDoor
namespace Go.Proofs.YtadbnlnifacblaaGreatDoor
open Go.RowKit
def scanW (l : List UInt8) : Nat → Nat → Nat → List (List UInt8)
  | 0, _, _ => []
  | f + 1, from_, k => if k = l.length ∨ lkB l k = 32 then (l.take k).drop from_ :: scanW l f (k + 1) (k + 1) else scanW l f from_ (k + 1)
theorem scanP_mem (l word : List UInt8) : ∀ (f from_ k : Nat), scanP l word f from_ k = decide (word ∈ scanW l f from_ k)
  | 0, _, _ => by simp [scanP, scanW]
  | f + 1, from_, k => by
    unfold scanP scanW
    split
    · rw [scanP_mem l word f (k + 1) (k + 1)]
      by_cases h : (l.take k).drop from_ = word
      · rw [if_pos h]; simp [h]
      · rw [if_neg h]; simp [Ne.symm h]
    · exact scanP_mem l word f from_ (k + 1)
def tabD : List (List UInt8) → List (List UInt8) → List (List UInt8 × List UInt8)
  | l :: ls, g :: gs => (scanW l (l.length + 1) 0 0).map (fun w => (w, g)) ++ tabD ls gs
  | _, _ => []
theorem partsG_none {word : List UInt8} : ∀ (ls gs : List (List UInt8)), (∀ x ∈ tabD ls gs, x.1 ≠ word) → partsG word ls gs = none
  | [], gs, _ => by unfold partsG; rfl
  | l :: ls, [], _ => by unfold partsG; rfl
  | l :: ls, g :: gs, h => by
    unfold partsG
    have h1 : scanP l word (l.length + 1) 0 0 = false := by
      rw [scanP_mem, decide_eq_false_iff_not]
      intro hm
      exact h (word, g) (by unfold tabD; exact List.mem_append_left _ (List.mem_map.2 ⟨word, hm, rfl⟩)) rfl
    rw [h1]
    exact partsG_none ls gs fun x hx => h x (by unfold tabD; exact List.mem_append_right _ hx)
def docP (t : List UInt8) : Option (List UInt8) := (wdP t).map fun x => if t = listW then [108] else x.1
theorem tab_all : ((tabD lstL grpL).all fun x => decide (partsD x.1 = docP x.1)) = true := by decide +kernel
theorem wd_all : (wdL.all fun x => (tabD lstL grpL).any fun y => decide (y.1 = x.1)) = true := by decide +kernel
theorem list_all : ((tabD lstL grpL).any fun y => decide (y.1 = listW)) = true := by decide +kernel
theorem partsD_wd (t : List UInt8) : partsD t = docP t := by
  by_cases h : ∃ x ∈ tabD lstL grpL, x.1 = t
  · obtain ⟨x, hx, rfl⟩ := h
    have := List.all_eq_true.1 tab_all x hx
    simpa using this
  · have h' : ∀ x ∈ tabD lstL grpL, x.1 ≠ t := fun x hx e => h ⟨x, hx, e⟩
    have h1 : partsD t = none := partsG_none _ _ h'
    have h2 : wdP t = none := by
      unfold wdP
      rw [if_neg, List.find?_eq_none.2]
      · rfl
      · intro x hx
        simp only [decide_eq_true_eq]
        intro e
        obtain ⟨y, hy, hy'⟩ := List.any_eq_true.1 (List.all_eq_true.1 wd_all x hx)
        exact h' y hy (by rw [of_decide_eq_true hy', e])
      · intro e
        obtain ⟨y, hy, hy'⟩ := List.any_eq_true.1 list_all
        exact h' y hy (by rw [of_decide_eq_true hy', e])
    rw [h1]; unfold docP; rw [h2]; rfl
theorem wd_short {t : List UInt8} {x : List UInt8 × Nat} (h : wdP t = some x) : t.length ≤ 12 := by
  unfold wdP at h
  split at h
  · next e => rw [e]; decide
  · obtain ⟨y, hy, e⟩ := Option.map_eq_some_iff.1 h
    have h1 : y.1 = t := by have := List.find?_some hy; simpa using this
    have h2 := List.all_eq_true.1 (show (wdL.all fun x => decide (x.1.length ≤ 12)) = true by decide +kernel) y (List.mem_of_find?_eq_some hy)
    rw [← h1]
    exact of_decide_eq_true h2
theorem nl_chars2 (x : List UInt8) : ∀ (f n j : Nat) (c : UInt8), n ≤ j → j < nlF x f n → x[j]? = some c → ∃ i, nmC i (some c) = true
  | 0, n, j, c, h1, h2, _ => by simp only [nlF] at h2; omega
  | f + 1, n, j, c, h1, h2, hc => by
    rw [nl_step] at h2
    split at h2
    · rename_i hn
      by_cases hj : j = n
      · subst hj
        rw [hc] at hn
        exact ⟨_, hn⟩
      · exact nl_chars2 x f (n + 1) j c (by omega) h2 hc
    · omega
theorem spel_nm2 (l : List UInt8) (m : Nat) : nmL (spel l m) = (spel l m).length := by
  rw [spel_len]
  refine nl_same 16 0 (Nat.zero_le _) (fun j hj => ?_) (.inr ?_)
  · have hj' : j < nmL (l.drop m) := hj
    unfold spel
    rw [List.getElem?_take, if_pos hj']
  · refine List.getElem?_eq_none_iff.2 ?_
    show (spel l m).length ≤ nmL (l.drop m)
    rw [spel_len]
    exact Nat.le_refl _
theorem spel_all (l : List UInt8) (m : Nat) : (spel l m).all nmB = true := by
  refine List.all_eq_true.2 fun c hc => ?_
  obtain ⟨j, hj, e⟩ := List.getElem_of_mem hc
  have hn := spel_nm2 l m
  obtain ⟨i, hi⟩ := nl_chars2 (spel l m) 16 0 j c (Nat.zero_le _) (by show j < nmL (spel l m); omega) (by rw [List.getElem?_eq_getElem hj, e])
  unfold nmC at hi
  unfold nmB
  simp only [Bool.or_eq_true, Bool.and_eq_true, decide_eq_true_eq] at hi ⊢
  rcases hi with h | ⟨_, h | h⟩
  · exact .inl (.inl h)
  · exact .inl (.inr h)
  · exact .inr h
theorem spel_pos {l : List UInt8} {m : Nat} (h : isLet (lkB l m) = true) : 0 < (spel l m).length ∧ lkB (spel l m) 0 = lkB l m := by
  have hm : m < l.length := lkB_lt (by intro e; rw [e] at h; exact absurd h (by decide))
  have hd : 0 < (l.drop m).length := by rw [List.length_drop]; omega
  have h0 : lkB (l.drop m) 0 = lkB l m := by unfold lkB; simp
  have h1 : nmL (l.drop m) = nlF (l.drop m) 15 1 := nl_on (n := 0) (by omega) hd (by rw [h0, h]; rfl)
  have h2 := (nlF_le (l.drop m) 15 1 (by omega)).1
  have h3 : 0 < (spel l m).length := by rw [spel_len]; omega
  refine ⟨h3, ?_⟩
  rw [spel_len] at h3
  unfold spel lkB
  rw [List.getElem?_take, if_pos h3]
  simp
theorem nameDoc_nm {l : List UInt8} {m : Nat} (h : isLet (lkB l m) = true) : nameDoc (spel l m) = isNm (spel l m) := by
  obtain ⟨h1, h2⟩ := spel_pos h
  have h3 := spel_le l m
  have h4 := spel_nm2 l m
  unfold nameDoc isNm
  rw [spel_all, h2, h, partsD_wd, h4, decide_eq_true (show 1 ≤ (spel l m).length from h1), decide_eq_true h3]
  have h5 : spel l m ≠ [] := by intro e; rw [e] at h1; exact absurd h1 (by decide)
  rw [decide_eq_true h5]
  have h6 : (docP (spel l m)).isNone = (wdP (spel l m)).isNone := by unfold docP; simp
  rw [h6]
  simp
theorem spel_full {l : List UInt8} {m : Nat} (h : (spel l m).length = 16) : wdP (spel l m) = none := by
  cases hw : wdP (spel l m) with
  | none => rfl
  | some x => have := wd_short hw; omega
end Go.Proofs.YtadbnlnifacblaaGreatDoor
