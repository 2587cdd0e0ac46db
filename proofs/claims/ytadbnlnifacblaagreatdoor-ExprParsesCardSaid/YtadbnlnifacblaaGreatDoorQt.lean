/-
The document's answer for package expr: number.
-/
import Derived.Test.YtadbnlnifacblaaGreatDoorQp
namespace Go.Proofs.YtadbnlnifacblaaGreatDoor
open Go.RowKit
def NbO (l : List UInt8) (m : Nat) (e : Ending) : Prop :=
  if (numS l m).2.2 = true ∧ isDig (lkB l (numS l m).1) = false then e = .returned (.tuple #[.int .i64 (numV (rdB l m 45) (numS l m).2.1), .int .i64 ((numS l m).1 : Int), .bool true])
  else e = .returned (.tuple #[.int .i64 0, .int .i64 ((numS l m).1 : Int), .bool false])
set_option maxRecDepth 100000 in
set_option maxHeartbeats 4000000 in
theorem number_neg (s : ByteArray) (m : Nat) (w : World) (hs : s.size ≤ 1000000) (hm : m < s.size) (hneg : rdB (bl s) m 45 = true) :
    Calls Tryz.prog 81 #[.string s, .int .i64 (m : Int)] w fun e w' => NbO (bl s) m e ∧ w' = w := by
  have hix := str_index s m hm hs
  rw [← bl_at s m hm] at hix
  have HNEG := Lib.hid hneg
  have hb : lkB (bl s) m = 45 := by unfold rdB at hneg; simpa using hneg
  have gb : ((lkB (bl s) m).toNat : Int) = 45 := by rw [hb]; rfl
  rw [gb] at hix
  obtain ⟨k, hk⟩ : ∃ k, k = m + 1 := ⟨_, rfl⟩
  have HNUM : Hid (numS (bl s) m = nmF (bl s) true ((bl s).length - k) k 0 false) := by show _ = _; unfold numS; rw [HNEG.out, hk]; rfl
  have hkI : (m : Int) + 1 = (k : Int) := by omega
  have hks : k ≤ s.size := by omega
  clear hneg hb gb hk
  have HBAD : Hid ((isDig (lkB (bl s) k) = false ∨ lkB (bl s) k = 48) → NbO (bl s) m (.returned (.tuple #[.int .i64 0, .int .i64 (k : Int), .bool false]))) := fun h => by
    have h1 : numS (bl s) m = (k, 0, false) := by
      rw [HNUM.out, nm_on, if_neg]
      intro hh
      simp only [Bool.and_eq_true] at hh
      rcases h with h | h
      · rw [h] at hh; simp at hh
      · rw [h] at hh; revert hh; decide
    unfold NbO
    rw [h1]
    simp
  by_cases hend : k = s.size
  · have HB := Lib.hid (HBAD.out (.inl (by rw [lkB_end (by rw [bl_length]; omega)]; decide)))
    have gse : decide (s.size ≤ k) = true := by simp; omega
    clear hend
    go_enter Tryz.func81, Tryz.ntmps81
    go_wp2_with (fail)
    go_ret3
    exact ⟨HB.out, rfl⟩
  · have hlt : k < s.size := by omega
    have gse : decide (s.size ≤ k) = false := by simp; omega
    have hix1 := str_index s k hlt hs
    rw [← bl_at s k hlt] at hix1
    have HDG := Lib.hid (digit_d (lkB (bl s) k) w)
    cases hd : isDig (lkB (bl s) k) with
    | false =>
      rw [hd] at HDG
      have HB := Lib.hid (HBAD.out (.inl hd))
      clear hd hend
      go_enter Tryz.func81, Tryz.ntmps81
      go_wp2_with (fail)
      refine HDG.out.mono ?_
      rintro e w2 ⟨rfl, rfl⟩
      go_wp2_with (fail)
      go_ret3
      exact ⟨HB.out, rfl⟩
    | true =>
      rw [hd] at HDG
      have HD := Lib.hid hd
      by_cases h0 : lkB (bl s) k = 48
      · have HB := Lib.hid (HBAD.out (.inr h0))
        have g48 : ((lkB (bl s) k).toNat : Int) = 48 := by rw [h0]; rfl
        rw [g48] at hix1 HDG
        clear hd h0 hend g48
        go_enter Tryz.func81, Tryz.ntmps81
        go_wp2_with (fail)
        refine HDG.out.mono ?_
        rintro e w2 ⟨rfl, rfl⟩
        go_wp2_with (fail)
        go_ret3
        exact ⟨HB.out, rfl⟩
      · have g48 : (((lkB (bl s) k).toNat : Int) == 48) = false := by
          simp only [beq_eq_false_iff_ne, ne_eq]
          intro hh
          exact h0 (UInt8.toNat_inj.1 (by have h48 : (48 : UInt8).toNat = 48 := rfl; omega))
        have HH0 := Lib.hid h0
        clear hd h0 hend
        go_enter Tryz.func81, Tryz.ntmps81
        go_wp2_with (fail)
        refine HDG.out.mono ?_
        rintro e w2 ⟨rfl, rfl⟩
        go_wp2_with (fail)
        have HDONE : Hid (∀ a n : Nat, k ≤ a → numS (bl s) m = (if isDig (lkB (bl s) a) && !barN true n (decide (k < a)) (lkB (bl s) a - 48).toNat then nmF (bl s) true ((bl s).length - (a + 1)) (a + 1) (10 * n + (lkB (bl s) a - 48).toNat) true else (a, n, decide (k < a))) → isDig (lkB (bl s) a) = false → NbO (bl s) m (.returned (.tuple #[.int .i64 (-(n : Int)), .int .i64 (a : Int), .bool true]))) := fun a n hka h hd => by
          have hlt : k < a := by
            rcases Nat.lt_or_ge k a with h' | h'
            · exact h'
            · rw [show a = k by omega, HD.out] at hd; cases hd
          rw [hd] at h
          have h1 : numS (bl s) m = (a, n, true) := by rw [h, decide_eq_true hlt]; simp
          unfold NbO
          rw [h1, if_pos ⟨rfl, hd⟩, HNEG.out]
          rfl
        clear HDG hix hix1 g48
        go_loopw [1, 8] (fun av zv wr => ∃ (a n : Nat) (z : Int), av = .int .i64 (a : Int) ∧ zv = .int .i64 z ∧ k ≤ a ∧ a ≤ s.size ∧ n ≤ mostN true ∧ z = -(n : Int) ∧ Hid (numS (bl s) m = nmF (bl s) true ((bl s).length - a) a n (decide (k < a))) ∧ (a = k → n = 0) ∧ wr = w) (fun av _ _ => 1000001 - (intOf av).toNat)
        case atStart => exact ⟨k, 0, 0, rfl, rfl, Nat.le_refl _, hks, Nat.zero_le _, by simp, by show _ = _; rw [HNUM.out]; simp, fun _ => rfl, rfl⟩
        case round =>
          obtain ⟨a, n, z, rfl, rfl, hka, has, hnm, hz, HN, hn0, hw⟩ := hrel
          have hww := hw.symm
          subst hww
          by_cases hlt2 : a < s.size
          · have hal : decide ((a : Int) < (s.size : Int)) = true := by simp; omega
            have hix := str_index s a hlt2 hs
            rw [← bl_at s a hlt2] at hix
            have HDA := Lib.hid (digit_d (lkB (bl s) a) w)
            have hon := HN.out.trans nm_on
            cases hda : isDig (lkB (bl s) a) with
            | false =>
              rw [hda] at HDA
              have HEND := Lib.hid (HDONE.out a n hka hon hda)
              have HZ := Lib.hid hz
              clear hz hnm hn0 hda hon
              go_wp2_with (fail)
              refine HDA.out.mono ?_
              rintro e w2 ⟨rfl, rfl⟩
              go_wp2_with (fail)
              go_ret3
              rw [HZ.out]
              exact ⟨HEND.out, rfl⟩
            | true =>
              rw [hda] at HDA
              have hr : 48 ≤ (lkB (bl s) a).toNat ∧ (lkB (bl s) a).toNat ≤ 57 := by unfold isDig at hda; simpa using hda
              obtain ⟨d, hd⟩ : ∃ d, d = (lkB (bl s) a).toNat - 48 := ⟨_, rfl⟩
              have hdb : ((lkB (bl s) a).toNat : Int) = (d : Int) + 48 := by omega
              have hd9 : d ≤ 9 := by omega
              rw [hdb] at hix HDA
              have HON := Lib.hid hon
              have hdu : (lkB (bl s) a - 48).toNat = d := by
                rw [UInt8.toNat_sub]
                have := (lkB (bl s) a).toNat_lt
                have h48 : (48 : UInt8).toNat = 48 := rfl
                omega
              have hdz : a = k → d ≠ 0 := fun h h2 => HH0.out (UInt8.toNat_inj.1 (by rw [← h]; have h48 : (48 : UInt8).toNat = 48 := rfl; omega))
              have HDA2 := Lib.hid hda
              have HFAULT : Hid (barN true n (decide (k < a)) d = true → NbO (bl s) m (.returned (.tuple #[.int .i64 0, .int .i64 (a : Int), .bool false]))) := fun h => by
                have h1 : numS (bl s) m = (a, n, decide (k < a)) := by
                  rw [HON.out, if_neg]
                  rw [hdu, h]
                  simp
                unfold NbO
                rw [h1, if_neg]
                rintro ⟨_, h2⟩
                have := HDA2.out
                simp only at h2
                rw [this] at h2
                cases h2
              have HGO : Hid (barN true n (decide (k < a)) d = false → numS (bl s) m = nmF (bl s) true ((bl s).length - (a + 1)) (a + 1) (10 * n + d) true) := fun h => by
                rw [HON.out, if_pos (by rw [HDA2.out, hdu, h]; rfl), hdu]
              obtain ⟨T, hT⟩ : ∃ T, T = (-9223372036854775808 + (d : Int)).tdiv 10 := ⟨_, rfl⟩
              have hT1 : -9223372036854775808 + (d : Int) ≤ 10 * T ∧ 10 * T < -9223372036854775808 + (d : Int) + 10 := by
                rw [hT]
                clear hT hix HDA hdb hd
                have h : ∀ d : Fin 10, -9223372036854775808 + ((d.val : Nat) : Int) ≤ 10 * (-9223372036854775808 + ((d.val : Nat) : Int)).tdiv 10 ∧ 10 * (-9223372036854775808 + ((d.val : Nat) : Int)).tdiv 10 < -9223372036854775808 + ((d.val : Nat) : Int) + 10 := by decide
                exact h ⟨d, by omega⟩
              have hT' := hT.symm
              have HZ := Lib.hid hz
              have HNM := Lib.hid hnm
              have HN0 := Lib.hid hn0
              have HDZ := Lib.hid hdz
              clear hon hr hd hdb hda hT hdu hn0 hdz
              have hzb : -9223372036854775808 ≤ z ∧ z ≤ 0 := by unfold mostN at hnm; simp at hnm; omega
              clear hz hnm
              go_wp2_with (fail)
              refine HDA.out.mono ?_
              rintro e w2 ⟨rfl, rfl⟩
              go_wp2_with (fail)
              all_goals first
                | (go_ret3
                   exact ⟨HFAULT.out (by have h1 := HZ.out; have h2 := HNM.out; have h3 := HN0.out; have h4 := HDZ.out; clear hix HDA; unfold barN mostN at *; simp at *; omega), rfl⟩)
                | (have hbar : barN true n (decide (k < a)) d = false := by
                     have h1 := HZ.out; have h2 := HNM.out; have h3 := HN0.out; have h4 := HDZ.out; clear hix HDA; unfold barN mostN at *; simp at *; omega
                   have hnm2 : 10 * n + d ≤ mostN true := by
                     have h1 := HZ.out; have h2 := HNM.out; clear hix HDA; unfold mostN at *; simp at *; omega
                   refine ⟨⟨a + 1, 10 * n + d, z * 10 - d, by go_num, rfl, by omega, by omega, hnm2, by have h1 := HZ.out; omega, ?_, fun h => absurd h (by omega), trivial⟩, by simp [intOf]; omega⟩
                   rw [decide_eq_true (show k < a + 1 by omega)]
                   exact HGO.out hbar)
          · have hal : decide ((a : Int) < (s.size : Int)) = false := by simp; omega
            have hda : isDig (lkB (bl s) a) = false := by rw [lkB_end (by rw [bl_length]; omega)]; decide
            have HEND := Lib.hid (HDONE.out a n hka (HN.out.trans nm_on) hda)
            have HZ := Lib.hid hz
            clear hz hnm hn0 hda
            go_wp2_with (fail)
            go_ret3
            rw [HZ.out]
            exact ⟨HEND.out, rfl⟩
set_option maxRecDepth 100000 in
set_option maxHeartbeats 4000000 in
theorem number_pos (s : ByteArray) (k : Nat) (w : World) (hs : s.size ≤ 1000000) (hm : k < s.size) (hneg : rdB (bl s) k 45 = false) (hd : isDig (lkB (bl s) k) = true) :
    Calls Tryz.prog 81 #[.string s, .int .i64 (k : Int)] w fun e w' => NbO (bl s) k e ∧ w' = w := by
  obtain ⟨m, hmk⟩ : ∃ m, m = k := ⟨_, rfl⟩
  have hix := str_index s k hm hs
  rw [← bl_at s k hm] at hix
  have hix1 := hix
  have HNEG : Hid (rdB (bl s) m 45 = false) := by show _ = _; rw [hmk]; exact hneg
  have HNUM : Hid (numS (bl s) m = nmF (bl s) false ((bl s).length - k) k 0 false) := by show _ = _; unfold numS; rw [HNEG.out, hmk]; rfl
  have g45 : (((lkB (bl s) k).toNat : Int) == 45) = false := by
    simp only [beq_eq_false_iff_ne, ne_eq]
    intro hh
    unfold rdB at hneg
    simp only [decide_eq_false_iff_not] at hneg
    exact hneg (UInt8.toNat_inj.1 (by have h45 : (45 : UInt8).toNat = 45 := rfl; omega))
  have gse : decide (s.size ≤ k) = false := by simp; omega
  have HDG := Lib.hid (digit_d (lkB (bl s) k) w)
  rw [hd] at HDG
  have HD := Lib.hid hd
  have HM := Lib.hid hmk
  have hks : k ≤ s.size := by omega
  have key : Calls Tryz.prog 81 #[.string s, .int .i64 (k : Int)] w fun e w' => NbO (bl s) m e ∧ w' = w := by
    clear hneg hd hmk
    go_enter Tryz.func81, Tryz.ntmps81
    go_wp2_with (fail)
    refine HDG.out.mono ?_
    rintro e w2 ⟨rfl, rfl⟩
    go_wp2_with (fail)
    have HDONE : Hid (∀ a n : Nat, k ≤ a → numS (bl s) m = (if isDig (lkB (bl s) a) && !barN false n (decide (k < a)) (lkB (bl s) a - 48).toNat then nmF (bl s) false ((bl s).length - (a + 1)) (a + 1) (10 * n + (lkB (bl s) a - 48).toNat) true else (a, n, decide (k < a))) → isDig (lkB (bl s) a) = false → NbO (bl s) m (.returned (.tuple #[.int .i64 (n : Int), .int .i64 (a : Int), .bool true]))) := fun a n hka h hd => by
      have hlt : k < a := by
        rcases Nat.lt_or_ge k a with h' | h'
        · exact h'
        · rw [show a = k by omega, HD.out] at hd; cases hd
      rw [hd] at h
      have h1 : numS (bl s) m = (a, n, true) := by rw [h, decide_eq_true hlt]; simp
      unfold NbO
      rw [h1, if_pos ⟨rfl, hd⟩, HNEG.out]
      rfl
    clear HDG hix hix1
    go_loopw [1, 8] (fun av zv wr => ∃ (a n : Nat) (z : Int), av = .int .i64 (a : Int) ∧ zv = .int .i64 z ∧ k ≤ a ∧ a ≤ s.size ∧ n ≤ mostN false ∧ z = -(n : Int) ∧ Hid (numS (bl s) m = nmF (bl s) false ((bl s).length - a) a n (decide (k < a))) ∧ (a = k → n = 0) ∧ wr = w) (fun av _ _ => 1000001 - (intOf av).toNat)
    case atStart => exact ⟨k, 0, 0, rfl, rfl, Nat.le_refl _, hks, Nat.zero_le _, by simp, by show _ = _; rw [HNUM.out]; simp, fun _ => rfl, rfl⟩
    case round =>
      obtain ⟨a, n, z, rfl, rfl, hka, has, hnm, hz, HN, hn0, hw⟩ := hrel
      have hww := hw.symm
      subst hww
      by_cases hlt2 : a < s.size
      · have hal : decide ((a : Int) < (s.size : Int)) = true := by simp; omega
        have hix := str_index s a hlt2 hs
        rw [← bl_at s a hlt2] at hix
        have HDA := Lib.hid (digit_d (lkB (bl s) a) w)
        have hon := HN.out.trans nm_on
        cases hda : isDig (lkB (bl s) a) with
        | false =>
          rw [hda] at HDA
          have HEND := Lib.hid (HDONE.out a n hka hon hda)
          have hzn : -z = (n : Int) := by omega
          have hzb : -9223372036854775807 ≤ z ∧ z ≤ 0 := by unfold mostN at hnm; simp at hnm; omega
          clear hz hnm hn0 hda hon
          go_wp2_with (fail)
          refine HDA.out.mono ?_
          rintro e w2 ⟨rfl, rfl⟩
          go_wp2_with (fail)
          go_ret3
          exact ⟨HEND.out, rfl⟩
        | true =>
          rw [hda] at HDA
          have hr : 48 ≤ (lkB (bl s) a).toNat ∧ (lkB (bl s) a).toNat ≤ 57 := by unfold isDig at hda; simpa using hda
          obtain ⟨d, hd⟩ : ∃ d, d = (lkB (bl s) a).toNat - 48 := ⟨_, rfl⟩
          have hdb : ((lkB (bl s) a).toNat : Int) = (d : Int) + 48 := by omega
          have hd9 : d ≤ 9 := by omega
          rw [hdb] at hix HDA
          have HON := Lib.hid hon
          have hdu : (lkB (bl s) a - 48).toNat = d := by
            rw [UInt8.toNat_sub]
            have := (lkB (bl s) a).toNat_lt
            have h48 : (48 : UInt8).toNat = 48 := rfl
            omega
          have HDA2 := Lib.hid hda
          have HFAULT : Hid (barN false n (decide (k < a)) d = true → NbO (bl s) m (.returned (.tuple #[.int .i64 0, .int .i64 (a : Int), .bool false]))) := fun h => by
            have h1 : numS (bl s) m = (a, n, decide (k < a)) := by
              rw [HON.out, if_neg]
              rw [hdu, h]
              simp
            unfold NbO
            rw [h1, if_neg]
            rintro ⟨_, h2⟩
            have := HDA2.out
            simp only at h2
            rw [this] at h2
            cases h2
          have HGO : Hid (barN false n (decide (k < a)) d = false → numS (bl s) m = nmF (bl s) false ((bl s).length - (a + 1)) (a + 1) (10 * n + d) true) := fun h => by
            rw [HON.out, if_pos (by rw [HDA2.out, hdu, h]; rfl), hdu]
          obtain ⟨T, hT⟩ : ∃ T, T = (-9223372036854775808 + (d : Int)).tdiv 10 := ⟨_, rfl⟩
          have hT1 : -9223372036854775808 + (d : Int) ≤ 10 * T ∧ 10 * T < -9223372036854775808 + (d : Int) + 10 := by
            rw [hT]
            clear hT hix HDA hdb hd
            have h : ∀ d : Fin 10, -9223372036854775808 + ((d.val : Nat) : Int) ≤ 10 * (-9223372036854775808 + ((d.val : Nat) : Int)).tdiv 10 ∧ 10 * (-9223372036854775808 + ((d.val : Nat) : Int)).tdiv 10 < -9223372036854775808 + ((d.val : Nat) : Int) + 10 := by decide
            exact h ⟨d, by omega⟩
          have hT' := hT.symm
          have HZ := Lib.hid hz
          have HNM := Lib.hid hnm
          have HN0 := Lib.hid hn0
          clear hon hr hd hdb hda hT hdu hn0
          have hzb : -9223372036854775808 ≤ z ∧ z ≤ 0 := by unfold mostN at hnm; simp at hnm; omega
          clear hz hnm
          go_wp2_with (fail)
          refine HDA.out.mono ?_
          rintro e w2 ⟨rfl, rfl⟩
          go_wp2_with (fail)
          all_goals first
            | (go_ret3
               exact ⟨HFAULT.out (by have h1 := HZ.out; have h2 := HNM.out; have h3 := HN0.out; clear hix HDA; unfold barN mostN at *; simp at *; omega), rfl⟩)
            | (have hbar : barN false n (decide (k < a)) d = false := by
                 have h1 := HZ.out; have h2 := HNM.out; have h3 := HN0.out; clear hix HDA; unfold barN mostN at *; simp at *; omega
               have hnm2 : 10 * n + d ≤ mostN false := by
                 have h1 := HZ.out; have h2 := HNM.out; clear hix HDA; unfold mostN at *; simp at *; omega
               refine ⟨⟨a + 1, 10 * n + d, z * 10 - d, by go_num, rfl, by omega, by omega, hnm2, by have h1 := HZ.out; omega, ?_, fun h => absurd h (by omega), trivial⟩, by simp [intOf]; omega⟩
               rw [decide_eq_true (show k < a + 1 by omega)]
               exact HGO.out hbar)
      · have hal : decide ((a : Int) < (s.size : Int)) = false := by simp; omega
        have hda : isDig (lkB (bl s) a) = false := by rw [lkB_end (by rw [bl_length]; omega)]; decide
        have HEND := Lib.hid (HDONE.out a n hka (HN.out.trans nm_on) hda)
        have hzn : -z = (n : Int) := by omega
        have hzb : -9223372036854775807 ≤ z ∧ z ≤ 0 := by unfold mostN at hnm; simp at hnm; omega
        clear hz hnm hn0 hda
        go_wp2_with (fail)
        go_ret3
        exact ⟨HEND.out, rfl⟩
  rw [hmk] at key
  exact key
end Go.Proofs.YtadbnlnifacblaaGreatDoor
namespace Go.Proofs.YtadbnlnifacblaaGreatDoor
open Go.RowKit
def TxO (q : Nat × Option (List UInt8)) (e : Ending) : Prop := match q with
  | (m', none) => e = .returned (.tuple #[.string ⟨#[]⟩, .int .i64 (m' : Int), .bool false])
  | (m', some t) => e = .returned (.tuple #[.string ⟨t.toArray⟩, .int .i64 (m' : Int), .bool true])
theorem TxO.none {q : Nat × Option (List UInt8)} {m : Nat} (h : q = (m, .none)) : TxO q (.returned (.tuple #[.string ⟨#[]⟩, .int .i64 (m : Int), .bool false])) := by rw [h]; rfl
theorem TxO.some {q : Nat × Option (List UInt8)} {m : Nat} {t : List UInt8} (h : q = (m, .some t)) : TxO q (.returned (.tuple #[.string ⟨t.toArray⟩, .int .i64 (m : Int), .bool true])) := by rw [h]; rfl
structure TxI (w : World) (v : Value) (acc : List UInt8) (wr : World) : Prop where
  below : Below w.heap.size w wr
  own : wr.ownsRow w.heap.size 5 1 v acc.length (bcl acc)
theorem TxI.put {w wr w' : World} {v v' : Value} {acc : List UInt8} {b : UInt8} {o : Obj} (h : TxI w v acc wr) (ho : w'.ownsRow w.heap.size 5 1 v' (acc.length + 1) (bcl acc ++ [.int .u8 (b.toNat : Int)])) (hg : (wr.alloc o).grownBy w' v.ownBlock) : TxI w v' (acc ++ [b]) w' :=
  ⟨(h.below.alloc h.below.size o).grown hg (Nat.le_trans h.below.size (by simp)) (fun k hk => (h.own.lt k hk).1), by rw [bcl_snoc, List.length_append]; exact ho⟩
set_option maxRecDepth 100000 in
set_option maxHeartbeats 6000000 in
theorem text_d (s : ByteArray) (m0 : Nat) (w : World) (hs : s.size ≤ 1000000) (hm0 : m0 ≤ s.size) :
    Calls Tryz.prog 79 #[.string s, .int .i64 (m0 : Int)] w fun e w' => TxO (strF (bl s) 257 [] m0) e ∧ Below w.heap.size w w' := by
  obtain ⟨i0, hi, hq0, hq1, hq2⟩ := info_parts info5
  have hIT := fun (n : Nat) (hn : n < 256) (W : World) => itself_d n hn W
  have HIT := Lib.hid hIT
  clear hIT
  go_enter Tryz.func79, Tryz.ntmps79
  go_wp2_with (fail)
  go_loopw [1, 7] (fun av v wr => ∃ (m : Nat) (acc : List UInt8), av = .int .i64 (m : Int) ∧ m ≤ s.size ∧ acc.length ≤ 256 ∧ Hid (strF (bl s) 257 [] m0 = strF (bl s) (257 - acc.length) acc m) ∧ Hid (TxI w v acc wr)) (fun av _ _ => 1000001 - (intOf av).toNat)
  case atStart => exact ⟨m0, [], rfl, hm0, by simp, Lib.hid rfl, ⟨Below.refl _ _, World.ownsRow_nil _ _ _ _⟩⟩
  case round =>
    obtain ⟨m, acc, rfl, hm, hacc, HS, HI⟩ := hrel
    obtain ⟨AV, CV, rfl⟩ := own_slice HI.out.own
    have hsr := HI.out.below.size
    have HST : Hid (strF (bl s) 257 [] m0 = (if lkB (bl s) m = 34 then (m + 1, some acc) else if acc.length < 256 then (match letS (bl s) m with
      | (m', none) => (m', none)
      | (m', some b) => strF (bl s) (257 - (acc.length + 1)) (acc ++ [b]) m') else (m, none))) := by
      show _ = _
      rw [HS.out, show 257 - acc.length = (257 - (acc.length + 1)) + 1 by omega]
      rfl
    by_cases hlt : m < s.size
    · have hml : ((m : Int) < (s.size : Int)) := by omega
      have hix := str_index s m hlt hs
      rw [← bl_at s m hlt] at hix
      have hlb : (lkB (bl s) m).toNat ≤ 255 := by have := (lkB (bl s) m).toNat_lt; omega
      by_cases h34 : lkB (bl s) m = 34
      · have g34 : ((lkB (bl s) m).toNat : Int) = 34 := by rw [h34]; rfl
        have HR := Lib.hid (TxO.some (HST.out.trans (if_pos h34)))
        have hcv := string_run (w := wr) HI.out.own (fun k hk => rfl)
        rw [g34] at hix
        clear h34 g34
        go_wp2_with (fail)
        go_ret3
        exact ⟨HR.out, HI.out.below⟩
      · have g34 : (((lkB (bl s) m).toNat : Int) == 34) = false := by
          simp only [beq_eq_false_iff_ne, ne_eq]
          intro hh
          exact h34 (UInt8.toNat_inj.1 (by have h34 : (34 : UInt8).toNat = 34 := rfl; omega))
        have HST2 := Lib.hid (HST.out.trans (if_neg h34))
        clear h34
        by_cases hac : acc.length = 256
        · have gac : ((acc.length : Int) == 256) = true := by simp; omega
          have HR := Lib.hid (TxO.none (HST2.out.trans (if_neg (by omega))))
          clear hac
          go_wp2_with (fail)
          go_ret3
          exact ⟨HR.out, HI.out.below⟩
        · have gac : ((acc.length : Int) == 256) = false := by simp; omega
          have hac2 : acc.length < 256 := by omega
          have HST3 := Lib.hid (HST2.out.trans (if_pos hac2))
          clear hac
          have hu : UInt8.ofNat (lkB (bl s) m).toNat = lkB (bl s) m := UInt8.ofNat_toNat
          have HC := Lib.hid (HIT.out (lkB (bl s) m).toNat (lkB (bl s) m).toNat_lt wr)
          rw [hu] at HC
          clear hu
          by_cases h92 : lkB (bl s) m = 92
          · have g92 : ((lkB (bl s) m).toNat : Int) = 92 := by rw [h92]; rfl
            have HL : Hid (letS (bl s) m = codS (bl s) (m + 1)) := by show _ = _; unfold letS; rw [if_pos h92]
            rw [g92] at hix HC
            rw [show isPl (lkB (bl s) m) = false by rw [h92]; decide] at HC
            clear h92 g92 g34
            obtain ⟨p, hp⟩ : ∃ p, p = m + 1 := ⟨_, rfl⟩
            have hpI : (m : Int) + 1 = (p : Int) := by omega
            have hps : p ≤ s.size := by omega
            have hmp : m < p := by omega
            rw [← hp] at HL
            clear hp
            have HNO : Hid (hexI (lkB (bl s) p) = none → TxO (strF (bl s) 257 [] m0) (.returned (.tuple #[.string ⟨#[]⟩, .int .i64 (p : Int), .bool false]))) := fun h => TxO.none (by
              rw [HST3.out, HL.out]; unfold codS; rw [h])
            by_cases hpe : p < s.size
            · have hpl : decide (s.size ≤ p) = false := by simp; omega
              have hix2 := str_index s p hpe hs
              rw [← bl_at s p hpe] at hix2
              have HNB := Lib.hid (nibble_d (lkB (bl s) p) wr)
              unfold hexZ at HNB
              cases hx : hexI (lkB (bl s) p) with
              | none =>
                rw [hx] at HNB
                have HR := Lib.hid (HNO.out hx)
                clear hx
                go_wp2_with (fail)
                refine HC.out.mono ?_
                rintro e w2 ⟨rfl, rfl⟩
                go_wp2_with (fail)
                refine HNB.out.mono ?_
                rintro e w2 ⟨rfl, rfl⟩
                go_wp2_with (fail)
                go_loopw [10, 11] (fun bv jv wq => jv = .int .i64 0 ∧ bv = .bool false ∧ wq = w2) (fun _ _ _ => 0)
                case atStart => exact ⟨rfl, rfl, rfl⟩
                case round =>
                  obtain ⟨rfl, rfl, hw⟩ := hrel
                  have hww := hw.symm
                  subst hww
                  go_wp2_with (fail)
                  go_ret3
                  exact ⟨HR.out, HI.out.below⟩
              | some h =>
                rw [hx] at HNB
                have hh := hexI_lt hx
                have HX := Lib.hid hx
                have HNS : Hid (smC h = false → TxO (strF (bl s) 257 [] m0) (.returned (.tuple #[.string ⟨#[]⟩, .int .i64 (p : Int), .bool false]))) := fun hsm => TxO.none (by
                  rw [HST3.out, HL.out]; unfold codS; rw [HX.out]; simp only; rw [hsm]; rfl)
                have HYS : Hid (smC h = true → letS (bl s) m = (match hexI (lkB (bl s) (p + 1)) with
                  | none => (p + 1, none)
                  | some x => if isPl (UInt8.ofNat (16 * h + x)) then (p + 1, none) else (p + 2, some (UInt8.ofNat (16 * h + x))))) := fun hsm => by
                  rw [HL.out]; unfold codS; rw [HX.out]; simp only; rw [hsm]; rfl
                have hh0 : ((0 : Int) ≤ (h : Int)) := by omega
                clear hx
                go_wp2_with (fail)
                refine HC.out.mono ?_
                rintro e w2 ⟨rfl, rfl⟩
                go_wp2_with (fail)
                refine HNB.out.mono ?_
                rintro e w2 ⟨rfl, rfl⟩
                go_wp2_with (fail)
                go_loopw [10, 11] (fun bv jv wq => ∃ (j : Nat) (b : Bool), jv = .int .i64 (j : Int) ∧ bv = .bool b ∧ j ≤ 16 ∧ Hid (b = (List.range j).any fun x => !isPl (UInt8.ofNat (16 * h + x))) ∧ wq = w2) (fun _ jv _ => 20 - (intOf jv).toNat)
                case atStart => exact ⟨0, false, rfl, rfl, by omega, by show _ = _; rfl, rfl⟩
                case round =>
                  obtain ⟨j, b, rfl, rfl, hj, HB, hw⟩ := hrel
                  have hww := hw.symm
                  subst hww
                  by_cases hj16 : j < 16
                  · have hjl : decide ((j : Int) < 16) = true := by simp; omega
                    obtain ⟨n, hn⟩ : ∃ n, n = 16 * h + j := ⟨_, rfl⟩
                    have hnI : 16 * (h : Int) + (j : Int) = (n : Int) := by omega
                    have hn2 : n < 256 := by omega
                    have HB2 : Hid ((List.range (j + 1)).any (fun x => !isPl (UInt8.ofNat (16 * h + x))) = (b || !isPl (UInt8.ofNat n))) := by
                      show _ = _; rw [List.range_succ, List.any_append, ← HB.out, hn]; simp
                    clear hn
                    cases b with
                    | true =>
                      have HB3 : Hid (true = (List.range (j + 1)).any fun x => !isPl (UInt8.ofNat (16 * h + x))) := by show _ = _; rw [HB2.out]; rfl
                      go_wp2_with (fail)
                      go_roundw
                      case rel => exact ⟨j + 1, true, by go_num, rfl, by omega, HB3, trivial⟩
                      case measure => simp [intOf]; omega
                    | false =>
                      have HCI := Lib.hid (HIT.out n hn2 w2)
                      cases hpn : isPl (UInt8.ofNat n) with
                      | true =>
                        rw [hpn] at HCI
                        have HB3 : Hid (false = (List.range (j + 1)).any fun x => !isPl (UInt8.ofNat (16 * h + x))) := by show _ = _; rw [HB2.out, hpn]; rfl
                        clear hpn
                        go_wp2_with (fail)
                        refine HCI.out.mono ?_
                        rintro e w3 ⟨rfl, rfl⟩
                        go_wp2_with (fail)
                        go_roundw
                        case rel => exact ⟨j + 1, false, by go_num, rfl, by omega, HB3, trivial⟩
                        case measure => simp [intOf]; omega
                      | false =>
                        rw [hpn] at HCI
                        have HB3 : Hid (true = (List.range (j + 1)).any fun x => !isPl (UInt8.ofNat (16 * h + x))) := by show _ = _; rw [HB2.out, hpn]; rfl
                        clear hpn
                        go_wp2_with (fail)
                        refine HCI.out.mono ?_
                        rintro e w3 ⟨rfl, rfl⟩
                        go_wp2_with (fail)
                        go_roundw
                        case rel => exact ⟨j + 1, true, by go_num, rfl, by omega, HB3, trivial⟩
                        case measure => simp [intOf]; omega
                  · have hjl : decide ((j : Int) < 16) = false := by simp; omega
                    have HBS : Hid (b = smC h) := by show _ = _; rw [HB.out, show j = 16 by omega]; rfl
                    clear hj16 hj
                    cases b with
                    | false =>
                      have HR := Lib.hid (HNS.out HBS.out.symm)
                      go_wp2_with (fail)
                      go_ret3
                      exact ⟨HR.out, HI.out.below⟩
                    | true =>
                      have HLT := Lib.hid (HYS.out HBS.out.symm)
                      obtain ⟨q, hq⟩ : ∃ q, q = p + 1 := ⟨_, rfl⟩
                      have hqI : (p : Int) + 1 = (q : Int) := by omega
                      have hqs : q ≤ s.size := by omega
                      have hpq : p < q := by omega
                      have HQ := Lib.hid hq
                      rw [← hq] at HLT
                      clear hq
                      have HNQ : Hid (hexI (lkB (bl s) q) = none → TxO (strF (bl s) 257 [] m0) (.returned (.tuple #[.string ⟨#[]⟩, .int .i64 (q : Int), .bool false]))) := fun hx => TxO.none (by
                        rw [HST3.out, HLT.out, hx])
                      by_cases hqe : q < s.size
                      · have hql : decide (s.size ≤ q) = false := by simp; omega
                        have hix3 := str_index s q hqe hs
                        rw [← bl_at s q hqe] at hix3
                        have HNB2 := Lib.hid (nibble_d (lkB (bl s) q) w2)
                        unfold hexZ at HNB2
                        cases hx : hexI (lkB (bl s) q) with
                        | none =>
                          rw [hx] at HNB2
                          have HR := Lib.hid (HNQ.out hx)
                          clear hx
                          go_wp2_with (fail)
                          refine HNB2.out.mono ?_
                          rintro e w3 ⟨rfl, rfl⟩
                          go_wp2_with (fail)
                          go_ret3
                          exact ⟨HR.out, HI.out.below⟩
                        | some x =>
                          rw [hx] at HNB2
                          have hxx := hexI_lt hx
                          have HX2 := Lib.hid hx
                          obtain ⟨n, hn⟩ : ∃ n, n = 16 * h + x := ⟨_, rfl⟩
                          have hnI : 16 * (h : Int) + (x : Int) = (n : Int) := by omega
                          have hn2 : n < 256 := by omega
                          have HCI := Lib.hid (HIT.out n hn2 w2)
                          have HLN : Hid (letS (bl s) m = if isPl (UInt8.ofNat n) then (q, none) else (q + 1, some (UInt8.ofNat n))) := by
                            show _ = _; rw [HLT.out, HX2.out, hn]; simp only [HQ.out]
                          have hto : (UInt8.ofNat n).toNat = n := by rw [UInt8.toNat_ofNat']; omega
                          have HTO := Lib.hid hto
                          have hx0 : decide ((x : Int) < 0) = false := by simp <;> omega
                          clear hx hn hto
                          cases hpn : isPl (UInt8.ofNat n) with
                          | true =>
                            rw [hpn] at HCI
                            have HR := Lib.hid (TxO.none (m := q) (q := strF (bl s) 257 [] m0) (by rw [HST3.out, HLN.out, hpn]; try rfl))
                            clear hpn
                            go_wp2_with (fail)
                            refine HNB2.out.mono ?_
                            rintro e w3 ⟨rfl, rfl⟩
                            go_wp2_with (fail)
                            refine HCI.out.mono ?_
                            rintro e w3 ⟨rfl, rfl⟩
                            go_wp2_with (fail)
                            go_ret3
                            exact ⟨HR.out, HI.out.below⟩
                          | false =>
                            rw [hpn] at HCI
                            have HS4 : Hid (strF (bl s) 257 [] m0 = strF (bl s) (257 - (acc ++ [UInt8.ofNat n]).length) (acc ++ [UInt8.ofNat n]) (q + 1)) := by
                              show _ = _; rw [HST3.out, HLN.out, hpn]; simp
                            clear hpn
                            go_wp2_with (fail)
                            refine HNB2.out.mono ?_
                            rintro e w3 ⟨rfl, rfl⟩
                            go_wp2_with (fail)
                            refine HCI.out.mono ?_
                            rintro e w3 ⟨rfl, rfl⟩
                            go_wp2_with (at_builtin; refine wpList_append_own _ rfl _ _ 99 rfl w.heap.size 5 i0 (.int .u8 0) 1 1 Tryz.underlying99 hi hq0 hq1 hq2 rfl (by decide) (.slice AV acc.length CV) acc.length (bcl acc) rfl (HI.out.own.kept (row := none) ⟨rfl, rfl, rfl, by simp, fun k hk _ => Below.heap_alloc w3 _ k hk⟩ (by cases AV <;> simp [Value.ownBlock])) ⟨w3.heap.size, 0, none⟩ 1 1 [.int .u8 ((n : Int))] rfl rfl (cell_one_new' _ _ _ _ (by simp)) (by intro u hu; simp at hu; subst hu; rfl) (by unfold maxLen; omega) (by omega) (by simp; omega) ?_; intro v7 w7 hown7 hg7 _)
                            go_roundw
                            case rel => exact ⟨q + 1, acc ++ [UInt8.ofNat n], by go_num, by omega, by simp; omega, HS4, HI.out.put (by rw [HTO.out]; exact hown7) hg7⟩
                            case measure => simp [intOf]; omega
                      · have hql : decide (s.size ≤ q) = true := by simp; omega
                        have HR := Lib.hid (HNQ.out (by rw [lkB_end (by rw [bl_length]; omega)]; decide))
                        go_wp2_with (fail)
                        go_ret3
                        exact ⟨HR.out, HI.out.below⟩
            · have hpl : decide (s.size ≤ p) = true := by simp; omega
              have HR := Lib.hid (HNO.out (by rw [lkB_end (by rw [bl_length]; omega)]; decide))
              go_wp2_with (fail)
              refine HC.out.mono ?_
              rintro e w2 ⟨rfl, rfl⟩
              go_wp2_with (fail)
              go_ret3
              exact ⟨HR.out, HI.out.below⟩
          · have g92 : (((lkB (bl s) m).toNat : Int) != 92) = true := by
              simp only [bne_iff_ne, ne_eq]
              intro hh
              exact h92 (UInt8.toNat_inj.1 (by have h92 : (92 : UInt8).toNat = 92 := rfl; omega))
            cases hpl : isPl (lkB (bl s) m) with
            | false =>
              rw [hpl] at HC
              have HR := Lib.hid (TxO.none (m := m) (q := strF (bl s) 257 [] m0) (by rw [HST3.out]; unfold letS; rw [if_neg h92, hpl]; simp))
              clear hpl h92
              go_wp2_with (fail)
              refine HC.out.mono ?_
              rintro e w2 ⟨rfl, rfl⟩
              go_wp2_with (fail)
              go_ret3
              exact ⟨HR.out, HI.out.below⟩
            | true =>
              rw [hpl] at HC
              have HS4 : Hid (strF (bl s) 257 [] m0 = strF (bl s) (257 - (acc ++ [lkB (bl s) m]).length) (acc ++ [lkB (bl s) m]) (m + 1)) := by
                show _ = _; rw [HST3.out]; unfold letS; rw [if_neg h92, if_pos hpl]; simp
              clear hpl h92
              go_wp2_with (fail)
              refine HC.out.mono ?_
              rintro e w2 ⟨rfl, rfl⟩
              go_wp2_with (at_builtin; refine wpList_append_own _ rfl _ _ 99 rfl w.heap.size 5 i0 (.int .u8 0) 1 1 Tryz.underlying99 hi hq0 hq1 hq2 rfl (by decide) (.slice AV acc.length CV) acc.length (bcl acc) rfl (HI.out.own.kept (row := none) ⟨rfl, rfl, rfl, by simp, fun k hk _ => Below.heap_alloc w2 _ k hk⟩ (by cases AV <;> simp [Value.ownBlock])) ⟨w2.heap.size, 0, none⟩ 1 1 [.int .u8 (((lkB (bl s) m).toNat : Int))] rfl rfl (cell_one_new' _ _ _ _ (by simp)) (by intro u hu; simp at hu; subst hu; rfl) (by unfold maxLen; omega) (by omega) (by simp; omega) ?_; intro v7 w7 hown7 hg7 _)
              go_roundw
              case rel => exact ⟨m + 1, acc ++ [lkB (bl s) m], by go_num, by omega, by simp; omega, HS4, HI.out.put hown7 hg7⟩
              case measure => simp [intOf]; omega
    · have hml : ¬ ((m : Int) < (s.size : Int)) := by omega
      have h0 : lkB (bl s) m = 0 := lkB_end (by rw [bl_length]; omega)
      have HR := Lib.hid (TxO.none (m := m) (q := strF (bl s) 257 [] m0) (by
        rw [HST.out, h0, if_neg (by decide)]
        split
        · unfold letS; rw [h0]; rfl
        · rfl))
      clear h0
      go_wp2_with (fail)
      go_ret3
      exact ⟨HR.out, HI.out.below⟩
end Go.Proofs.YtadbnlnifacblaaGreatDoor
