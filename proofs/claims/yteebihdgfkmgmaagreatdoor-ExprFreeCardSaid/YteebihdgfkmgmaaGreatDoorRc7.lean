/-
The reader of package expr: nameLength, readSpelt.
-/
import Derived.Test.YteebihdgfkmgmaaGreatDoorRc4
namespace Go.Proofs.YteebihdgfkmgmaaGreatDoor
open Go.RowKit

theorem nlF_le (l : List UInt8) : ∀ (f n : Nat), n ≤ l.length → n ≤ nlF l f n ∧ nlF l f n ≤ l.length ∧ nlF l f n ≤ n + f
  | 0, n, h => ⟨Nat.le_refl _, h, Nat.le_refl _⟩
  | f + 1, n, h => by
    unfold nlF
    split
    · rename_i hc
      have := nlF_le l f (n + 1) (by omega)
      omega
    · omega
theorem nmL_le (l : List UInt8) : nmL l ≤ l.length ∧ nmL l ≤ 16 := by
  have := nlF_le l 16 0 (Nat.zero_le _)
  unfold nmL
  omega
theorem nl_on {l : List UInt8} {n : Nat} (h16 : n < 16) (hl : n < l.length) (hc : (isLet (lkB l n) || (decide (0 < n) && (isDig (lkB l n) || decide (lkB l n = 95)))) = true) : nlF l (16 - n) n = nlF l (16 - (n + 1)) (n + 1) := by
  rw [show 16 - n = (16 - (n + 1)) + 1 by omega]
  simp only [nlF, if_pos (And.intro hl hc)]
theorem nl_off {l : List UInt8} {n : Nat} (hc : ¬ (n < l.length ∧ (isLet (lkB l n) || (decide (0 < n) && (isDig (lkB l n) || decide (lkB l n = 95)))) = true)) : nlF l (16 - n) n = n := by
  cases hf : 16 - n with
  | zero => rfl
  | succ f => simp only [nlF, if_neg hc]

set_option maxRecDepth 100000 in
set_option maxHeartbeats 1000000 in
theorem nameLength_any (s : ByteArray) (w : World) (hs : s.size ≤ 1000000) : Calls Tryz.prog 157 #[.string s] w fun e w' => e = .returned (.int .i64 (nmL (bl s) : Nat)) ∧ w = w' := by
  go_enter Tryz.func157, Tryz.ntmps157
  go_wp2_with (fail)
  go_loop [3] (fun nv => ∃ n : Nat, nv = .int .i64 (n : Int) ∧ n ≤ s.size ∧ n ≤ 16 ∧ Hid (nmL (bl s) = nlF (bl s) (16 - n) n)) (fun nv => 16 - (intOf nv).toNat)
  case atStart => exact ⟨0, rfl, Nat.zero_le _, by omega, Lib.hid rfl⟩
  case round =>
    obtain ⟨n, rfl, hn, hn16, HE⟩ := hrel
    by_cases hlt : n < s.size
    · by_cases h16 : n < 16
      · have hix := str_index s n hlt hs
        have hb0 := bl_at s n hlt
        generalize s[n] = b at hix hb0
        have HB := Lib.hid hb0
        clear hb0
        have hll : n < (bl s).length := by rw [bl_length]; exact hlt
        go_wp2_with (fail)
        refine (isLetter_any b w).mono ?_
        rintro e w' ⟨rfl, rfl⟩
        cases hL : isLet b with
        | true =>
          have HF : Hid (nmL (bl s) = nlF (bl s) (16 - (n + 1)) (n + 1)) := Lib.hid (by rw [HE.out, nl_on h16 hll (by rw [HB.out, hL]; rfl)])
          clear hL
          go_wp2_with (fail)
          go_round
          case rel => exact ⟨n + 1, by go_num, by omega, by omega, HF⟩
          case measure => simp [intOf]; omega
        | false =>
          by_cases hn0 : n = 0
          · have HF : Hid (nmL (bl s) = n) := Lib.hid (by rw [HE.out, nl_off (by rw [HB.out, hL]; simp [hn0])])
            have hd0 : decide ((0 : Int) < (n : Int)) = false := by simp; omega
            have hd1 : decide (0 < n) = false := by simp; omega
            clear hL hn0
            go_wp2_with (fail)
            go_ret
            rw [HF.out]
            exact ⟨rfl, rfl⟩
          · have hd0 : decide ((0 : Int) < (n : Int)) = true := by simp; omega
            have hd1 : decide (0 < n) = true := by simp; omega
            have hL' := Lib.hid hL
            clear hL
            go_wp2_with (fail)
            refine (isDigit_any b w).mono ?_
            rintro e w' ⟨rfl, rfl⟩
            cases hD : isDig b with
            | true =>
              have HF : Hid (nmL (bl s) = nlF (bl s) (16 - (n + 1)) (n + 1)) := Lib.hid (by rw [HE.out, nl_on h16 hll (by rw [HB.out, hL'.out, hD]; simp; omega)])
              clear hD
              go_wp2_with (fail)
              go_round
              case rel => exact ⟨n + 1, by go_num, by omega, by omega, HF⟩
              case measure => simp [intOf]; omega
            | false =>
              have HD' := Lib.hid hD
              clear hD
              by_cases h95 : b = 95
              · have hb : ((b.toNat : Int) == 95) = true := by rw [h95]; rfl
                have HF : Hid (nmL (bl s) = nlF (bl s) (16 - (n + 1)) (n + 1)) := Lib.hid (by rw [HE.out, nl_on h16 hll (by rw [HB.out, hL'.out, HD'.out]; simp [h95]; omega)])
                clear h95
                go_wp2_with (fail)
                go_round
                case rel => exact ⟨n + 1, by go_num, by omega, by omega, HF⟩
                case measure => simp [intOf]; omega
              · have hb : ((b.toNat : Int) == 95) = false := u8_beq_false (b := 95) h95
                have HF : Hid (nmL (bl s) = n) := Lib.hid (by rw [HE.out, nl_off (by rw [HB.out, hL'.out, HD'.out]; simp [h95])])
                clear h95
                go_wp2_with (fail)
                go_ret
                rw [HF.out]
                exact ⟨rfl, rfl⟩
      · have HF : Hid (nmL (bl s) = n) := Lib.hid (by rw [HE.out, show 16 - n = 0 by omega]; rfl)
        go_wp2_with (fail)
        go_ret
        rw [HF.out]
        exact ⟨rfl, rfl⟩
    · have HF : Hid (nmL (bl s) = n) := Lib.hid (by rw [HE.out, nl_off (by rw [bl_length]; omega)])
      go_wp2_with (fail)
      go_ret
      rw [HF.out]
      exact ⟨rfl, rfl⟩

end Go.Proofs.YteebihdgfkmgmaaGreatDoor

namespace Go.Proofs.YteebihdgfkmgmaaGreatDoor
open Go.RowKit

theorem clone_any (s : ByteArray) (w : World) (hs : s.size ≤ 1000000) : Calls Tryz.prog 57 #[.string s] w fun e w' => e = .returned (.string s) ∧ Below w.heap.size w w' := by
  go_enter Tryz.func57, Tryz.ntmps57
  go_wp2_with (fail)
  refine (Tryz.stringslite_Clone s w (by omega)).mono ?_
  rintro e w2 ⟨rfl, hb⟩
  go_wp2_with (fail)
  go_ret
  exact ⟨rfl, hb⟩

theorem bl_extract (s : ByteArray) (a b : Nat) (_hb : b ≤ s.size) : bl (s.extract a b) = ((bl s).take b).drop a := by
  unfold bl
  rw [Lib.extract_data]
  rw [List.drop_take]

set_option maxRecDepth 100000 in
set_option maxHeartbeats 6000000 in
theorem spelt_any (R : Nat) (s : ByteArray) (m : Nat) (w : World) (h : Rdr w R s m) :
    Calls Tryz.prog 119 #[.pointer (some ⟨R, 0, none⟩)] w fun e w' => (∃ t, bl t = spel (bl s) m ∧ e = .returned (.string t)) ∧ Only R w w' ∧ Rdr w' R s (m + (spel (bl s) m).length) := by
  have HR := Lib.hid h
  have hlen := h.len
  have hle := h.le
  have hRl := h.lt
  have c0 := cell2_0 h.box
  have c1 := cell2_1 h.box
  have f1 := cell3_f h.box 1
  clear h
  go_enter Tryz.func119, Tryz.ntmps119
  go_upto_region 2 with (fail)
  obtain ⟨t, ht⟩ : ∃ t, t = s.extract m s.size := ⟨_, rfl⟩
  have htl : bl t = (bl s).drop m := by rw [ht, bl_extract s m s.size (Nat.le_refl _), List.take_of_length_le (by rw [bl_length]; exact Nat.le_refl _)]
  have hts : t.size ≤ 1000000 := by have := congrArg List.length htl; rw [bl_length, List.length_drop, bl_length] at this; omega
  have hsl : ∀ W : World, (Instr.slice 9 (.string s) (some (.int .i64 (m : Int))) none none).run Tryz.prog W = .ok (.string t) W := by
    intro W; rw [ht]; go_simp
  obtain ⟨k, hk⟩ : ∃ k, k = nmL (bl t) := ⟨_, rfl⟩
  have hkl := nmL_le (bl t)
  rw [← hk, htl, List.length_drop, bl_length] at hkl
  have s1 : IntKind.i64.wrap ((m : Int) + (k : Int)) = (m : Int) + (k : Int) := IntWalk.i64_in _ (by omega)
  have HT := Lib.hid htl
  have HK := Lib.hid hk
  clear ht htl hk
  go_cut [] (fun wx => Only R w wx ∧ Rdr wx R s (m + k))
  case first => as_aux_lemma =>
    go_region_with (go_at_call 157; refine (nameLength_any t _ hts).mono ?_; rw [← HK.out]; rintro e w' ⟨rfl, rfl⟩)
    all_goals (go_wp2_with (fail); go_meet; exact ⟨(Only.set_ R 1 w _).drewN 1, by have := HR.out.go (m + k) (by omega); rw [Int.natCast_add] at this; exact ⟨this.box, this.le, this.len⟩⟩)
  case rest =>
    obtain ⟨hO, hR⟩ := hcut
    obtain ⟨w2, hw2⟩ : ∃ w2 : World, w2 = wc := ⟨_, rfl⟩
    subst hw2
    have HO2 := Lib.hid hO
    have HR2 := Lib.hid hR
    obtain ⟨u, hu⟩ : ∃ u, u = s.extract m (m + k) := ⟨_, rfl⟩
    have hul : bl u = ((bl s).drop m).take k := by rw [hu, bl_extract s m (m + k) (by omega), List.drop_take, show m + k - m = k by omega]
    have hus : u.size ≤ 1000000 := by have := congrArg List.length hul; rw [bl_length, List.length_take, List.length_drop, bl_length] at this; omega
    have hsl2 : ∀ W : World, (Instr.slice 9 (.string s) (some (.int .i64 (m : Int))) (some (.int .i64 ((m : Int) + (k : Int)))) none).run Tryz.prog W = .ok (.string u) W := by
      intro W; rw [hu]; go_simp
      rw [if_pos ⟨by omega, by omega⟩, if_pos (by omega), show ((m : Int) + (k : Int)).toNat = m + k by omega]
    have HU := Lib.hid hul
    have hr0 := cell2_0 HR2.out.box
    have hr1 := cell2_1 HR2.out.box
    rw [Int.natCast_add] at hr1
    have hRl2 := HR2.out.lt
    have HR0 := Lib.hid hr0
    have HR1 := Lib.hid hr1
    have hBB : Below w2.heap.size w2 w2 := Below.refl _ _
    clear hu hul hO hR hsl s1 c0 c1 f1
    go_wp2_with (fail)
    go_region_held3 (fun w' => w'.cell? ⟨R, 0, none⟩ = some (.string s) ∧ w'.cell? ⟨R, 1, none⟩ = some (.int .i64 ((m : Int) + (k : Int))) ∧ Below w2.heap.size w2 w')
      ((refine ⟨?_, ?_, ?_⟩ <;> (repeat' (first | with_reducible assumption | with_reducible refine cell_drew_some ?_ | with_reducible refine Below.drew ?_))))
      (first
        | (go_at_call 57; refine (clone_any u w2.drew hus).mono ?_; rintro e w3 ⟨rfl, hb3⟩; have HB3 : Below w2.heap.size w2 w3 := (Below.refl _ w2).drew.trans hb3; have x0 := (HB3.cell (p := ⟨R, 0, none⟩) hRl2).trans HR0.out; have x1 := (HB3.cell (p := ⟨R, 1, none⟩) hRl2).trans HR1.out))
    go_wp2_with (fail)
    go_ret
    have hsp : spel (bl s) m = bl u := by unfold spel; rw [HU.out, ← HT.out, ← HK.out]
    have hln : (spel (bl s) m).length = k := by rw [hsp, HU.out, List.length_take, List.length_drop, bl_length]; omega
    refine ⟨⟨u, hsp.symm, rfl⟩, HO2.out.trans (Only.of_below HB3), ?_⟩
    rw [hln]
    exact HR2.out.below HB3
end Go.Proofs.YteebihdgfkmgmaaGreatDoor
