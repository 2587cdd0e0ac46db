/-
The walk of WindowTexts.
-/
import Derived.Test.YtofollamkcgknaaDoorTd
set_option linter.unusedVariables false
namespace Go.Proofs.YtofollamkcgknaaDoor
open Go.RowKit

theorem digits_itoa (n : Int) (A : ByteArray) (w : World) (hA : A = ⟨(Lib.itoa n).toArray⟩) (h0 : -9223372036854775808 ≤ n) (h1 : n ≤ 9223372036854775807) :
    Calls Tryd.prog 35 #[.string A, .int .i64 n] w fun e w' => e = .returned (.bool true) ∧ w' = w := by
  have hl := Lib.itoa_length_le n h0 h1
  rcases itoa_form n with ⟨hn, e⟩ | ⟨hn, e⟩
  · rw [e] at hA hl
    exact (digits_neg n.natAbs A ⟨(Lib.decDigits n.natAbs).toArray⟩ n w hA rfl (by omega) (by omega) (by simp at hl; omega) (by omega)).mono fun _ _ ⟨h1, h2⟩ => ⟨h1, h2.symm⟩
  · rw [e] at hA hl
    have hh := digits_pos n.toNat A w hA hl (by omega)
    rw [show ((n.toNat : Nat) : Int) = n by omega] at hh
    exact hh.mono fun _ _ ⟨h1, h2⟩ => ⟨h1, h2.symm⟩

theorem itoa_pos (n : Int) : 1 ≤ (Lib.itoa n).length := by
  rcases itoa_form n with ⟨_, e⟩ | ⟨_, e⟩ <;> rw [e]
  · simp
  · exact dec_len _

/-- What the walk asks of a text: where its dots are, and what stands on their sides. -/
structure TxF (S A B : ByteArray) (p q : Nat) : Prop where
  pa : p = A.size
  qb : q = B.size
  p1 : 1 ≤ p
  q1 : 1 ≤ q
  pm : p ≤ 21
  qm : q ≤ 21
  size : S.size = p + 2 + q
  left : ∀ j (h : j < S.size), j < p → S[j] ≠ 46
  d1 : ∀ h : p < S.size, S[p] = 46
  d2 : ∀ h : p + 1 < S.size, S[p + 1] = 46
  sa : S.extract 0 p = A
  sb : S.extract (p + 2) S.size = B

theorem txf (a b : Int) (ha0 : -9223372036854775808 ≤ a) (ha1 : a ≤ 9223372036854775807) (hb0 : -9223372036854775808 ≤ b) (hb1 : b ≤ 9223372036854775807) :
    TxF ⟨(txt a b).toArray⟩ ⟨(Lib.itoa a).toArray⟩ ⟨(Lib.itoa b).toArray⟩ (Lib.itoa a).length (Lib.itoa b).length := by
  have e : txt a b = Lib.itoa a ++ 46 :: 46 :: Lib.itoa b := by unfold txt; simp
  have no := itoa_no a
  have la := Lib.itoa_length_le a ha0 ha1
  have lb := Lib.itoa_length_le b hb0 hb1
  have pa := itoa_pos a
  have pb := itoa_pos b
  rw [e]
  generalize Lib.itoa a = x at *
  generalize Lib.itoa b = y at *
  refine ⟨rfl, rfl, pa, pb, la, lb, ?_, ?_, ?_, ?_, ?_, ?_⟩
  · simp [ByteArray.size]; omega
  · intro j h hj
    have : (x ++ 46 :: 46 :: y)[j]? = some x[j] := by rw [List.getElem?_append_left hj, List.getElem?_eq_getElem hj]
    have h2 : (x ++ 46 :: 46 :: y)[j]'(by simp; omega) = x[j] := by
      have h3 := List.getElem?_eq_getElem (l := x ++ 46 :: 46 :: y) (i := j) (by simp; omega)
      rw [this] at h3; injection h3 with h3; exact h3.symm
    show (x ++ 46 :: 46 :: y)[j]'_ ≠ 46
    rw [h2]
    exact no _ (List.getElem_mem hj)
  · intro h
    show (x ++ 46 :: 46 :: y)[x.length]'_ = 46
    simp
  · intro h
    show (x ++ 46 :: 46 :: y)[x.length + 1]'_ = 46
    rw [List.getElem_append_right (by omega)]
    simp
  · apply ByteArray.ext
    simp [ByteArray.data_extract]
  · apply ByteArray.ext
    simp [ByteArray.data_extract, ByteArray.size]
    exact List.take_of_length_le (by omega)

theorem box2 {w : World} {g : Nat} {a b : Value} {t : TypeId} (h : w.heap[g]? = some (.cells #[a, b] t (0, 0))) : w.cell? ⟨g, 0, none⟩ = some a ∧ w.cell? ⟨g, 1, none⟩ = some b := ⟨cell2_0 h, cell2_1 h⟩

theorem str_ne2 {T S : ByteArray} (h : ¬ T = S) : ¬ T.toList = S.toList := fun e => h (by
  rw [ByteArray.toList_eq, ByteArray.toList_eq] at e
  exact ByteArray.ext (Array.toList_inj.1 e))
theorem str_ne {T S : ByteArray} (h : ¬ T = S) : (T.toList == S.toList) = false := by
  have := str_ne2 h
  simpa using this

set_option maxRecDepth 100000 in
set_option maxHeartbeats 4000000 in
theorem texts_true (a b c d : Int) (w : World) (hT : Tb w) (ha0 : -9223372036854775808 ≤ a) (ha1 : a ≤ 9223372036854775807) (hb0 : -9223372036854775808 ≤ b) (hb1 : b ≤ 9223372036854775807) (hc0 : -9223372036854775808 ≤ c) (hc1 : c ≤ 9223372036854775807) (hd0 : -9223372036854775808 ≤ d) (hd1 : d ≤ 9223372036854775807) :
    Calls Tryd.prog 8 #[.agg #[.int .i64 a, .int .i64 b], .agg #[.int .i64 c, .int .i64 d]] w fun e w' => e = .returned (.bool true) ∧ Below w.heap.size w w' := by
  have HT1 : Hid (∀ w, Tb w → Calls Tryd.prog 34 #[.agg #[.int .i64 a, .int .i64 b]] w fun e w' => e = .returned (.string ⟨(txt a b).toArray⟩) ∧ Below w.heap.size w w') := Lib.hid fun w h => text_any a b w h ha0 ha1 hb0 hb1
  have HT2 : Hid (∀ w, Tb w → Calls Tryd.prog 34 #[.agg #[.int .i64 c, .int .i64 d]] w fun e w' => e = .returned (.string ⟨(txt c d).toArray⟩) ∧ Below w.heap.size w w') := Lib.hid fun w h => text_any c d w h hc0 hc1 hd0 hd1
  have HDA : Hid (∀ w, Calls Tryd.prog 35 #[.string ⟨(Lib.itoa a).toArray⟩, .int .i64 a] w fun e w' => e = .returned (.bool true) ∧ w' = w) := Lib.hid fun w => digits_itoa a _ w rfl ha0 ha1
  have HDB : Hid (∀ w, Calls Tryd.prog 35 #[.string ⟨(Lib.itoa b).toArray⟩, .int .i64 b] w fun e w' => e = .returned (.bool true) ∧ w' = w) := Lib.hid fun w => digits_itoa b _ w rfl hb0 hb1
  have HX := txf a b ha0 ha1 hb0 hb1
  have HEQ : Hid ((⟨(txt c d).toArray⟩ : ByteArray) = ⟨(txt a b).toArray⟩ → c = a ∧ d = b) := Lib.hid fun h => txt_inj (by
    have := congrArg (fun x => x.data.toList) h
    simpa using this)
  have HEQ2 : Hid (c = a → d = b → (⟨(txt c d).toArray⟩ : ByteArray) = ⟨(txt a b).toArray⟩) := Lib.hid fun h1 h2 => by rw [h1, h2]
  generalize (⟨(txt a b).toArray⟩ : ByteArray) = S at *
  generalize (⟨(txt c d).toArray⟩ : ByteArray) = T at *
  generalize (⟨(Lib.itoa a).toArray⟩ : ByteArray) = A at *
  generalize (⟨(Lib.itoa b).toArray⟩ : ByteArray) = B at *
  generalize (Lib.itoa a).length = p at *
  generalize (Lib.itoa b).length = q at *
  obtain ⟨hpa, hqb, hp1, hq1, hpm, hqm, hsz, hleft, hdd1, hdd2, hsa, hsb⟩ := HX
  have HLEFT := Lib.hid hleft
  have HSZ := Lib.hid hsz
  have HSA := Lib.hid hsa
  have HSB := Lib.hid hsb
  have HD1 := Lib.hid hdd1
  have HD2 := Lib.hid hdd2
  have hsl : p + 2 < S.size := by omega
  have hsu : S.size ≤ 44 := by omega
  clear hleft hsz hsa hsb hdd1 hdd2 hpa hqb ha0 ha1 hb0 hb1 hc0 hc1 hd0 hd1
  go_enter Tryd.func8, Tryd.ntmps8
  go_wp2_with (fail)
  refine (HT1.out _ ((hT.below ((Below.refl _ _).alloc (Nat.le_refl _) _)).below ((Below.refl _ _).alloc (Nat.le_refl _) _))).mono ?_
  rintro e w1 ⟨rfl, hb1⟩
  have HB1 : Below w.heap.size w w1 := (((Below.refl _ _).alloc (Nat.le_refl _) _).alloc (by simp) _).trans (hb1.mono (by simp <;> omega))
  have hf := (hb1.block w.heap.size (by simp <;> omega)).trans (heap_alloc_some (heap_new_at rfl))
  have hv := (hb1.block (w.heap.size + 1) (by simp <;> omega)).trans (heap_new_at (by simp))
  have HF := Lib.hid hf
  have HV := Lib.hid hv
  have HTW := Lib.hid (hT.below HB1)
  clear hb1 hf hv hT
  go_wp2_with (fail)
  go_loop [6, 7] (fun dv iv => ∃ j : Nat, iv = .int .i64 (j : Int) ∧ j + 1 ≤ S.size ∧ ((dv = .int .i64 (-1) ∧ j ≤ p) ∨ (dv = .int .i64 (p : Int) ∧ p < j))) (fun _ iv => S.size - (intOf iv).toNat)
  case atStart => exact ⟨0, rfl, by omega, .inl ⟨rfl, by omega⟩⟩
  case round =>
    obtain ⟨j, rfl, hj, hc⟩ := hrel
    by_cases hlt : j + 1 < S.size
    · have hj0 : (0 : Int) ≤ (j : Int) := by omega
      have hjs : j < S.size := by omega
      have hj1 : (j : Int) < (S.size : Int) := by omega
      have hj2 : (j : Int) + 1 < (S.size : Int) := by omega
      have hjw : IntKind.i64.wrap ((j : Int) + 1) = (j : Int) + 1 := IntWalk.i64_in _ (by omega)
      obtain ⟨x, hx⟩ : ∃ x, x = S[j] := ⟨_, rfl⟩
      obtain ⟨y, hy⟩ : ∃ y, y = S[j + 1] := ⟨_, rfl⟩
      have hx' : S[j] = x := hx.symm
      have hy' : S[j + 1] = y := hy.symm
      rcases hc with ⟨rfl, hc⟩ | ⟨rfl, hc⟩
      · by_cases hjp : j = p
        · have e1 : ((x.toNat : Int) == 46) = true := by have := HD1.out (by omega); subst hjp; rw [hx, this]; rfl
          have e2 : ((y.toNat : Int) == 46) = true := by have := HD2.out (by omega); subst hjp; rw [hy, this]; rfl
          clear hx hy
          subst hjp
          clear hc
          go_wp2_with (fail)
          go_round
          case rel => exact ⟨j + 1, by go_num, by omega, .inr ⟨rfl, by omega⟩⟩
          case measure => simp [intOf] <;> omega
        · have e1 : ((x.toNat : Int) == 46) = false := by
            have h := HLEFT.out j hjs (by omega)
            rw [← hx] at h
            simp
            intro h2
            have h46 : (46 : UInt8).toNat = 46 := rfl
            exact h (UInt8.toNat_inj.1 (by omega))
          clear hx hy
          go_wp2_with (fail)
          go_round
          case rel => exact ⟨j + 1, by go_num, by omega, .inl ⟨rfl, by omega⟩⟩
          case measure => simp [intOf] <;> omega
      · have hpn : decide ((p : Int) < 0) = false := by simp
        have hpn2 : ¬ (p : Int) < 0 := by omega
        clear hx hy
        cases e1 : ((x.toNat : Int) == 46) with
        | false =>
          go_wp2_with (fail)
          go_round
          case rel => exact ⟨j + 1, by go_num, by omega, .inr ⟨rfl, by omega⟩⟩
          case measure => simp [intOf] <;> omega
        | true =>
          cases e2 : ((y.toNat : Int) == 46) with
          | false =>
            go_wp2_with (fail)
            go_round
            case rel => exact ⟨j + 1, by go_num, by omega, .inr ⟨rfl, by omega⟩⟩
            case measure => simp [intOf] <;> omega
          | true =>
            go_wp2_with (fail)
            go_round
            case rel => exact ⟨j + 1, by go_num, by omega, .inr ⟨rfl, by omega⟩⟩
            case measure => simp [intOf] <;> omega
    · have hjS : j + 1 = S.size := by omega
      rcases hc with ⟨rfl, hc⟩ | ⟨rfl, hc⟩
      · omega
      · have hnl : ¬ (j : Int) + 1 < (S.size : Int) := by omega
        have hp0 : (0 : Int) ≤ (p : Int) := by omega
        have hpn : decide ((p : Int) < 0) = false := by simp
        have hps : (p : Int) ≤ (S.size : Int) := by omega
        have hps2 : (p : Int) + 2 ≤ (S.size : Int) := by omega
        have q2 : IntKind.i64.wrap ((p : Int) + 2) = (p : Int) + 2 := IntWalk.i64_in _ (by omega)
        have hjw : IntKind.i64.wrap ((j : Int) + 1) = (j : Int) + 1 := IntWalk.i64_in _ (by omega)
        have hsa := HSA.out
        have hsb := HSB.out
        obtain ⟨f0, f1⟩ := box2 HF.out
        obtain ⟨v0, v1⟩ := box2 HV.out
        have hfl := cell_lt HF.out
        have hvl := cell_lt HV.out
        clear hjS
        go_wp2_with (fail)
        go_quiet ((first
          | (go_at_call 35; (with_reducible exact Calls.quiet_of_same (HDA.out _)))
          | (go_at_call 35; (with_reducible exact Calls.quiet_of_same (HDB.out _)))))
        go_wp2_with (fail)
        have hb2 := below_drewN HB1 nq
        have HTW2 : Hid (Tb (w1.drewN nq)) := Lib.hid (HTW.out.kept rfl)
        have k0 : (w1.drewN nq).cell? ⟨w.heap.size, 0, none⟩ = some (.int .i64 a) := f0
        have k1 : (w1.drewN nq).cell? ⟨w.heap.size, 1, none⟩ = some (.int .i64 b) := f1
        have k2 : (w1.drewN nq).cell? ⟨w.heap.size + 1, 0, none⟩ = some (.int .i64 c) := v0
        have k3 : (w1.drewN nq).cell? ⟨w.heap.size + 1, 1, none⟩ = some (.int .i64 d) := v1
        have l1 : w.heap.size < (w1.drewN nq).heap.size := hfl
        have l2 : w.heap.size + 1 < (w1.drewN nq).heap.size := hvl
        have HB2 := Lib.hid hb2
        clear hb2 f0 f1 v0 v1 hfl hvl hsa hsb
        generalize w1.drewN nq = W at *
        have g0 := Wb.cell k0 l1
        have g1 := Wb.cell k1 l1
        have g2 := Wb.cell k2 l2
        have g3 := Wb.cell k3 l2
        clear k0 k1 k2 k3
        by_cases hca : c = a
        · by_cases hdb : d = b
          · obtain rfl : T = S := HEQ2.out hca hdb
            subst hca; subst hdb
            refine wp_region_quiet_below (by kernel_rfl) (by kernel_rfl) ?_
            repeat (go_big_quiet_step ((first
              | (go_at_call 34; (with_reducible exact Wb.call (HT2.out _ (HTW2.out.below (Wb.h _)))))
              | (go_at_call 17; exact Wb.call (awake_any _)))))
            refine wpQuiet_nil ?_
            rintro _ ⟨⟨wc, HBc⟩, rfl⟩
            go_wp2_with (fail)
            go_ret
            exact ⟨rfl, HB2.out.trans (HBc.mono HB2.out.size)⟩
          · have hTS : ¬ T = S := fun h => hdb (HEQ.out h).2
            subst hca
            have hd1 : (d == b) = false := by simpa using hdb
            have hd4 : (T.toList == S.toList) = false := str_ne hTS
            have hd5 : ¬ T.toList = S.toList := str_ne2 hTS
            refine wp_region_quiet_below (by kernel_rfl) (by kernel_rfl) ?_
            repeat (go_big_quiet_step ((first
              | (go_at_call 34; (with_reducible exact Wb.call (HT2.out _ (HTW2.out.below (Wb.h _)))))
              | (go_at_call 17; exact Wb.call (awake_any _)))))
            refine wpQuiet_nil ?_
            rintro _ ⟨⟨wc, HBc⟩, rfl⟩
            go_wp2_with (fail)
            go_ret
            exact ⟨rfl, HB2.out.trans (HBc.mono HB2.out.size)⟩
        · have hTS : ¬ T = S := fun h => hca (HEQ.out h).1
          have hd1 : (c == a) = false := by simpa using hca
          have hd4 : (T.toList == S.toList) = false := str_ne hTS
          have hd5 : ¬ T.toList = S.toList := str_ne2 hTS
          refine wp_region_quiet_below (by kernel_rfl) (by kernel_rfl) ?_
          repeat (go_big_quiet_step ((first
            | (go_at_call 34; (with_reducible exact Wb.call (HT2.out _ (HTW2.out.below (Wb.h _)))))
            | (go_at_call 17; exact Wb.call (awake_any _)))))
          refine wpQuiet_nil ?_
          rintro _ ⟨⟨wc, HBc⟩, rfl⟩
          go_wp2_with (fail)
          go_ret
          exact ⟨rfl, HB2.out.trans (HBc.mono HB2.out.size)⟩

end Go.Proofs.YtofollamkcgknaaDoor
