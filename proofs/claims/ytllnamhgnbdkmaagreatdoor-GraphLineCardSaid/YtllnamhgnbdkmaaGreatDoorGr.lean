/-
Stage 11: GraphLine.
-/
import Derived.Test.YtllnamhgnbdkmaaGreatDoorGq
import Derived.Test.YtllnamhgnbdkmaaGreatDoorYs
import Derived.Test.YtllnamhgnbdkmaaGreatDoorSf
set_option linter.unusedVariables false
set_option linter.unusedSimpArgs false
namespace Go.Proofs.YtllnamhgnbdkmaaGreatDoor
open Go.RowKit Go.Shelf Go.Sort
theorem chk_ne40 (l : List Gn) : (chkAll l).2 ≠ 40 := by
  unfold chkAll
  split
  · decide
  · split
    · rename_i i hi
      show okN l i ≠ 40
      unfold okN
      split
      · rw [chkN_eq]
        split
        · split
          · split <;> decide
          · decide
        · decide
      · decide
    · decide
theorem parse_line {l : List Gn} (h : OkG l) {line : List UInt8} (hl : ∀ b ∈ line, b ≠ 10) : (lineR placesP line = none → parseP placesP (textP l ++ line ++ [10]) = (l.length, 40, [])) ∧ ∀ n, lineR placesP line = some n → (parseP placesP (textP l ++ line ++ [10])).2.1 ≠ 40 := by
  have h1 : ∀ n ∈ l, lineR placesP (lineP n) = some n ∧ ∀ b ∈ lineP n, b ≠ 10 := fun n hn => by
    obtain ⟨i, hi, rfl⟩ := List.getElem_of_mem hn
    have ho := h.each i _ (List.getElem?_eq_getElem hi)
    exact ⟨lineR_text placesP_rd ho h.few, line_10 placesP_rd ho h.few⟩
  have hr := rdLines_more hl l _ h1 (Nat.le_refl _)
  refine ⟨fun hn => ?_, fun n hn => ?_⟩
  · rw [hn] at hr
    unfold parseP
    rw [hr]
  · rw [hn] at hr
    rw [parseP_of hr]
    split
    · show (0 : Int) ≠ 40; decide
    · exact chk_ne40 _
set_option maxRecDepth 100000 in
set_option maxHeartbeats 4000000 in
theorem gline_any (w : World) (S : Nat → Prop) (d : Nat) (v : Value) (l : List Gn) (s : List UInt8) (h : GsAt w S d v l) (hl : l.length ≤ 9223372036854775807) (hr : ∀ n ∈ l, GnR n) (hG : Gk w) :
    Calls Tryz.prog 8 #[v, .string ⟨s.toArray⟩] w fun e w' => e = .returned (.bool true) ∧ Below w.heap.size w w' := by
  obtain ⟨GA, gc, rfl⟩ := h.form
  have HAW : Hid (∀ W, Below w.heap.size w W → Calls Tryz.prog 11 #[] W fun e w' => e = .returned (.bool true) ∧ Below W.heap.size W w') := Lib.hid fun W hb => awake_any placesOf_any placesP_ok.two W (hG.below hb)
  have HSL := Lib.hid (small_any w S d _ l h hl)
  have H := Lib.hid h
  have HR := Lib.hid hr
  have HG := Lib.hid hG
  have hsz := size_list s
  have HSZ := Lib.hid hsz
  clear h hr hG
  go_enter Tryz.func8, Tryz.ntmps8
  go_wp2_with (fail)
  refine HSL.out.mono ?_
  rintro e w1 ⟨⟨b, rfl, hsm⟩, hb1⟩
  have HB1 := Lib.hid hb1
  cases b with
  | false =>
    clear hsm hb1
    go_wp2_with (first
      | (go_at_call 11; (with_reducible refine (HAW.out _ HB1.out).mono ?_); rintro e w9 ⟨rfl, hb9⟩; have HB9 := Lib.hid (HB1.out.trans (hb9.mono HB1.out.size)); clear hb9)
      | fail)
    go_ret
    exact ⟨rfl, HB9.out⟩
  | true =>
    obtain ⟨hl100, hsn⟩ := hsm rfl
    have HSN := Lib.hid hsn
    clear hsm hb1 hsn
    by_cases hbig : 3000 < s.length
    · have hb3 : (3000 : Int) < (s.length : Int) := by omega
      go_wp2_with (first
        | (go_at_call 11; (with_reducible refine (HAW.out _ HB1.out).mono ?_); rintro e w9 ⟨rfl, hb9⟩; have HB9 := Lib.hid (HB1.out.trans (hb9.mono HB1.out.size)); clear hb9)
        | fail)
      go_ret
      exact ⟨rfl, HB9.out⟩
    have hb3 : ¬ (3000 : Int) < (s.length : Int) := by omega
    have HCK := Lib.hid (rcheck_any w1 S d _ l (H.out.below HB1.out) HSN.out (by omega))
    by_cases hck : (chkAll l).2 ≠ 0
    · have e2 : ((chkAll l).2 != 0) = true := by simp [hck]
      clear hck
      go_wp2_with (first
        | (go_at_call 14; (with_reducible refine HCK.out.mono ?_); rintro e w2 ⟨rfl, hb2⟩; have HB2 := Lib.hid (HB1.out.trans (hb2.mono HB1.out.size)); clear hb2)
        | (go_at_call 11; (with_reducible refine (HAW.out _ HB2.out).mono ?_); rintro e w9 ⟨rfl, hb9⟩; have HB9 := Lib.hid (HB2.out.trans (hb9.mono HB2.out.size)); clear hb9)
        | fail)
      go_ret
      exact ⟨rfl, HB9.out⟩
    have hck : (chkAll l).2 = 0 := Decidable.not_not.1 hck
    have e2 : ((chkAll l).2 != 0) = false := by simp [hck]
    obtain ⟨hok, hck2⟩ := okG hck
    have HOK := Lib.hid hok
    have hts := textP_short hok HR.out
    have HTS := Lib.hid hts
    have hl32 := hok.few
    clear hck hck2 hok hts
    go_wp2_with (first
      | (go_at_call 14; (with_reducible refine HCK.out.mono ?_); rintro e w2 ⟨rfl, hb2⟩; have HB2 := Lib.hid (HB1.out.trans (hb2.mono HB1.out.size)); clear hb2)
      | fail)
    go_loopw [7] (fun nv wr => ∃ (pos : Nat), wr.heap[w2.heap.size]? = some (.stringIter ⟨s.toArray⟩ pos) ∧ Hid (Below w2.heap.size w2 wr) ∧ pos ≤ s.length ∧ Hid (s.count 10 = (s.drop pos).count 10)) (fun _ wr => s.length - wr.iterPos w2.heap.size)
    case atStart => exact ⟨0, heap_alloc_new w2 _, Lib.hid ((Below.refl _ _).alloc (Nat.le_refl _) _), Nat.zero_le _, Lib.hid rfl⟩
    case round =>
      obtain ⟨pos, hit, HBW, hps, HC⟩ := hrel
      have hpos0 := iterPos_of hit
      have HBB := Lib.hid (HB2.out.trans (HBW.out.mono HB2.out.size))
      by_cases hp : pos < s.length
      · have hnx : ∀ ty, (Instr.next (.pointer (some ⟨w2.heap.size, 0, none⟩)) true ty).run Tryz.prog wr = _ := fun ty => Lib.run_next_any_at wr w2.heap.size ⟨s.toArray⟩ pos ty hit (by rw [hsz]; exact hp)
        obtain ⟨hw1, hw2, _⟩ := rune_list s pos hp
        have hcr := count_rune s pos hp
        have hit2 := Lib.iterAt_heap wr w2.heap.size ⟨s.toArray⟩ pos (pos + (Utf8.decode ⟨s.toArray⟩ pos).2) hit
        have hbw2 := Lib.below_iterAt HBW.out (k := w2.heap.size) (Nat.le_refl _) ⟨s.toArray⟩ (pos + (Utf8.decode ⟨s.toArray⟩ pos).2)
        obtain ⟨W1, hW1⟩ : ∃ W1, W1 = wr.iterAt w2.heap.size ⟨s.toArray⟩ (pos + (Utf8.decode ⟨s.toArray⟩ pos).2) := ⟨_, rfl⟩
        rw [← hW1] at hnx hit2 hbw2
        have HBW2 := Lib.hid hbw2
        have HB5 := Lib.hid (HB2.out.trans (hbw2.mono HB2.out.size))
        generalize (Utf8.decode ⟨s.toArray⟩ pos).2 = wd at *
        clear hW1 hit hbw2
        have hh : pos < (ByteArray.mk s.toArray).size := by rw [hsz]; exact hp
        have hgx : (ByteArray.mk s.toArray)[pos]'hh = s[pos] := rfl
        by_cases e10 : s[pos] = 10
        · have hq : ((((ByteArray.mk s.toArray)[pos]'hh).toNat : Int) == 10) = true := by rw [hgx, e10]; decide
          clear hcr e10 hgx
          go_wp2_with (first
            | (go_at_call 11; (with_reducible refine (HAW.out _ HB5.out).mono ?_); rintro e w9 ⟨rfl, hb9⟩; have HB9 := Lib.hid (HB5.out.trans (hb9.mono HB5.out.size)); clear hb9)
            | fail)
          go_ret
          exact ⟨rfl, HB9.out⟩
        · have hq : ((((ByteArray.mk s.toArray)[pos]'hh).toNat : Int) == 10) = false := by
            rw [hgx]
            simp only [beq_eq_false_iff_ne, ne_eq]
            intro e
            exact e10 (UInt8.toNat_inj.1 (by have : (10 : UInt8).toNat = 10 := rfl; omega))
          rw [if_neg e10, Nat.zero_add] at hcr
          have HC2 : Hid (s.count 10 = (s.drop (pos + wd)).count 10) := Lib.hid (HC.out.trans hcr)
          clear hcr e10 hgx
          go_wp2_with (fail)
          go_roundw
          case rel => exact ⟨pos + wd, hit2, HBW2, hw2, HC2⟩
          case measure => rw [iterPos_of hit2, hpos0]; omega
      · have hnx : ∀ ty, (Instr.next (.pointer (some ⟨w2.heap.size, 0, none⟩)) true ty).run Tryz.prog wr = _ := fun ty => Lib.run_next_end_at wr w2.heap.size ⟨s.toArray⟩ pos ty hit (by rw [hsz]; exact hp)
        have hno : ∀ b ∈ s, b ≠ 10 := by
          have h0 := HC.out
          rw [List.drop_of_length_le (by omega)] at h0
          intro b hb e
          subst e
          have := List.count_pos_iff.2 hb
          simp at h0
          omega
        obtain ⟨hpn, hpy⟩ := parse_line HOK.out hno
        have hsh := rshowP_any wr S d _ l (H.out.below HBB.out) HOK.out hl32 HR.out
        have hre := fun W => rread_any s W (by omega)
        obtain ⟨T, hT⟩ : ∃ T, T = textP l := ⟨_, rfl⟩
        have hpa : ∀ W, Below w.heap.size w W → Calls Tryz.prog 16 #[.string ⟨(T ++ s ++ [10]).toArray⟩] W fun e w' => ParseOut W w' e (parseP placesP (T ++ s ++ [10])) := fun W hb => parse_any placesOf_any placesP_ok.two (T ++ s ++ [10]) W (by rw [hT]; have := HTS.out; simp only [List.length_append, List.length_singleton]; omega) (HG.out.below hb)
        rw [← hT] at hpn hpy hsh
        have HTT : Hid (T.length ≤ 200000) := Lib.hid (by rw [hT]; exact HTS.out)
        have HSH := Lib.hid hsh
        have HRE := Lib.hid hre
        have HPA := Lib.hid hpa
        have HPN := Lib.hid hpn
        have HPY := Lib.hid hpy
        obtain ⟨k, e0, L, hpe⟩ : ∃ k e0 L, parseP placesP (T ++ s ++ [10]) = (k, e0, L) := ⟨_, _, _, rfl⟩
        rw [hpe] at HPA HPN HPY
        clear hpn hpy hsh hre hpa hno hT hpe
        generalize lineR placesP s = o at *
        have zT : (ByteArray.mk T.toArray).size ≤ 200000 := by rw [size_list]; exact HTT.out
        have zS : (ByteArray.mk s.toArray).size ≤ 3000 := by rw [hsz]; omega
        obtain ⟨E0, hE0⟩ : ∃ B : ByteArray, B = (⟨T.toArray⟩ : ByteArray) ++ (⟨s.toArray⟩ : ByteArray) := ⟨_, rfl⟩
        have y0 : E0.size ≤ 203000 := by rw [hE0, ByteArray.size_append]; omega
        have a0 : ∀ w' : World, (Op.stringOp .add (⟨T.toArray⟩ : ByteArray) (⟨s.toArray⟩ : ByteArray)).run Tryz.prog w' = .ok (.string E0) w' := fun w' => by
          rw [hE0]
          refine run_string_add_sum _ _ _ ?_
          rw [← ByteArray.size_append, ← hE0]
          omega
        obtain ⟨E1, hE1⟩ : ∃ B : ByteArray, B = (E0 : ByteArray) ++ (⟨#[10]⟩ : ByteArray) := ⟨_, rfl⟩
        have y1 : E1.size ≤ 203001 := by
          rw [hE1, ByteArray.size_append]
          have s2 : (⟨#[10]⟩ : ByteArray).size = 1 := rfl
          omega
        have a1 : ∀ w' : World, (Op.stringOp .add (E0 : ByteArray) (⟨#[10]⟩ : ByteArray)).run Tryz.prog w' = .ok (.string E1) w' := fun w' => by
          rw [hE1]
          refine run_string_add_sum _ _ _ ?_
          rw [← ByteArray.size_append, ← hE1]
          omega
        have hEE : (⟨(T ++ s ++ [10]).toArray⟩ : ByteArray) = E1 := by
          rw [hE1, hE0]
          apply ByteArray.ext
          simp [ByteArray.data_append]
        rw [hEE] at HPA
        clear hE0 hE1 y0 y1 zT zS hEE
        cases o with
        | none =>
          obtain ⟨rfl, rfl, rfl⟩ : k = l.length ∧ e0 = 40 ∧ L = [] := by
            have := HPN.out rfl
            simp only [Prod.mk.injEq] at this
            exact this
          go_wp2_with (first
            | (go_at_call 17; (with_reducible refine HSH.out.mono ?_); rintro e w3 ⟨rfl, hb3⟩; have HB3 := Lib.hid (HBB.out.trans (hb3.mono HBB.out.size)); clear hb3)
            | (go_at_call 16; (with_reducible refine (HPA.out _ HB3.out).mono ?_); rintro e w4 ⟨⟨v4, rfl, hg4⟩, hb4⟩; obtain ⟨A4, c4, rfl⟩ := hg4.form; dsimp only at hg4 ⊢; have HB4 := Lib.hid (HB3.out.trans (hb4.mono HB3.out.size)); clear hg4 hb4)
            | (go_at_call 38; (with_reducible refine (HRE.out _).mono ?_); rintro e w5 ⟨⟨n, IA, SA, A, ic, sc, c, he, _, _⟩, hb5⟩; obtain rfl : e = _ := he; unfold Gn.val; have HB5 := Lib.hid ((bl_al HB4.out _).trans (hb5.mono (bl_al HB4.out _).size)); clear hb5)
            | (go_at_call 11; (with_reducible refine (HAW.out _ (bl_al HB5.out _)).mono ?_); rintro e w9 ⟨rfl, hb9⟩; have HB9 := Lib.hid ((bl_al HB5.out _).trans (hb9.mono (bl_al HB5.out _).size)); clear hb9)
            | fail)
          go_ret
          exact ⟨rfl, HB9.out⟩
        | some m =>
          have he40 : (e0 != 40) = true := by simpa using HPY.out m rfl
          clear HPN HPY
          go_wp2_with (first
            | (go_at_call 17; (with_reducible refine HSH.out.mono ?_); rintro e w3 ⟨rfl, hb3⟩; have HB3 := Lib.hid (HBB.out.trans (hb3.mono HBB.out.size)); clear hb3)
            | (go_at_call 16; (with_reducible refine (HPA.out _ HB3.out).mono ?_); rintro e w4 ⟨⟨v4, rfl, hg4⟩, hb4⟩; obtain ⟨A4, c4, rfl⟩ := hg4.form; dsimp only at hg4 ⊢; have HB4 := Lib.hid (HB3.out.trans (hb4.mono HB3.out.size)); clear hg4 hb4)
            | (go_at_call 38; (with_reducible refine (HRE.out _).mono ?_); rintro e w5 ⟨⟨n, IA, SA, A, ic, sc, c, he, _, _⟩, hb5⟩; obtain rfl : e = _ := he; unfold Gn.val; have HB5 := Lib.hid ((bl_al HB4.out _).trans (hb5.mono (bl_al HB4.out _).size)); clear hb5)
            | (go_at_call 11; (with_reducible refine (HAW.out _ (bl_al HB5.out _)).mono ?_); rintro e w9 ⟨rfl, hb9⟩; have HB9 := Lib.hid ((bl_al HB5.out _).trans (hb9.mono (bl_al HB5.out _).size)); clear hb9)
            | fail)
          go_ret
          exact ⟨rfl, HB9.out⟩
end Go.Proofs.YtllnamhgnbdkmaaGreatDoor
