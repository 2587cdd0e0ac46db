/-
The walk of PaneCounts.
-/
import Derived.Test.YtkgomnegeacceaaPw
set_option linter.unusedVariables false
namespace Go.Proofs.Ytkgomnegeacceaa
open Go.RowKit

set_option maxRecDepth 100000 in
set_option maxHeartbeats 2000000 in
theorem counts_long (v : Value) (l : List Tr) (w : World) (h : TsAt w v l) (hl : 500 < l.length) (hl2 : l.length ≤ 9223372036854775807) :
    Calls Try.prog 6 #[v] w fun e w' => e = .returned (.bool true) ∧ Below w.heap.size w w' := by
  obtain ⟨a, c, rfl, hlc, _⟩ := h
  have hd : decide ((500 : Int) < (l.length : Int)) = true := decide_eq_true (by omega)
  go_enter Try.func6, Try.ntmps6
  go_wp2_with (first
    | (go_at_call 7; refine (new_any _).mono ?_; rintro e w1 ⟨rfl, rfl⟩)
    | (go_at_call 8; refine (awake_any _).mono ?_; rintro e wc ⟨rfl, hbc⟩))
  go_ret
  exact ⟨rfl, ((Below.refl _ w).alloc (Nat.le_refl _) _).trans (hbc.mono (by simp))⟩

set_option maxRecDepth 100000 in
set_option maxHeartbeats 4000000 in
theorem counts_short (v : Value) (l : List Tr) (w : World) (h : TsAt w v l) (hl : l.length ≤ 500) :
    Calls Try.prog 6 #[v] w fun e w' => e = .returned (.bool true) ∧ Below w.heap.size w w' := by
  obtain ⟨a, c, rfl, hlc, hA⟩ := h
  have HA := Lib.hid hA
  clear hA
  have hd : decide ((500 : Int) < (l.length : Int)) = false := decide_eq_false (by omega)
  go_enter Try.func6, Try.ntmps6
  go_wp2_with (go_at_call 7; refine (new_any _).mono ?_; rintro e w1 ⟨rfl, rfl⟩)
  go_loopw [4, 5, 6, 26] (fun fv ov vv iv wr => ∃ (j n : Nat) (k s : Int) (bo : Bool), iv = .int .i64 (j : Int) ∧ j ≤ l.length ∧ n ≤ j ∧ fv = .int .i64 (n : Int) ∧ ov = .int .i64 k ∧ vv = .bool bo ∧ 0 ≤ k ∧ k ≤ 1 ∧ Hid ((s = 0 → k = 0) ∧ (bo = true ↔ s = 3)) ∧ Hid (Ln wr w.heap.size n s) ∧ Hid (Below w.heap.size w wr)) (fun _ _ _ iv _ => l.length - (intOf iv).toNat)
  case atStart => exact ⟨0, 0, 0, 0, false, rfl, Nat.zero_le _, Nat.le_refl _, rfl, rfl, rfl, by decide, by decide, Lib.hid ⟨fun _ => rfl, by decide⟩, Lib.hid (heap_alloc_new w _), Lib.hid ((Below.refl _ _).alloc (Nat.le_refl _) _)⟩
  case round =>
    obtain ⟨j, n, k, s, bo, rfl, hj, hnj, rfl, rfl, rfl, hk0, hk1, HS, HLN, HB⟩ := hrel
    have hsr := HB.out.size
    have hgr : w.heap.size < wr.heap.size := cell_lt HLN.out
    by_cases hlt : j < l.length
    · obtain ⟨b, o, rfl, hb2, hcells⟩ := HA.out (by omega)
      have hx := List.getElem?_eq_getElem hlt
      obtain ⟨c0, c1⟩ := hcells j _ hx
      generalize l[j] = x at *
      obtain ⟨t, q⟩ := x
      dsimp only at c0 c1
      have c0 := (HB.out.cell (p := ⟨b, o + j * 2, none⟩) hb2).trans c0
      have c1 := (HB.out.cell (p := ⟨b, o + j * 2 + 1, none⟩) hb2).trans c1
      have hbr : b < wr.heap.size := by omega
      have hj0' : (0 : Int) ≤ (j : Int) := by omega
      have hj1' : (j : Int) < (l.length : Int) := by omega
      clear hx hcells
      go_upto_region 8 with (fail)
      have hA6 : (wr.alloc (.cells #[.int .i64 t, .bool q] 28)).heap[wr.heap.size]? = some (.cells #[.int .i64 t, .bool q] 28 (0, 0)) := heap_alloc_new wr _
      have hLW : Ln (wr.alloc (.cells #[.int .i64 t, .bool q] 28)) w.heap.size n s := heap_alloc_some HLN.out
      have hBW : Below w.heap.size w (wr.alloc (.cells #[.int .i64 t, .bool q] 28)) := HB.out.alloc hsr _
      have hWs : wr.heap.size < (wr.alloc (.cells #[.int .i64 t, .bool q] 28)).heap.size := by simp
      generalize wr.alloc (.cells #[.int .i64 t, .bool q] 28) = W at hA6 hLW hBW hWs ⊢
      have a0 := cell2_0 hA6
      have a1 := cell2_1 hA6
      have HA6 := Lib.hid hA6
      have HLW := Lib.hid hLW
      have HBW := Lib.hid hBW
      have hlW := cell_lt hLW
      clear hA6 hLW hBW c0 c1
      by_cases hok : okF s t
      · have HOK := Lib.hid hok
        have hbo : bo = false := by
          cases bo with
          | false => rfl
          | true => exact absurd (HS.out.2.1 rfl) hok.2.2.1
        subst hbo
        have HC := Lib.hid (fire_yes w.heap.size n s t q W HLW.out (by omega) (by omega) hok)
        have HSF : Hid (stF t q = if q = true then 3 else t) := Lib.hid (stF_eq q hok.1 hok.2.1)
        have hrk : IntKind.i64.wrap (k + 1) = k + 1 := IntWalk.i64_in _ (by omega)
        have hrn : IntKind.i64.wrap ((n : Int) + 1) = (n : Int) + 1 := IntWalk.i64_in _ (by omega)
        clear hok
        by_cases h1 : t = 1
        · subst h1
          have HK : Hid (k = 0) := Lib.hid (HS.out.1 (by rcases HOK.out.2.2.2 with h | h; cases h; exact h))
          go_wp2_with (first
            | (go_at_call 9; (with_reducible refine HC.out.mono ?_); rintro e w2 ⟨rfl, hl2, ho2⟩; have HOL := Lib.hid ho2; have HL2 := Lib.hid hl2; have hB7 := ho2.at HA6.out (by omega); have b0 := cell2_0 hB7; have b1 := cell2_1 hB7; have hbl := cell_lt hB7; have hsz2 := ho2.size; clear hl2 ho2 hB7))
          go_roundw
          case rel =>
            refine ⟨j + 1, n + 1, k + 1, stF 1 q, q, by go_num, by omega, by omega, by simp, rfl, rfl, by omega, by have := HK.out; omega, Lib.hid ⟨fun h => ?_, ?_⟩, Lib.hid ?_, Lib.hid ?_⟩
            · rw [HSF.out] at h; cases q <;> simp at h
            · rw [HSF.out]; cases q <;> simp
            · exact_mod_cast heap_alloc_some HL2.out
            · exact (HBW.out.trans (HOL.out.below (Nat.le_refl _) (by omega))).alloc (by omega) _
          case measure => simp [intOf]; omega
        · have d1 : (t == 1) = false := by simp [h1]
          have H1 := Lib.hid h1
          clear h1
          go_wp2_with (first
            | (go_at_call 9; (with_reducible refine HC.out.mono ?_); rintro e w2 ⟨rfl, hl2, ho2⟩; have HOL := Lib.hid ho2; have HL2 := Lib.hid hl2; have hB7 := ho2.at HA6.out (by omega); have b0 := cell2_0 hB7; have b1 := cell2_1 hB7; have hbl := cell_lt hB7; have hsz2 := ho2.size; clear hl2 ho2 hB7))
          go_roundw
          case rel =>
            refine ⟨j + 1, n + 1, k, stF t q, q, by go_num, by omega, by omega, by simp, rfl, rfl, by omega, by omega, Lib.hid ⟨fun h => ?_, ?_⟩, Lib.hid ?_, Lib.hid ?_⟩
            · rw [HSF.out] at h
              cases q
              · simp at h
                refine HS.out.1 ?_
                rcases HOK.out.2.2.2 with e | e
                · omega
                · exact e
              · simp at h
            · rw [HSF.out]
              cases q
              · simp
                have := HOK.out.2.1
                omega
              · simp
            · exact_mod_cast heap_alloc_some HL2.out
            · exact (HBW.out.trans (HOL.out.below (Nat.le_refl _) (by omega))).alloc (by omega) _
          case measure => simp [intOf]; omega
      · have HOK := Lib.hid hok
        clear hok
        have HC := Lib.hid (fire_no w.heap.size n s t q W HLW.out HOK.out)
        go_wp2_with (first
          | (go_at_call 9; (with_reducible refine HC.out.mono ?_); rintro e w2 ⟨rfl, hb2⟩; have HB2 := Lib.hid hb2; clear hb2))
        go_roundw
        case rel =>
          have hsz := HB2.out.size
          exact ⟨j + 1, n, k, s, bo, by go_num, by omega, by omega, rfl, rfl, rfl, hk0, hk1, HS, Lib.hid (heap_alloc_some ((HB2.out.block _ (cell_lt HLW.out)).trans HLW.out)), Lib.hid ((HBW.out.trans (HB2.out.mono (by omega))).alloc (by omega) _)⟩
        case measure => simp [intOf]; omega
    · obtain rfl : j = l.length := by omega
      have HNX := Lib.hid (next_any w.heap.size _ _ wr HLN.out)
      have HST := Lib.hid (stage_any w.heap.size _ _ wr HLN.out)
      have dk : decide (k ≤ 1) = true := decide_eq_true hk1
      have ds : (s == 3) = bo := by
        have := HS.out.2
        cases bo with
        | true => simp [this.1 rfl]
        | false =>
          simp
          intro h
          exact Bool.false_ne_true (this.2 h)
      have HDS := Lib.hid ds
      clear ds
      cases bo with
      | true =>
        have hs3 : s = 3 := HS.out.2.1 rfl
        subst hs3
        go_wp2_with (first
          | (go_at_call 11; (with_reducible refine HNX.out.mono ?_); rintro e wx ⟨rfl, rfl⟩)
          | (go_at_call 12; (with_reducible refine HST.out.mono ?_); rintro e wx ⟨rfl, rfl⟩)
          | (go_at_call 8; refine (awake_any _).mono ?_; rintro e wc ⟨rfl, hbc⟩))
        go_ret
        exact ⟨rfl, HB.out.trans (hbc.mono hsr)⟩
      | false =>
        have ds := HDS.out
        go_wp2_with (first
          | (go_at_call 11; (with_reducible refine HNX.out.mono ?_); rintro e wx ⟨rfl, rfl⟩)
          | (go_at_call 12; (with_reducible refine HST.out.mono ?_); rintro e wx ⟨rfl, rfl⟩)
          | (go_at_call 8; refine (awake_any _).mono ?_; rintro e wc ⟨rfl, hbc⟩))
        go_ret
        exact ⟨rfl, HB.out.trans (hbc.mono hsr)⟩

end Go.Proofs.Ytkgomnegeacceaa
