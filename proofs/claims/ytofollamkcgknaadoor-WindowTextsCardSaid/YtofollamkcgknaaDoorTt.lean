/-
Text, for every window.
-/
import Derived.Test.YtofollamkcgknaaDoorOr
import Derived.Lib.ItoaLen
set_option linter.unusedVariables false
namespace Go.Proofs.YtofollamkcgknaaDoor
open Go.RowKit

/-- The table of powers of ten lies as the text says. -/
def Tb (w : World) : Prop := Lib.TabIs Tryd.prog w "internal/strconv.uint64pow10" .u64 Lib.pow10Tab
theorem gPow : Tryd.prog.globalNamed "internal/strconv.uint64pow10" = some 0 := by kernel_rfl
theorem Tb.kept {w w' : World} (h : Tb w) (hw : w'.heap[0]? = w.heap[0]?) : Tb w' := by
  unfold Tb Lib.TabIs World.var? at *
  rw [gPow] at *
  simp only [Option.bind_some] at *
  rw [hw]
  exact h
theorem Tb.lt {w : World} (h : Tb w) : 0 < w.heap.size := by
  unfold Tb Lib.TabIs World.var? at h
  rw [gPow] at h
  simp only [Option.bind_some] at h
  by_cases hl : 0 < w.heap.size
  · exact hl
  · rw [Array.getElem?_eq_none (by omega)] at h
    simp at h
theorem Tb.below {w w' : World} (h : Tb w) (hb : Below w.heap.size w w') : Tb w' := h.kept (hb.block _ h.lt)

theorem itoa_b (n : Int) (h0 : -9223372036854775808 ≤ n) (h1 : n ≤ 9223372036854775807) (w : World) (hT : Tb w) : Calls Tryd.prog 43 #[.int .i64 n] w fun e w' => e = .returned (.string ⟨(Lib.itoa n).toArray⟩) ∧ Below w.heap.size w w' :=
  (Tryd.strconv_Itoa n h0 h1 w hT).mono fun e w' ⟨he, hw⟩ => ⟨he, below_grow hw⟩

/-- The text of a window. -/
def txt (a b : Int) : List UInt8 := Lib.itoa a ++ [46, 46] ++ Lib.itoa b

set_option maxRecDepth 100000 in
set_option maxHeartbeats 1000000 in
theorem text_any (a b : Int) (w : World) (hT : Tb w) (ha0 : -9223372036854775808 ≤ a) (ha1 : a ≤ 9223372036854775807) (hb0 : -9223372036854775808 ≤ b) (hb1 : b ≤ 9223372036854775807) :
    Calls Tryd.prog 34 #[.agg #[.int .i64 a, .int .i64 b]] w fun e w' => e = .returned (.string ⟨(txt a b).toArray⟩) ∧ Below w.heap.size w w' := by
  have hA : Hid (∀ w, Tb w → Calls Tryd.prog 43 #[.int .i64 a] w fun e w' => e = .returned (.string ⟨(Lib.itoa a).toArray⟩) ∧ Below w.heap.size w w') := Lib.hid fun w h => itoa_b a ha0 ha1 w h
  have hB : Hid (∀ w, Tb w → Calls Tryd.prog 43 #[.int .i64 b] w fun e w' => e = .returned (.string ⟨(Lib.itoa b).toArray⟩) ∧ Below w.heap.size w w') := Lib.hid fun w h => itoa_b b hb0 hb1 w h
  have hla := Lib.itoa_length_le a ha0 ha1
  have hlb := Lib.itoa_length_le b hb0 hb1
  obtain ⟨A, hAe⟩ : ∃ A : ByteArray, A = ⟨(Lib.itoa a).toArray⟩ := ⟨_, rfl⟩
  obtain ⟨B, hBe⟩ : ∃ B : ByteArray, B = ⟨(Lib.itoa b).toArray⟩ := ⟨_, rfl⟩
  have sA : A.size ≤ 21 := by rw [hAe]; exact hla
  have sB : B.size ≤ 21 := by rw [hBe]; exact hlb
  have HE : Hid ((⟨(txt a b).toArray⟩ : ByteArray) = A ++ ⟨#[46, 46]⟩ ++ B) := Lib.hid (by
    rw [hAe, hBe]
    apply ByteArray.ext
    simp [txt, ByteArray.data_append])
  rw [← hAe] at hA
  rw [← hBe] at hB
  clear hAe hBe hla hlb ha0 ha1 hb0 hb1
  rw [HE.out]
  have n1 : ¬ 9223372036854775807 < A.size + 2 := by omega
  have n2 : ¬ 9223372036854775807 < A.size + 2 + B.size := by omega
  go_enter Tryd.func34, Tryd.ntmps34
  go_wp2
  obtain ⟨W, hW⟩ : ∃ W, W = w.alloc (.cells #[.int .i64 a, .int .i64 b] 41) := ⟨_, rfl⟩
  have hy := heap_alloc_new w (.cells #[.int .i64 a, .int .i64 b] 41)
  have hBW : Below w.heap.size w W := by rw [hW]; exact (Below.refl _ _).alloc (Nat.le_refl _) _
  rw [← hW] at hy ⊢
  have hTW := hT.below hBW
  have HBW := Lib.hid hBW
  have HTW := Lib.hid hTW
  have g0 := Wb.cell (cell2_0 hy) (cell_lt hy)
  have g1 := Wb.cell (cell2_1 hy) (cell_lt hy)
  clear hW hBW hy hTW hT
  refine wp_region_quiet_below (by kernel_rfl) (by kernel_rfl) ?_
  repeat (go_big_quiet_step ((first
    | (go_at_call 43; exact Wb.call (hA.out _ (HTW.out.below (Wb.h _))))
    | (go_at_call 43; exact Wb.call (hB.out _ (HTW.out.below (Wb.h _)))))))
  refine wpQuiet_nil ?_
  rintro _ ⟨⟨wc, HBc⟩, rfl⟩
  go_wp2
  go_ret
  exact ⟨rfl, HBW.out.trans (HBc.mono HBW.out.size)⟩

end Go.Proofs.YtofollamkcgknaaDoor
