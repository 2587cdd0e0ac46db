/-
The fixed answer that the statements ask for: awake.
-/
import Derived.Test.YtdoadedglpjldaaDoorSh
import Derived.KernelRfl
namespace Go.Proofs.YtdoadedglpjldaaDoor
open Go.RowKit

def tA : Ty := .mk 6 [.mk 2 [], .mk 7 [.mk 3 []]]
def sA : List UInt8 := [112, 97, 105, 114, 40, 105, 110, 116, 44, 108, 105, 115, 116, 40, 116, 101, 120, 116, 41, 41]
def sB : List UInt8 := [108, 105, 115, 116, 40, 105, 109, 116, 41]
theorem parse_A : parseT sA = (0, some tA) := by kernel_rfl
theorem parse_B : parseT sB = (6, none) := by kernel_rfl
theorem text_A : textT 6 tA = sA := by kernel_rfl
theorem measure_A : measureT 6 tA = some 3 := by kernel_rfl

set_option maxRecDepth 100000 in
set_option maxHeartbeats 400000 in
theorem awake_any (w : World) (hG : Glob w) : Calls Tryd.prog 9 #[] w fun e w' => e = .returned (.bool true) ∧ Below w.heap.size w w' := by
  have hGl := hG.lt
  go_enter Tryd.func9, Tryd.ntmps9
  go_wp2_with (fail)
  refine (parse_any ⟨sA.toArray⟩ w (by decide) hG).mono ?_
  rw [show (ByteArray.mk sA.toArray).data.toList = sA from rfl, parse_A]
  rintro e w1 ⟨⟨v, rfl, hT⟩, hb1⟩
  obtain ⟨A, c, rfl⟩ := hT.form
  have HT := Lib.hid hT
  have hs1 := hb1.size
  clear hT
  go_wp2_with (fail)
  refine (show_any 6 _ _ tA _ (HT.out.below ((Below.refl _ w1).alloc (Nat.le_refl _) _)) ((hG.kept (hb1.block 0 hGl)).kept (Below.heap_alloc w1 _ 0 (by omega)))).mono ?_
  rw [measure_A]
  rintro e w2 ⟨he, hb2⟩
  obtain rfl : e = .returned (.tuple #[.string ⟨sA.toArray⟩, .int .i64 0]) := by rw [← text_A]; exact he
  have hb12 := (hb1.alloc (by omega) _).trans (hb2.mono (by simp; omega))
  have hs2 := hb2.size
  simp only [World.size_alloc] at hs2
  go_wp2_with (fail)
  refine (parse_any ⟨sB.toArray⟩ w2 (by decide) (hG.kept (hb12.block 0 hGl))).mono ?_
  rw [show (ByteArray.mk sB.toArray).data.toList = sB from rfl, parse_B]
  rintro e w3 ⟨he3, hb3⟩
  obtain rfl : e = .returned (.tuple #[.agg #[.int .i64 0, .slice none 0 0], .int .i64 6, .int .i64 40]) := he3
  have hb13 := hb12.trans (hb3.mono (by omega))
  have hs3 := hb3.size
  go_wp2
  go_ret
  exact ⟨rfl, hb13.alloc (by omega) _⟩
end Go.Proofs.YtdoadedglpjldaaDoor
