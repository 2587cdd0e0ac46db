/-
The fixed answer that the statements ask for: awake.
-/
import Derived.Test.YteebihdgfkmgmaaGreatDoorWu
import Derived.Test.YteebihdgfkmgmaaGreatDoorRp
import Derived.KernelRfl
namespace Go.Proofs.YteebihdgfkmgmaaGreatDoor
open Go.RowKit

def sA : List UInt8 := [97, 100, 100, 40, 32, 105, 116, 44, 32, 49, 41]
def sA2 : List UInt8 := [97, 100, 100, 40, 105, 116, 44, 49, 41]
def sB : List UInt8 := [97, 100, 100, 40, 49, 41]
def ndA : Nd := .mk [97, 100, 100] 0 [] ty0 [.mk [105, 116] 0 [] ty0 [], .mk intW 1 [] ty0 []]
theorem parse_A : parseR Knd.parseT sA = (11, some ndA) := by kernel_rfl
theorem parse_B : parseR Knd.parseT sB = (5, none) := by kernel_rfl
theorem itoa_1 : Lib.itoa 1 = [49] := by
  unfold Lib.itoa
  rw [if_neg (by decide), Lib.decDigits, dif_pos (by decide)]
  rfl
theorem term_A : termW 24 ndA ([], 0) = some ([97, 100, 100, 40, 105, 116, 44] ++ Lib.itoa 1 ++ [41], 3) := by kernel_rfl
theorem show_A : showW ndA = some (sA2, 3) := by
  unfold showW
  rw [term_A, itoa_1]
  rfl
theorem rg_A : RgN 24 ndA := by
  refine ⟨by decide, by decide, by decide, fun k hk => ?_⟩
  rcases List.mem_cons.1 hk with rfl | hk
  · exact ⟨by decide, by decide, by decide, fun k hk => by cases hk⟩
  · rcases List.mem_cons.1 hk with rfl | hk
    · exact ⟨by decide, by decide, by decide, fun k hk => by cases hk⟩
    · cases hk

set_option maxRecDepth 100000 in
set_option maxHeartbeats 1000000 in
theorem awake_any (w : World) (hG : Gl w) : Calls Tryz.prog 13 #[] w fun e w' => e = .returned (.bool true) ∧ Below w.heap.size w w' := by
  have hGl := hG.lt2
  go_enter Tryz.func13, Tryz.ntmps13
  go_wp2_with (fail)
  refine (exprParse_any ⟨sA.toArray⟩ w (by decide) hG.kd).mono ?_
  rw [show bl (ByteArray.mk sA.toArray) = sA from rfl, parse_A]
  rintro e w1 ⟨⟨v, rfl, hT⟩, hb1⟩
  obtain ⟨A, c, K, k, rfl⟩ := hT.form
  have HT := Lib.hid hT
  have hs1 := hb1.size
  clear hT
  go_wp2_with (fail)
  have hb2 := hb1.alloc hs1 (.cells #[.string ⟨ndA.op.toArray⟩, .int .i64 ndA.int, .string ⟨ndA.text.toArray⟩, .int .i64 ndA.ty.kind, .slice A ndA.ty.args.length c, .slice K ndA.kids.length k] 27)
  have hs2 : (w1.alloc (.cells #[.string ⟨ndA.op.toArray⟩, .int .i64 ndA.int, .string ⟨ndA.text.toArray⟩, .int .i64 ndA.ty.kind, .slice A ndA.ty.args.length c, .slice K ndA.kids.length k] 27)).heap.size = w1.heap.size + 1 := by simp
  have hT2 := NdAt.below HT.out ((Below.refl _ w1).alloc (Nat.le_refl _) (.cells #[.string ⟨ndA.op.toArray⟩, .int .i64 ndA.int, .string ⟨ndA.text.toArray⟩, .int .i64 ndA.ty.kind, .slice A ndA.ty.args.length c, .slice K ndA.kids.length k] 27))
  generalize w1.alloc (.cells #[.string ⟨ndA.op.toArray⟩, .int .i64 ndA.int, .string ⟨ndA.text.toArray⟩, .int .i64 ndA.ty.kind, .slice A ndA.ty.args.length c, .slice K ndA.kids.length k] 27) = w2 at *
  refine (exprShow_any 25 _ _ ndA w2 hT2 rg_A (hG.below hb2 hGl)).mono ?_
  rw [show_A]
  clear hT2 HT
  rintro e w3 ⟨he, hb3⟩
  obtain rfl : e = .returned (.tuple #[.string ⟨sA2.toArray⟩, .int .i64 0]) := he
  have hb13 := hb2.trans (hb3.mono (by omega))
  have hs3 := hb3.size
  go_wp2_with (fail)
  refine (exprParse_any ⟨sB.toArray⟩ w3 (by decide) (hG.below hb13 hGl).kd).mono ?_
  rw [show bl (ByteArray.mk sB.toArray) = sB from rfl, parse_B]
  rintro e w4 ⟨he, hb4⟩
  obtain rfl : e = .returned (.tuple #[.agg #[.string ⟨#[]⟩, .int .i64 0, .string ⟨#[]⟩, .int .i64 0, .slice none 0 0, .slice none 0 0], .int .i64 ((5 : Nat) : Int), .int .i64 40]) := he
  have hb14 := hb13.trans (hb4.mono (by omega))
  have hs4 := hb4.size
  go_wp2_with (fail)
  go_ret
  exact ⟨rfl, by first | exact hb14 | exact hb14.alloc (by omega) _⟩
end Go.Proofs.YteebihdgfkmgmaaGreatDoor
