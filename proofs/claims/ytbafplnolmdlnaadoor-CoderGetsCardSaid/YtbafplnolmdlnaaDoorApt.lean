/-
appendText of package coder, at the text 'a'.
-/
import Derived.Test.YtbafplnolmdlnaaDoorCpy
namespace Go.Proofs.YtbafplnolmdlnaaDoor
open Go.RowKit

theorem a_at0 : ∀ w : World, (Instr.index 9 (.string ⟨#[97]⟩) (.int .i64 0)).run Tryd.prog w = .ok (.int .u8 97) w := fun _ => by kernel_rfl

def ApOut (w w' : World) (l : List UInt8) (e : Ending) : Prop := ∃ A' c', e = .returned (.slice A' l.length c') ∧ w'.ownsRow w.heap.size 5 1 (.slice A' l.length c') l.length (bcl l)

set_option maxRecDepth 100000 in
set_option maxHeartbeats 1000000 in
theorem appendText_a (w : World) : Calls Tryd.prog 43 #[.slice none 0 0, .string ⟨#[97]⟩] w fun e w' => ApOut w w' [97, 0, 0] e ∧ Below w.heap.size w w' := by
  obtain ⟨i0, hi, hq0, hq1, hq2⟩ := info_parts info5
  have c0 := a_at0
  have hs : (⟨#[97]⟩ : ByteArray).size = 1 := rfl
  go_enter Tryd.func43, Tryd.ntmps43
  go_wp2_with (fail)
  go_loopw [0, 8] (fun vs i wr => ∃ j : Nat, i = .int .i64 (j : Int) ∧ j ≤ 1 ∧ Hid (wr.ownsRow w.heap.size 5 1 vs j (bcl (([97] : List UInt8).take j))) ∧ Hid (Below w.heap.size w wr)) (fun _ i _ => 2 - (intOf i).toNat)
  case atStart => exact ⟨0, rfl, by omega, World.ownsRow_nil _ _ _ _, Below.refl _ _⟩
  case round =>
    obtain ⟨j, rfl, hj, HO, HB⟩ := hrel
    obtain ⟨Av, cv, hvs⟩ := own_slice HO.out
    subst hvs
    have hsr := HB.out.size
    by_cases h0 : j = 0
    · subst h0
      go_wp2_with (at_builtin; refine wpList_append_own _ rfl _ _ 25 rfl w.heap.size 5 i0 (.int .u8 0) 1 1 Tryd.underlying25 hi hq0 hq1 hq2 rfl (by decide) _ 0 (bcl []) rfl (HO.out.alloc _) ⟨wr.heap.size, 0, none⟩ 1 1 [.int .u8 97] rfl rfl (cell_one_new' _ _ _ _ rfl) (by intro u hu; simp at hu; subst hu; rfl) (by unfold maxLen; omega) (by omega) (by simp; omega) ?_; intro v' w7 hown7 hg7 _)
      go_roundw
      case rel => exact ⟨1, by go_num, by omega, Lib.hid hown7, Lib.hid ((HB.out.alloc hsr _).grown hg7 (by simp; omega) (fun k hk => (HO.out.lt k hk).1))⟩
      case measure => simp [intOf]
    · have hj1 : j = 1 := by omega
      subst hj1
      go_wp2_with (at_builtin; refine wpList_append_own _ rfl _ _ 25 rfl w.heap.size 5 i0 (.int .u8 0) 1 1 Tryd.underlying25 hi hq0 hq1 hq2 rfl (by decide) _ 1 (bcl [97]) rfl (HO.out.alloc _) ⟨wr.heap.size, 0, none⟩ 2 2 [.int .u8 0, .int .u8 0] rfl rfl (cell_two_new _ _ _ _ _ rfl) (by intro u hu; simp at hu; subst hu; rfl) (by unfold maxLen; omega) (by omega) (by simp; omega) ?_; intro v' w7 hown7 hg7 _)
      obtain ⟨A7, c7, rfl⟩ := own_slice hown7
      go_wp2_with (fail)
      go_ret
      exact ⟨⟨A7, c7, rfl, hown7⟩, (HB.out.alloc hsr _).grown hg7 (by simp; omega) (fun k hk => (HO.out.lt k hk).1)⟩
end Go.Proofs.YtbafplnolmdlnaaDoor
