/-
The document's answer for package expr: Parts: what stands behind a word.
-/
import Derived.Test.YteebihdgfkmgmaaGreatDoorRc9
import Derived.Test.YteebihdgfkmgmaaGreatDoorStr
namespace Go.Proofs.YteebihdgfkmgmaaGreatDoor
open Go.RowKit

/-- What stands behind the words of each list: l: many. -/
def grpL : List (List UInt8) := [[], [101], [101, 101], [101, 101, 101], [108], [100], [116], [110, 101, 101], [101, 110, 101], [101, 101, 110, 110, 101]]
/-- The words, list by list. -/
def lstL : List (List UInt8) := [[116, 114, 117, 101, 32, 102, 97, 108, 115, 101, 32, 105, 116], [110, 101, 103, 32, 110, 111, 116, 32, 102, 105, 114, 115, 116, 32, 115, 101, 99, 111, 110, 100, 32, 108, 101, 110, 32, 115, 111, 114, 116, 32, 115, 111, 109, 101, 32, 105, 115, 95, 115, 111, 109, 101, 32, 115, 105, 122, 101, 32, 98, 121, 116, 101, 115, 32, 116, 101, 120, 116, 32, 115, 104, 111, 119, 32, 114, 101, 32, 105, 109, 32, 99, 111, 110, 106, 32, 114, 97, 110, 103, 101], [97, 100, 100, 32, 115, 117, 98, 32, 109, 117, 108, 32, 100, 105, 118, 32, 109, 111, 100, 32, 101, 113, 32, 108, 116, 32, 97, 110, 100, 32, 111, 114, 32, 112, 97, 105, 114, 32, 99, 111, 110, 115, 32, 99, 111, 110, 99, 97, 116, 32, 97, 116, 32, 111, 114, 95, 101, 108, 115, 101, 32, 106, 111, 105, 110, 32, 112, 111, 105, 110, 116], [105, 102, 32, 99, 117, 116], [108, 105, 115, 116], [115, 105, 100, 101], [110, 105, 108, 32, 110, 111, 110, 101], [108, 101, 116], [109, 97, 112, 32, 102, 105, 108, 116, 101, 114], [102, 111, 108, 100]]

/-- Whether a word stands between the blanks of a list, from a place on, where the last one began at from. -/
def scanP (l word : List UInt8) : Nat → Nat → Nat → Bool
  | 0, _, _ => false
  | f + 1, from_, k => if k = l.length ∨ lkB l k = 32 then (if (l.take k).drop from_ = word then true else scanP l word f (k + 1) (k + 1)) else scanP l word f from_ (k + 1)
/-- The first list that has the word: what stands behind it. -/
def partsG (word : List UInt8) : List (List UInt8) → List (List UInt8) → Option (List UInt8)
  | l :: ls, g :: gs => if scanP l word (l.length + 1) 0 0 then some g else partsG word ls gs
  | _, _ => none
def partsD (word : List UInt8) : Option (List UInt8) := partsG word lstL grpL
/-- What Parts answers with. -/
def PdOut (e : Ending) : Option (List UInt8) → Prop
  | none => e = .returned (.tuple #[.string ⟨#[]⟩, .bool false])
  | some g => e = .returned (.tuple #[.string ⟨g.toArray⟩, .bool true])

theorem cell_block {w : World} {g i : Nat} {cs : Array Value} {t : TypeId} {u : Value} (h : w.heap[g]? = some (.cells cs t (0, 0))) (hi : cs[i]? = some u) : w.cell? ⟨g, i, none⟩ = some u := by
  simp [World.cell?, h, hi]
theorem lst_len : ∀ l ∈ lstL, l.length ≤ 100 := by decide +kernel

theorem grp_arr : (#[.string ⟨#[]⟩, .string ⟨#[101]⟩, .string ⟨#[101, 101]⟩, .string ⟨#[101, 101, 101]⟩, .string ⟨#[108]⟩, .string ⟨#[100]⟩, .string ⟨#[116]⟩, .string ⟨#[110, 101, 101]⟩, .string ⟨#[101, 110, 101]⟩, .string ⟨#[101, 101, 110, 110, 101]⟩] : Array Value) = (grpL.map fun g => Value.string ⟨g.toArray⟩).toArray := by rfl
theorem lst_arr : (#[.string ⟨#[116, 114, 117, 101, 32, 102, 97, 108, 115, 101, 32, 105, 116]⟩, .string ⟨#[110, 101, 103, 32, 110, 111, 116, 32, 102, 105, 114, 115, 116, 32, 115, 101, 99, 111, 110, 100, 32, 108, 101, 110, 32, 115, 111, 114, 116, 32, 115, 111, 109, 101, 32, 105, 115, 95, 115, 111, 109, 101, 32, 115, 105, 122, 101, 32, 98, 121, 116, 101, 115, 32, 116, 101, 120, 116, 32, 115, 104, 111, 119, 32, 114, 101, 32, 105, 109, 32, 99, 111, 110, 106, 32, 114, 97, 110, 103, 101]⟩, .string ⟨#[97, 100, 100, 32, 115, 117, 98, 32, 109, 117, 108, 32, 100, 105, 118, 32, 109, 111, 100, 32, 101, 113, 32, 108, 116, 32, 97, 110, 100, 32, 111, 114, 32, 112, 97, 105, 114, 32, 99, 111, 110, 115, 32, 99, 111, 110, 99, 97, 116, 32, 97, 116, 32, 111, 114, 95, 101, 108, 115, 101, 32, 106, 111, 105, 110, 32, 112, 111, 105, 110, 116]⟩, .string ⟨#[105, 102, 32, 99, 117, 116]⟩, .string ⟨#[108, 105, 115, 116]⟩, .string ⟨#[115, 105, 100, 101]⟩, .string ⟨#[110, 105, 108, 32, 110, 111, 110, 101]⟩, .string ⟨#[108, 101, 116]⟩, .string ⟨#[109, 97, 112, 32, 102, 105, 108, 116, 101, 114]⟩, .string ⟨#[102, 111, 108, 100]⟩] : Array Value) = (lstL.map fun g => Value.string ⟨g.toArray⟩).toArray := by rfl
theorem partsG_at (word : List UInt8) : ∀ (ls gs : List (List UInt8)) (i : Nat) (l g : List UInt8), ls[i]? = some l → gs[i]? = some g → partsG word (ls.drop i) (gs.drop i) = if scanP l word (l.length + 1) 0 0 then some g else partsG word (ls.drop (i + 1)) (gs.drop (i + 1))
  | [], _, i, _, _, h, _ => by simp at h
  | _ :: _, [], i, _, _, _, h => by simp at h
  | a :: ls, b :: gs, 0, l, g, h1, h2 => by
    simp only [List.getElem?_cons_zero, Option.some.injEq] at h1 h2
    subst h1; subst h2
    simp [partsG]
  | a :: ls, b :: gs, i + 1, l, g, h1, h2 => by
    simp only [List.getElem?_cons_succ] at h1 h2
    simpa using partsG_at word ls gs i l g h1 h2

set_option maxRecDepth 100000 in
set_option maxHeartbeats 4000000 in
theorem parts_any_d (x : List UInt8) (w : World) : Calls Tryz.prog 65 #[.string ⟨x.toArray⟩] w fun e w' => PdOut e (partsD x) ∧ Below w.heap.size w w' := by
  have hb1 := ((Below.refl w.heap.size w).alloc (Nat.le_refl _) (.cells #[.string ⟨#[]⟩, .string ⟨#[101]⟩, .string ⟨#[101, 101]⟩, .string ⟨#[101, 101, 101]⟩, .string ⟨#[108]⟩, .string ⟨#[100]⟩, .string ⟨#[116]⟩, .string ⟨#[110, 101, 101]⟩, .string ⟨#[101, 110, 101]⟩, .string ⟨#[101, 101, 110, 110, 101]⟩] 9)).alloc (by simp) (.cells #[.string ⟨#[116, 114, 117, 101, 32, 102, 97, 108, 115, 101, 32, 105, 116]⟩, .string ⟨#[110, 101, 103, 32, 110, 111, 116, 32, 102, 105, 114, 115, 116, 32, 115, 101, 99, 111, 110, 100, 32, 108, 101, 110, 32, 115, 111, 114, 116, 32, 115, 111, 109, 101, 32, 105, 115, 95, 115, 111, 109, 101, 32, 115, 105, 122, 101, 32, 98, 121, 116, 101, 115, 32, 116, 101, 120, 116, 32, 115, 104, 111, 119, 32, 114, 101, 32, 105, 109, 32, 99, 111, 110, 106, 32, 114, 97, 110, 103, 101]⟩, .string ⟨#[97, 100, 100, 32, 115, 117, 98, 32, 109, 117, 108, 32, 100, 105, 118, 32, 109, 111, 100, 32, 101, 113, 32, 108, 116, 32, 97, 110, 100, 32, 111, 114, 32, 112, 97, 105, 114, 32, 99, 111, 110, 115, 32, 99, 111, 110, 99, 97, 116, 32, 97, 116, 32, 111, 114, 95, 101, 108, 115, 101, 32, 106, 111, 105, 110, 32, 112, 111, 105, 110, 116]⟩, .string ⟨#[105, 102, 32, 99, 117, 116]⟩, .string ⟨#[108, 105, 115, 116]⟩, .string ⟨#[115, 105, 100, 101]⟩, .string ⟨#[110, 105, 108, 32, 110, 111, 110, 101]⟩, .string ⟨#[108, 101, 116]⟩, .string ⟨#[109, 97, 112, 32, 102, 105, 108, 116, 101, 114]⟩, .string ⟨#[102, 111, 108, 100]⟩] 9)
  have hG0 := (Below.heap_alloc (w.alloc (.cells #[.string ⟨#[]⟩, .string ⟨#[101]⟩, .string ⟨#[101, 101]⟩, .string ⟨#[101, 101, 101]⟩, .string ⟨#[108]⟩, .string ⟨#[100]⟩, .string ⟨#[116]⟩, .string ⟨#[110, 101, 101]⟩, .string ⟨#[101, 110, 101]⟩, .string ⟨#[101, 101, 110, 110, 101]⟩] 9)) (.cells #[.string ⟨#[116, 114, 117, 101, 32, 102, 97, 108, 115, 101, 32, 105, 116]⟩, .string ⟨#[110, 101, 103, 32, 110, 111, 116, 32, 102, 105, 114, 115, 116, 32, 115, 101, 99, 111, 110, 100, 32, 108, 101, 110, 32, 115, 111, 114, 116, 32, 115, 111, 109, 101, 32, 105, 115, 95, 115, 111, 109, 101, 32, 115, 105, 122, 101, 32, 98, 121, 116, 101, 115, 32, 116, 101, 120, 116, 32, 115, 104, 111, 119, 32, 114, 101, 32, 105, 109, 32, 99, 111, 110, 106, 32, 114, 97, 110, 103, 101]⟩, .string ⟨#[97, 100, 100, 32, 115, 117, 98, 32, 109, 117, 108, 32, 100, 105, 118, 32, 109, 111, 100, 32, 101, 113, 32, 108, 116, 32, 97, 110, 100, 32, 111, 114, 32, 112, 97, 105, 114, 32, 99, 111, 110, 115, 32, 99, 111, 110, 99, 97, 116, 32, 97, 116, 32, 111, 114, 95, 101, 108, 115, 101, 32, 106, 111, 105, 110, 32, 112, 111, 105, 110, 116]⟩, .string ⟨#[105, 102, 32, 99, 117, 116]⟩, .string ⟨#[108, 105, 115, 116]⟩, .string ⟨#[115, 105, 100, 101]⟩, .string ⟨#[110, 105, 108, 32, 110, 111, 110, 101]⟩, .string ⟨#[108, 101, 116]⟩, .string ⟨#[109, 97, 112, 32, 102, 105, 108, 116, 101, 114]⟩, .string ⟨#[102, 111, 108, 100]⟩] 9) w.heap.size (by simp)).trans (heap_alloc_new w (.cells #[.string ⟨#[]⟩, .string ⟨#[101]⟩, .string ⟨#[101, 101]⟩, .string ⟨#[101, 101, 101]⟩, .string ⟨#[108]⟩, .string ⟨#[100]⟩, .string ⟨#[116]⟩, .string ⟨#[110, 101, 101]⟩, .string ⟨#[101, 110, 101]⟩, .string ⟨#[101, 101, 110, 110, 101]⟩] 9))
  have hL0 : ((w.alloc (.cells #[.string ⟨#[]⟩, .string ⟨#[101]⟩, .string ⟨#[101, 101]⟩, .string ⟨#[101, 101, 101]⟩, .string ⟨#[108]⟩, .string ⟨#[100]⟩, .string ⟨#[116]⟩, .string ⟨#[110, 101, 101]⟩, .string ⟨#[101, 110, 101]⟩, .string ⟨#[101, 101, 110, 110, 101]⟩] 9)).alloc (.cells #[.string ⟨#[116, 114, 117, 101, 32, 102, 97, 108, 115, 101, 32, 105, 116]⟩, .string ⟨#[110, 101, 103, 32, 110, 111, 116, 32, 102, 105, 114, 115, 116, 32, 115, 101, 99, 111, 110, 100, 32, 108, 101, 110, 32, 115, 111, 114, 116, 32, 115, 111, 109, 101, 32, 105, 115, 95, 115, 111, 109, 101, 32, 115, 105, 122, 101, 32, 98, 121, 116, 101, 115, 32, 116, 101, 120, 116, 32, 115, 104, 111, 119, 32, 114, 101, 32, 105, 109, 32, 99, 111, 110, 106, 32, 114, 97, 110, 103, 101]⟩, .string ⟨#[97, 100, 100, 32, 115, 117, 98, 32, 109, 117, 108, 32, 100, 105, 118, 32, 109, 111, 100, 32, 101, 113, 32, 108, 116, 32, 97, 110, 100, 32, 111, 114, 32, 112, 97, 105, 114, 32, 99, 111, 110, 115, 32, 99, 111, 110, 99, 97, 116, 32, 97, 116, 32, 111, 114, 95, 101, 108, 115, 101, 32, 106, 111, 105, 110, 32, 112, 111, 105, 110, 116]⟩, .string ⟨#[105, 102, 32, 99, 117, 116]⟩, .string ⟨#[108, 105, 115, 116]⟩, .string ⟨#[115, 105, 100, 101]⟩, .string ⟨#[110, 105, 108, 32, 110, 111, 110, 101]⟩, .string ⟨#[108, 101, 116]⟩, .string ⟨#[109, 97, 112, 32, 102, 105, 108, 116, 101, 114]⟩, .string ⟨#[102, 111, 108, 100]⟩] 9)).heap[w.heap.size + 1]? = some (.cells #[.string ⟨#[116, 114, 117, 101, 32, 102, 97, 108, 115, 101, 32, 105, 116]⟩, .string ⟨#[110, 101, 103, 32, 110, 111, 116, 32, 102, 105, 114, 115, 116, 32, 115, 101, 99, 111, 110, 100, 32, 108, 101, 110, 32, 115, 111, 114, 116, 32, 115, 111, 109, 101, 32, 105, 115, 95, 115, 111, 109, 101, 32, 115, 105, 122, 101, 32, 98, 121, 116, 101, 115, 32, 116, 101, 120, 116, 32, 115, 104, 111, 119, 32, 114, 101, 32, 105, 109, 32, 99, 111, 110, 106, 32, 114, 97, 110, 103, 101]⟩, .string ⟨#[97, 100, 100, 32, 115, 117, 98, 32, 109, 117, 108, 32, 100, 105, 118, 32, 109, 111, 100, 32, 101, 113, 32, 108, 116, 32, 97, 110, 100, 32, 111, 114, 32, 112, 97, 105, 114, 32, 99, 111, 110, 115, 32, 99, 111, 110, 99, 97, 116, 32, 97, 116, 32, 111, 114, 95, 101, 108, 115, 101, 32, 106, 111, 105, 110, 32, 112, 111, 105, 110, 116]⟩, .string ⟨#[105, 102, 32, 99, 117, 116]⟩, .string ⟨#[108, 105, 115, 116]⟩, .string ⟨#[115, 105, 100, 101]⟩, .string ⟨#[110, 105, 108, 32, 110, 111, 110, 101]⟩, .string ⟨#[108, 101, 116]⟩, .string ⟨#[109, 97, 112, 32, 102, 105, 108, 116, 101, 114]⟩, .string ⟨#[102, 111, 108, 100]⟩] 9 (0, 0)) := heap_new_at (by simp)
  obtain ⟨w1, hw1⟩ : ∃ w1, w1 = (w.alloc (.cells #[.string ⟨#[]⟩, .string ⟨#[101]⟩, .string ⟨#[101, 101]⟩, .string ⟨#[101, 101, 101]⟩, .string ⟨#[108]⟩, .string ⟨#[100]⟩, .string ⟨#[116]⟩, .string ⟨#[110, 101, 101]⟩, .string ⟨#[101, 110, 101]⟩, .string ⟨#[101, 101, 110, 110, 101]⟩] 9)).alloc (.cells #[.string ⟨#[116, 114, 117, 101, 32, 102, 97, 108, 115, 101, 32, 105, 116]⟩, .string ⟨#[110, 101, 103, 32, 110, 111, 116, 32, 102, 105, 114, 115, 116, 32, 115, 101, 99, 111, 110, 100, 32, 108, 101, 110, 32, 115, 111, 114, 116, 32, 115, 111, 109, 101, 32, 105, 115, 95, 115, 111, 109, 101, 32, 115, 105, 122, 101, 32, 98, 121, 116, 101, 115, 32, 116, 101, 120, 116, 32, 115, 104, 111, 119, 32, 114, 101, 32, 105, 109, 32, 99, 111, 110, 106, 32, 114, 97, 110, 103, 101]⟩, .string ⟨#[97, 100, 100, 32, 115, 117, 98, 32, 109, 117, 108, 32, 100, 105, 118, 32, 109, 111, 100, 32, 101, 113, 32, 108, 116, 32, 97, 110, 100, 32, 111, 114, 32, 112, 97, 105, 114, 32, 99, 111, 110, 115, 32, 99, 111, 110, 99, 97, 116, 32, 97, 116, 32, 111, 114, 95, 101, 108, 115, 101, 32, 106, 111, 105, 110, 32, 112, 111, 105, 110, 116]⟩, .string ⟨#[105, 102, 32, 99, 117, 116]⟩, .string ⟨#[108, 105, 115, 116]⟩, .string ⟨#[115, 105, 100, 101]⟩, .string ⟨#[110, 105, 108, 32, 110, 111, 110, 101]⟩, .string ⟨#[108, 101, 116]⟩, .string ⟨#[109, 97, 112, 32, 102, 105, 108, 116, 101, 114]⟩, .string ⟨#[102, 111, 108, 100]⟩] 9) := ⟨_, rfl⟩
  rw [← hw1] at hb1 hG0 hL0
  have HB1 := Lib.hid hb1
  have HG : Hid (∀ (i : Nat) (g : List UInt8), grpL[i]? = some g → w1.cell? ⟨w.heap.size, i, none⟩ = some (.string ⟨g.toArray⟩)) := fun i g hg => cell_block hG0 (by rw [grp_arr]; simp [hg])
  have HL : Hid (∀ (i : Nat) (g : List UInt8), lstL[i]? = some g → w1.cell? ⟨w.heap.size + 1, i, none⟩ = some (.string ⟨g.toArray⟩)) := fun i g hg => cell_block hL0 (by rw [lst_arr]; simp [hg])
  have HW1 := Lib.hid hw1
  clear hb1 hG0 hL0 hw1
  go_enter Tryz.func65, Tryz.ntmps65
  go_wp2_with (fail)
  rw [← HW1.out]
  clear HW1
  go_loopw [6] (fun iv wr => ∃ i : Nat, iv = .int .i64 (i : Int) ∧ i ≤ 10 ∧ Hid (partsD x = partsG x (lstL.drop i) (grpL.drop i)) ∧ wr = w1) (fun iv _ => 10 - (intOf iv).toNat)
  case atStart => exact ⟨0, rfl, by omega, Lib.hid rfl, rfl⟩
  case round =>
    obtain ⟨i, rfl, hi, HP, hw⟩ := hrel
    subst hw
    obtain ⟨w1, hw1⟩ : ∃ w1, w1 = wr := ⟨_, rfl⟩
    subst hw1
    by_cases hlt : i < 10
    · obtain ⟨l, hl⟩ : ∃ l, lstL[i]? = some l := ⟨_, List.getElem?_eq_getElem (show i < lstL.length from hlt)⟩
      obtain ⟨g, hg⟩ : ∃ g, grpL[i]? = some g := ⟨_, List.getElem?_eq_getElem (show i < grpL.length from hlt)⟩
      have hll := lst_len l (List.mem_of_getElem? hl)
      have cG := HG.out i g hg
      have cL := HL.out i l hl
      have HP2 := Lib.hid (HP.out.trans (partsG_at x lstL grpL i l g hl hg))
      have hlsz : (ByteArray.mk l.toArray).size = l.length := by simp [ByteArray.size]
      obtain ⟨L, hLe⟩ : ∃ L, L = ByteArray.mk l.toArray := ⟨_, rfl⟩
      have hLb : bl L = l := by rw [hLe]; unfold bl; simp
      rw [← hLe] at cL hlsz
      have HLB := Lib.hid hLb
      have hil : ((i : Int) < 10) := by omega
      clear hl hg hLe hLb HP
      go_wp2_with (fail)
      go_loopw [7, 8] (fun fv kv wr => ∃ from_ k : Nat, fv = .int .i64 (from_ : Int) ∧ kv = .int .i64 (k : Int) ∧ from_ ≤ k ∧ k ≤ l.length + 1 ∧ Hid (scanP l x (l.length + 1) 0 0 = scanP l x (l.length + 1 - k) from_ k) ∧ wr = w1) (fun _ kv _ => 200 - (intOf kv).toNat)
      case atStart => exact ⟨0, 0, rfl, rfl, Nat.le_refl _, by omega, Lib.hid rfl, rfl⟩
      case round =>
        obtain ⟨fr, k, rfl, rfl, hfk, hk, HS, hw⟩ := hrel
        have hww := hw.symm
        subst hww
        by_cases hkl : k ≤ l.length
        · have gkl : ((k : Int) ≤ (L.size : Int)) := by omega
          by_cases hke : k = l.length
          · subst hke
            have hsep : l.length = l.length ∨ lkB l l.length = 32 := .inl rfl
            have hkl2 : l.length ≤ L.size := by omega
            have HSC : Hid (scanP l x (l.length + 1 - l.length) fr l.length = if (l.take l.length).drop fr = x then true else scanP l x (l.length + 1 - (l.length + 1)) (l.length + 1) (l.length + 1)) := by
              show _ = _
              rw [show l.length + 1 - l.length = (l.length + 1 - (l.length + 1)) + 1 by omega]
              rw [scanP, if_pos hsep]
            have hsl : ∀ W : World, (Instr.slice 9 (.string L) (some (.int .i64 (fr : Int))) (some (.int .i64 (l.length : Int))) none).run Tryz.prog W = .ok (.string ⟨((l.take l.length).drop fr).toArray⟩) W := by
              intro W
              have hex : L.extract fr l.length = ⟨((l.take l.length).drop fr).toArray⟩ := by
                rw [← str_bl (L.extract fr l.length), bl_extract L fr l.length (by omega), HLB.out]
              rw [← hex]
              go_simp
              all_goals (rw [if_pos ⟨by omega, by omega⟩])
            obtain ⟨u, hu⟩ : ∃ u, u = (l.take l.length).drop fr := ⟨_, rfl⟩
            rw [← hu] at hsl
            have HU := Lib.hid hu
            clear hu hsep
            rcases (Decidable.em (u = x)).symm with hux | hux
            · have gu : (u == x) = false := by simp [hux]
              have HS2 : Hid (scanP l x (l.length + 1) 0 0 = scanP l x (l.length + 1 - (l.length + 1)) (l.length + 1) (l.length + 1)) := by
                show _ = _
                rw [HS.out, HSC.out, ← HU.out, if_neg hux]
              clear hux
              go_wp2_with (fail)
              go_roundw
              case rel => exact ⟨l.length + 1, l.length + 1, by go_num, by go_num, Nat.le_refl _, by omega, HS2, trivial⟩
              case measure => simp [intOf]; omega
            · have gu : (u == x) = true := by simp [hux]
              have HR : Hid (partsD x = some g) := by
                show _ = _
                rw [HP2.out, HS.out, HSC.out, ← HU.out, if_pos hux, if_pos rfl]
              clear hux
              go_wp2_with (fail)
              go_ret2
              rw [HR.out]
              exact ⟨rfl, HB1.out⟩
          · have gke : ((k : Int) == (L.size : Int)) = false := by simp; omega
            have hix := str_index L k (by omega) (by omega)
            rw [← bl_at L k (by omega), HLB.out] at hix
            by_cases hsp : lkB l k = 32
            · have gsp : ((lkB l k).toNat : Int) = 32 := by rw [hsp]; rfl
              have hsep : k = l.length ∨ lkB l k = 32 := .inr hsp
              have hkl2 : k ≤ L.size := by omega
              rw [gsp] at hix
              clear hsp gsp
              have HSC : Hid (scanP l x (l.length + 1 - k) fr k = if (l.take k).drop fr = x then true else scanP l x (l.length + 1 - (k + 1)) (k + 1) (k + 1)) := by
                show _ = _
                rw [show l.length + 1 - k = (l.length + 1 - (k + 1)) + 1 by omega]
                rw [scanP, if_pos hsep]
              have hsl : ∀ W : World, (Instr.slice 9 (.string L) (some (.int .i64 (fr : Int))) (some (.int .i64 (k : Int))) none).run Tryz.prog W = .ok (.string ⟨((l.take k).drop fr).toArray⟩) W := by
                intro W
                have hex : L.extract fr k = ⟨((l.take k).drop fr).toArray⟩ := by
                  rw [← str_bl (L.extract fr k), bl_extract L fr k (by omega), HLB.out]
                rw [← hex]
                go_simp
                all_goals (rw [if_pos ⟨by omega, by omega⟩])
              obtain ⟨u, hu⟩ : ∃ u, u = (l.take k).drop fr := ⟨_, rfl⟩
              rw [← hu] at hsl
              have HU := Lib.hid hu
              clear hu hsep
              rcases (Decidable.em (u = x)).symm with hux | hux
              · have gu : (u == x) = false := by simp [hux]
                have HS2 : Hid (scanP l x (l.length + 1) 0 0 = scanP l x (l.length + 1 - (k + 1)) (k + 1) (k + 1)) := by
                  show _ = _
                  rw [HS.out, HSC.out, ← HU.out, if_neg hux]
                clear hux
                go_wp2_with (fail)
                go_roundw
                case rel => exact ⟨k + 1, k + 1, by go_num, by go_num, Nat.le_refl _, by omega, HS2, trivial⟩
                case measure => simp [intOf]; omega
              · have gu : (u == x) = true := by simp [hux]
                have HR : Hid (partsD x = some g) := by
                  show _ = _
                  rw [HP2.out, HS.out, HSC.out, ← HU.out, if_pos hux, if_pos rfl]
                clear hux
                go_wp2_with (fail)
                go_ret2
                rw [HR.out]
                exact ⟨rfl, HB1.out⟩
            · have gsp : (((lkB l k).toNat : Int) == 32) = false := by
                simp only [beq_eq_false_iff_ne, ne_eq]
                intro hh
                exact hsp (UInt8.toNat_inj.1 (by have h32 : (32 : UInt8).toNat = 32 := rfl; omega))
              have HS2 : Hid (scanP l x (l.length + 1) 0 0 = scanP l x (l.length + 1 - (k + 1)) fr (k + 1)) := by
                show _ = _
                rw [HS.out, show l.length + 1 - k = (l.length + 1 - (k + 1)) + 1 by omega]
                simp only [scanP]
                rw [if_neg (fun h => h.elim hke hsp)]
              clear hsp
              go_wp2_with (fail)
              go_roundw
              case rel => exact ⟨fr, k + 1, by first | rfl | trivial, by go_num, by omega, by omega, HS2, trivial⟩
              case measure => simp [intOf]; omega
        · have gkl : ¬ ((k : Int) ≤ (L.size : Int)) := by omega
          have HP3 : Hid (partsD x = partsG x (lstL.drop (i + 1)) (grpL.drop (i + 1))) := by
            show _ = _
            rw [HP2.out, HS.out, show l.length + 1 - k = 0 by omega]
            simp [scanP]
          clear hkl
          go_wp2_with (fail)
          go_roundw
          case rel => exact ⟨i + 1, by go_num, by omega, HP3, trivial⟩
          case measure => simp [intOf]; omega
    · have hil : ¬ ((i : Int) < 10) := by omega
      have HR : Hid (partsD x = none) := by
        show _ = _
        rw [HP.out, show i = 10 by omega]
        rfl
      go_wp2_with (fail)
      go_ret2
      rw [HR.out]
      exact ⟨rfl, HB1.out⟩
end Go.Proofs.YteebihdgfkmgmaaGreatDoor

namespace Go.Proofs.YteebihdgfkmgmaaGreatDoor
open Go.RowKit

theorem letter_d (b : UInt8) (w : World) : Calls Tryz.prog 63 #[.int .u8 (b.toNat : Int)] w fun e w' => e = .returned (.bool (isLet b)) ∧ w = w' := by
  by_cases h1 : 97 ≤ b.toNat
  · have g1 : decide ((97 : Int) ≤ (b.toNat : Int)) = true := by simp; omega
    have HF : Hid (isLet b = decide ((b.toNat : Int) ≤ 122)) := by show _ = _; unfold isLet; rw [decide_eq_true h1, Bool.true_and]; congr 1; apply propext; omega
    go_enter Tryz.func63, Tryz.ntmps63
    go_wp2
    go_ret
    rw [HF.out]
    exact ⟨rfl, rfl⟩
  · have g1 : decide ((97 : Int) ≤ (b.toNat : Int)) = false := by simp; omega
    have HF : Hid (isLet b = false) := by show _ = _; unfold isLet; rw [decide_eq_false h1, Bool.false_and]
    go_enter Tryz.func63, Tryz.ntmps63
    go_wp2
    go_ret
    rw [HF.out]
    exact ⟨rfl, rfl⟩
theorem digit_d (b : UInt8) (w : World) : Calls Tryz.prog 64 #[.int .u8 (b.toNat : Int)] w fun e w' => e = .returned (.bool (isDig b)) ∧ w = w' := by
  by_cases h1 : 48 ≤ b.toNat
  · have g1 : decide ((48 : Int) ≤ (b.toNat : Int)) = true := by simp; omega
    have HF : Hid (isDig b = decide ((b.toNat : Int) ≤ 57)) := by show _ = _; unfold isDig; rw [decide_eq_true h1, Bool.true_and]; congr 1; apply propext; omega
    go_enter Tryz.func64, Tryz.ntmps64
    go_wp2
    go_ret
    rw [HF.out]
    exact ⟨rfl, rfl⟩
  · have g1 : decide ((48 : Int) ≤ (b.toNat : Int)) = false := by simp; omega
    have HF : Hid (isDig b = false) := by show _ = _; unfold isDig; rw [decide_eq_false h1, Bool.false_and]
    go_enter Tryz.func64, Tryz.ntmps64
    go_wp2
    go_ret
    rw [HF.out]
    exact ⟨rfl, rfl⟩

/-- A byte of a name. -/
def nmB (b : UInt8) : Bool := isLet b || isDig b || decide (b = 95)
/-- Whether it is a name: the document's answer. -/
def nameDoc (x : List UInt8) : Bool := decide (1 ≤ x.length) && decide (x.length ≤ 16) && isLet (lkB x 0) && x.all nmB && (partsD x).isNone

set_option maxRecDepth 100000 in
set_option maxHeartbeats 4000000 in
theorem name_d (x : List UInt8) (w : World) : Calls Tryz.prog 26 #[.string ⟨x.toArray⟩] w fun e w' => e = .returned (.bool (nameDoc x)) ∧ Below w.heap.size w w' := by
  have hlsz : (ByteArray.mk x.toArray).size = x.length := by simp [ByteArray.size]
  obtain ⟨L, hLe⟩ : ∃ L, L = ByteArray.mk x.toArray := ⟨_, rfl⟩
  have hLb : bl L = x := by rw [hLe]; unfold bl; simp
  have HPT : Hid (∀ W : World, Calls Tryz.prog 65 #[.string L] W fun e w' => PdOut e (partsD x) ∧ Below W.heap.size W w') := fun W => by rw [hLe]; exact parts_any_d x W
  rw [← hLe] at hlsz ⊢
  have HLB := Lib.hid hLb
  clear hLe hLb
  by_cases h1 : x.length < 1
  · have g1 : decide ((x.length : Int) < 1) = true := by simp; omega
    have g1' : ((L.size : Int) < 1) := by omega
    have HF : Hid (nameDoc x = false) := by show _ = _; unfold nameDoc; rw [decide_eq_false (by omega)]; rfl
    go_enter Tryz.func26, Tryz.ntmps26
    go_wp2_with (fail)
    go_ret
    rw [HF.out]
    exact ⟨rfl, Below.refl _ _⟩
  · have g1 : decide ((x.length : Int) < 1) = false := by simp; omega
    by_cases h2 : 16 < x.length
    · have g2 : decide ((16 : Int) < (x.length : Int)) = true := by simp; omega
      have HF : Hid (nameDoc x = false) := by show _ = _; unfold nameDoc; rw [decide_eq_false (show ¬ x.length ≤ 16 by omega)]; simp
      go_enter Tryz.func26, Tryz.ntmps26
      go_wp2_with (fail)
      go_ret
      rw [HF.out]
      exact ⟨rfl, Below.refl _ _⟩
    · have g2 : decide ((16 : Int) < (x.length : Int)) = false := by simp; omega
      have hix := str_index L 0 (by omega) (by omega)
      rw [← bl_at L 0 (by omega), HLB.out] at hix
      have HLT := Lib.hid (letter_d (lkB x 0) w)
      cases hlt : isLet (lkB x 0) with
      | false =>
        rw [hlt] at HLT
        have HF : Hid (nameDoc x = false) := by show _ = _; unfold nameDoc; rw [hlt]; simp
        clear hlt
        go_enter Tryz.func26, Tryz.ntmps26
        go_wp2_with (fail)
        rw [← bl_at L 0 (by omega), HLB.out]
        refine HLT.out.mono ?_
        rintro e w2 ⟨rfl, rfl⟩
        go_wp2_with (fail)
        go_ret
        rw [HF.out]
        exact ⟨rfl, Below.refl _ _⟩
      | true =>
        rw [hlt] at HLT
        have HF : Hid (nameDoc x = (x.all nmB && (partsD x).isNone)) := by
          show _ = _
          unfold nameDoc
          rw [hlt, decide_eq_true (show 1 ≤ x.length by omega), decide_eq_true (show x.length ≤ 16 by omega)]
          simp
        clear hlt
        go_enter Tryz.func26, Tryz.ntmps26
        go_wp2_with (fail)
        rw [← bl_at L 0 (by omega), HLB.out]
        refine HLT.out.mono ?_
        rintro e w2 ⟨rfl, rfl⟩
        clear HLT hix
        go_wp2_with (fail)
        go_loopw [3] (fun iv wr => ∃ j : Nat, iv = .int .i64 (j : Int) ∧ j ≤ x.length ∧ Hid ((x.take j).all nmB = true) ∧ wr = w) (fun iv _ => 20 - (intOf iv).toNat)
        case atStart => exact ⟨0, rfl, Nat.zero_le _, by show _ = _; simp, rfl⟩
        case round =>
          obtain ⟨j, rfl, hj, HA, hw⟩ := hrel
          have hww := hw.symm
          subst hww
          by_cases hjx : j < x.length
          · have hjl : ((j : Int) < (x.length : Int)) := by omega
            have hix := str_index L j (by omega) (by omega)
            rw [← bl_at L j (by omega), HLB.out] at hix
            have HLT := Lib.hid (letter_d (lkB x j) w)
            have HDG := Lib.hid (digit_d (lkB x j) w)
            have hta : (x.take (j + 1)).all nmB = ((x.take j).all nmB && nmB (lkB x j)) := by
              rw [List.take_add_one, List.getElem?_eq_getElem hjx, lkB_at hjx, List.all_append]
              simp only [Option.toList_some, List.all_cons, List.all_nil, Bool.and_true]
            have HTA := Lib.hid hta
            have hmem : lkB x j ∈ x := by rw [lkB_at hjx]; exact List.getElem_mem hjx
            have HNF : Hid (nmB (lkB x j) = false → nameDoc x = false) := fun h => by
              rw [HF.out]
              have : x.all nmB = false := by
                rw [List.all_eq_false]
                exact ⟨_, hmem, by rw [h]; simp⟩
              rw [this]; rfl
            clear hta hmem
            cases hl : isLet (lkB x j) with
            | true =>
              rw [hl] at HLT
              have HA2 : Hid ((x.take (j + 1)).all nmB = true) := by show _ = _; rw [HTA.out, HA.out]; unfold nmB; rw [hl]; rfl
              clear hl
              go_wp2_with (fail)
              refine HLT.out.mono ?_
              rintro e w2 ⟨rfl, rfl⟩
              go_wp2_with (fail)
              go_roundw
              case rel => exact ⟨j + 1, by go_num, by omega, HA2, trivial⟩
              case measure => simp [intOf]; omega
            | false =>
              rw [hl] at HLT
              cases hd : isDig (lkB x j) with
              | true =>
                rw [hd] at HDG
                have HA2 : Hid ((x.take (j + 1)).all nmB = true) := by show _ = _; rw [HTA.out, HA.out]; unfold nmB; rw [hl, hd]; rfl
                clear hl hd
                go_wp2_with (fail)
                refine HLT.out.mono ?_
                rintro e w2 ⟨rfl, rfl⟩
                go_wp2_with (fail)
                refine HDG.out.mono ?_
                rintro e w2 ⟨rfl, rfl⟩
                go_wp2_with (fail)
                go_roundw
                case rel => exact ⟨j + 1, by go_num, by omega, HA2, trivial⟩
                case measure => simp [intOf]; omega
              | false =>
                rw [hd] at HDG
                by_cases hu : lkB x j = 95
                · have gu : ((lkB x j).toNat : Int) = 95 := by rw [hu]; rfl
                  have HA2 : Hid ((x.take (j + 1)).all nmB = true) := by show _ = _; rw [HTA.out, HA.out]; unfold nmB; rw [hl, hd, hu]; rfl
                  rw [gu] at HLT HDG
                  clear hl hd hu
                  go_wp2_with (fail)
                  refine HLT.out.mono ?_
                  rintro e w2 ⟨rfl, rfl⟩
                  go_wp2_with (fail)
                  refine HDG.out.mono ?_
                  rintro e w2 ⟨rfl, rfl⟩
                  go_wp2_with (fail)
                  go_roundw
                  case rel => exact ⟨j + 1, by go_num, by omega, HA2, trivial⟩
                  case measure => simp [intOf]; omega
                · have gu : (((lkB x j).toNat : Int) != 95) = true := by
                    simp only [bne_iff_ne, ne_eq]
                    intro hh
                    exact hu (UInt8.toNat_inj.1 (by have h95 : (95 : UInt8).toNat = 95 := rfl; omega))
                  have HN : Hid (nameDoc x = false) := HNF.out (by unfold nmB; rw [hl, hd]; simp [hu])
                  clear hl hd hu
                  go_wp2_with (fail)
                  refine HLT.out.mono ?_
                  rintro e w2 ⟨rfl, rfl⟩
                  go_wp2_with (fail)
                  refine HDG.out.mono ?_
                  rintro e w2 ⟨rfl, rfl⟩
                  go_wp2_with (fail)
                  go_ret
                  rw [HN.out]
                  exact ⟨rfl, Below.refl _ _⟩
          · have hjl : ¬ ((j : Int) < (x.length : Int)) := by omega
            have HF2 : Hid (nameDoc x = (partsD x).isNone) := by
              show _ = _
              have := HA.out
              rw [show j = x.length by omega, List.take_length] at this
              rw [HF.out, this, Bool.true_and]
            have hsm : ∀ W : World, Below W.heap.size W W := fun W => Below.refl _ _
            go_wp2_with (fail)
            refine (HPT.out w).mono ?_
            rintro e w2 ⟨hout, hb2⟩
            have HB2 := Lib.hid hb2
            clear hb2
            revert hout HF2
            cases partsD x with
            | none =>
              intro HF2 hout
              obtain rfl : e = .returned (.tuple #[.string ⟨#[]⟩, .bool false]) := hout
              go_wp2_with (fail)
              go_ret
              rw [HF2.out]
              exact ⟨rfl, HB2.out⟩
            | some g =>
              intro HF2 hout
              obtain rfl : e = .returned (.tuple #[.string ⟨g.toArray⟩, .bool true]) := hout
              go_wp2_with (fail)
              go_ret
              rw [HF2.out]
              exact ⟨rfl, HB2.out⟩
end Go.Proofs.YteebihdgfkmgmaaGreatDoor
