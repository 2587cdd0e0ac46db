/-
The reader of package expr: what stands behind a word (the table).
-/
import Derived.Test.YteebihdgfkmgmaaGreatDoorRc1
namespace Go.Proofs.YteebihdgfkmgmaaGreatDoor
open Go.RowKit

/-- The words, but list, and what stands behind each. -/
def wdL : List (List UInt8 × List UInt8) := [([116, 114, 117, 101], []), ([102, 97, 108, 115, 101], []), ([105, 116], []), ([115, 105, 100, 101], [100]), ([110, 105, 108], [116]), ([110, 111, 110, 101], [116]), ([110, 101, 103], [101]), ([110, 111, 116], [101]), ([102, 105, 114, 115, 116], [101]), ([115, 101, 99, 111, 110, 100], [101]), ([108, 101, 110], [101]), ([115, 111, 114, 116], [101]), ([115, 111, 109, 101], [101]), ([105, 115, 95, 115, 111, 109, 101], [101]), ([115, 105, 122, 101], [101]), ([98, 121, 116, 101, 115], [101]), ([116, 101, 120, 116], [101]), ([115, 104, 111, 119], [101]), ([114, 101], [101]), ([105, 109], [101]), ([99, 111, 110, 106], [101]), ([114, 97, 110, 103, 101], [101]), ([97, 100, 100], [101, 101]), ([115, 117, 98], [101, 101]), ([109, 117, 108], [101, 101]), ([100, 105, 118], [101, 101]), ([109, 111, 100], [101, 101]), ([101, 113], [101, 101]), ([108, 116], [101, 101]), ([97, 110, 100], [101, 101]), ([111, 114], [101, 101]), ([112, 97, 105, 114], [101, 101]), ([99, 111, 110, 115], [101, 101]), ([99, 111, 110, 99, 97, 116], [101, 101]), ([97, 116], [101, 101]), ([111, 114, 95, 101, 108, 115, 101], [101, 101]), ([106, 111, 105, 110], [101, 101]), ([112, 111, 105, 110, 116], [101, 101]), ([105, 102], [101, 101, 101]), ([99, 117, 116], [101, 101, 101]), ([108, 101, 116], [110, 101, 101]), ([109, 97, 112], [101, 110, 101]), ([102, 105, 108, 116, 101, 114], [101, 110, 101]), ([102, 111, 108, 100], [101, 101, 110, 110, 101])]
def listW : List UInt8 := [108, 105, 115, 116]
/-- What stands behind a word, and how much of it must. -/
def wdP (s : List UInt8) : Option (List UInt8 × Nat) := if s = listW then some (List.replicate 64 101, 1) else (wdL.find? fun x => decide (x.1 = s)).map fun x => (x.2, x.2.length)

/-- What wordOf answers with. -/
def WdOut (e : Ending) : Option (List UInt8 × Nat) → Prop
  | none => e = .returned (.tuple #[.agg #[.string ⟨#[]⟩, .int .i64 0], .bool false])
  | some (p, n) => e = .returned (.tuple #[.agg #[.string ⟨p.toArray⟩, .int .i64 (n : Int)], .bool true])
def WdOk (s : List UInt8) : Prop := ∀ w : World, Calls Tryz.prog 93 #[.string ⟨s.toArray⟩] w fun e w' => WdOut e (wdP s) ∧ Below w.heap.size w w'
end Go.Proofs.YteebihdgfkmgmaaGreatDoor

namespace Go.Proofs.YteebihdgfkmgmaaGreatDoor
open Go.RowKit

set_option maxRecDepth 100000 in
set_option maxHeartbeats 1000000 in
theorem wd_it : WdOk [105, 116] := by
  intro w
  rw [show wdP [105, 116] = some ([], 0) by decide +kernel]
  go_enter Tryz.func93, Tryz.ntmps93
  go_wp2
  refine bodyPost_ret (v := .tuple #[.agg #[.string ⟨#[]⟩, .int .i64 0], .bool true]) (by simp [results, Tryz.results93, go_sem]) rfl ?_
  exact ⟨rfl, (Below.refl _ _).alloc (Nat.le_refl _) _⟩

set_option maxRecDepth 100000 in
set_option maxHeartbeats 1000000 in
theorem wd_none : WdOk [110, 111, 110, 101] := by
  intro w
  rw [show wdP [110, 111, 110, 101] = some ([116], 1) by decide +kernel]
  go_enter Tryz.func93, Tryz.ntmps93
  go_wp2
  refine bodyPost_ret (v := .tuple #[.agg #[.string ⟨#[116]⟩, .int .i64 1], .bool true]) (by simp [results, Tryz.results93, go_sem]) rfl ?_
  exact ⟨rfl, (Below.refl _ _).alloc (Nat.le_refl _) _⟩

set_option maxRecDepth 100000 in
set_option maxHeartbeats 1000000 in
theorem wd_first : WdOk [102, 105, 114, 115, 116] := by
  intro w
  rw [show wdP [102, 105, 114, 115, 116] = some ([101], 1) by decide +kernel]
  go_enter Tryz.func93, Tryz.ntmps93
  go_wp2
  refine bodyPost_ret (v := .tuple #[.agg #[.string ⟨#[101]⟩, .int .i64 1], .bool true]) (by simp [results, Tryz.results93, go_sem]) rfl ?_
  exact ⟨rfl, (Below.refl _ _).alloc (Nat.le_refl _) _⟩

set_option maxRecDepth 100000 in
set_option maxHeartbeats 1000000 in
theorem wd_sort : WdOk [115, 111, 114, 116] := by
  intro w
  rw [show wdP [115, 111, 114, 116] = some ([101], 1) by decide +kernel]
  go_enter Tryz.func93, Tryz.ntmps93
  go_wp2
  refine bodyPost_ret (v := .tuple #[.agg #[.string ⟨#[101]⟩, .int .i64 1], .bool true]) (by simp [results, Tryz.results93, go_sem]) rfl ?_
  exact ⟨rfl, (Below.refl _ _).alloc (Nat.le_refl _) _⟩

set_option maxRecDepth 100000 in
set_option maxHeartbeats 1000000 in
theorem wd_size : WdOk [115, 105, 122, 101] := by
  intro w
  rw [show wdP [115, 105, 122, 101] = some ([101], 1) by decide +kernel]
  go_enter Tryz.func93, Tryz.ntmps93
  go_wp2
  refine bodyPost_ret (v := .tuple #[.agg #[.string ⟨#[101]⟩, .int .i64 1], .bool true]) (by simp [results, Tryz.results93, go_sem]) rfl ?_
  exact ⟨rfl, (Below.refl _ _).alloc (Nat.le_refl _) _⟩

set_option maxRecDepth 100000 in
set_option maxHeartbeats 1000000 in
theorem wd_show : WdOk [115, 104, 111, 119] := by
  intro w
  rw [show wdP [115, 104, 111, 119] = some ([101], 1) by decide +kernel]
  go_enter Tryz.func93, Tryz.ntmps93
  go_wp2
  refine bodyPost_ret (v := .tuple #[.agg #[.string ⟨#[101]⟩, .int .i64 1], .bool true]) (by simp [results, Tryz.results93, go_sem]) rfl ?_
  exact ⟨rfl, (Below.refl _ _).alloc (Nat.le_refl _) _⟩

set_option maxRecDepth 100000 in
set_option maxHeartbeats 1000000 in
theorem wd_conj : WdOk [99, 111, 110, 106] := by
  intro w
  rw [show wdP [99, 111, 110, 106] = some ([101], 1) by decide +kernel]
  go_enter Tryz.func93, Tryz.ntmps93
  go_wp2
  refine bodyPost_ret (v := .tuple #[.agg #[.string ⟨#[101]⟩, .int .i64 1], .bool true]) (by simp [results, Tryz.results93, go_sem]) rfl ?_
  exact ⟨rfl, (Below.refl _ _).alloc (Nat.le_refl _) _⟩

set_option maxRecDepth 100000 in
set_option maxHeartbeats 1000000 in
theorem wd_sub : WdOk [115, 117, 98] := by
  intro w
  rw [show wdP [115, 117, 98] = some ([101, 101], 2) by decide +kernel]
  go_enter Tryz.func93, Tryz.ntmps93
  go_wp2
  refine bodyPost_ret (v := .tuple #[.agg #[.string ⟨#[101, 101]⟩, .int .i64 2], .bool true]) (by simp [results, Tryz.results93, go_sem]) rfl ?_
  exact ⟨rfl, (Below.refl _ _).alloc (Nat.le_refl _) _⟩

set_option maxRecDepth 100000 in
set_option maxHeartbeats 1000000 in
theorem wd_mod : WdOk [109, 111, 100] := by
  intro w
  rw [show wdP [109, 111, 100] = some ([101, 101], 2) by decide +kernel]
  go_enter Tryz.func93, Tryz.ntmps93
  go_wp2
  refine bodyPost_ret (v := .tuple #[.agg #[.string ⟨#[101, 101]⟩, .int .i64 2], .bool true]) (by simp [results, Tryz.results93, go_sem]) rfl ?_
  exact ⟨rfl, (Below.refl _ _).alloc (Nat.le_refl _) _⟩

set_option maxRecDepth 100000 in
set_option maxHeartbeats 1000000 in
theorem wd_and : WdOk [97, 110, 100] := by
  intro w
  rw [show wdP [97, 110, 100] = some ([101, 101], 2) by decide +kernel]
  go_enter Tryz.func93, Tryz.ntmps93
  go_wp2
  refine bodyPost_ret (v := .tuple #[.agg #[.string ⟨#[101, 101]⟩, .int .i64 2], .bool true]) (by simp [results, Tryz.results93, go_sem]) rfl ?_
  exact ⟨rfl, (Below.refl _ _).alloc (Nat.le_refl _) _⟩

set_option maxRecDepth 100000 in
set_option maxHeartbeats 1000000 in
theorem wd_cons : WdOk [99, 111, 110, 115] := by
  intro w
  rw [show wdP [99, 111, 110, 115] = some ([101, 101], 2) by decide +kernel]
  go_enter Tryz.func93, Tryz.ntmps93
  go_wp2
  refine bodyPost_ret (v := .tuple #[.agg #[.string ⟨#[101, 101]⟩, .int .i64 2], .bool true]) (by simp [results, Tryz.results93, go_sem]) rfl ?_
  exact ⟨rfl, (Below.refl _ _).alloc (Nat.le_refl _) _⟩

set_option maxRecDepth 100000 in
set_option maxHeartbeats 1000000 in
theorem wd_orXelse : WdOk [111, 114, 95, 101, 108, 115, 101] := by
  intro w
  rw [show wdP [111, 114, 95, 101, 108, 115, 101] = some ([101, 101], 2) by decide +kernel]
  go_enter Tryz.func93, Tryz.ntmps93
  go_wp2
  refine bodyPost_ret (v := .tuple #[.agg #[.string ⟨#[101, 101]⟩, .int .i64 2], .bool true]) (by simp [results, Tryz.results93, go_sem]) rfl ?_
  exact ⟨rfl, (Below.refl _ _).alloc (Nat.le_refl _) _⟩

set_option maxRecDepth 100000 in
set_option maxHeartbeats 1000000 in
theorem wd_if : WdOk [105, 102] := by
  intro w
  rw [show wdP [105, 102] = some ([101, 101, 101], 3) by decide +kernel]
  go_enter Tryz.func93, Tryz.ntmps93
  go_wp2
  refine bodyPost_ret (v := .tuple #[.agg #[.string ⟨#[101, 101, 101]⟩, .int .i64 3], .bool true]) (by simp [results, Tryz.results93, go_sem]) rfl ?_
  exact ⟨rfl, (Below.refl _ _).alloc (Nat.le_refl _) _⟩

set_option maxRecDepth 100000 in
set_option maxHeartbeats 1000000 in
theorem wd_map : WdOk [109, 97, 112] := by
  intro w
  rw [show wdP [109, 97, 112] = some ([101, 110, 101], 3) by decide +kernel]
  go_enter Tryz.func93, Tryz.ntmps93
  go_wp2
  refine bodyPost_ret (v := .tuple #[.agg #[.string ⟨#[101, 110, 101]⟩, .int .i64 3], .bool true]) (by simp [results, Tryz.results93, go_sem]) rfl ?_
  exact ⟨rfl, (Below.refl _ _).alloc (Nat.le_refl _) _⟩
end Go.Proofs.YteebihdgfkmgmaaGreatDoor
