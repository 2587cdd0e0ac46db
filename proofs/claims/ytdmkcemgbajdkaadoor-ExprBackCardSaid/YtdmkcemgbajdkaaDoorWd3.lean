/-
The reader of package expr: what stands behind a word (part 2).
-/
import Derived.Test.YtdmkcemgbajdkaaDoorWd0
namespace Go.Proofs.YtdmkcemgbajdkaaDoor
open Go.RowKit

set_option maxRecDepth 100000 in
set_option maxHeartbeats 1000000 in
theorem wd_it : WdOk [105, 116] := by
  intro w
  rw [show wdP [105, 116] = some ([], 0) by decide +kernel]
  go_enter Tryd.func35, Tryd.ntmps35
  go_wp2
  refine bodyPost_ret (v := .tuple #[.agg #[.string ⟨#[]⟩, .int .i64 0], .bool true]) (by simp [results, Tryd.results35, go_sem]) rfl ?_
  exact ⟨rfl, (Below.refl _ _).alloc (Nat.le_refl _) _⟩

set_option maxRecDepth 100000 in
set_option maxHeartbeats 1000000 in
theorem wd_none : WdOk [110, 111, 110, 101] := by
  intro w
  rw [show wdP [110, 111, 110, 101] = some ([116], 1) by decide +kernel]
  go_enter Tryd.func35, Tryd.ntmps35
  go_wp2
  refine bodyPost_ret (v := .tuple #[.agg #[.string ⟨#[116]⟩, .int .i64 1], .bool true]) (by simp [results, Tryd.results35, go_sem]) rfl ?_
  exact ⟨rfl, (Below.refl _ _).alloc (Nat.le_refl _) _⟩

set_option maxRecDepth 100000 in
set_option maxHeartbeats 1000000 in
theorem wd_first : WdOk [102, 105, 114, 115, 116] := by
  intro w
  rw [show wdP [102, 105, 114, 115, 116] = some ([101], 1) by decide +kernel]
  go_enter Tryd.func35, Tryd.ntmps35
  go_wp2
  refine bodyPost_ret (v := .tuple #[.agg #[.string ⟨#[101]⟩, .int .i64 1], .bool true]) (by simp [results, Tryd.results35, go_sem]) rfl ?_
  exact ⟨rfl, (Below.refl _ _).alloc (Nat.le_refl _) _⟩

set_option maxRecDepth 100000 in
set_option maxHeartbeats 1000000 in
theorem wd_sort : WdOk [115, 111, 114, 116] := by
  intro w
  rw [show wdP [115, 111, 114, 116] = some ([101], 1) by decide +kernel]
  go_enter Tryd.func35, Tryd.ntmps35
  go_wp2
  refine bodyPost_ret (v := .tuple #[.agg #[.string ⟨#[101]⟩, .int .i64 1], .bool true]) (by simp [results, Tryd.results35, go_sem]) rfl ?_
  exact ⟨rfl, (Below.refl _ _).alloc (Nat.le_refl _) _⟩

set_option maxRecDepth 100000 in
set_option maxHeartbeats 1000000 in
theorem wd_size : WdOk [115, 105, 122, 101] := by
  intro w
  rw [show wdP [115, 105, 122, 101] = some ([101], 1) by decide +kernel]
  go_enter Tryd.func35, Tryd.ntmps35
  go_wp2
  refine bodyPost_ret (v := .tuple #[.agg #[.string ⟨#[101]⟩, .int .i64 1], .bool true]) (by simp [results, Tryd.results35, go_sem]) rfl ?_
  exact ⟨rfl, (Below.refl _ _).alloc (Nat.le_refl _) _⟩

set_option maxRecDepth 100000 in
set_option maxHeartbeats 1000000 in
theorem wd_show : WdOk [115, 104, 111, 119] := by
  intro w
  rw [show wdP [115, 104, 111, 119] = some ([101], 1) by decide +kernel]
  go_enter Tryd.func35, Tryd.ntmps35
  go_wp2
  refine bodyPost_ret (v := .tuple #[.agg #[.string ⟨#[101]⟩, .int .i64 1], .bool true]) (by simp [results, Tryd.results35, go_sem]) rfl ?_
  exact ⟨rfl, (Below.refl _ _).alloc (Nat.le_refl _) _⟩

set_option maxRecDepth 100000 in
set_option maxHeartbeats 1000000 in
theorem wd_conj : WdOk [99, 111, 110, 106] := by
  intro w
  rw [show wdP [99, 111, 110, 106] = some ([101], 1) by decide +kernel]
  go_enter Tryd.func35, Tryd.ntmps35
  go_wp2
  refine bodyPost_ret (v := .tuple #[.agg #[.string ⟨#[101]⟩, .int .i64 1], .bool true]) (by simp [results, Tryd.results35, go_sem]) rfl ?_
  exact ⟨rfl, (Below.refl _ _).alloc (Nat.le_refl _) _⟩

set_option maxRecDepth 100000 in
set_option maxHeartbeats 1000000 in
theorem wd_sub : WdOk [115, 117, 98] := by
  intro w
  rw [show wdP [115, 117, 98] = some ([101, 101], 2) by decide +kernel]
  go_enter Tryd.func35, Tryd.ntmps35
  go_wp2
  refine bodyPost_ret (v := .tuple #[.agg #[.string ⟨#[101, 101]⟩, .int .i64 2], .bool true]) (by simp [results, Tryd.results35, go_sem]) rfl ?_
  exact ⟨rfl, (Below.refl _ _).alloc (Nat.le_refl _) _⟩

set_option maxRecDepth 100000 in
set_option maxHeartbeats 1000000 in
theorem wd_mod : WdOk [109, 111, 100] := by
  intro w
  rw [show wdP [109, 111, 100] = some ([101, 101], 2) by decide +kernel]
  go_enter Tryd.func35, Tryd.ntmps35
  go_wp2
  refine bodyPost_ret (v := .tuple #[.agg #[.string ⟨#[101, 101]⟩, .int .i64 2], .bool true]) (by simp [results, Tryd.results35, go_sem]) rfl ?_
  exact ⟨rfl, (Below.refl _ _).alloc (Nat.le_refl _) _⟩

set_option maxRecDepth 100000 in
set_option maxHeartbeats 1000000 in
theorem wd_and : WdOk [97, 110, 100] := by
  intro w
  rw [show wdP [97, 110, 100] = some ([101, 101], 2) by decide +kernel]
  go_enter Tryd.func35, Tryd.ntmps35
  go_wp2
  refine bodyPost_ret (v := .tuple #[.agg #[.string ⟨#[101, 101]⟩, .int .i64 2], .bool true]) (by simp [results, Tryd.results35, go_sem]) rfl ?_
  exact ⟨rfl, (Below.refl _ _).alloc (Nat.le_refl _) _⟩

set_option maxRecDepth 100000 in
set_option maxHeartbeats 1000000 in
theorem wd_cons : WdOk [99, 111, 110, 115] := by
  intro w
  rw [show wdP [99, 111, 110, 115] = some ([101, 101], 2) by decide +kernel]
  go_enter Tryd.func35, Tryd.ntmps35
  go_wp2
  refine bodyPost_ret (v := .tuple #[.agg #[.string ⟨#[101, 101]⟩, .int .i64 2], .bool true]) (by simp [results, Tryd.results35, go_sem]) rfl ?_
  exact ⟨rfl, (Below.refl _ _).alloc (Nat.le_refl _) _⟩

set_option maxRecDepth 100000 in
set_option maxHeartbeats 1000000 in
theorem wd_orXelse : WdOk [111, 114, 95, 101, 108, 115, 101] := by
  intro w
  rw [show wdP [111, 114, 95, 101, 108, 115, 101] = some ([101, 101], 2) by decide +kernel]
  go_enter Tryd.func35, Tryd.ntmps35
  go_wp2
  refine bodyPost_ret (v := .tuple #[.agg #[.string ⟨#[101, 101]⟩, .int .i64 2], .bool true]) (by simp [results, Tryd.results35, go_sem]) rfl ?_
  exact ⟨rfl, (Below.refl _ _).alloc (Nat.le_refl _) _⟩

set_option maxRecDepth 100000 in
set_option maxHeartbeats 1000000 in
theorem wd_if : WdOk [105, 102] := by
  intro w
  rw [show wdP [105, 102] = some ([101, 101, 101], 3) by decide +kernel]
  go_enter Tryd.func35, Tryd.ntmps35
  go_wp2
  refine bodyPost_ret (v := .tuple #[.agg #[.string ⟨#[101, 101, 101]⟩, .int .i64 3], .bool true]) (by simp [results, Tryd.results35, go_sem]) rfl ?_
  exact ⟨rfl, (Below.refl _ _).alloc (Nat.le_refl _) _⟩

set_option maxRecDepth 100000 in
set_option maxHeartbeats 1000000 in
theorem wd_map : WdOk [109, 97, 112] := by
  intro w
  rw [show wdP [109, 97, 112] = some ([101, 110, 101], 3) by decide +kernel]
  go_enter Tryd.func35, Tryd.ntmps35
  go_wp2
  refine bodyPost_ret (v := .tuple #[.agg #[.string ⟨#[101, 110, 101]⟩, .int .i64 3], .bool true]) (by simp [results, Tryd.results35, go_sem]) rfl ?_
  exact ⟨rfl, (Below.refl _ _).alloc (Nat.le_refl _) _⟩
end Go.Proofs.YtdmkcemgbajdkaaDoor
