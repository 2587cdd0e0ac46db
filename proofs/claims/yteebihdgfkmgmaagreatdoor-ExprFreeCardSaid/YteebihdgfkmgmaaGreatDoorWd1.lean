/-
The reader of package expr: what stands behind a word (part 0).
-/
import Derived.Test.YteebihdgfkmgmaaGreatDoorWd0
namespace Go.Proofs.YteebihdgfkmgmaaGreatDoor
open Go.RowKit

set_option maxRecDepth 100000 in
set_option maxHeartbeats 1000000 in
theorem wd_true : WdOk [116, 114, 117, 101] := by
  intro w
  rw [show wdP [116, 114, 117, 101] = some ([], 0) by decide +kernel]
  go_enter Tryz.func93, Tryz.ntmps93
  go_wp2
  refine bodyPost_ret (v := .tuple #[.agg #[.string ⟨#[]⟩, .int .i64 0], .bool true]) (by simp [results, Tryz.results93, go_sem]) rfl ?_
  exact ⟨rfl, (Below.refl _ _).alloc (Nat.le_refl _) _⟩

set_option maxRecDepth 100000 in
set_option maxHeartbeats 1000000 in
theorem wd_side : WdOk [115, 105, 100, 101] := by
  intro w
  rw [show wdP [115, 105, 100, 101] = some ([100], 1) by decide +kernel]
  go_enter Tryz.func93, Tryz.ntmps93
  go_wp2
  refine bodyPost_ret (v := .tuple #[.agg #[.string ⟨#[100]⟩, .int .i64 1], .bool true]) (by simp [results, Tryz.results93, go_sem]) rfl ?_
  exact ⟨rfl, (Below.refl _ _).alloc (Nat.le_refl _) _⟩

set_option maxRecDepth 100000 in
set_option maxHeartbeats 1000000 in
theorem wd_neg : WdOk [110, 101, 103] := by
  intro w
  rw [show wdP [110, 101, 103] = some ([101], 1) by decide +kernel]
  go_enter Tryz.func93, Tryz.ntmps93
  go_wp2
  refine bodyPost_ret (v := .tuple #[.agg #[.string ⟨#[101]⟩, .int .i64 1], .bool true]) (by simp [results, Tryz.results93, go_sem]) rfl ?_
  exact ⟨rfl, (Below.refl _ _).alloc (Nat.le_refl _) _⟩

set_option maxRecDepth 100000 in
set_option maxHeartbeats 1000000 in
theorem wd_second : WdOk [115, 101, 99, 111, 110, 100] := by
  intro w
  rw [show wdP [115, 101, 99, 111, 110, 100] = some ([101], 1) by decide +kernel]
  go_enter Tryz.func93, Tryz.ntmps93
  go_wp2
  refine bodyPost_ret (v := .tuple #[.agg #[.string ⟨#[101]⟩, .int .i64 1], .bool true]) (by simp [results, Tryz.results93, go_sem]) rfl ?_
  exact ⟨rfl, (Below.refl _ _).alloc (Nat.le_refl _) _⟩

set_option maxRecDepth 100000 in
set_option maxHeartbeats 1000000 in
theorem wd_some : WdOk [115, 111, 109, 101] := by
  intro w
  rw [show wdP [115, 111, 109, 101] = some ([101], 1) by decide +kernel]
  go_enter Tryz.func93, Tryz.ntmps93
  go_wp2
  refine bodyPost_ret (v := .tuple #[.agg #[.string ⟨#[101]⟩, .int .i64 1], .bool true]) (by simp [results, Tryz.results93, go_sem]) rfl ?_
  exact ⟨rfl, (Below.refl _ _).alloc (Nat.le_refl _) _⟩

set_option maxRecDepth 100000 in
set_option maxHeartbeats 1000000 in
theorem wd_bytes : WdOk [98, 121, 116, 101, 115] := by
  intro w
  rw [show wdP [98, 121, 116, 101, 115] = some ([101], 1) by decide +kernel]
  go_enter Tryz.func93, Tryz.ntmps93
  go_wp2
  refine bodyPost_ret (v := .tuple #[.agg #[.string ⟨#[101]⟩, .int .i64 1], .bool true]) (by simp [results, Tryz.results93, go_sem]) rfl ?_
  exact ⟨rfl, (Below.refl _ _).alloc (Nat.le_refl _) _⟩

set_option maxRecDepth 100000 in
set_option maxHeartbeats 1000000 in
theorem wd_re : WdOk [114, 101] := by
  intro w
  rw [show wdP [114, 101] = some ([101], 1) by decide +kernel]
  go_enter Tryz.func93, Tryz.ntmps93
  go_wp2
  refine bodyPost_ret (v := .tuple #[.agg #[.string ⟨#[101]⟩, .int .i64 1], .bool true]) (by simp [results, Tryz.results93, go_sem]) rfl ?_
  exact ⟨rfl, (Below.refl _ _).alloc (Nat.le_refl _) _⟩

set_option maxRecDepth 100000 in
set_option maxHeartbeats 1000000 in
theorem wd_range : WdOk [114, 97, 110, 103, 101] := by
  intro w
  rw [show wdP [114, 97, 110, 103, 101] = some ([101], 1) by decide +kernel]
  go_enter Tryz.func93, Tryz.ntmps93
  go_wp2
  refine bodyPost_ret (v := .tuple #[.agg #[.string ⟨#[101]⟩, .int .i64 1], .bool true]) (by simp [results, Tryz.results93, go_sem]) rfl ?_
  exact ⟨rfl, (Below.refl _ _).alloc (Nat.le_refl _) _⟩

set_option maxRecDepth 100000 in
set_option maxHeartbeats 1000000 in
theorem wd_mul : WdOk [109, 117, 108] := by
  intro w
  rw [show wdP [109, 117, 108] = some ([101, 101], 2) by decide +kernel]
  go_enter Tryz.func93, Tryz.ntmps93
  go_wp2
  refine bodyPost_ret (v := .tuple #[.agg #[.string ⟨#[101, 101]⟩, .int .i64 2], .bool true]) (by simp [results, Tryz.results93, go_sem]) rfl ?_
  exact ⟨rfl, (Below.refl _ _).alloc (Nat.le_refl _) _⟩

set_option maxRecDepth 100000 in
set_option maxHeartbeats 1000000 in
theorem wd_eq : WdOk [101, 113] := by
  intro w
  rw [show wdP [101, 113] = some ([101, 101], 2) by decide +kernel]
  go_enter Tryz.func93, Tryz.ntmps93
  go_wp2
  refine bodyPost_ret (v := .tuple #[.agg #[.string ⟨#[101, 101]⟩, .int .i64 2], .bool true]) (by simp [results, Tryz.results93, go_sem]) rfl ?_
  exact ⟨rfl, (Below.refl _ _).alloc (Nat.le_refl _) _⟩

set_option maxRecDepth 100000 in
set_option maxHeartbeats 1000000 in
theorem wd_or : WdOk [111, 114] := by
  intro w
  rw [show wdP [111, 114] = some ([101, 101], 2) by decide +kernel]
  go_enter Tryz.func93, Tryz.ntmps93
  go_wp2
  refine bodyPost_ret (v := .tuple #[.agg #[.string ⟨#[101, 101]⟩, .int .i64 2], .bool true]) (by simp [results, Tryz.results93, go_sem]) rfl ?_
  exact ⟨rfl, (Below.refl _ _).alloc (Nat.le_refl _) _⟩

set_option maxRecDepth 100000 in
set_option maxHeartbeats 1000000 in
theorem wd_concat : WdOk [99, 111, 110, 99, 97, 116] := by
  intro w
  rw [show wdP [99, 111, 110, 99, 97, 116] = some ([101, 101], 2) by decide +kernel]
  go_enter Tryz.func93, Tryz.ntmps93
  go_wp2
  refine bodyPost_ret (v := .tuple #[.agg #[.string ⟨#[101, 101]⟩, .int .i64 2], .bool true]) (by simp [results, Tryz.results93, go_sem]) rfl ?_
  exact ⟨rfl, (Below.refl _ _).alloc (Nat.le_refl _) _⟩

set_option maxRecDepth 100000 in
set_option maxHeartbeats 1000000 in
theorem wd_join : WdOk [106, 111, 105, 110] := by
  intro w
  rw [show wdP [106, 111, 105, 110] = some ([101, 101], 2) by decide +kernel]
  go_enter Tryz.func93, Tryz.ntmps93
  go_wp2
  refine bodyPost_ret (v := .tuple #[.agg #[.string ⟨#[101, 101]⟩, .int .i64 2], .bool true]) (by simp [results, Tryz.results93, go_sem]) rfl ?_
  exact ⟨rfl, (Below.refl _ _).alloc (Nat.le_refl _) _⟩

set_option maxRecDepth 100000 in
set_option maxHeartbeats 1000000 in
theorem wd_cut : WdOk [99, 117, 116] := by
  intro w
  rw [show wdP [99, 117, 116] = some ([101, 101, 101], 3) by decide +kernel]
  go_enter Tryz.func93, Tryz.ntmps93
  go_wp2
  refine bodyPost_ret (v := .tuple #[.agg #[.string ⟨#[101, 101, 101]⟩, .int .i64 3], .bool true]) (by simp [results, Tryz.results93, go_sem]) rfl ?_
  exact ⟨rfl, (Below.refl _ _).alloc (Nat.le_refl _) _⟩

set_option maxRecDepth 100000 in
set_option maxHeartbeats 1000000 in
theorem wd_filter : WdOk [102, 105, 108, 116, 101, 114] := by
  intro w
  rw [show wdP [102, 105, 108, 116, 101, 114] = some ([101, 110, 101], 3) by decide +kernel]
  go_enter Tryz.func93, Tryz.ntmps93
  go_wp2
  refine bodyPost_ret (v := .tuple #[.agg #[.string ⟨#[101, 110, 101]⟩, .int .i64 3], .bool true]) (by simp [results, Tryz.results93, go_sem]) rfl ?_
  exact ⟨rfl, (Below.refl _ _).alloc (Nat.le_refl _) _⟩
end Go.Proofs.YteebihdgfkmgmaaGreatDoor

namespace Go.Proofs.YteebihdgfkmgmaaGreatDoor
open Go.RowKit

set_option maxRecDepth 100000 in
set_option maxHeartbeats 1000000 in
theorem wd_false : WdOk [102, 97, 108, 115, 101] := by
  intro w
  rw [show wdP [102, 97, 108, 115, 101] = some ([], 0) by decide +kernel]
  go_enter Tryz.func93, Tryz.ntmps93
  go_wp2
  refine bodyPost_ret (v := .tuple #[.agg #[.string ⟨#[]⟩, .int .i64 0], .bool true]) (by simp [results, Tryz.results93, go_sem]) rfl ?_
  exact ⟨rfl, (Below.refl _ _).alloc (Nat.le_refl _) _⟩

set_option maxRecDepth 100000 in
set_option maxHeartbeats 1000000 in
theorem wd_nil : WdOk [110, 105, 108] := by
  intro w
  rw [show wdP [110, 105, 108] = some ([116], 1) by decide +kernel]
  go_enter Tryz.func93, Tryz.ntmps93
  go_wp2
  refine bodyPost_ret (v := .tuple #[.agg #[.string ⟨#[116]⟩, .int .i64 1], .bool true]) (by simp [results, Tryz.results93, go_sem]) rfl ?_
  exact ⟨rfl, (Below.refl _ _).alloc (Nat.le_refl _) _⟩

set_option maxRecDepth 100000 in
set_option maxHeartbeats 1000000 in
theorem wd_not : WdOk [110, 111, 116] := by
  intro w
  rw [show wdP [110, 111, 116] = some ([101], 1) by decide +kernel]
  go_enter Tryz.func93, Tryz.ntmps93
  go_wp2
  refine bodyPost_ret (v := .tuple #[.agg #[.string ⟨#[101]⟩, .int .i64 1], .bool true]) (by simp [results, Tryz.results93, go_sem]) rfl ?_
  exact ⟨rfl, (Below.refl _ _).alloc (Nat.le_refl _) _⟩

set_option maxRecDepth 100000 in
set_option maxHeartbeats 1000000 in
theorem wd_len : WdOk [108, 101, 110] := by
  intro w
  rw [show wdP [108, 101, 110] = some ([101], 1) by decide +kernel]
  go_enter Tryz.func93, Tryz.ntmps93
  go_wp2
  refine bodyPost_ret (v := .tuple #[.agg #[.string ⟨#[101]⟩, .int .i64 1], .bool true]) (by simp [results, Tryz.results93, go_sem]) rfl ?_
  exact ⟨rfl, (Below.refl _ _).alloc (Nat.le_refl _) _⟩

set_option maxRecDepth 100000 in
set_option maxHeartbeats 1000000 in
theorem wd_isXsome : WdOk [105, 115, 95, 115, 111, 109, 101] := by
  intro w
  rw [show wdP [105, 115, 95, 115, 111, 109, 101] = some ([101], 1) by decide +kernel]
  go_enter Tryz.func93, Tryz.ntmps93
  go_wp2
  refine bodyPost_ret (v := .tuple #[.agg #[.string ⟨#[101]⟩, .int .i64 1], .bool true]) (by simp [results, Tryz.results93, go_sem]) rfl ?_
  exact ⟨rfl, (Below.refl _ _).alloc (Nat.le_refl _) _⟩

set_option maxRecDepth 100000 in
set_option maxHeartbeats 1000000 in
theorem wd_text : WdOk [116, 101, 120, 116] := by
  intro w
  rw [show wdP [116, 101, 120, 116] = some ([101], 1) by decide +kernel]
  go_enter Tryz.func93, Tryz.ntmps93
  go_wp2
  refine bodyPost_ret (v := .tuple #[.agg #[.string ⟨#[101]⟩, .int .i64 1], .bool true]) (by simp [results, Tryz.results93, go_sem]) rfl ?_
  exact ⟨rfl, (Below.refl _ _).alloc (Nat.le_refl _) _⟩

set_option maxRecDepth 100000 in
set_option maxHeartbeats 1000000 in
theorem wd_im : WdOk [105, 109] := by
  intro w
  rw [show wdP [105, 109] = some ([101], 1) by decide +kernel]
  go_enter Tryz.func93, Tryz.ntmps93
  go_wp2
  refine bodyPost_ret (v := .tuple #[.agg #[.string ⟨#[101]⟩, .int .i64 1], .bool true]) (by simp [results, Tryz.results93, go_sem]) rfl ?_
  exact ⟨rfl, (Below.refl _ _).alloc (Nat.le_refl _) _⟩

set_option maxRecDepth 100000 in
set_option maxHeartbeats 1000000 in
theorem wd_add : WdOk [97, 100, 100] := by
  intro w
  rw [show wdP [97, 100, 100] = some ([101, 101], 2) by decide +kernel]
  go_enter Tryz.func93, Tryz.ntmps93
  go_wp2
  refine bodyPost_ret (v := .tuple #[.agg #[.string ⟨#[101, 101]⟩, .int .i64 2], .bool true]) (by simp [results, Tryz.results93, go_sem]) rfl ?_
  exact ⟨rfl, (Below.refl _ _).alloc (Nat.le_refl _) _⟩

set_option maxRecDepth 100000 in
set_option maxHeartbeats 1000000 in
theorem wd_div : WdOk [100, 105, 118] := by
  intro w
  rw [show wdP [100, 105, 118] = some ([101, 101], 2) by decide +kernel]
  go_enter Tryz.func93, Tryz.ntmps93
  go_wp2
  refine bodyPost_ret (v := .tuple #[.agg #[.string ⟨#[101, 101]⟩, .int .i64 2], .bool true]) (by simp [results, Tryz.results93, go_sem]) rfl ?_
  exact ⟨rfl, (Below.refl _ _).alloc (Nat.le_refl _) _⟩

set_option maxRecDepth 100000 in
set_option maxHeartbeats 1000000 in
theorem wd_lt : WdOk [108, 116] := by
  intro w
  rw [show wdP [108, 116] = some ([101, 101], 2) by decide +kernel]
  go_enter Tryz.func93, Tryz.ntmps93
  go_wp2
  refine bodyPost_ret (v := .tuple #[.agg #[.string ⟨#[101, 101]⟩, .int .i64 2], .bool true]) (by simp [results, Tryz.results93, go_sem]) rfl ?_
  exact ⟨rfl, (Below.refl _ _).alloc (Nat.le_refl _) _⟩

set_option maxRecDepth 100000 in
set_option maxHeartbeats 1000000 in
theorem wd_pair : WdOk [112, 97, 105, 114] := by
  intro w
  rw [show wdP [112, 97, 105, 114] = some ([101, 101], 2) by decide +kernel]
  go_enter Tryz.func93, Tryz.ntmps93
  go_wp2
  refine bodyPost_ret (v := .tuple #[.agg #[.string ⟨#[101, 101]⟩, .int .i64 2], .bool true]) (by simp [results, Tryz.results93, go_sem]) rfl ?_
  exact ⟨rfl, (Below.refl _ _).alloc (Nat.le_refl _) _⟩

set_option maxRecDepth 100000 in
set_option maxHeartbeats 1000000 in
theorem wd_at : WdOk [97, 116] := by
  intro w
  rw [show wdP [97, 116] = some ([101, 101], 2) by decide +kernel]
  go_enter Tryz.func93, Tryz.ntmps93
  go_wp2
  refine bodyPost_ret (v := .tuple #[.agg #[.string ⟨#[101, 101]⟩, .int .i64 2], .bool true]) (by simp [results, Tryz.results93, go_sem]) rfl ?_
  exact ⟨rfl, (Below.refl _ _).alloc (Nat.le_refl _) _⟩

set_option maxRecDepth 100000 in
set_option maxHeartbeats 1000000 in
theorem wd_point : WdOk [112, 111, 105, 110, 116] := by
  intro w
  rw [show wdP [112, 111, 105, 110, 116] = some ([101, 101], 2) by decide +kernel]
  go_enter Tryz.func93, Tryz.ntmps93
  go_wp2
  refine bodyPost_ret (v := .tuple #[.agg #[.string ⟨#[101, 101]⟩, .int .i64 2], .bool true]) (by simp [results, Tryz.results93, go_sem]) rfl ?_
  exact ⟨rfl, (Below.refl _ _).alloc (Nat.le_refl _) _⟩

set_option maxRecDepth 100000 in
set_option maxHeartbeats 1000000 in
theorem wd_let : WdOk [108, 101, 116] := by
  intro w
  rw [show wdP [108, 101, 116] = some ([110, 101, 101], 3) by decide +kernel]
  go_enter Tryz.func93, Tryz.ntmps93
  go_wp2
  refine bodyPost_ret (v := .tuple #[.agg #[.string ⟨#[110, 101, 101]⟩, .int .i64 3], .bool true]) (by simp [results, Tryz.results93, go_sem]) rfl ?_
  exact ⟨rfl, (Below.refl _ _).alloc (Nat.le_refl _) _⟩

set_option maxRecDepth 100000 in
set_option maxHeartbeats 1000000 in
theorem wd_fold : WdOk [102, 111, 108, 100] := by
  intro w
  rw [show wdP [102, 111, 108, 100] = some ([101, 101, 110, 110, 101], 5) by decide +kernel]
  go_enter Tryz.func93, Tryz.ntmps93
  go_wp2
  refine bodyPost_ret (v := .tuple #[.agg #[.string ⟨#[101, 101, 110, 110, 101]⟩, .int .i64 5], .bool true]) (by simp [results, Tryz.results93, go_sem]) rfl ?_
  exact ⟨rfl, (Below.refl _ _).alloc (Nat.le_refl _) _⟩
end Go.Proofs.YteebihdgfkmgmaaGreatDoor
