import Derived.Test.YtaecndmncpfpfaaGreatDoorRc1
import Derived.Test.YtaecndmncpfpfaaGreatDoorShelf
namespace Go.Proofs.YtaecndmncpfpfaaGreatDoor
open Go.RowKit
def wdL : List (List UInt8 × List UInt8) := [([116, 114, 117, 101], []), ([102, 97, 108, 115, 101], []), ([105, 116], []), ([115, 105, 100, 101], [100]), ([110, 105, 108], [116]), ([110, 111, 110, 101], [116]), ([110, 101, 103], [101]), ([110, 111, 116], [101]), ([102, 105, 114, 115, 116], [101]), ([115, 101, 99, 111, 110, 100], [101]), ([108, 101, 110], [101]), ([115, 111, 114, 116], [101]), ([115, 111, 109, 101], [101]), ([105, 115, 95, 115, 111, 109, 101], [101]), ([115, 105, 122, 101], [101]), ([98, 121, 116, 101, 115], [101]), ([116, 101, 120, 116], [101]), ([115, 104, 111, 119], [101]), ([114, 101], [101]), ([105, 109], [101]), ([99, 111, 110, 106], [101]), ([114, 97, 110, 103, 101], [101]), ([97, 100, 100], [101, 101]), ([115, 117, 98], [101, 101]), ([109, 117, 108], [101, 101]), ([100, 105, 118], [101, 101]), ([109, 111, 100], [101, 101]), ([101, 113], [101, 101]), ([108, 116], [101, 101]), ([97, 110, 100], [101, 101]), ([111, 114], [101, 101]), ([112, 97, 105, 114], [101, 101]), ([99, 111, 110, 115], [101, 101]), ([99, 111, 110, 99, 97, 116], [101, 101]), ([97, 116], [101, 101]), ([111, 114, 95, 101, 108, 115, 101], [101, 101]), ([106, 111, 105, 110], [101, 101]), ([112, 111, 105, 110, 116], [101, 101]), ([105, 102], [101, 101, 101]), ([99, 117, 116], [101, 101, 101]), ([108, 101, 116], [110, 101, 101]), ([109, 97, 112], [101, 110, 101]), ([102, 105, 108, 116, 101, 114], [101, 110, 101]), ([102, 111, 108, 100], [101, 101, 110, 110, 101])]
def listW : List UInt8 := [108, 105, 115, 116]
def wdP (s : List UInt8) : Option (List UInt8 × Nat) := if s = listW then some (List.replicate 64 101, 1) else (wdL.find? fun x => decide (x.1 = s)).map fun x => (x.2, x.2.length)
def WdOut (e : Ending) : Option (List UInt8 × Nat) → Prop
 | none => e = .returned (.tuple #[.agg #[.string ⟨#[]⟩, .int .i64 0], .bool false])
 | some (p, n) => e = .returned (.tuple #[.agg #[.string ⟨p.toArray⟩, .int .i64 (n : Int)], .bool true])
def WdOk (s : List UInt8) : Prop := ∀ w : World, Calls Tryz.prog 75 #[.string ⟨s.toArray⟩] w fun e w' => WdOut e (wdP s) ∧ Below w.heap.size w w'
end Go.Proofs.YtaecndmncpfpfaaGreatDoor
namespace Go.Proofs.YtaecndmncpfpfaaGreatDoor
open Go.RowKit
set_option maxRecDepth 100000 in
set_option maxHeartbeats 1000000 in
theorem wd_it : WdOk [105, 116] := by
 intro w
 rw [show wdP [105, 116] = some ([], 0) by decide +kernel]
 go_enter Tryz.func75, Tryz.ntmps75
 go_wp2
 refine bodyPost_ret (v := .tuple #[.agg #[.string ⟨#[]⟩, .int .i64 0], .bool true]) (by simp [results, Tryz.results75, go_sem]) rfl ?_
 exact ⟨rfl, (Below.refl _ _).alloc (Nat.le_refl _) _⟩
set_option maxRecDepth 100000 in
set_option maxHeartbeats 1000000 in
theorem wd_none : WdOk [110, 111, 110, 101] := by
 intro w
 rw [show wdP [110, 111, 110, 101] = some ([116], 1) by decide +kernel]
 go_enter Tryz.func75, Tryz.ntmps75
 go_wp2
 refine bodyPost_ret (v := .tuple #[.agg #[.string ⟨#[116]⟩, .int .i64 1], .bool true]) (by simp [results, Tryz.results75, go_sem]) rfl ?_
 exact ⟨rfl, (Below.refl _ _).alloc (Nat.le_refl _) _⟩
set_option maxRecDepth 100000 in
set_option maxHeartbeats 1000000 in
theorem wd_first : WdOk [102, 105, 114, 115, 116] := by
 intro w
 rw [show wdP [102, 105, 114, 115, 116] = some ([101], 1) by decide +kernel]
 go_enter Tryz.func75, Tryz.ntmps75
 go_wp2
 refine bodyPost_ret (v := .tuple #[.agg #[.string ⟨#[101]⟩, .int .i64 1], .bool true]) (by simp [results, Tryz.results75, go_sem]) rfl ?_
 exact ⟨rfl, (Below.refl _ _).alloc (Nat.le_refl _) _⟩
set_option maxRecDepth 100000 in
set_option maxHeartbeats 1000000 in
theorem wd_sort : WdOk [115, 111, 114, 116] := by
 intro w
 rw [show wdP [115, 111, 114, 116] = some ([101], 1) by decide +kernel]
 go_enter Tryz.func75, Tryz.ntmps75
 go_wp2
 refine bodyPost_ret (v := .tuple #[.agg #[.string ⟨#[101]⟩, .int .i64 1], .bool true]) (by simp [results, Tryz.results75, go_sem]) rfl ?_
 exact ⟨rfl, (Below.refl _ _).alloc (Nat.le_refl _) _⟩
set_option maxRecDepth 100000 in
set_option maxHeartbeats 1000000 in
theorem wd_size : WdOk [115, 105, 122, 101] := by
 intro w
 rw [show wdP [115, 105, 122, 101] = some ([101], 1) by decide +kernel]
 go_enter Tryz.func75, Tryz.ntmps75
 go_wp2
 refine bodyPost_ret (v := .tuple #[.agg #[.string ⟨#[101]⟩, .int .i64 1], .bool true]) (by simp [results, Tryz.results75, go_sem]) rfl ?_
 exact ⟨rfl, (Below.refl _ _).alloc (Nat.le_refl _) _⟩
set_option maxRecDepth 100000 in
set_option maxHeartbeats 1000000 in
theorem wd_show : WdOk [115, 104, 111, 119] := by
 intro w
 rw [show wdP [115, 104, 111, 119] = some ([101], 1) by decide +kernel]
 go_enter Tryz.func75, Tryz.ntmps75
 go_wp2
 refine bodyPost_ret (v := .tuple #[.agg #[.string ⟨#[101]⟩, .int .i64 1], .bool true]) (by simp [results, Tryz.results75, go_sem]) rfl ?_
 exact ⟨rfl, (Below.refl _ _).alloc (Nat.le_refl _) _⟩
set_option maxRecDepth 100000 in
set_option maxHeartbeats 1000000 in
theorem wd_conj : WdOk [99, 111, 110, 106] := by
 intro w
 rw [show wdP [99, 111, 110, 106] = some ([101], 1) by decide +kernel]
 go_enter Tryz.func75, Tryz.ntmps75
 go_wp2
 refine bodyPost_ret (v := .tuple #[.agg #[.string ⟨#[101]⟩, .int .i64 1], .bool true]) (by simp [results, Tryz.results75, go_sem]) rfl ?_
 exact ⟨rfl, (Below.refl _ _).alloc (Nat.le_refl _) _⟩
set_option maxRecDepth 100000 in
set_option maxHeartbeats 1000000 in
theorem wd_sub : WdOk [115, 117, 98] := by
 intro w
 rw [show wdP [115, 117, 98] = some ([101, 101], 2) by decide +kernel]
 go_enter Tryz.func75, Tryz.ntmps75
 go_wp2
 refine bodyPost_ret (v := .tuple #[.agg #[.string ⟨#[101, 101]⟩, .int .i64 2], .bool true]) (by simp [results, Tryz.results75, go_sem]) rfl ?_
 exact ⟨rfl, (Below.refl _ _).alloc (Nat.le_refl _) _⟩
set_option maxRecDepth 100000 in
set_option maxHeartbeats 1000000 in
theorem wd_mod : WdOk [109, 111, 100] := by
 intro w
 rw [show wdP [109, 111, 100] = some ([101, 101], 2) by decide +kernel]
 go_enter Tryz.func75, Tryz.ntmps75
 go_wp2
 refine bodyPost_ret (v := .tuple #[.agg #[.string ⟨#[101, 101]⟩, .int .i64 2], .bool true]) (by simp [results, Tryz.results75, go_sem]) rfl ?_
 exact ⟨rfl, (Below.refl _ _).alloc (Nat.le_refl _) _⟩
set_option maxRecDepth 100000 in
set_option maxHeartbeats 1000000 in
theorem wd_and : WdOk [97, 110, 100] := by
 intro w
 rw [show wdP [97, 110, 100] = some ([101, 101], 2) by decide +kernel]
 go_enter Tryz.func75, Tryz.ntmps75
 go_wp2
 refine bodyPost_ret (v := .tuple #[.agg #[.string ⟨#[101, 101]⟩, .int .i64 2], .bool true]) (by simp [results, Tryz.results75, go_sem]) rfl ?_
 exact ⟨rfl, (Below.refl _ _).alloc (Nat.le_refl _) _⟩
set_option maxRecDepth 100000 in
set_option maxHeartbeats 1000000 in
theorem wd_cons : WdOk [99, 111, 110, 115] := by
 intro w
 rw [show wdP [99, 111, 110, 115] = some ([101, 101], 2) by decide +kernel]
 go_enter Tryz.func75, Tryz.ntmps75
 go_wp2
 refine bodyPost_ret (v := .tuple #[.agg #[.string ⟨#[101, 101]⟩, .int .i64 2], .bool true]) (by simp [results, Tryz.results75, go_sem]) rfl ?_
 exact ⟨rfl, (Below.refl _ _).alloc (Nat.le_refl _) _⟩
set_option maxRecDepth 100000 in
set_option maxHeartbeats 1000000 in
theorem wd_orXelse : WdOk [111, 114, 95, 101, 108, 115, 101] := by
 intro w
 rw [show wdP [111, 114, 95, 101, 108, 115, 101] = some ([101, 101], 2) by decide +kernel]
 go_enter Tryz.func75, Tryz.ntmps75
 go_wp2
 refine bodyPost_ret (v := .tuple #[.agg #[.string ⟨#[101, 101]⟩, .int .i64 2], .bool true]) (by simp [results, Tryz.results75, go_sem]) rfl ?_
 exact ⟨rfl, (Below.refl _ _).alloc (Nat.le_refl _) _⟩
set_option maxRecDepth 100000 in
set_option maxHeartbeats 1000000 in
theorem wd_if : WdOk [105, 102] := by
 intro w
 rw [show wdP [105, 102] = some ([101, 101, 101], 3) by decide +kernel]
 go_enter Tryz.func75, Tryz.ntmps75
 go_wp2
 refine bodyPost_ret (v := .tuple #[.agg #[.string ⟨#[101, 101, 101]⟩, .int .i64 3], .bool true]) (by simp [results, Tryz.results75, go_sem]) rfl ?_
 exact ⟨rfl, (Below.refl _ _).alloc (Nat.le_refl _) _⟩
set_option maxRecDepth 100000 in
set_option maxHeartbeats 1000000 in
theorem wd_map : WdOk [109, 97, 112] := by
 intro w
 rw [show wdP [109, 97, 112] = some ([101, 110, 101], 3) by decide +kernel]
 go_enter Tryz.func75, Tryz.ntmps75
 go_wp2
 refine bodyPost_ret (v := .tuple #[.agg #[.string ⟨#[101, 110, 101]⟩, .int .i64 3], .bool true]) (by simp [results, Tryz.results75, go_sem]) rfl ?_
 exact ⟨rfl, (Below.refl _ _).alloc (Nat.le_refl _) _⟩
end Go.Proofs.YtaecndmncpfpfaaGreatDoor
namespace Go.Proofs.YtaecndmncpfpfaaGreatDoor
open Go.RowKit
set_option maxRecDepth 100000 in
set_option maxHeartbeats 1000000 in
theorem wd_true : WdOk [116, 114, 117, 101] := by
 intro w
 rw [show wdP [116, 114, 117, 101] = some ([], 0) by decide +kernel]
 go_enter Tryz.func75, Tryz.ntmps75
 go_wp2
 refine bodyPost_ret (v := .tuple #[.agg #[.string ⟨#[]⟩, .int .i64 0], .bool true]) (by simp [results, Tryz.results75, go_sem]) rfl ?_
 exact ⟨rfl, (Below.refl _ _).alloc (Nat.le_refl _) _⟩
set_option maxRecDepth 100000 in
set_option maxHeartbeats 1000000 in
theorem wd_side : WdOk [115, 105, 100, 101] := by
 intro w
 rw [show wdP [115, 105, 100, 101] = some ([100], 1) by decide +kernel]
 go_enter Tryz.func75, Tryz.ntmps75
 go_wp2
 refine bodyPost_ret (v := .tuple #[.agg #[.string ⟨#[100]⟩, .int .i64 1], .bool true]) (by simp [results, Tryz.results75, go_sem]) rfl ?_
 exact ⟨rfl, (Below.refl _ _).alloc (Nat.le_refl _) _⟩
set_option maxRecDepth 100000 in
set_option maxHeartbeats 1000000 in
theorem wd_neg : WdOk [110, 101, 103] := by
 intro w
 rw [show wdP [110, 101, 103] = some ([101], 1) by decide +kernel]
 go_enter Tryz.func75, Tryz.ntmps75
 go_wp2
 refine bodyPost_ret (v := .tuple #[.agg #[.string ⟨#[101]⟩, .int .i64 1], .bool true]) (by simp [results, Tryz.results75, go_sem]) rfl ?_
 exact ⟨rfl, (Below.refl _ _).alloc (Nat.le_refl _) _⟩
set_option maxRecDepth 100000 in
set_option maxHeartbeats 1000000 in
theorem wd_second : WdOk [115, 101, 99, 111, 110, 100] := by
 intro w
 rw [show wdP [115, 101, 99, 111, 110, 100] = some ([101], 1) by decide +kernel]
 go_enter Tryz.func75, Tryz.ntmps75
 go_wp2
 refine bodyPost_ret (v := .tuple #[.agg #[.string ⟨#[101]⟩, .int .i64 1], .bool true]) (by simp [results, Tryz.results75, go_sem]) rfl ?_
 exact ⟨rfl, (Below.refl _ _).alloc (Nat.le_refl _) _⟩
set_option maxRecDepth 100000 in
set_option maxHeartbeats 1000000 in
theorem wd_some : WdOk [115, 111, 109, 101] := by
 intro w
 rw [show wdP [115, 111, 109, 101] = some ([101], 1) by decide +kernel]
 go_enter Tryz.func75, Tryz.ntmps75
 go_wp2
 refine bodyPost_ret (v := .tuple #[.agg #[.string ⟨#[101]⟩, .int .i64 1], .bool true]) (by simp [results, Tryz.results75, go_sem]) rfl ?_
 exact ⟨rfl, (Below.refl _ _).alloc (Nat.le_refl _) _⟩
set_option maxRecDepth 100000 in
set_option maxHeartbeats 1000000 in
theorem wd_bytes : WdOk [98, 121, 116, 101, 115] := by
 intro w
 rw [show wdP [98, 121, 116, 101, 115] = some ([101], 1) by decide +kernel]
 go_enter Tryz.func75, Tryz.ntmps75
 go_wp2
 refine bodyPost_ret (v := .tuple #[.agg #[.string ⟨#[101]⟩, .int .i64 1], .bool true]) (by simp [results, Tryz.results75, go_sem]) rfl ?_
 exact ⟨rfl, (Below.refl _ _).alloc (Nat.le_refl _) _⟩
set_option maxRecDepth 100000 in
set_option maxHeartbeats 1000000 in
theorem wd_re : WdOk [114, 101] := by
 intro w
 rw [show wdP [114, 101] = some ([101], 1) by decide +kernel]
 go_enter Tryz.func75, Tryz.ntmps75
 go_wp2
 refine bodyPost_ret (v := .tuple #[.agg #[.string ⟨#[101]⟩, .int .i64 1], .bool true]) (by simp [results, Tryz.results75, go_sem]) rfl ?_
 exact ⟨rfl, (Below.refl _ _).alloc (Nat.le_refl _) _⟩
set_option maxRecDepth 100000 in
set_option maxHeartbeats 1000000 in
theorem wd_range : WdOk [114, 97, 110, 103, 101] := by
 intro w
 rw [show wdP [114, 97, 110, 103, 101] = some ([101], 1) by decide +kernel]
 go_enter Tryz.func75, Tryz.ntmps75
 go_wp2
 refine bodyPost_ret (v := .tuple #[.agg #[.string ⟨#[101]⟩, .int .i64 1], .bool true]) (by simp [results, Tryz.results75, go_sem]) rfl ?_
 exact ⟨rfl, (Below.refl _ _).alloc (Nat.le_refl _) _⟩
set_option maxRecDepth 100000 in
set_option maxHeartbeats 1000000 in
theorem wd_mul : WdOk [109, 117, 108] := by
 intro w
 rw [show wdP [109, 117, 108] = some ([101, 101], 2) by decide +kernel]
 go_enter Tryz.func75, Tryz.ntmps75
 go_wp2
 refine bodyPost_ret (v := .tuple #[.agg #[.string ⟨#[101, 101]⟩, .int .i64 2], .bool true]) (by simp [results, Tryz.results75, go_sem]) rfl ?_
 exact ⟨rfl, (Below.refl _ _).alloc (Nat.le_refl _) _⟩
set_option maxRecDepth 100000 in
set_option maxHeartbeats 1000000 in
theorem wd_eq : WdOk [101, 113] := by
 intro w
 rw [show wdP [101, 113] = some ([101, 101], 2) by decide +kernel]
 go_enter Tryz.func75, Tryz.ntmps75
 go_wp2
 refine bodyPost_ret (v := .tuple #[.agg #[.string ⟨#[101, 101]⟩, .int .i64 2], .bool true]) (by simp [results, Tryz.results75, go_sem]) rfl ?_
 exact ⟨rfl, (Below.refl _ _).alloc (Nat.le_refl _) _⟩
set_option maxRecDepth 100000 in
set_option maxHeartbeats 1000000 in
theorem wd_or : WdOk [111, 114] := by
 intro w
 rw [show wdP [111, 114] = some ([101, 101], 2) by decide +kernel]
 go_enter Tryz.func75, Tryz.ntmps75
 go_wp2
 refine bodyPost_ret (v := .tuple #[.agg #[.string ⟨#[101, 101]⟩, .int .i64 2], .bool true]) (by simp [results, Tryz.results75, go_sem]) rfl ?_
 exact ⟨rfl, (Below.refl _ _).alloc (Nat.le_refl _) _⟩
set_option maxRecDepth 100000 in
set_option maxHeartbeats 1000000 in
theorem wd_concat : WdOk [99, 111, 110, 99, 97, 116] := by
 intro w
 rw [show wdP [99, 111, 110, 99, 97, 116] = some ([101, 101], 2) by decide +kernel]
 go_enter Tryz.func75, Tryz.ntmps75
 go_wp2
 refine bodyPost_ret (v := .tuple #[.agg #[.string ⟨#[101, 101]⟩, .int .i64 2], .bool true]) (by simp [results, Tryz.results75, go_sem]) rfl ?_
 exact ⟨rfl, (Below.refl _ _).alloc (Nat.le_refl _) _⟩
set_option maxRecDepth 100000 in
set_option maxHeartbeats 1000000 in
theorem wd_join : WdOk [106, 111, 105, 110] := by
 intro w
 rw [show wdP [106, 111, 105, 110] = some ([101, 101], 2) by decide +kernel]
 go_enter Tryz.func75, Tryz.ntmps75
 go_wp2
 refine bodyPost_ret (v := .tuple #[.agg #[.string ⟨#[101, 101]⟩, .int .i64 2], .bool true]) (by simp [results, Tryz.results75, go_sem]) rfl ?_
 exact ⟨rfl, (Below.refl _ _).alloc (Nat.le_refl _) _⟩
set_option maxRecDepth 100000 in
set_option maxHeartbeats 1000000 in
theorem wd_cut : WdOk [99, 117, 116] := by
 intro w
 rw [show wdP [99, 117, 116] = some ([101, 101, 101], 3) by decide +kernel]
 go_enter Tryz.func75, Tryz.ntmps75
 go_wp2
 refine bodyPost_ret (v := .tuple #[.agg #[.string ⟨#[101, 101, 101]⟩, .int .i64 3], .bool true]) (by simp [results, Tryz.results75, go_sem]) rfl ?_
 exact ⟨rfl, (Below.refl _ _).alloc (Nat.le_refl _) _⟩
set_option maxRecDepth 100000 in
set_option maxHeartbeats 1000000 in
theorem wd_filter : WdOk [102, 105, 108, 116, 101, 114] := by
 intro w
 rw [show wdP [102, 105, 108, 116, 101, 114] = some ([101, 110, 101], 3) by decide +kernel]
 go_enter Tryz.func75, Tryz.ntmps75
 go_wp2
 refine bodyPost_ret (v := .tuple #[.agg #[.string ⟨#[101, 110, 101]⟩, .int .i64 3], .bool true]) (by simp [results, Tryz.results75, go_sem]) rfl ?_
 exact ⟨rfl, (Below.refl _ _).alloc (Nat.le_refl _) _⟩
end Go.Proofs.YtaecndmncpfpfaaGreatDoor
namespace Go.Proofs.YtaecndmncpfpfaaGreatDoor
open Go.RowKit
set_option maxRecDepth 100000 in
set_option maxHeartbeats 1000000 in
theorem wd_false : WdOk [102, 97, 108, 115, 101] := by
 intro w
 rw [show wdP [102, 97, 108, 115, 101] = some ([], 0) by decide +kernel]
 go_enter Tryz.func75, Tryz.ntmps75
 go_wp2
 refine bodyPost_ret (v := .tuple #[.agg #[.string ⟨#[]⟩, .int .i64 0], .bool true]) (by simp [results, Tryz.results75, go_sem]) rfl ?_
 exact ⟨rfl, (Below.refl _ _).alloc (Nat.le_refl _) _⟩
set_option maxRecDepth 100000 in
set_option maxHeartbeats 1000000 in
theorem wd_nil : WdOk [110, 105, 108] := by
 intro w
 rw [show wdP [110, 105, 108] = some ([116], 1) by decide +kernel]
 go_enter Tryz.func75, Tryz.ntmps75
 go_wp2
 refine bodyPost_ret (v := .tuple #[.agg #[.string ⟨#[116]⟩, .int .i64 1], .bool true]) (by simp [results, Tryz.results75, go_sem]) rfl ?_
 exact ⟨rfl, (Below.refl _ _).alloc (Nat.le_refl _) _⟩
set_option maxRecDepth 100000 in
set_option maxHeartbeats 1000000 in
theorem wd_not : WdOk [110, 111, 116] := by
 intro w
 rw [show wdP [110, 111, 116] = some ([101], 1) by decide +kernel]
 go_enter Tryz.func75, Tryz.ntmps75
 go_wp2
 refine bodyPost_ret (v := .tuple #[.agg #[.string ⟨#[101]⟩, .int .i64 1], .bool true]) (by simp [results, Tryz.results75, go_sem]) rfl ?_
 exact ⟨rfl, (Below.refl _ _).alloc (Nat.le_refl _) _⟩
set_option maxRecDepth 100000 in
set_option maxHeartbeats 1000000 in
theorem wd_len : WdOk [108, 101, 110] := by
 intro w
 rw [show wdP [108, 101, 110] = some ([101], 1) by decide +kernel]
 go_enter Tryz.func75, Tryz.ntmps75
 go_wp2
 refine bodyPost_ret (v := .tuple #[.agg #[.string ⟨#[101]⟩, .int .i64 1], .bool true]) (by simp [results, Tryz.results75, go_sem]) rfl ?_
 exact ⟨rfl, (Below.refl _ _).alloc (Nat.le_refl _) _⟩
set_option maxRecDepth 100000 in
set_option maxHeartbeats 1000000 in
theorem wd_isXsome : WdOk [105, 115, 95, 115, 111, 109, 101] := by
 intro w
 rw [show wdP [105, 115, 95, 115, 111, 109, 101] = some ([101], 1) by decide +kernel]
 go_enter Tryz.func75, Tryz.ntmps75
 go_wp2
 refine bodyPost_ret (v := .tuple #[.agg #[.string ⟨#[101]⟩, .int .i64 1], .bool true]) (by simp [results, Tryz.results75, go_sem]) rfl ?_
 exact ⟨rfl, (Below.refl _ _).alloc (Nat.le_refl _) _⟩
set_option maxRecDepth 100000 in
set_option maxHeartbeats 1000000 in
theorem wd_text : WdOk [116, 101, 120, 116] := by
 intro w
 rw [show wdP [116, 101, 120, 116] = some ([101], 1) by decide +kernel]
 go_enter Tryz.func75, Tryz.ntmps75
 go_wp2
 refine bodyPost_ret (v := .tuple #[.agg #[.string ⟨#[101]⟩, .int .i64 1], .bool true]) (by simp [results, Tryz.results75, go_sem]) rfl ?_
 exact ⟨rfl, (Below.refl _ _).alloc (Nat.le_refl _) _⟩
set_option maxRecDepth 100000 in
set_option maxHeartbeats 1000000 in
theorem wd_im : WdOk [105, 109] := by
 intro w
 rw [show wdP [105, 109] = some ([101], 1) by decide +kernel]
 go_enter Tryz.func75, Tryz.ntmps75
 go_wp2
 refine bodyPost_ret (v := .tuple #[.agg #[.string ⟨#[101]⟩, .int .i64 1], .bool true]) (by simp [results, Tryz.results75, go_sem]) rfl ?_
 exact ⟨rfl, (Below.refl _ _).alloc (Nat.le_refl _) _⟩
set_option maxRecDepth 100000 in
set_option maxHeartbeats 1000000 in
theorem wd_add : WdOk [97, 100, 100] := by
 intro w
 rw [show wdP [97, 100, 100] = some ([101, 101], 2) by decide +kernel]
 go_enter Tryz.func75, Tryz.ntmps75
 go_wp2
 refine bodyPost_ret (v := .tuple #[.agg #[.string ⟨#[101, 101]⟩, .int .i64 2], .bool true]) (by simp [results, Tryz.results75, go_sem]) rfl ?_
 exact ⟨rfl, (Below.refl _ _).alloc (Nat.le_refl _) _⟩
set_option maxRecDepth 100000 in
set_option maxHeartbeats 1000000 in
theorem wd_div : WdOk [100, 105, 118] := by
 intro w
 rw [show wdP [100, 105, 118] = some ([101, 101], 2) by decide +kernel]
 go_enter Tryz.func75, Tryz.ntmps75
 go_wp2
 refine bodyPost_ret (v := .tuple #[.agg #[.string ⟨#[101, 101]⟩, .int .i64 2], .bool true]) (by simp [results, Tryz.results75, go_sem]) rfl ?_
 exact ⟨rfl, (Below.refl _ _).alloc (Nat.le_refl _) _⟩
set_option maxRecDepth 100000 in
set_option maxHeartbeats 1000000 in
theorem wd_lt : WdOk [108, 116] := by
 intro w
 rw [show wdP [108, 116] = some ([101, 101], 2) by decide +kernel]
 go_enter Tryz.func75, Tryz.ntmps75
 go_wp2
 refine bodyPost_ret (v := .tuple #[.agg #[.string ⟨#[101, 101]⟩, .int .i64 2], .bool true]) (by simp [results, Tryz.results75, go_sem]) rfl ?_
 exact ⟨rfl, (Below.refl _ _).alloc (Nat.le_refl _) _⟩
set_option maxRecDepth 100000 in
set_option maxHeartbeats 1000000 in
theorem wd_pair : WdOk [112, 97, 105, 114] := by
 intro w
 rw [show wdP [112, 97, 105, 114] = some ([101, 101], 2) by decide +kernel]
 go_enter Tryz.func75, Tryz.ntmps75
 go_wp2
 refine bodyPost_ret (v := .tuple #[.agg #[.string ⟨#[101, 101]⟩, .int .i64 2], .bool true]) (by simp [results, Tryz.results75, go_sem]) rfl ?_
 exact ⟨rfl, (Below.refl _ _).alloc (Nat.le_refl _) _⟩
set_option maxRecDepth 100000 in
set_option maxHeartbeats 1000000 in
theorem wd_at : WdOk [97, 116] := by
 intro w
 rw [show wdP [97, 116] = some ([101, 101], 2) by decide +kernel]
 go_enter Tryz.func75, Tryz.ntmps75
 go_wp2
 refine bodyPost_ret (v := .tuple #[.agg #[.string ⟨#[101, 101]⟩, .int .i64 2], .bool true]) (by simp [results, Tryz.results75, go_sem]) rfl ?_
 exact ⟨rfl, (Below.refl _ _).alloc (Nat.le_refl _) _⟩
set_option maxRecDepth 100000 in
set_option maxHeartbeats 1000000 in
theorem wd_point : WdOk [112, 111, 105, 110, 116] := by
 intro w
 rw [show wdP [112, 111, 105, 110, 116] = some ([101, 101], 2) by decide +kernel]
 go_enter Tryz.func75, Tryz.ntmps75
 go_wp2
 refine bodyPost_ret (v := .tuple #[.agg #[.string ⟨#[101, 101]⟩, .int .i64 2], .bool true]) (by simp [results, Tryz.results75, go_sem]) rfl ?_
 exact ⟨rfl, (Below.refl _ _).alloc (Nat.le_refl _) _⟩
set_option maxRecDepth 100000 in
set_option maxHeartbeats 1000000 in
theorem wd_let : WdOk [108, 101, 116] := by
 intro w
 rw [show wdP [108, 101, 116] = some ([110, 101, 101], 3) by decide +kernel]
 go_enter Tryz.func75, Tryz.ntmps75
 go_wp2
 refine bodyPost_ret (v := .tuple #[.agg #[.string ⟨#[110, 101, 101]⟩, .int .i64 3], .bool true]) (by simp [results, Tryz.results75, go_sem]) rfl ?_
 exact ⟨rfl, (Below.refl _ _).alloc (Nat.le_refl _) _⟩
set_option maxRecDepth 100000 in
set_option maxHeartbeats 1000000 in
theorem wd_fold : WdOk [102, 111, 108, 100] := by
 intro w
 rw [show wdP [102, 111, 108, 100] = some ([101, 101, 110, 110, 101], 5) by decide +kernel]
 go_enter Tryz.func75, Tryz.ntmps75
 go_wp2
 refine bodyPost_ret (v := .tuple #[.agg #[.string ⟨#[101, 101, 110, 110, 101]⟩, .int .i64 5], .bool true]) (by simp [results, Tryz.results75, go_sem]) rfl ?_
 exact ⟨rfl, (Below.refl _ _).alloc (Nat.le_refl _) _⟩
end Go.Proofs.YtaecndmncpfpfaaGreatDoor
namespace Go.Proofs.YtaecndmncpfpfaaGreatDoor
open Go.RowKit
theorem repeat_64 : Lib.repeatL [101] 64 = List.replicate 64 101 := by decide +kernel
set_option maxRecDepth 100000 in
set_option maxHeartbeats 1000000 in
theorem wd_list : WdOk listW := by
 intro w
 obtain ⟨p, hp⟩ : ∃ p, p = List.replicate 64 (101 : UInt8) := ⟨_, rfl⟩
 have HP : Hid (Lib.repeatL [101] 64 = p) := Lib.hid (by rw [hp]; exact repeat_64)
 rw [show wdP listW = some (p, 1) by unfold wdP; rw [if_pos rfl, hp]]
 clear hp
 unfold listW
 go_enter Tryz.func75, Tryz.ntmps75
 go_wp2_with (fail)
 refine (Tryz.strings_Repeat ⟨#[101]⟩ 64 _ (by decide) (by decide)).mono ?_
 rintro e w2 ⟨rfl, hb⟩
 have hn := (hb.block w.heap.size (by simp)).trans (heap_alloc_new w (.cells #[.string ⟨#[]⟩, .int .i64 0] 133))
 have hb2 := ((Below.refl w.heap.size w).alloc (Nat.le_refl _) (.cells #[.string ⟨#[]⟩, .int .i64 0] 133)).trans (hb.mono (by simp))
 have d0 := zG hn
 have d1 := zF hn
 have f0 := zB hn 0
 have f1 := zB hn 1
 have hl := zC hn
 rw [show (ByteArray.mk #[101]).data.toList = [101] from rfl, HP.out]
 clear hn
 go_wp2_with (fail)
 refine bodyPost_ret (v := .tuple #[.agg #[.string ⟨p.toArray⟩, .int .i64 1], .bool true]) (by simp [results, Tryz.results75, go_sem, d0, d1]) rfl ?_
 exact ⟨rfl, Below.set_own (Nat.le_refl _) (Below.set_own (Nat.le_refl _) hb2)⟩
theorem find_none {s : List UInt8} : ∀ l : List (List UInt8 × List UInt8), l.find? (fun x => decide (x.1 = s)) = none → ∀ x ∈ l, (s == x.1) = false
 | [], _, x, hx => by simp at hx
 | y :: l, h, x, hx => by
   rw [List.find?_cons] at h
   split at h
   · cases h
   · rename_i hy
     rcases List.mem_cons.1 hx with rfl | hx
     · have : ¬ x.1 = s := by simpa using hy
       simp
       exact fun e => this e.symm
     · exact find_none l h x hx
set_option maxRecDepth 100000 in
set_option maxHeartbeats 4000000 in
theorem wd_no (s : List UInt8) (h : wdP s = none) : WdOk s := by
 intro w
 rw [h]
 have hl : (s == [108, 105, 115, 116]) = false := by
  unfold wdP at h
  split at h
  · cases h
  · rename_i hn
    simp
    exact hn
 have hf : wdL.find? (fun x => decide (x.1 = s)) = none := by
  unfold wdP at h
  split at h
  · cases h
  · exact Option.map_eq_none_iff.1 h
 have hA := find_none wdL hf
 have k0 := hA ([116, 114, 117, 101], []) (by decide +kernel)
 have k1 := hA ([102, 97, 108, 115, 101], []) (by decide +kernel)
 have k2 := hA ([105, 116], []) (by decide +kernel)
 have k3 := hA ([115, 105, 100, 101], [100]) (by decide +kernel)
 have k4 := hA ([110, 105, 108], [116]) (by decide +kernel)
 have k5 := hA ([110, 111, 110, 101], [116]) (by decide +kernel)
 have k6 := hA ([110, 101, 103], [101]) (by decide +kernel)
 have k7 := hA ([110, 111, 116], [101]) (by decide +kernel)
 have k8 := hA ([102, 105, 114, 115, 116], [101]) (by decide +kernel)
 have k9 := hA ([115, 101, 99, 111, 110, 100], [101]) (by decide +kernel)
 have k10 := hA ([108, 101, 110], [101]) (by decide +kernel)
 have k11 := hA ([115, 111, 114, 116], [101]) (by decide +kernel)
 have k12 := hA ([115, 111, 109, 101], [101]) (by decide +kernel)
 have k13 := hA ([105, 115, 95, 115, 111, 109, 101], [101]) (by decide +kernel)
 have k14 := hA ([115, 105, 122, 101], [101]) (by decide +kernel)
 have k15 := hA ([98, 121, 116, 101, 115], [101]) (by decide +kernel)
 have k16 := hA ([116, 101, 120, 116], [101]) (by decide +kernel)
 have k17 := hA ([115, 104, 111, 119], [101]) (by decide +kernel)
 have k18 := hA ([114, 101], [101]) (by decide +kernel)
 have k19 := hA ([105, 109], [101]) (by decide +kernel)
 have k20 := hA ([99, 111, 110, 106], [101]) (by decide +kernel)
 have k21 := hA ([114, 97, 110, 103, 101], [101]) (by decide +kernel)
 have k22 := hA ([97, 100, 100], [101, 101]) (by decide +kernel)
 have k23 := hA ([115, 117, 98], [101, 101]) (by decide +kernel)
 have k24 := hA ([109, 117, 108], [101, 101]) (by decide +kernel)
 have k25 := hA ([100, 105, 118], [101, 101]) (by decide +kernel)
 have k26 := hA ([109, 111, 100], [101, 101]) (by decide +kernel)
 have k27 := hA ([101, 113], [101, 101]) (by decide +kernel)
 have k28 := hA ([108, 116], [101, 101]) (by decide +kernel)
 have k29 := hA ([97, 110, 100], [101, 101]) (by decide +kernel)
 have k30 := hA ([111, 114], [101, 101]) (by decide +kernel)
 have k31 := hA ([112, 97, 105, 114], [101, 101]) (by decide +kernel)
 have k32 := hA ([99, 111, 110, 115], [101, 101]) (by decide +kernel)
 have k33 := hA ([99, 111, 110, 99, 97, 116], [101, 101]) (by decide +kernel)
 have k34 := hA ([97, 116], [101, 101]) (by decide +kernel)
 have k35 := hA ([111, 114, 95, 101, 108, 115, 101], [101, 101]) (by decide +kernel)
 have k36 := hA ([106, 111, 105, 110], [101, 101]) (by decide +kernel)
 have k37 := hA ([112, 111, 105, 110, 116], [101, 101]) (by decide +kernel)
 have k38 := hA ([105, 102], [101, 101, 101]) (by decide +kernel)
 have k39 := hA ([99, 117, 116], [101, 101, 101]) (by decide +kernel)
 have k40 := hA ([108, 101, 116], [110, 101, 101]) (by decide +kernel)
 have k41 := hA ([109, 97, 112], [101, 110, 101]) (by decide +kernel)
 have k42 := hA ([102, 105, 108, 116, 101, 114], [101, 110, 101]) (by decide +kernel)
 have k43 := hA ([102, 111, 108, 100], [101, 101, 110, 110, 101]) (by decide +kernel)
 dsimp only at k0 k1 k2 k3 k4 k5 k6 k7 k8 k9 k10 k11 k12 k13 k14 k15 k16 k17 k18 k19 k20 k21 k22 k23 k24 k25 k26 k27 k28 k29 k30 k31 k32 k33 k34 k35 k36 k37 k38 k39 k40 k41 k42 k43
 clear hA hf h
 go_enter Tryz.func75, Tryz.ntmps75
 go_wp2_with (fail)
 refine bodyPost_ret (v := .tuple #[.agg #[.string ⟨#[]⟩, .int .i64 0], .bool false]) (by simp [results, Tryz.results75, go_sem]) rfl ?_
 exact ⟨rfl, (Below.refl _ _).alloc (Nat.le_refl _) _⟩
theorem wordOf_any (s : List UInt8) : WdOk s := by
 cases h : wdP s with
 | none => exact wd_no s h
 | some p =>
   by_cases hs : s = listW
   · subst hs; exact wd_list
   · unfold wdP at h
     rw [if_neg hs] at h
     obtain ⟨x, hx, _⟩ := Option.map_eq_some_iff.1 h
     have hm := List.mem_of_find?_eq_some hx
     have hq : x.1 = s := by simpa using List.find?_some hx
     subst hq
     clear h hx hs
     simp only [wdL, List.mem_cons, List.not_mem_nil, or_false] at hm
     rcases hm with rfl | rfl | rfl | rfl | rfl | rfl | rfl | rfl | rfl | rfl | rfl | rfl | rfl | rfl | rfl | rfl | rfl | rfl | rfl | rfl | rfl | rfl | rfl | rfl | rfl | rfl | rfl | rfl | rfl | rfl | rfl | rfl | rfl | rfl | rfl | rfl | rfl | rfl | rfl | rfl | rfl | rfl | rfl | rfl
     · exact wd_true
     · exact wd_false
     · exact wd_it
     · exact wd_side
     · exact wd_nil
     · exact wd_none
     · exact wd_neg
     · exact wd_not
     · exact wd_first
     · exact wd_second
     · exact wd_len
     · exact wd_sort
     · exact wd_some
     · exact wd_isXsome
     · exact wd_size
     · exact wd_bytes
     · exact wd_text
     · exact wd_show
     · exact wd_re
     · exact wd_im
     · exact wd_conj
     · exact wd_range
     · exact wd_add
     · exact wd_sub
     · exact wd_mul
     · exact wd_div
     · exact wd_mod
     · exact wd_eq
     · exact wd_lt
     · exact wd_and
     · exact wd_or
     · exact wd_pair
     · exact wd_cons
     · exact wd_concat
     · exact wd_at
     · exact wd_orXelse
     · exact wd_join
     · exact wd_point
     · exact wd_if
     · exact wd_cut
     · exact wd_let
     · exact wd_map
     · exact wd_filter
     · exact wd_fold
