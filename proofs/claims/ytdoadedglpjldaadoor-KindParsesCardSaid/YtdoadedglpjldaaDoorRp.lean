/-
Parse of the document's answer.
-/
import Derived.Test.YtdoadedglpjldaaDoorSc1
import Derived.Test.YtdoadedglpjldaaDoorPa
import Derived.IntWalk
namespace Go.Proofs.YtdoadedglpjldaaDoor
open Go.RowKit

def RpOut (w w' : World) (e : Ending) : Nat × Option Ty → Prop
  | (k, none) => e = .returned (.tuple #[.agg #[.int .i64 0, .slice none 0 0], .int .i64 (k : Int), .bool false])
  | (_, some t) => ∃ v, e = .returned (.tuple #[v, .int .i64 0, .bool true]) ∧ TyAt w' (fun b => w.heap.size ≤ b) 6 v t

theorem scan_six : ScOk 6 :=
  scan_step 5 (by omega) (by omega) (scan_step 4 (by omega) (by omega) (scan_step 3 (by omega) (by omega) (scan_step 2 (by omega) (by omega) (scan_step 1 (by omega) (by omega) scan_one))))

set_option maxRecDepth 100000 in
set_option maxHeartbeats 1000000 in
theorem rparse_any (s : ByteArray) (w : World) (hs : s.size ≤ 1000000) :
    Calls Tryd.prog 24 #[.string s] w fun e w' => RpOut w w' e (parseT s.data.toList) ∧ Below w.heap.size w w' := by
  have H6 := scan_six
  go_enter Tryd.func24, Tryd.ntmps24
  go_wp2_with (fail)
  refine (show Calls _ _ _ _ _ from H6 s 0 _ (Nat.zero_le _) hs).mono ?_
  rw [List.drop_zero]
  have hrt := readT_le 6 s.data.toList
  simp only [Array.length_toList, ByteArray.size_data] at hrt
  have hsl : s.data.toList.length = s.size := by simp
  have hb1 := (Below.refl w.heap.size w).alloc (Nat.le_refl _) (.cells #[.int .i64 0, .slice none 0 0] 29)
  have hn1 := heap_alloc_new w (.cells #[.int .i64 0, .slice none 0 0] 29)
  cases hq : readT 6 s.data.toList with
  | mk k o =>
  rw [hq] at hrt
  cases o with
  | none =>
    have HP : Hid (parseT s.data.toList = (k, none)) := by show _ = _; rw [parseT, hq]
    clear hq
    rintro e w2 ⟨he, hb2⟩
    obtain rfl : e = .returned (.tuple #[.agg #[.int .i64 0, .slice none 0 0], .int .i64 ((0 + k : Nat) : Int), .bool false]) := he
    rw [Nat.zero_add]
    have hb := hb1.trans (hb2.mono hb1.size)
    have hc := (hb2.block w.heap.size (by simp)).trans hn1
    have hl2 := cell_lt hc
    have f0 := cell2_0 hc
    have f1 := cell2_1 hc
    have f2 := cell3_f hc 0
    have f3 := cell3_f hc 1
    go_wp2_with (fail)
    refine bodyPost_ret (v := .tuple #[.agg #[.int .i64 0, .slice none 0 0], .int .i64 (k : Int), .bool false]) (by simp [results, Tryd.results24, go_sem, f0, f1, hl2]) rfl ?_
    rw [HP.out]
    exact ⟨rfl, ((((hb.setCell (p := ⟨w.heap.size, 0, none⟩) (Nat.le_refl _) _).setCell (p := ⟨w.heap.size, 1, none⟩) (Nat.le_refl _) _).alloc (by simp [World.setCell]; omega) _))⟩
  | some t =>
    have HP : Hid (parseT s.data.toList = if k < s.size then (k, none) else (0, some t)) := by show _ = _; rw [parseT, hq, hsl]
    clear hq
    rintro e w2 ⟨⟨v, he, hv⟩, hb2⟩
    rw [Nat.zero_add] at he
    subst he
    obtain ⟨A, c, rfl⟩ := TyAt.form hv
    have HV := Lib.hid hv
    have hb := hb1.trans (hb2.mono hb1.size)
    have hc := (hb2.block w.heap.size (by simp)).trans hn1
    have hl2 := cell_lt hc
    have f0 := cell2_0 hc
    have f1 := cell2_1 hc
    have f2 := cell3_f hc 0
    have f3 := cell3_f hc 1
    clear hv
    by_cases hk : k < s.size
    · have hd : decide ((k : Int) < (s.size : Int)) = true := by simp; omega
      go_wp2_with (fail)
      refine bodyPost_ret (v := .tuple #[.agg #[.int .i64 0, .slice none 0 0], .int .i64 (k : Int), .bool false]) (by simp [results, Tryd.results24, go_sem, f0, f1, hl2]) rfl ?_
      rw [HP.out, if_pos hk]
      exact ⟨rfl, ((((hb.setCell (p := ⟨w.heap.size, 0, none⟩) (Nat.le_refl _) _).setCell (p := ⟨w.heap.size, 1, none⟩) (Nat.le_refl _) _).alloc (by simp [World.setCell]; omega) _))⟩
    · have hd : decide ((k : Int) < (s.size : Int)) = false := by simp; omega
      go_wp2_with (fail)
      refine bodyPost_ret (v := .tuple #[.agg #[.int .i64 t.kind, .slice A t.args.length c], .int .i64 0, .bool true]) (by simp [results, Tryd.results24, go_sem, f0, f1, hl2]) rfl ?_
      rw [HP.out, if_neg hk]
      refine ⟨⟨_, rfl, TyAt.move (fun b hS hl => ?_) _ _ _ HV.out⟩, ((((hb.setCell (p := ⟨w.heap.size, 0, none⟩) (Nat.le_refl _) _).setCell (p := ⟨w.heap.size, 1, none⟩) (Nat.le_refl _) _).alloc (by simp [World.setCell]; omega) _))⟩
      have hS' : w.heap.size + 1 ≤ b := by simpa using hS
      exact ⟨by omega, fun o => World.cell?_of_block (by rw [Below.heap_alloc _ _ _ (by simp [World.setCell]; omega), Below.heap_setCell _ _ _ _ (by show b ≠ w.heap.size; omega), Below.heap_setCell _ _ _ _ (by show b ≠ w.heap.size; omega)])⟩
end Go.Proofs.YtdoadedglpjldaaDoor
