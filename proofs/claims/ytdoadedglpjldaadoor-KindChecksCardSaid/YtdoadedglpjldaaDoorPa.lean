/-
Parse of package kind.
-/
import Derived.Test.YtdoadedglpjldaaDoorRt
import Derived.RegionTactic
namespace Go.Proofs.YtdoadedglpjldaaDoor
open Go.RowKit

/-- The type of a text; none: where its fault is. -/
def parseT (l : List UInt8) : Nat × Option Ty :=
  match readT 6 l with
  | (k, none) => (k, none)
  | (k, some t) => if k < l.length then (k, none) else (0, some t)

/-- What Parse answers with. -/
def PaOut (w w' : World) (e : Ending) : Nat × Option Ty → Prop
  | (k, none) => e = .returned (.tuple #[.agg #[.int .i64 0, .slice none 0 0], .int .i64 (k : Int), .int .i64 40])
  | (_, some t) => ∃ v, e = .returned (.tuple #[v, .int .i64 0, .int .i64 0]) ∧ TyAt w' (fun b => w.heap.size ≤ b) 6 v t

theorem pa_cell {w w1 : World} {o : Obj} {cs : Array Value} {t : TypeId} (h : Only (w.heap.size + 1) ((w.alloc (.cells cs t)).alloc o) w1) : w1.heap[w.heap.size]? = some (.cells cs t (0, 0)) := by
  rw [h.block _ (by simp; omega) (by simp), Below.heap_alloc _ _ _ (by simp)]
  exact heap_alloc_new w _
theorem two_stored {w : World} {g : Nat} {a b : Value} {t : TypeId} (h : w.heap[g]? = some (.cells #[a, b] t (0, 0))) (c d : Value) : ((w.setCell ⟨g, 0, none⟩ c).setCell ⟨g, 1, none⟩ d).heap[g]? = some (.cells #[c, d] t (0, 0)) := by
  simp [World.setCell, Array.getElem?_modify, h]
theorem pa_below {w w1 : World} {o o' : Obj} (h : Only (w.heap.size + 1) ((w.alloc o).alloc o') w1) : Below w.heap.size w w1 :=
  (((Below.refl _ w).alloc (Nat.le_refl _) _).alloc (by simp) _).trans (h.below (by omega) (by simp; omega))

set_option maxRecDepth 100000 in
set_option maxHeartbeats 1000000 in
theorem parse_any (s : ByteArray) (w : World) (hs : s.size ≤ 1000000) (hG : Glob w) :
    Calls Tryd.prog 23 #[.string s] w fun e w' => PaOut w w' e (parseT s.data.toList) ∧ Below w.heap.size w w' := by
  have hGl := hG.lt
  have hrt := readT_le 6 s.data.toList
  simp only [Array.length_toList, ByteArray.size_data] at hrt
  go_enter Tryd.func23, Tryd.ntmps23
  go_wp2_with (fail)
  refine (readType_any 6 (w.heap.size + 1) s 0 _ (by omega) (by omega) (by unfold Rdr; simpa using heap_alloc_new (w.alloc _) _) hs (by omega) ((hG.kept (Below.heap_alloc w _ 0 hG.lt)).kept (Below.heap_alloc _ _ 0 (by simp))) (by omega)).mono ?_
  rw [List.drop_zero, Nat.zero_add]
  cases hq : readT 6 s.data.toList with
  | mk k o =>
  rw [hq] at hrt
  have hsl : s.data.toList.length = s.size := by simp
  cases o with
  | none =>
    have HP : Hid (parseT s.data.toList = (k, none)) := by show _ = _; rw [parseT, hq]
    clear hq
    rintro e w1 ⟨v, rfl, hv, hr, hon⟩
    obtain rfl : v = .agg #[.int .i64 0, .slice none 0 0] := hv
    have hc := pa_cell hon
    have hb := pa_below hon
    have f0 := cell2_0 hc
    have f1 := cell2_1 hc
    have f2 := cell3_f hc 0
    have f3 := cell3_f hc 1
    have hcz := two_stored (two_stored hc (.int .i64 0) (.slice none 0 0)) (.int .i64 0) (.slice none 0 0)
    have z0 := cell2_0 hcz
    have z1 := cell2_1 hcz
    have r0 := hr.c0
    have r1 := hr.c1
    have rl := hr.lt
    go_wp2
    go_region
    all_goals
      go_wp2
      refine bodyPost_ret (v := .tuple #[.agg #[.int .i64 0, .slice none 0 0], .int .i64 (k : Int), .int .i64 40]) (by simp [results, Tryd.results23, go_sem, z0, z1]) rfl ?_
      rw [HP.out]
      refine ⟨rfl, ?_⟩
      first
        | exact (((hb.setCell (Nat.le_refl _) _).setCell (Nat.le_refl _) _).setCell (Nat.le_refl _) _).setCell (Nat.le_refl _) _
        | exact ((((hb.setCell (Nat.le_refl _) _).setCell (Nat.le_refl _) _).setCell (Nat.le_refl _) _).setCell (Nat.le_refl _) _).drew
  | some t =>
    have HP : Hid (parseT s.data.toList = if k < s.size then (k, none) else (0, some t)) := by show _ = _; rw [parseT, hq, hsl]
    clear hq
    rintro e w1 ⟨v, rfl, hv, hr, hon⟩
    obtain ⟨A, c, rfl⟩ := TyAt.form hv
    have HV := Lib.hid hv
    have hc := pa_cell hon
    have hb := pa_below hon
    have f0 := cell2_0 hc
    have f1 := cell2_1 hc
    have f2 := cell3_f hc 0
    have f3 := cell3_f hc 1
    have hcz := two_stored (two_stored hc (.int .i64 t.kind) (.slice A t.args.length c)) (.int .i64 0) (.slice none 0 0)
    have z0 := cell2_0 hcz
    have z1 := cell2_1 hcz
    have hcy := two_stored (two_stored hc (.int .i64 t.kind) (.slice A t.args.length c)) (.int .i64 t.kind) (.slice A t.args.length c)
    have y0 := cell2_0 hcy
    have y1 := cell2_1 hcy
    have r0 := hr.c0
    have r1 := hr.c1
    have rl := hr.lt
    clear hv
    by_cases hk : k < s.size
    · have HP2 : Hid (parseT s.data.toList = (k, none)) := by show _ = _; rw [HP.out, if_pos hk]
      go_wp2
      go_region
      all_goals
        go_wp2
        refine bodyPost_ret (v := .tuple #[.agg #[.int .i64 0, .slice none 0 0], .int .i64 (k : Int), .int .i64 40]) (by simp [results, Tryd.results23, go_sem, z0, z1]) rfl ?_
        rw [HP2.out]
        refine ⟨rfl, ?_⟩
        first
          | exact (((hb.setCell (Nat.le_refl _) _).setCell (Nat.le_refl _) _).setCell (Nat.le_refl _) _).setCell (Nat.le_refl _) _
          | exact ((((hb.setCell (Nat.le_refl _) _).setCell (Nat.le_refl _) _).setCell (Nat.le_refl _) _).setCell (Nat.le_refl _) _).drew
    · have HP2 : Hid (parseT s.data.toList = (0, some t)) := by show _ = _; rw [HP.out, if_neg hk]
      go_wp2
      refine bodyPost_ret (v := .tuple #[.agg #[.int .i64 t.kind, .slice A t.args.length c], .int .i64 0, .int .i64 0]) (by simp [results, Tryd.results23, go_sem, y0, y1]) rfl ?_
      rw [HP2.out]
      refine ⟨⟨_, rfl, TyAt.move (fun b hS hl => ?_) _ _ _ HV.out⟩, (((hb.setCell (Nat.le_refl _) _).setCell (Nat.le_refl _) _).setCell (Nat.le_refl _) _).setCell (Nat.le_refl _) _⟩
      have hS' : w.heap.size + 1 + 1 ≤ b := by simpa using hS
      exact ⟨by omega, fun o => World.cell?_of_block (by rw [Below.heap_setCell _ _ _ _ (by show b ≠ w.heap.size; omega), Below.heap_setCell _ _ _ _ (by show b ≠ w.heap.size; omega), Below.heap_setCell _ _ _ _ (by show b ≠ w.heap.size; omega), Below.heap_setCell _ _ _ _ (by show b ≠ w.heap.size; omega)])⟩
end Go.Proofs.YtdoadedglpjldaaDoor
