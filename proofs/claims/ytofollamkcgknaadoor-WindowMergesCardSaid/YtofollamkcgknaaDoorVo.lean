/-
of and Same, and the document's Assign.
-/
import Derived.Test.YtofollamkcgknaaDoorVh
set_option linter.unusedVariables false
namespace Go.Proofs.YtofollamkcgknaaDoor
open Go.RowKit

theorem ws_cells {w : World} {b o : Nat} {l : List Wn} (hc : ∀ j x, l[j]? = some x → w.cell? ⟨b, o + j * 2, none⟩ = some (.int .i64 x.1) ∧ w.cell? ⟨b, o + j * 2 + 1, none⟩ = some (.int .i64 x.2)) {j : Nat} (h : j < l.length) :
    w.cell? ⟨b, o + j * 2, none⟩ = some (.int .i64 (l[j]).1) ∧ w.cell? ⟨b, o + j * 2 + 1, none⟩ = some (.int .i64 (l[j]).2) := hc j _ (List.getElem?_eq_getElem h)

set_option maxRecDepth 100000 in
set_option maxHeartbeats 1000000 in
theorem of_any (B : Nat) (v : Value) (l : List Wn) (w : World) (h : WsAt w B v l) (hl : l.length ≤ 2000000) :
    Calls Tryd.prog 19 #[v] w fun e w' => WOut w.heap.size l e w' ∧ Below w.heap.size w w' := by
  obtain ⟨i0, hi, hq0, hq1, hq2⟩ := info_parts Tryd.infoR
  obtain ⟨a, c, rfl, hlc, hA⟩ := h
  have HA := Lib.hid hA
  clear hA
  go_enter Tryd.func19, Tryd.ntmps19
  go_wp2
  go_loopw [3, 8] (fun vs i wr => ∃ j : Nat, i = .int .i64 (j : Int) ∧ j ≤ l.length ∧ Hid (wr.ownsRow w.heap.size 43 2 vs j (flat (l.take j))) ∧ Hid (Below w.heap.size w wr)) (fun _ i _ => l.length - (intOf i).toNat)
  case atStart => exact ⟨0, rfl, Nat.zero_le _, Lib.hid (World.ownsRow_nil _ _ _ _), Lib.hid (Below.refl _ _)⟩
  case round =>
    obtain ⟨j, rfl, hj, HO, HB⟩ := hrel
    have hsr := HB.out.size
    by_cases hlt : j < l.length
    · obtain ⟨b, o, rfl, hb1, hb2, hcells⟩ := HA.out (by omega)
      obtain ⟨c0, c1⟩ := ws_cells hcells hlt
      have HT : Hid (l.take (j + 1) = l.take j ++ [l[j]]) := Lib.hid (by rw [List.take_succ_eq_append_getElem hlt])
      have g0 := (HB.out.cell (p := ⟨b, o + j * 2, none⟩) hb2).trans c0
      have g1 := (HB.out.cell (p := ⟨b, o + j * 2 + 1, none⟩) hb2).trans c1
      clear hcells c0 c1
      generalize l[j] = x at *
      obtain ⟨x1, x2⟩ := x
      dsimp only at g0 g1
      have hbr : b < wr.heap.size := by omega
      go_wp2_with (at_builtin; refine wpList_append_own _ rfl _ _ 35 rfl w.heap.size 43 i0 (.agg #[.int .i64 0, .int .i64 0]) 2 16 Tryd.underlying35 hi hq0 hq1 hq2 rfl (by decide) _ j (flat (l.take j)) rfl ((HO.out.alloc _).alloc _) ⟨wr.heap.size + 1, 0, none⟩ 1 1 [.int .i64 x1, .int .i64 x2] rfl rfl (cell_two_new _ _ _ _ _ (by simp)) (two_one _ _) (by unfold maxLen; omega) (by omega) (by simp; omega) ?_; intro v' w7 hown7 hg7 _)
      go_roundw
      case rel =>
        refine ⟨j + 1, by go_num, by omega, Lib.hid ?_, Lib.hid ?_⟩
        · rw [HT.out, flat_snoc]; exact hown7
        · exact (((HB.out.alloc (by omega) _).alloc (by simp; omega) _).grown hg7 (by simp; omega) fun k hk => by have := (HO.out.lt k hk).1; omega)
      case measure => simp [intOf]; omega
    · obtain rfl : j = l.length := by omega
      have HO2 : Hid (wr.ownsRow w.heap.size 43 2 u3 l.length (flat l)) := Lib.hid (by have := HO.out; rwa [List.take_length] at this)
      go_wp2
      go_ret
      exact ⟨⟨_, rfl, WsAt.own HO2.out⟩, HB.out⟩

end Go.Proofs.YtofollamkcgknaaDoor
