/-
From the row's condition on the table of words to what the walks ask.
-/
import Derived.Test.YteebihdgfkmgmaaGreatDoorRows
import Derived.Test.YteebihdgfkmgmaaGreatDoorWs
import Derived.ProofKit
import Derived.LaidMore
import Derived.OpenShut
import Derived.Stop.Joined
namespace Go.Proofs.YteebihdgfkmgmaaGreatDoor
open Go.ChangeShapes Go.WideShapes Go.ChangeAt Go.RowKit

theorem own : ownKnob Tryz.prog.godebug = none := by kernel_rfl
theorem gWords : Tryz.prog.globalNamed "watershed/kind.words" = some 0 := by kernel_rfl
theorem tWords : (Tryz.prog.globals[0]?).map (·.type) = some 223 := by kernel_rfl
theorem cells3 : Tryz.prog.cellsOf 3 = 1 := by kernel_rfl
theorem cells9 : Tryz.prog.cellsOf 9 = 1 := by kernel_rfl
theorem cells141 : Tryz.prog.cellsOf 223 = 24 := by kernel_rfl

theorem list_three {α : Type} {l : List α} (h : l.length = 3) : ∃ a b c, l = [a, b, c] := by
  match l, h with
  | [a, b, c], _ => exact ⟨a, b, c, rfl⟩

theorem word_cells {H : Type} {enc : TypeId × Value → H} {w : World} {base m : Nat} {sp : Nat → Bool} {held : Bool} {cs : List Value} {y : DataW H × List MemPlace} {k a : Int} {s : List UInt8} (h : DataW.trod enc Tryz.prog w base sp held m 178 cs = some y)
    (hy : y.1 = .agg [.lit (.int .i64 k), .lit (.int .i64 a), .lit (.string s)]) : cs = [.int .i64 k, .int .i64 a, .string ⟨s.toArray⟩] := by
  obtain ⟨xs, n, _, hx, hl, hxl, hf⟩ := DataW.trod_struct Tryz.underlying178 h
  rw [Knd.cells82] at hl
  obtain ⟨c0, c1, c2, rfl⟩ := list_three hl
  obtain ⟨x0, x1, x2, rfl⟩ := list_three hxl
  · · 
      subst hx
      simp only [List.map_cons, List.map_nil, DataW.agg.injEq, List.cons.injEq, and_true] at hy
      have f0 : DataW.trod enc Tryz.prog w base sp held n 3 (([c0, c1, c2].drop 0).take (Tryz.prog.cellsOf 3)) = some x0 := hf 0 _ rfl
      have f1 : DataW.trod enc Tryz.prog w base sp held n 3 (([c0, c1, c2].drop 1).take (Tryz.prog.cellsOf 3)) = some x1 := hf 1 _ rfl
      have f2 : DataW.trod enc Tryz.prog w base sp held n 9 (([c0, c1, c2].drop 2).take (Tryz.prog.cellsOf 9)) = some x2 := hf 2 _ rfl
      rw [cells3] at f0 f1
      rw [cells9] at f2
      obtain ⟨n0, e0, g0, _⟩ := DataW.trod_int Tryz.underlying3 (show DataW.trod enc Tryz.prog w base sp held n 3 [c0] = some x0 from f0)
      obtain ⟨n1, e1, g1, _⟩ := DataW.trod_int Tryz.underlying3 (show DataW.trod enc Tryz.prog w base sp held n 3 [c1] = some x1 from f1)
      obtain ⟨n2, e2, g2, _⟩ := DataW.trod_string Tryz.underlying9 (show DataW.trod enc Tryz.prog w base sp held n 9 [c2] = some x2 from f2)
      subst g0; subst g1; subst g2
      obtain ⟨h0, h1, h2⟩ := hy
      simp only [DataW.lit.injEq, Lit.int.injEq, Lit.string.injEq, true_and] at h0 h1 h2
      simp only [List.cons.injEq, and_true] at e0 e1 e2
      subst h0; subst h1; subst h2
      rw [e0, e1, e2]

/-- A list in pieces of three. -/
def pieces : Nat → List Value → List (List Value)
  | 0, _ => []
  | n + 1, l => l.take 3 :: pieces n (l.drop 3)
theorem pieces_all : ∀ (n : Nat) (l : List Value), l.length = 3 * n → (pieces n l).flatten = l
  | 0, l, h => by
    have : l = [] := List.eq_nil_of_length_eq_zero (by omega)
    simp [pieces, this]
  | n + 1, l, h => by
    rw [pieces, List.flatten_cons, pieces_all n (l.drop 3) (by rw [List.length_drop]; omega), List.take_append_drop]

theorem tPow : (Tryz.prog.globals[2]?).map (·.type) = some 275 := by kernel_rfl
theorem cells79 : Tryz.prog.cellsOf 181 = 1 := by kernel_rfl
theorem cells137 : Tryz.prog.cellsOf 275 = 20 := by kernel_rfl
theorem data_pow {H : Type} : (Rows.laid_internal_strconv_uint64pow10 : DataW H) = Lib.tabData .u64 Lib.pow10Tab := by rfl
theorem gl_of_laid {W : World} (h : laidMet Tryz.prog [("math/bits.deBruijn32tab", Rows.laid_math_bits_deBruijn32tab), ("math/bits.deBruijn64tab", Rows.laid_math_bits_deBruijn64tab), ("internal/strconv.uint64pow10", Rows.laid_internal_strconv_uint64pow10), ("watershed/kind.words", Rows.laid_watershed_kind_words)] W) : Gl W := by
  obtain ⟨ps, ⟨_, _, _, _, _, _, _, _, _, _, ⟨_, _, _, _, _, _, _, _, _, _, ⟨g1, t1, cs1, f1, p1, q1, hg1, ht1, hv1, hd1, ⟨g0, t0, cs0, f0, p0, q0, hg0, ht0, hv0, hd0, _⟩, _⟩, _⟩, _⟩, _⟩ := h
  refine ⟨?_, ?_⟩
  rotate_left
  · obtain rfl := Option.some.inj (gPow.symm.trans hg1)
    obtain rfl := Option.some.inj (tPow.symm.trans ht1)
    unfold Tb Lib.TabIs
    rw [data_pow] at hd1
    rw [hv1, ← Lib.cells_of_tab Tryz.underlying275 Tryz.underlying181 cells79 cells137 hd1]
  obtain rfl := Option.some.inj (gWords.symm.trans hg0)
  obtain rfl := Option.some.inj (tWords.symm.trans ht0)
  obtain ⟨xs, m, _, hx, hl, hxl, hel⟩ := DataW.trod_array Tryz.underlying223 hd0
  simp only [Prod.mk.injEq] at hx
  have hx1 := hx.1
  rw [cells141] at hl
  simp only [Knd.cells82] at hel
  match xs, hxl with
  | [x1, x2, x3, x4, x5, x6, x7, x9], _ =>
    simp only [Rows.laid_watershed_kind_words, DataW.agg.injEq, List.map_cons, List.map_nil, List.cons.injEq, and_true] at hx1
    obtain ⟨h1, h2, h3, h4, h5, h6, h7, h9⟩ := hx1
    have e1 := word_cells (show _ = some x1 from hel 0 (by decide)) h1.symm
    have e2 := word_cells (show _ = some x2 from hel 1 (by decide)) h2.symm
    have e3 := word_cells (show _ = some x3 from hel 2 (by decide)) h3.symm
    have e4 := word_cells (show _ = some x4 from hel 3 (by decide)) h4.symm
    have e5 := word_cells (show _ = some x5 from hel 4 (by decide)) h5.symm
    have e6 := word_cells (show _ = some x6 from hel 5 (by decide)) h6.symm
    have e7 := word_cells (show _ = some x7 from hel 6 (by decide)) h7.symm
    have e9 := word_cells (show _ = some x9 from hel 7 (by decide)) h9.symm
    have hp := pieces_all 8 cs0.toList hl
    simp only [pieces, List.drop_drop] at hp
    simp only [Nat.reduceMul, List.drop_zero] at e1 e2 e3 e4 e5 e6 e7 e9
    simp only [Nat.reduceAdd] at hp
    rw [e1, e2, e3, e4, e5, e6, e7, e9] at hp
    have hcs : cs0 = Knd.wordsRow := by
      apply Array.toList_inj.1
      rw [← hp]
      rfl
    simp only [World.var?, gWords, Option.bind_some] at hv0
    split at hv0
    · rename_i c t fr hb
      cases hv0
      exact ⟨t, fr, by rw [hb, hcs]⟩
    · cases hv0

/-- The door's own heap meets the condition. -/
theorem door_met (os : Os) (args : Array Value) : laidMetH Tryz.prog [("math/bits.deBruijn32tab", Rows.laid_math_bits_deBruijn32tab), ("math/bits.deBruijn64tab", Rows.laid_math_bits_deBruijn64tab), ("internal/strconv.uint64pow10", Rows.laid_internal_strconv_uint64pow10), ("watershed/kind.words", Rows.laid_watershed_kind_words)] ((World.doorLaid Tryz.prog 400 os).forCall (fun _ _ => 0) ⟨#[], args, []⟩).memory := by
  rw [MakeChecks.laidMetH_plain _ _ _ (by kernel_rfl)]
  exact laidMet_of_run' 8 (by kernel_rfl) (by kernel_rfl)
theorem gl_of_laidH {W : World} (h : laidMetH Tryz.prog [("math/bits.deBruijn32tab", Rows.laid_math_bits_deBruijn32tab), ("math/bits.deBruijn64tab", Rows.laid_math_bits_deBruijn64tab), ("internal/strconv.uint64pow10", Rows.laid_internal_strconv_uint64pow10), ("watershed/kind.words", Rows.laid_watershed_kind_words)] W) : Gl W := by
  rw [MakeChecks.laidMetH_plain _ _ _ (by kernel_rfl)] at h
  exact gl_of_laid h
end Go.Proofs.YteebihdgfkmgmaaGreatDoor
