/-
From the rows' condition on the packages' variables to what the walks ask.
-/
import Derived.Test.YtllnamhgnbdkmaaGreatDoorRows
import Derived.Test.YtllnamhgnbdkmaaGreatDoorYo
import Derived.ProofKit
import Derived.LaidMore
import Derived.OpenShut
import Derived.Lay
import Derived.Shelf.Vars
import Derived.Stop.Joined
set_option linter.unusedVariables false
set_option linter.unusedSimpArgs false
namespace Go.Proofs.YtllnamhgnbdkmaaGreatDoor
open Go.ChangeShapes Go.WideShapes Go.ChangeAt Go.RowKit
theorem own : ownKnob Tryz.prog.godebug = none := by kernel_rfl
theorem gWords : Tryz.prog.globalNamed "watershed/kind.words" = some 2 := by kernel_rfl
theorem tWords : (Tryz.prog.globals[2]?).map (·.type) = some 196 := by kernel_rfl
theorem gOps : Tryz.prog.globalNamed "watershed/graph.ops" = some 0 := by kernel_rfl
theorem tOps : (Tryz.prog.globals[0]?).map (·.type) = some 134 := by kernel_rfl
theorem gES : Tryz.prog.globalNamed "strconv.ErrSyntax" = some 6 := by kernel_rfl
theorem tES : (Tryz.prog.globals[6]?).map (·.type) = some 91 := by kernel_rfl
theorem gER : Tryz.prog.globalNamed "strconv.ErrRange" = some 7 := by kernel_rfl
theorem tER : (Tryz.prog.globals[7]?).map (·.type) = some 91 := by kernel_rfl
theorem tPow : (Tryz.prog.globals[3]?).map (·.type) = some 210 := by kernel_rfl
theorem cells3 : Tryz.prog.cellsOf 3 = 1 := by kernel_rfl
theorem cells9 : Tryz.prog.cellsOf 9 = 1 := by kernel_rfl
theorem cellsWd : Tryz.prog.cellsOf 182 = 3 := by kernel_rfl
theorem cellsWs : Tryz.prog.cellsOf 196 = 24 := by kernel_rfl
theorem cellsOp : Tryz.prog.cellsOf 121 = 6 := by kernel_rfl
theorem cellsOs : Tryz.prog.cellsOf 134 = 36 := by kernel_rfl
theorem cellsU64 : Tryz.prog.cellsOf 198 = 1 := by kernel_rfl
theorem cellsPw : Tryz.prog.cellsOf 210 = 20 := by kernel_rfl
theorem data_pow {H : Type} : (Rows.laid_internal_strconv_uint64pow10 : DataW H) = Lib.tabData .u64 Lib.pow10Tab := by rfl
theorem list_three {α : Type} {l : List α} (h : l.length = 3) : ∃ a b c, l = [a, b, c] := by
  match l, h with
  | [a, b, c], _ => exact ⟨a, b, c, rfl⟩
theorem list_six {α : Type} {l : List α} (h : l.length = 6) : ∃ a b c d e f, l = [a, b, c, d, e, f] := by
  match l, h with
  | [a, b, c, d, e, f], _ => exact ⟨a, b, c, d, e, f, rfl⟩
theorem word_cells {H : Type} {enc : TypeId × Value → H} {w : World} {base m : Nat} {sp : Nat → Bool} {held : Bool} {cs : List Value} {y : DataW H × List MemPlace} {k a : Int} {s : List UInt8} (h : DataW.trod enc Tryz.prog w base sp held m 182 cs = some y)
    (hy : y.1 = .agg [.lit (.int .i64 k), .lit (.int .i64 a), .lit (.string s)]) : cs = [.int .i64 k, .int .i64 a, .string ⟨s.toArray⟩] := by
  obtain ⟨xs, n, _, hx, hl, hxl, hf⟩ := DataW.trod_struct Tryz.underlying182 h
  rw [cellsWd] at hl
  obtain ⟨c0, c1, c2, rfl⟩ := list_three hl
  obtain ⟨x0, x1, x2, rfl⟩ := list_three hxl
  subst hx
  simp only [List.map_cons, List.map_nil, DataW.agg.injEq, List.cons.injEq, and_true] at hy
  have f0 : DataW.trod enc Tryz.prog w base sp held n 3 (([c0, c1, c2].drop 0).take (Tryz.prog.cellsOf 3)) = some x0 := hf 0 _ rfl
  have f1 : DataW.trod enc Tryz.prog w base sp held n 3 (([c0, c1, c2].drop 1).take (Tryz.prog.cellsOf 3)) = some x1 := hf 1 _ rfl
  have f2 : DataW.trod enc Tryz.prog w base sp held n 9 (([c0, c1, c2].drop 2).take (Tryz.prog.cellsOf 9)) = some x2 := hf 2 _ rfl
  rw [cells3] at f0 f1
  rw [cells9] at f2
  obtain ⟨n0, e0, g0, _⟩ := DataW.trod_int Tryz.underlying3 (show DataW.trod enc Tryz.prog w base sp held n 3 [c0] = some x0 from f0)
  obtain ⟨n1, e1, g1, _⟩ := DataW.trod_int Tryz.underlying3 (show DataW.trod enc Tryz.prog w base sp held n 3 [c1] = some x1 from f1)
  obtain ⟨n2, e2, g2, _⟩ := DataW.trod_string Tryz.underlying9 (show DataW.trod enc Tryz.prog w base sp held n 9 [c2] = some x2 from f2)
  subst g0; subst g1; subst g2
  obtain ⟨h0, h1, h2⟩ := hy
  simp only [DataW.lit.injEq, Lit.int.injEq, Lit.string.injEq, true_and] at h0 h1 h2
  simp only [List.cons.injEq, and_true] at e0 e1 e2
  subst h0; subst h1; subst h2
  rw [e0, e1, e2]
theorem op_cells {H : Type} {enc : TypeId × Value → H} {w : World} {base m : Nat} {sp : Nat → Bool} {held : Bool} {cs : List Value} {y : DataW H × List MemPlace} {a b c d e : Int} {s : List UInt8} (h : DataW.trod enc Tryz.prog w base sp held m 121 cs = some y)
    (hy : y.1 = .agg [.lit (.int .i64 a), .lit (.string s), .lit (.int .i64 b), .lit (.int .i64 c), .lit (.int .i64 d), .lit (.int .i64 e)]) : cs = [.int .i64 a, .string ⟨s.toArray⟩, .int .i64 b, .int .i64 c, .int .i64 d, .int .i64 e] := by
  obtain ⟨xs, n, _, hx, hl, hxl, hf⟩ := DataW.trod_struct Tryz.underlying121 h
  rw [cellsOp] at hl
  obtain ⟨c0, c1, c2, c3, c4, c5, rfl⟩ := list_six hl
  obtain ⟨x0, x1, x2, x3, x4, x5, rfl⟩ := list_six hxl
  subst hx
  simp only [List.map_cons, List.map_nil, DataW.agg.injEq, List.cons.injEq, and_true] at hy
  have f0 : DataW.trod enc Tryz.prog w base sp held n 3 (([c0, c1, c2, c3, c4, c5].drop 0).take (Tryz.prog.cellsOf 3)) = some x0 := hf 0 _ rfl
  have f1 : DataW.trod enc Tryz.prog w base sp held n 9 (([c0, c1, c2, c3, c4, c5].drop 1).take (Tryz.prog.cellsOf 9)) = some x1 := hf 1 _ rfl
  have f2 : DataW.trod enc Tryz.prog w base sp held n 3 (([c0, c1, c2, c3, c4, c5].drop 2).take (Tryz.prog.cellsOf 3)) = some x2 := hf 2 _ rfl
  have f3 : DataW.trod enc Tryz.prog w base sp held n 3 (([c0, c1, c2, c3, c4, c5].drop 3).take (Tryz.prog.cellsOf 3)) = some x3 := hf 3 _ rfl
  have f4 : DataW.trod enc Tryz.prog w base sp held n 3 (([c0, c1, c2, c3, c4, c5].drop 4).take (Tryz.prog.cellsOf 3)) = some x4 := hf 4 _ rfl
  have f5 : DataW.trod enc Tryz.prog w base sp held n 3 (([c0, c1, c2, c3, c4, c5].drop 5).take (Tryz.prog.cellsOf 3)) = some x5 := hf 5 _ rfl
  rw [cells3] at f0 f2 f3 f4 f5
  rw [cells9] at f1
  obtain ⟨n0, e0, g0, _⟩ := DataW.trod_int Tryz.underlying3 (show DataW.trod enc Tryz.prog w base sp held n 3 [c0] = some x0 from f0)
  obtain ⟨n1, e1, g1, _⟩ := DataW.trod_string Tryz.underlying9 (show DataW.trod enc Tryz.prog w base sp held n 9 [c1] = some x1 from f1)
  obtain ⟨n2, e2, g2, _⟩ := DataW.trod_int Tryz.underlying3 (show DataW.trod enc Tryz.prog w base sp held n 3 [c2] = some x2 from f2)
  obtain ⟨n3, e3, g3, _⟩ := DataW.trod_int Tryz.underlying3 (show DataW.trod enc Tryz.prog w base sp held n 3 [c3] = some x3 from f3)
  obtain ⟨n4, e4, g4, _⟩ := DataW.trod_int Tryz.underlying3 (show DataW.trod enc Tryz.prog w base sp held n 3 [c4] = some x4 from f4)
  obtain ⟨n5, e5, g5, _⟩ := DataW.trod_int Tryz.underlying3 (show DataW.trod enc Tryz.prog w base sp held n 3 [c5] = some x5 from f5)
  subst g0; subst g1; subst g2; subst g3; subst g4; subst g5
  obtain ⟨h0, h1, h2, h3, h4, h5⟩ := hy
  simp only [DataW.lit.injEq, Lit.int.injEq, Lit.string.injEq, true_and] at h0 h1 h2 h3 h4 h5
  simp only [List.cons.injEq, and_true] at e0 e1 e2 e3 e4 e5
  subst h0; subst h1; subst h2; subst h3; subst h4; subst h5
  rw [e0, e1, e2, e3, e4, e5]
def pieces (k : Nat) : Nat → List Value → List (List Value)
  | 0, _ => []
  | n + 1, l => l.take k :: pieces k n (l.drop k)
theorem pieces_all (k : Nat) : ∀ (n : Nat) (l : List Value), l.length = k * n → (pieces k n l).flatten = l
  | 0, l, h => by
    have : l = [] := List.eq_nil_of_length_eq_zero (by omega)
    simp [pieces, this]
  | n + 1, l, h => by
    rw [pieces, List.flatten_cons, pieces_all k n (l.drop k) (by rw [List.length_drop, h, Nat.mul_succ]; omega), List.take_append_drop]
def laids : List (String × DataW Unit) := [("math/bits.deBruijn32tab", Rows.laid_math_bits_deBruijn32tab), ("math/bits.deBruijn64tab", Rows.laid_math_bits_deBruijn64tab), ("internal/strconv.uint64pow10", Rows.laid_internal_strconv_uint64pow10), ("unicode/utf8.acceptRanges", Rows.laid_unicode_utf8_acceptRanges), ("strconv.ErrRange", Rows.laid_strconv_ErrRange), ("strconv.ErrSyntax", Rows.laid_strconv_ErrSyntax), ("watershed/kind.words", Rows.laid_watershed_kind_words), ("watershed/graph.ops", Rows.laid_watershed_graph_ops), ("unicode/utf8.first", Rows.laid_unicode_utf8_first)]
theorem err_of {W : World} {cs : Array Value} {f : Nat} {d : DataW Unit} {p : List MemPlace} {nm n : String} {g : Nat} (hg : Tryz.prog.globalNamed n = some g) (hv : W.var? Tryz.prog n = some cs)
    (hd : DataW.trod (fun _ : TypeId × Value => ()) Tryz.prog W 0 (fun _ => true) false f 91 cs.toList = some (.iface nm d, p)) : ErG W g := by
  obtain ⟨_, u, v, hc, _, _⟩ := iface_of_trod Tryz.underlying91 hd
  refine ⟨.iface u v, ?_, .inr ⟨u, v, rfl⟩⟩
  rw [World.var?_cell hg hv 0]
  have : cs = #[.iface u v] := Array.toList_inj.1 hc
  rw [this]
  rfl
theorem ops_of {W : World} {cs : Array Value} {f : Nat} {p : List MemPlace} (hv : W.var? Tryz.prog "watershed/graph.ops" = some cs)
    (hd : DataW.trod (fun _ : TypeId × Value => ()) Tryz.prog W 0 (fun _ => true) false f 134 cs.toList = some (Rows.laid_watershed_graph_ops, p)) : OpsG W := by
  obtain ⟨xs, m, _, hx, hl, hxl, hel⟩ := DataW.trod_array Tryz.underlying134 hd
  simp only [Prod.mk.injEq] at hx
  have hx1 := hx.1
  rw [cellsOs] at hl
  simp only [cellsOp] at hel
  obtain ⟨x1, x2, x3, x4, x5, x6, rfl⟩ := list_six hxl
  simp only [Rows.laid_watershed_graph_ops, DataW.agg.injEq, List.map_cons, List.map_nil, List.cons.injEq, and_true] at hx1
  obtain ⟨h1, h2, h3, h4, h5, h6⟩ := hx1
  have e1 := op_cells (show _ = some x1 from hel 0 (by decide)) h1.symm
  have e2 := op_cells (show _ = some x2 from hel 1 (by decide)) h2.symm
  have e3 := op_cells (show _ = some x3 from hel 2 (by decide)) h3.symm
  have e4 := op_cells (show _ = some x4 from hel 3 (by decide)) h4.symm
  have e5 := op_cells (show _ = some x5 from hel 4 (by decide)) h5.symm
  have e6 := op_cells (show _ = some x6 from hel 5 (by decide)) h6.symm
  have hp := pieces_all 6 6 cs.toList hl
  simp only [pieces, List.drop_drop] at hp
  simp only [Nat.reduceMul, List.drop_zero] at e1 e2 e3 e4 e5 e6
  simp only [Nat.reduceAdd] at hp
  rw [e1, e2, e3, e4, e5, e6] at hp
  have hcs : cs = opsRow := by
    apply Array.toList_inj.1
    rw [← hp]
    rfl
  simp only [World.var?, gOps, Option.bind_some] at hv
  split at hv
  · rename_i c t fr hb
    cases hv
    exact ⟨t, fr, by rw [hb, hcs]⟩
  · cases hv
theorem words_of {W : World} {cs : Array Value} {f : Nat} {p : List MemPlace} (hv : W.var? Tryz.prog "watershed/kind.words" = some cs)
    (hd : DataW.trod (fun _ : TypeId × Value => ()) Tryz.prog W 0 (fun _ => true) false f 196 cs.toList = some (Rows.laid_watershed_kind_words, p)) : Knd.Glob W := by
  obtain ⟨xs, m, _, hx, hl, hxl, hel⟩ := DataW.trod_array Tryz.underlying196 hd
  simp only [Prod.mk.injEq] at hx
  have hx1 := hx.1
  rw [cellsWs] at hl
  simp only [cellsWd] at hel
  match xs, hxl with
  | [x1, x2, x3, x4, x5, x6, x7, x9], _ =>
    simp only [Rows.laid_watershed_kind_words, DataW.agg.injEq, List.map_cons, List.map_nil, List.cons.injEq, and_true] at hx1
    obtain ⟨h1, h2, h3, h4, h5, h6, h7, h9⟩ := hx1
    have e1 := word_cells (show _ = some x1 from hel 0 (by decide)) h1.symm
    have e2 := word_cells (show _ = some x2 from hel 1 (by decide)) h2.symm
    have e3 := word_cells (show _ = some x3 from hel 2 (by decide)) h3.symm
    have e4 := word_cells (show _ = some x4 from hel 3 (by decide)) h4.symm
    have e5 := word_cells (show _ = some x5 from hel 4 (by decide)) h5.symm
    have e6 := word_cells (show _ = some x6 from hel 5 (by decide)) h6.symm
    have e7 := word_cells (show _ = some x7 from hel 6 (by decide)) h7.symm
    have e9 := word_cells (show _ = some x9 from hel 7 (by decide)) h9.symm
    have hp := pieces_all 3 8 cs.toList hl
    simp only [pieces, List.drop_drop] at hp
    simp only [Nat.reduceMul, List.drop_zero] at e1 e2 e3 e4 e5 e6 e7 e9
    simp only [Nat.reduceAdd] at hp
    rw [e1, e2, e3, e4, e5, e6, e7, e9] at hp
    have hcs : cs = Knd.wordsRow := by
      apply Array.toList_inj.1
      rw [← hp]
      rfl
    simp only [World.var?, gWords, Option.bind_some] at hv
    split at hv
    · rename_i c t fr hb
      cases hv
      exact ⟨t, fr, by rw [hb, hcs]⟩
    · cases hv
theorem gk_of_laid {W : World} (h : laidMet Tryz.prog laids W) (hs : W.ShapedOpen Tryz.prog) : Gk W := by
  obtain ⟨ps, ⟨_, _, _, _, _, _, _, _, _, _, ⟨_, _, _, _, _, _, _, _, _, _, ⟨g3, t3, cs3, f3, p3, q3, hg3, ht3, hv3, hd3, ⟨_, _, _, _, _, _, _, _, _, _, ⟨g5, t5, cs5, f5, p5, q5, hg5, ht5, hv5, hd5, ⟨g6, t6, cs6, f6, p6, q6, hg6, ht6, hv6, hd6, ⟨g7, t7, cs7, f7, p7, q7, hg7, ht7, hv7, hd7, ⟨g8, t8, cs8, f8, p8, q8, hg8, ht8, hv8, hd8, _⟩, _⟩, _⟩, _⟩, _⟩, _⟩, _⟩, _⟩, _⟩ := h
  obtain rfl := Option.some.inj (gPow.symm.trans hg3)
  obtain rfl := Option.some.inj (tPow.symm.trans ht3)
  obtain rfl := Option.some.inj (gER.symm.trans hg5)
  obtain rfl := Option.some.inj (tER.symm.trans ht5)
  obtain rfl := Option.some.inj (gES.symm.trans hg6)
  obtain rfl := Option.some.inj (tES.symm.trans ht6)
  obtain rfl := Option.some.inj (gWords.symm.trans hg7)
  obtain rfl := Option.some.inj (tWords.symm.trans ht7)
  obtain rfl := Option.some.inj (gOps.symm.trans hg8)
  obtain rfl := Option.some.inj (tOps.symm.trans ht8)
  refine ⟨words_of hv7 hd7, ops_of hv8 hd8, ?_, ?_, err_of gES hv6 hd6, err_of gER hv5 hd5⟩
  · unfold Tb Lib.TabIs
    rw [data_pow] at hd3
    rw [hv3, ← Lib.cells_of_tab Tryz.underlying210 Tryz.underlying198 cellsU64 cellsPw hd3]
  · exact cell_of_shapedOpen_int hs (t := 3) (zero := #[.int .i64 0]) (of_decide_eq_true (by kernel_rfl)) (by kernel_rfl) rfl (by kernel_rfl) (by kernel_rfl) Tryz.underlying3
theorem gk_of_laidH {W : World} (h : laidMetH Tryz.prog laids W) (hs : W.ShapedOpen Tryz.prog) : Gk W := by
  rw [MakeChecks.laidMetH_plain _ _ _ (by kernel_rfl)] at h
  exact gk_of_laid h hs
theorem world_met (os : Os) (args : Array Value) : laidMetH Tryz.prog laids ((World.laidAll Tryz.prog os laids).forCall (fun _ _ => 0) ⟨#[], args, []⟩).memory := by
  rw [MakeChecks.laidMetH_plain _ _ _ (by kernel_rfl)]
  exact laidMet_laidAll _ (by kernel_rfl) (by kernel_rfl)
theorem world_shaped (os : Os) (args : Array Value) : ((World.laidAll Tryz.prog os laids).forCall (fun _ _ => 0) ⟨#[], args, []⟩).Shaped Tryz.prog := World.shaped_of_ZipB (by kernel_rfl) (by kernel_rfl)
theorem returns_shaped_and {H : Type} {enc : TypeId × Value → H} {a : Assume} {C : Checked} {os : Os} {f : FuncId} {fn : Func} {s : ChangeSpec} {conds : List PathCond} {apart fresh handsOn again : Bool} {X : World → Array Value → Prop}
    (hX : ∀ (w w' : World) (args : Array Value), w.heap = w'.heap → X w args → X w' args)
    (own : ownKnob C.prog.godebug = none) (started : os.Started) (noInit : C.prog.inits.idxOf? f = none) (hfn : C.prog.funcs[f]? = some fn)
    (witness : ∃ (w : World) (tape : Tape) (i : Input), w.os = os ∧ (w.forCall tape i).Shaped C.prog ∧ i.vars = [] ∧ Input.okWide C.prog (w.forCall tape i) .any w.heap.size f i ∧
      ((s.pre enc C.prog fn conds apart (w.forCall tape i).memory i.args ∧ X (w.forCall tape i).memory i.args) ∧ sizedMet enc C.prog fn (OpenSpec.ofChange s) apart (w.forCall tape i).memory i.args) ∧ a.holds C.prog (lone (Frame.enter C.prog f i.args .normal) [] (w.forCall tape i)))
    (contract : ∀ (W : World) (base : Nat) (args : Array Value) (ds gs : List (DataW H)) (before : List MemPlace),
      (∀ (j : Nat) t v, fn.params[j]? = some t → args[j]? = some v → Value.okWide C.prog W .any base t v) →
      DataW.Whole enc C.prog fn.params.toList s.vars apart W args.toList ds gs before → X W args → W.ShapedOpen C.prog →
      Calls C.prog f args W fun e W' => ∃ v, e = .returned v ∧ s.post enc C.prog fn apart fresh handsOn again W args v W') :
    ReturnsInHanded a C os f .any (fun w args => (s.pre enc C.prog fn conds apart w args ∧ X w args) ∧ sizedMet enc C.prog fn (OpenSpec.ofChange s) apart w args) (s.post enc C.prog fn apart fresh handsOn again) := by
  refine returnsInHanded_of_calls own started noInit witness ?_
  intro w tape i _ hsh _ hok hpre hholds
  obtain ⟨_, _, _, fn', hfn', _, _, _, _, hval⟩ := hok
  have e : fn' = fn := Option.some.inj (hfn'.symm.trans hfn)
  subst e
  obtain ⟨⟨⟨ds, gs, before, hw, hc⟩, hx⟩, hz⟩ := hpre
  have hw' := DataW.Whole.of_heap (w' := w.forCall tape i) (by rfl) hw
  refine (contract (w.forCall tape i) w.heap.size i.args ds gs before hval hw' (hX _ _ _ (by rfl) hx) hsh).mono fun e W' ⟨v, he, hp⟩ => ?_
  subst he
  exact ChangeSpec.post_blind hp
end Go.Proofs.YtllnamhgnbdkmaaGreatDoor
