import Derived.Test.YtaecndmncpfpfaaGreatDoorFc
set_option linter.unusedVariables false
set_option linter.unusedSimpArgs false
namespace Go.Proofs.YtaecndmncpfpfaaGreatDoor.L5
open Go.ChangeShapes Go.WideShapes Go.RowKit
theorem cellsE5 : Tryz.prog.cellsOf 29 = 3 := by kernel_rfl
theorem list_three5 {α : Type} {l : List α} (h : l.length = 3) : ∃ a b c, l = [a, b, c] := by
 match l, h with
 | [a, b, c], _ => exact ⟨a, b, c, rfl⟩
set_option maxRecDepth 100000 in
theorem env_open {H : Type} {enc : TypeId × Value → H} {w : World} {base : Nat} {sp : Nat → Bool} {held : Bool} (fuel : Nat) (cs : List Value) (x : DataW H × List MemPlace) (h : DataW.trod enc Tryz.prog w base sp held fuel 29 cs = some x) :
    ∃ it sides, EvL w (.agg cs.toArray) it sides := by
 cases fuel with
 | zero => simp [DataW.trod] at h
 | succ fuel =>
   obtain ⟨xs, n, hn, hx, hl, hxl, hf⟩ := DataW.trod_struct Tryz.underlying29 h
   obtain rfl : n = fuel := by omega
   rw [cellsE5] at hl
   obtain ⟨c0, c1, c2, rfl⟩ := list_three5 hl
   obtain ⟨x0, x1, rfl⟩ := list_two hxl
   have f0 : DataW.trod enc Tryz.prog w base sp held n 24 (([c0, c1, c2].drop 0).take (Tryz.prog.cellsOf 24)) = some x0 := hf 0 _ rfl
   have f1 : DataW.trod enc Tryz.prog w base sp held n 22 (([c0, c1, c2].drop 2).take (Tryz.prog.cellsOf 22)) = some x1 := hf 1 _ rfl
   rw [cellsT5] at f0
   rw [cellsK23] at f1
   obtain ⟨it, hT⟩ := ty_open n [c0, c1] _ (show DataW.trod enc Tryz.prog w base sp held n 24 [c0, c1] = some x0 from f0)
   obtain ⟨A, c, e3⟩ := hT.form
   injection e3 with e3
   have e3' := congrArg Array.toList e3
   simp only [List.cons.injEq, and_true] at e3'
   obtain ⟨rfl, rfl⟩ := e3'
   have hT' : TyAt w (fun b => b < w.heap.size) n (.agg #[.int .i64 it.kind, .slice A it.args.length c]) it := hT.move fun b _ hl => ⟨hl, fun _ => rfl⟩
   rcases DataW.trod_slice Tryz.underlying22 (show DataW.trod enc Tryz.prog w base sp held n 22 [c2] = some x1 from f1) with ⟨e5, _⟩ | ⟨a, len, cap, elems, rest, n', hn', e5, _, hb, hlc, _, hel, hcell, _⟩
   · simp only [List.cons.injEq, and_true] at e5
     subst e5
     exact ⟨it, [], A, c, none, 0, n, rfl, hT', fun hl => absurd hl (Nat.lt_irrefl _)⟩
   · simp only [List.cons.injEq, and_true] at e5
     subst e5
     rw [cellsT5] at hcell
     have key : ∀ i, i < len → ∃ t, ∃ u0 u1, w.cell? ((a.add (i * 2)).add 0) = some u0 ∧ w.cell? ((a.add (i * 2)).add 1) = some u1 ∧ TyAt w (fun _ => True) n' (.agg #[u0, u1]) t := fun i hi => by
      have h := hcell i hi
      rw [List.getElem?_eq_getElem (by omega)] at h
      obtain ⟨cs', hc, ht⟩ := Option.bind_eq_some_iff.1 h
      obtain ⟨_, hcl, hat⟩ := World.cells?_some hc
      obtain ⟨u0, u1, rfl⟩ := list_two hcl
      obtain ⟨t, hT⟩ := ty_open n' _ _ ht
      exact ⟨t, u0, u1, hat 0 (by omega), hat 1 (by omega), hT⟩
     obtain ⟨l, hll, hP⟩ := pick_list _ len key
     refine ⟨it, l, A, c, some a, cap, n, ?_, hT', fun hpos => ?_⟩
     · show Value.agg #[_, _, .slice (some a) len cap] = Value.agg #[_, _, .slice (some a) l.length cap]
       rw [hll]
     · have hp : 0 < len := by omega
       obtain ⟨_, u0, _, h0, _⟩ := key 0 hp
       have ha := spot_none h0
       have ha' : (a.add (0 * 2)).add 0 = a := by simp [Addr.add]
       rw [ha'] at ha
       have hlt : a.block < w.heap.size := by
        rw [ha'] at h0
        exact World.block_lt_of_cell? w a h0
       refine ⟨a.block, a.off, by rw [← ha], hlt, fun j t hj => ?_⟩
       obtain ⟨u0, u1, h0, h1, hT⟩ := hP j t hj
       rw [ha] at h0 h1
       refine ⟨u0, u1, ?_, ?_, (TyAt.more n' n _ _ (by omega) hT).move fun b _ hl => ⟨hl, fun _ => rfl⟩⟩
       · rw [add_two0] at h0; exact h0
       · rw [add_two1] at h1; exact h1
