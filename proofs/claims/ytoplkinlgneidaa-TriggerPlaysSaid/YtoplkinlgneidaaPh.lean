/-
Panes that follow one another: the plain part; Check of the program.
-/
import Derived.Test.YtoplkinlgneidaaPg
set_option linter.unusedVariables false
namespace Go.Proofs.Ytoplkinlgneidaa
open Go.RowKit

/-- The stage of a line that fired these. -/
def stgL (l : List Inf) : Int := match l.getLast? with
  | none => 0
  | some x => stF x.2.1 x.2.2

theorem stgL_snoc (l : List Inf) (x : Inf) : stgL (l ++ [x]) = stF x.2.1 x.2.2 := by simp [stgL]

theorem stgL_nil : stgL [] = 0 := rfl

/-- May x be fired behind l? -/
def Fol (l : List Inf) (x : Inf) : Prop := x.1 = l.length ∧ okF (stgL l) x.2.1

/-- Each pane follows those ahead of it. -/
inductive GdL : List Inf → Prop
  | nil : GdL []
  | snoc {l : List Inf} {x : Inf} : GdL l → Fol l x → GdL (l ++ [x])

theorem take_snoc {l : List Inf} {j : Nat} {x : Inf} (h : l[j]? = some x) : l.take (j + 1) = l.take j ++ [x] := by
  obtain ⟨hj, rfl⟩ := List.getElem?_eq_some_iff.1 h
  rw [List.take_succ_eq_append_getElem hj]

theorem only_cell {R b o : Nat} {a w' : World} {v : Value} (h : Only R a w') (hb : b ≠ R) (hv : a.cell? ⟨b, o, none⟩ = some v) : w'.cell? ⟨b, o, none⟩ = some v :=
  (World.cell?_of_block (h.block b (World.block_lt_of_cell? a _ hv) (fun e => hb (Option.some.inj e)))).trans hv

theorem cell_set_some {w : World} {b o : Nat} {p : Addr} {u v : Value} (hne : b ≠ p.block) (h : w.cell? ⟨b, o, none⟩ = some v) : (w.setCell p u).cell? ⟨b, o, none⟩ = some v :=
  (World.cell?_of_block (Below.heap_setCell w p u b hne)).trans h

theorem only_alloc_of {R : Nat} {a b : World} {o : Obj} (h : Only R (a.alloc o).drew b) : Only R a b :=
  ⟨h.os, h.tape, h.output, by have := h.size; simp at this; omega, fun k hk hne => (h.block k (by show k < (a.alloc o).heap.size; simp; omega) hne).trans (Below.heap_alloc a o k hk)⟩

theorem below_of_alloc {a b : World} {o : Obj} (h : Below (a.alloc o).drew.heap.size (a.alloc o).drew b) : Below a.heap.size a b :=
  ⟨h.os, h.tape, h.output, by have := h.size; simp at this; omega, fun k hk => (h.block k (by show k < (a.alloc o).heap.size; simp; omega)).trans (Below.heap_alloc a o k hk)⟩

theorem below_drewN {B : Nat} {a w : World} (h : Below B a w) (n : Nat) : Below B a (w.drewN n) := ⟨h.os, h.tape, h.output, h.size, h.block⟩

/-- What Check tells: how many follow one another, and whether these are all. -/
def ChkOut (l : List Inf) (e : Ending) : Prop :=
  (e = .returned (.tuple #[.int .i64 l.length, .int .i64 0]) ∧ GdL l) ∨
  ∃ k x, l[k]? = some x ∧ GdL (l.take k) ∧ ¬ Fol (l.take k) x ∧ e = .returned (.tuple #[.int .i64 (k : Int), .int .i64 90])

theorem in_at {w : World} {b o : Nat} {l : List Inf} (h : InAt w b o l) {j : Nat} {x : Inf} (hx : l[j]? = some x) (A : Addr) (hA : A = ⟨b, o, none⟩) :
    w.cell? (A.add (j * 3)) = some (.int .i64 x.1) ∧ w.cell? ((A.add (j * 3)).add 1) = some (.int .i64 x.2.1) ∧ w.cell? ((A.add (j * 3)).add 2) = some (.bool x.2.2) := by
  subst hA
  rw [addr_add, addr_add, addr_add]
  exact h j x hx

set_option maxRecDepth 100000 in
set_option maxHeartbeats 2000000 in
theorem check_any (S : Nat → Prop) (v : Value) (l : List Inf) (w : World) (h : IsAt w S v l) (hl : l.length ≤ 4611686018427387900) :
    Calls Try.prog 17 #[v] w fun e w' => ChkOut l e ∧ Below w.heap.size w w' := by
  obtain ⟨a, c, rfl, hlc, hA⟩ := h
  have HA := Lib.hid hA
  clear hA
  go_enter Try.func17, Try.ntmps17
  go_wp2
  refine wp_scope_fwd 0 rfl ?_
  go_wp2_with (go_at_call 30; refine (new_any _).mono ?_; rintro e w1 ⟨rfl, rfl⟩)
  go_loopw [2] (fun iv wr => ∃ j : Nat, iv = .int .i64 (j : Int) ∧ j ≤ l.length ∧ Hid (GdL (l.take j)) ∧ Hid (Ln wr w.heap.size j (stgL (l.take j))) ∧ Hid (Below w.heap.size w wr)) (fun iv _ => l.length - (intOf iv).toNat)
  case atStart => exact ⟨0, rfl, Nat.zero_le _, Lib.hid .nil, Lib.hid (heap_alloc_new w _), Lib.hid ((Below.refl _ _).alloc (Nat.le_refl _) _)⟩
  case round =>
    obtain ⟨j, rfl, hj, HG, HLN, HB⟩ := hrel
    have hsr := HB.out.size
    by_cases hlt : j < l.length
    · obtain ⟨b, o, rfl, hS, hb2, hcells⟩ := HA.out (by omega)
      have hx := List.getElem?_eq_getElem hlt
      obtain ⟨c0, c1, c2⟩ := hcells j _ hx
      have HX := Lib.hid hx
      generalize l[j] = x at *
      obtain ⟨x1, x2, x3⟩ := x
      dsimp only at c0 c1 c2
      have c0 := (HB.out.cell (p := ⟨b, o + j * 3, none⟩) hb2).trans c0
      have c1 := (HB.out.cell (p := ⟨b, o + j * 3 + 1, none⟩) hb2).trans c1
      have c2 := (HB.out.cell (p := ⟨b, o + j * 3 + 2, none⟩) hb2).trans c2
      have hbr : b < wr.heap.size := by omega
      have hgr : w.heap.size < wr.heap.size := cell_lt HLN.out
      have hj0' : (0 : Int) ≤ (j : Int) := by omega
      have hj1' : (j : Int) < (l.length : Int) := by omega
      clear hx hcells
      generalize hst : stgL (l.take j) = s at *
      have HST := Lib.hid hst
      clear hst
      by_cases hok : okF s x2
      · have HOK := Lib.hid hok
        clear hok
        go_upto_region 4 with (fail)
        have HC1 := Lib.hid (fire_yes w.heap.size j s x2 x3 wr.drew HLN.out hj0' (by omega) HOK.out)
        have HC2 := Lib.hid (fire_yes w.heap.size j s x2 x3 (wr.alloc (.cells #[.int .i64 0, .int .i64 0, .bool false] 49)).drew (heap_alloc_some HLN.out) hj0' (by omega) HOK.out)
        go_region_held3 (fun w' => w'.cell? ⟨b, o + j * 3 + 1, none⟩ = some (.int .i64 x2) ∧ w'.cell? ⟨b, o + j * 3 + 2, none⟩ = some (.bool x3))
          ((refine ⟨?_, ?_⟩ <;> (repeat' (first | with_reducible assumption | with_reducible refine cell_drew_some ?_ | with_reducible refine cell_alloc_some ?_ | with_reducible refine cell_set_some ?_ ?_ | (dsimp only; omega)))))
          (first
            | (go_at_call 31; (with_reducible refine HC1.out.mono ?_); rintro e wc ⟨rfl, hlc1, hoc1⟩; have y1 := only_cell hoc1 (by omega) (cell_drew_some c1); have y2 := only_cell hoc1 (by omega) (cell_drew_some c2))
            | (go_at_call 31; (with_reducible refine HC2.out.mono ?_); rintro e wc ⟨rfl, hlc1, hoc1⟩; have y1 := only_cell hoc1 (by omega) (cell_drew_some (cell_alloc_some c1)); have y2 := only_cell hoc1 (by omega) (cell_drew_some (cell_alloc_some c2)); have hz : wc.heap[wr.heap.size]? = some (.cells #[.int .i64 0, .int .i64 0, .bool false] 49 (0, 0)) := hoc1.at (heap_alloc_new wr _) (by omega); have z0 := cell3_0 hz; have z1 := cell3_1 hz; have z2 := cell3_2 hz; have zf := cells_f hz; have hzl := cell_lt hz)
            | fail)
        · have hW1 : (wc.alloc (.cells #[.int .i64 (j : Int), .int .i64 x2, .bool x3] 49)).heap[wc.heap.size]? = some (.cells #[.int .i64 (j : Int), .int .i64 x2, .bool x3] 49 (0, 0)) := heap_alloc_new wc _
          have hW2 : Ln (wc.alloc (.cells #[.int .i64 (j : Int), .int .i64 x2, .bool x3] 49)) w.heap.size ((j : Int) + 1) (stF x2 x3) := heap_alloc_some hlc1
          have hW3 : Only w.heap.size wr (wc.alloc (.cells #[.int .i64 (j : Int), .int .i64 x2, .bool x3] 49)) := Only.alloc_ (a := wr) ⟨hoc1.os, hoc1.tape, hoc1.output, hoc1.size, hoc1.block⟩ _
          have hTN : wr.heap.size ≤ wc.heap.size := hoc1.size
          generalize (wc.alloc (.cells #[.int .i64 (j : Int), .int .i64 x2, .bool x3] 49)) = W at hW1 hW2 hW3 ⊢
          generalize wc.heap.size = TB at hW1 hTN ⊢
          clear hlc1 hoc1 y1 y2
          have HW1 := Lib.hid hW1
          have HW2 := Lib.hid hW2
          have HW3 := Lib.hid hW3
          have b0 := cell3_0 hW1
          have b1 := cell3_1 hW1
          have b2 := cell3_2 hW1
          have hTB := cell_lt hW1
          have y0 := only_cell hW3 (by omega) c0
          have y1 := only_cell hW3 (by omega) c1
          have y2 := only_cell hW3 (by omega) c2
          have hbW : b < W.heap.size := by have := hW3.size; omega
          clear hW1 hW2 hW3 HC1 HC2 c0 c1 c2
          have hgu := fun w' => Try.guardI .neq w'
          by_cases hx1 : (j : Int) = x1
          · have HX1 := Lib.hid hx1
            have hne : ∀ w', (binOp .neq 49 (.agg #[.int .i64 (j : Int), .int .i64 x2, .bool x3]) (.agg #[.int .i64 x1, .int .i64 x2, .bool x3])).run Try.prog w' = .ok (.bool false) w' := fun w' => by rw [Try.neqI]; simp [HX1.out]
            clear hx1
            go_upto_region 5 with (fail)
            go_quiet (fail)
            go_wp2
            go_roundw
            case rel =>
              have ht := take_snoc HX.out
              refine ⟨j + 1, by go_num, by omega, Lib.hid ?_, Lib.hid ?_, Lib.hid ((below_drewN (HB.out.trans (HW3.out.below (Nat.le_refl _) hsr)) _))⟩
              · rw [ht]
                exact .snoc HG.out ⟨by rw [List.length_take, Nat.min_eq_left hj]; exact HX1.out.symm, by rw [HST.out]; exact HOK.out⟩
              · rw [ht, stgL_snoc]
                exact HW2.out
            case measure => simp [intOf]; omega
          · have HX1 := Lib.hid hx1
            have hne : ∀ w', (binOp .neq 49 (.agg #[.int .i64 (j : Int), .int .i64 x2, .bool x3]) (.agg #[.int .i64 x1, .int .i64 x2, .bool x3])).run Try.prog w' = .ok (.bool true) w' := fun w' => by rw [Try.neqI]; simp [HX1.out]
            clear hx1
            go_upto_region 5 with (fail)
            go_quiet (fail)
            go_wp2
            go_step3
            refine And.intro rfl ?_
            go_wp2
            dsimp +zetaDelta only [jump_ret]
            go_ret2
            refine ⟨.inr ⟨j, _, HX.out, HG.out, fun hf => HX1.out ?_, rfl⟩, (below_drewN (HB.out.trans (HW3.out.below (Nat.le_refl _) hsr)) _)⟩
            have := hf.1
            rw [List.length_take, Nat.min_eq_left hj] at this
            exact this.symm
        · have hW1 : (((wc.setCell ⟨wr.heap.size, 0, none⟩ (.int .i64 (j : Int))).setCell ⟨wr.heap.size, 1, none⟩ (.int .i64 x2)).setCell ⟨wr.heap.size, 2, none⟩ (.bool x3)).heap[wr.heap.size]? = some (.cells #[.int .i64 (j : Int), .int .i64 x2, .bool x3] 49 (0, 0)) := put3_heap hz
          have hW2 : Ln (((wc.setCell ⟨wr.heap.size, 0, none⟩ (.int .i64 (j : Int))).setCell ⟨wr.heap.size, 1, none⟩ (.int .i64 x2)).setCell ⟨wr.heap.size, 2, none⟩ (.bool x3)) w.heap.size ((j : Int) + 1) (stF x2 x3) := heap_set_some (by show w.heap.size ≠ wr.heap.size; omega) (heap_set_some (by show w.heap.size ≠ wr.heap.size; omega) (heap_set_some (by show w.heap.size ≠ wr.heap.size; omega) hlc1))
          have hW3 : Only w.heap.size wr (((wc.setCell ⟨wr.heap.size, 0, none⟩ (.int .i64 (j : Int))).setCell ⟨wr.heap.size, 1, none⟩ (.int .i64 x2)).setCell ⟨wr.heap.size, 2, none⟩ (.bool x3)) := only_far (only_far (only_far (only_alloc_of hoc1) (Nat.le_refl _) _) (Nat.le_refl _) _) (Nat.le_refl _) _
          generalize (((wc.setCell ⟨wr.heap.size, 0, none⟩ (.int .i64 (j : Int))).setCell ⟨wr.heap.size, 1, none⟩ (.int .i64 x2)).setCell ⟨wr.heap.size, 2, none⟩ (.bool x3)) = W at hW1 hW2 hW3 ⊢
          obtain ⟨TB, hTBe⟩ : ∃ TB, TB = wr.heap.size := ⟨_, rfl⟩
          rw [← hTBe] at hW1 ⊢
          have hTN : wr.heap.size ≤ TB := by omega
          clear hTBe
          clear hlc1 hoc1 y1 y2 hz z0 z1 z2 zf hzl
          have HW1 := Lib.hid hW1
          have HW2 := Lib.hid hW2
          have HW3 := Lib.hid hW3
          have b0 := cell3_0 hW1
          have b1 := cell3_1 hW1
          have b2 := cell3_2 hW1
          have hTB := cell_lt hW1
          have y0 := only_cell hW3 (by omega) c0
          have y1 := only_cell hW3 (by omega) c1
          have y2 := only_cell hW3 (by omega) c2
          have hbW : b < W.heap.size := by have := hW3.size; omega
          clear hW1 hW2 hW3 HC1 HC2 c0 c1 c2
          have hgu := fun w' => Try.guardI .neq w'
          by_cases hx1 : (j : Int) = x1
          · have HX1 := Lib.hid hx1
            have hne : ∀ w', (binOp .neq 49 (.agg #[.int .i64 (j : Int), .int .i64 x2, .bool x3]) (.agg #[.int .i64 x1, .int .i64 x2, .bool x3])).run Try.prog w' = .ok (.bool false) w' := fun w' => by rw [Try.neqI]; simp [HX1.out]
            clear hx1
            go_upto_region 5 with (fail)
            go_quiet (fail)
            go_wp2
            go_roundw
            case rel =>
              have ht := take_snoc HX.out
              refine ⟨j + 1, by go_num, by omega, Lib.hid ?_, Lib.hid ?_, Lib.hid ((below_drewN (HB.out.trans (HW3.out.below (Nat.le_refl _) hsr)) _))⟩
              · rw [ht]
                exact .snoc HG.out ⟨by rw [List.length_take, Nat.min_eq_left hj]; exact HX1.out.symm, by rw [HST.out]; exact HOK.out⟩
              · rw [ht, stgL_snoc]
                exact HW2.out
            case measure => simp [intOf]; omega
          · have HX1 := Lib.hid hx1
            have hne : ∀ w', (binOp .neq 49 (.agg #[.int .i64 (j : Int), .int .i64 x2, .bool x3]) (.agg #[.int .i64 x1, .int .i64 x2, .bool x3])).run Try.prog w' = .ok (.bool true) w' := fun w' => by rw [Try.neqI]; simp [HX1.out]
            clear hx1
            go_upto_region 5 with (fail)
            go_quiet (fail)
            go_wp2
            go_step3
            refine And.intro rfl ?_
            go_wp2
            dsimp +zetaDelta only [jump_ret]
            go_ret2
            refine ⟨.inr ⟨j, _, HX.out, HG.out, fun hf => HX1.out ?_, rfl⟩, (below_drewN (HB.out.trans (HW3.out.below (Nat.le_refl _) hsr)) _)⟩
            have := hf.1
            rw [List.length_take, Nat.min_eq_left hj] at this
            exact this.symm
      · have HOK := Lib.hid hok
        clear hok
        go_upto_region 4 with (fail)
        have HC1 := Lib.hid (fire_no w.heap.size j s x2 x3 wr.drew HLN.out HOK.out)
        have HC2 := Lib.hid (fire_no w.heap.size j s x2 x3 (wr.alloc (.cells #[.int .i64 0, .int .i64 0, .bool false] 49)).drew (heap_alloc_some HLN.out) HOK.out)
        have hsz : ((wr.alloc (.cells #[.int .i64 0, .int .i64 0, .bool false] 49)).drew).heap.size = wr.heap.size + 1 := by show (wr.alloc _).heap.size = _; simp
        have hbr2 : b < ((wr.alloc (.cells #[.int .i64 0, .int .i64 0, .bool false] 49)).drew).heap.size := by omega
        have hbr3 : wr.heap.size < ((wr.alloc (.cells #[.int .i64 0, .int .i64 0, .bool false] 49)).drew).heap.size := by omega
        clear hsz
        go_region_held3 (fun w' => w'.cell? ⟨b, o + j * 3 + 1, none⟩ = some (.int .i64 x2) ∧ w'.cell? ⟨b, o + j * 3 + 2, none⟩ = some (.bool x3))
          ((refine ⟨?_, ?_⟩ <;> (repeat' (first | with_reducible assumption | with_reducible refine cell_drew_some ?_ | with_reducible refine cell_alloc_some ?_ | with_reducible refine cell_set_some ?_ ?_ | (dsimp only; omega)))))
          (first
            | (go_at_call 31; (with_reducible refine HC1.out.mono ?_); rintro e wc ⟨rfl, hbc⟩; have y1 : wc.cell? ⟨b, o + j * 3 + 1, none⟩ = some (.int .i64 x2) := (hbc.cell (p := ⟨b, o + j * 3 + 1, none⟩) hbr).trans c1; have y2 : wc.cell? ⟨b, o + j * 3 + 2, none⟩ = some (.bool x3) := (hbc.cell (p := ⟨b, o + j * 3 + 2, none⟩) hbr).trans c2; have hbc' : Below wr.heap.size wr wc := ⟨hbc.os, hbc.tape, hbc.output, hbc.size, hbc.block⟩)
            | (go_at_call 31; (with_reducible refine HC2.out.mono ?_); rintro e wc ⟨rfl, hbc⟩; have y1 : wc.cell? ⟨b, o + j * 3 + 1, none⟩ = some (.int .i64 x2) := (hbc.cell (p := ⟨b, o + j * 3 + 1, none⟩) hbr2).trans (cell_drew_some (cell_alloc_some c1)); have y2 : wc.cell? ⟨b, o + j * 3 + 2, none⟩ = some (.bool x3) := (hbc.cell (p := ⟨b, o + j * 3 + 2, none⟩) hbr2).trans (cell_drew_some (cell_alloc_some c2)); have hbc' : Below wr.heap.size wr wc := below_of_alloc hbc; have hz : wc.heap[wr.heap.size]? = some (.cells #[.int .i64 0, .int .i64 0, .bool false] 49 (0, 0)) := (hbc.block _ hbr3).trans (heap_alloc_new wr _); have z0 := cell3_0 hz; have z1 := cell3_1 hz; have z2 := cell3_2 hz; have zf := cells_f hz; have hzl := cell_lt hz)
            )
        all_goals
          go_wp2
          go_quiet (fail)
          go_wp2
          go_step3
          refine And.intro rfl ?_
          go_wp2
          dsimp +zetaDelta only [jump_ret]
          go_ret2
          refine ⟨.inr ⟨j, _, HX.out, HG.out, fun hf => HOK.out ?_, rfl⟩, ?_⟩
          · have := hf.2
            rw [HST.out] at this
            exact this
          · first
              | exact (below_drewN (((HB.out.trans (hbc'.mono hsr)).alloc (by have := hbc'.size; omega) _)) _)
              | exact (below_drewN ((HB.out.trans (hbc'.mono hsr))) _)
              | exact (below_drewN ((((HB.out.trans (hbc'.mono hsr)).setCell (by show w.heap.size ≤ wr.heap.size; omega) _).setCell (by show w.heap.size ≤ wr.heap.size; omega) _).setCell (by show w.heap.size ≤ wr.heap.size; omega) _) _)
    · obtain rfl : j = l.length := by omega
      go_wp2
      dsimp +zetaDelta only [jump_ret]
      go_ret2
      refine ⟨.inl ⟨rfl, ?_⟩, HB.out⟩
      have := HG.out
      rwa [List.take_length] at this

end Go.Proofs.Ytoplkinlgneidaa
