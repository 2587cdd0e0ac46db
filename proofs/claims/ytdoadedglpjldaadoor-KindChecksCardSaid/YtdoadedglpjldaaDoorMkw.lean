/-
fresh and Make of package kind once more: what they make may be written.
-/
import Derived.Test.YtdoadedglpjldaaDoorMk
import Derived.Lib.SmallJoins
import Derived.OneCell
namespace Go.Proofs.YtdoadedglpjldaaDoor
open Go.RowKit

/-- The Args of a type that was made lie in a row of their own. -/
def Own2 (w w' : World) (v : Value) (t : Ty) : Prop := ∃ A c cs, v = .agg #[.int .i64 t.kind, .slice A t.args.length c] ∧ w'.ownsRow w.heap.size 24 2 (.slice A t.args.length c) t.args.length cs

set_option maxRecDepth 100000 in
set_option maxHeartbeats 1000000 in
theorem fresh2_any : ∀ (r d : Nat) (S : Nat → Prop) (v : Value) (t : Ty) (q : Nat) (w : World), measureT r t = some q → TyAt w S d v t →
    Calls Tryd.prog 32 #[v] w fun e w' => (∃ v', e = .returned v' ∧ TyAt w' (fun b => w.heap.size ≤ b) r v' t ∧ Own2 w w' v' t) ∧ Below w.heap.size w w'
  | 0, d, S, v, t, q, w, hm, _ => by simp [measureT] at hm
  | r + 1, 0, S, v, t, q, w, _, hT => hT.elim
  | r + 1, d + 1, S, v, t, q, w, hm, hT => by
    obtain ⟨i0, hi, hq0, hq1, hq2⟩ := info_parts info24
    obtain ⟨x, hx, hxa, hxw, hall⟩ := measure_right hm
    have hx2 := words_args x hxw
    have IH := fun (d : Nat) => fresh_any r d
    have HIH := Lib.hid IH
    have HALL := Lib.hid hall
    have hlen2 : t.args.length ≤ 2 := by omega
    have HT := Lib.hid hT
    obtain ⟨A, c, rfl, hlc, hA⟩ := hT
    have HA := Lib.hid hA
    clear hA IH hall hx hxa hm
    by_cases hz : t.args.length = 0
    · have hze : ((t.args.length : Int) == 0) = true := by simp [hz]
      have HZ := Lib.hid hz
      clear hz
      go_enter Tryd.func32, Tryd.ntmps32
      go_wp2_with (fail)
      refine bodyPost_ret (v := .agg #[.int .i64 t.kind, .slice none 0 0]) (by simp [results, Tryd.results32, go_sem]) rfl ?_
      refine ⟨⟨_, rfl, ⟨none, 0, ?_, by have := HZ.out; omega, fun hl => absurd HZ.out (by omega)⟩, none, 0, [], ?_, ?_⟩, ?_⟩
      · rw [HZ.out]
      · rw [HZ.out]
      · rw [HZ.out]; exact World.ownsRow_nil _ _ _ _
      · exact ((Below.refl w.heap.size w).alloc (Nat.le_refl _) _).alloc (by simp) _
    · have hze : ((t.args.length : Int) == 0) = false := beq_eq_false_iff_ne.2 (by omega)
      have hmk := fun (W : World) => run_make (P := Tryd.prog) W 22 24 i0 _ Tryd.underlying22 hi hq0 .i64 .i64 (t.args.length : Int) (t.args.length : Int) (by omega) (by omega) (by rw [hq2]; omega) (by omega)
      simp only [Int.toNat_natCast, hq1] at hmk
      go_enter Tryd.func32, Tryd.ntmps32
      go_wp2_with (fail)
      generalize hRW : madeCells #[Value.int IntKind.i64 0, Value.slice none 0 0] (t.args.length * 2) = RW
      have hRWs : RW.size = t.args.length * 2 := by rw [← hRW, size_madeCells]
      clear hRW hmk
      go_loopw [20] (fun i wr => ∃ (j : Nat) (cs : List Value), i = .int .i64 j ∧ j ≤ t.args.length ∧ FrInv w A c t r (w.heap.size + 2) j cs wr) (fun i _ => 10 - (intOf i).toNat)
      case atStart => exact ⟨0, _, rfl, by omega, frInv_start w A c t r RW hRWs hlen2⟩
      case round =>
        obtain ⟨j, cs, rfl, hj, hI⟩ := hrel
        have HI := Lib.hid hI
        have b0 := cell2_0 hI.box
        have b1 := cell2_1 hI.box
        have r0 := cell2_0 hI.res
        have r1 := cell2_1 hI.res
        have f0 := cell3_f hI.res 0
        have f1 := cell3_f hI.res 1
        have hbr := hI.below
        have hsz := hI.size
        clear hI
        by_cases hlt : j < t.args.length
        · obtain ⟨b, o, rfl, hSb, hcells⟩ := HA.out (by omega)
          obtain ⟨B1, k1, h0, h1, h2, hbl⟩ := arg_cells hcells hlt
          have g0 := (hbr.cell (p := ⟨b, o + j * 2, none⟩) hbl).trans h0
          have g1 := (hbr.cell (p := ⟨b, o + j * 2 + 1, none⟩) hbl).trans h1
          obtain ⟨q', hq'⟩ := HALL.out _ (List.getElem_mem hlt)
          have hat : t.args[j]? = some t.args[j] := List.getElem?_eq_getElem hlt
          generalize t.args[j] = a at *
          have HAT := Lib.hid hat
          have H2 := Lib.hid (h2.below hbr)
          have HQ := Lib.hid hq'
          clear h0 h1 h2 hat hq' hcells
          go_wp2_with (fail)
          have hba := (Below.refl wr.heap.size wr).alloc (Nat.le_refl _) (.cells #[.int .i64 a.kind, .slice B1 a.args.length k1] 24)
          refine (HIH.out d S _ a q' _ HQ.out (H2.out.below hba)).mono ?_
          rintro e w3 ⟨⟨v3, rfl, hT3⟩, hb3⟩
          obtain ⟨A3, c3, rfl⟩ := hT3.form
          have hrow := frInv_row HI.out (hba.trans (hb3.mono hba.size)) hlt
          obtain ⟨⟨z0, p0⟩, ⟨z1, p1⟩, p2, p3⟩ := hrow
          go_wp2_with (fail)
          go_roundw
          case rel => exact ⟨j + 1, _, by go_num, by omega, frInv_next HI.out (hba.trans (hb3.mono hba.size)) hba.size hlt HAT.out hT3⟩
          case measure => simp [intOf]; omega
        · obtain rfl : j = t.args.length := by omega
          go_wp2_with (fail)
          refine bodyPost_ret (v := .agg #[.int .i64 t.kind, .slice (some ⟨w.heap.size + 2, 0, none⟩) t.args.length t.args.length]) (by simp [results, Tryd.results32, go_sem, r0, r1]) rfl ?_
          have hO := HI.out
          refine ⟨⟨_, rfl, ?_, _, _, cs, rfl, ?_⟩, (hbr.setCell (p := ⟨w.heap.size + 1, 0, none⟩) (by show _ ≤ w.heap.size + 1; omega) _).setCell (p := ⟨w.heap.size + 1, 1, none⟩) (by show _ ≤ w.heap.size + 1; omega) _⟩
          · have := ty_made (wF := (wr.setCell ⟨w.heap.size + 1, 0, none⟩ (.int .i64 t.kind)).setCell ⟨w.heap.size + 1, 1, none⟩ (.slice (some ⟨w.heap.size + 2, 0, none⟩) t.args.length t.args.length)) (lo := w.heap.size) (kd := t.kind) (acc := t.args) hO.own rfl (fun i a ha => hO.args i a (List.getElem?_eq_some_iff.1 ha).1 ha) (fun b hb => hb.1) (by omega) (fun b hb hl => by
              rw [Below.heap_setCell _ _ _ _ (by show b ≠ w.heap.size + 1; omega), Below.heap_setCell _ _ _ _ (by show b ≠ w.heap.size + 1; omega)])
            exact (show Ty.mk t.kind t.args = t by cases t; rfl) ▸ this
          · exact Joins.ownsRow_le (ownsRow_setCell_other (ownsRow_setCell_other hO.own (by simp [Value.ownBlock]) _) (by simp [Value.ownBlock]) _) (by omega)

/-- What Make answers with. -/
def MkOut2 (w w' : World) (e : Ending) (t : Ty) : Option Nat → Prop
  | none => e = .returned (.tuple #[.agg #[.int .i64 0, .slice none 0 0], .int .i64 20])
  | some _ => ∃ v, e = .returned (.tuple #[v, .int .i64 0]) ∧ TyAt w' (fun b => w.heap.size ≤ b) 6 v t ∧ Own2 w w' v t

set_option maxRecDepth 100000 in
set_option maxHeartbeats 1000000 in
theorem make2_any (d : Nat) (S : Nat → Prop) (k : Int) (A : Option Addr) (c : Nat) (l : List Ty) (w : World) (hA : ArgsAt w S d A l) (hc : l.length ≤ c) (hG : Glob w) :
    Calls Tryd.prog 15 #[.int .i64 k, .slice A l.length c] w fun e w' => MkOut2 w w' e (.mk k l) (measureT 6 (.mk k l)) ∧ Below w.heap.size w w' := by
  have hGl := hG.lt
  have hT : TyAt w S (d + 1) (.agg #[.int .i64 k, .slice A l.length c]) (.mk k l) := ⟨A, c, rfl, hc, hA⟩
  have HT := Lib.hid hT
  have hb2 := ((Below.refl w.heap.size w).alloc (Nat.le_refl _) (.cells #[.int .i64 0, .slice none 0 0] 24)).alloc (by simp) (.cells #[.int .i64 k, .slice A l.length c] 24)
  have hx0 := (Below.heap_alloc (w.alloc (.cells #[.int .i64 0, .slice none 0 0] 24)) (.cells #[.int .i64 k, .slice A l.length c] 24) w.heap.size (by simp)).trans (heap_alloc_new w _)
  have hx1 : ((w.alloc (.cells #[.int .i64 0, .slice none 0 0] 24)).alloc (.cells #[.int .i64 k, .slice A l.length c] 24)).heap[w.heap.size + 1]? = some (.cells #[.int .i64 k, .slice A l.length c] 24 (0, 0)) := by simpa using heap_alloc_new (w.alloc (.cells #[.int .i64 0, .slice none 0 0] 24)) (.cells #[.int .i64 k, .slice A l.length c] 24)
  clear hT
  go_enter Tryd.func15, Tryd.ntmps15
  go_wp2_with (fail)
  refine (check_any (d + 1) _ _ (.mk k l) _ (HT.out.below hb2) (hG.kept (hb2.block 0 hGl))).mono ?_
  rintro e w1 ⟨he, hb1⟩
  have hb3 := hb2.trans (hb1.mono (by simp; omega))
  have hs1 := hb1.size
  simp only [World.size_alloc] at hs1
  have hy1 := (hb1.block (w.heap.size + 1) (by simp)).trans hx1
  have hy0 := (hb1.block w.heap.size (by simp; omega)).trans hx0
  have c0 := cell2_0 hy0
  have c1 := cell2_1 hy0
  have f0 := cell3_f hy0 0
  have f1 := cell3_f hy0 1
  have d0 := cell2_0 hy1
  have d1 := cell2_1 hy1
  have hl1 := cell_lt hy1
  clear hx0 hx1
  cases hm : measureT 6 (.mk k l) with
  | none =>
    rw [hm] at he
    obtain rfl : e = .returned (.int .i64 20) := he
    have HM := Lib.hid hm
    clear hm
    go_wp2_with (fail)
    refine bodyPost_ret (v := .tuple #[.agg #[.int .i64 0, .slice none 0 0], .int .i64 20]) (by simp [results, Tryd.results15, go_sem, c0, c1]) rfl ?_
    rw [HM.out]
    exact ⟨rfl, (hb3.setCell (p := ⟨w.heap.size, 0, none⟩) (Nat.le_refl _) _).setCell (p := ⟨w.heap.size, 1, none⟩) (Nat.le_refl _) _⟩
  | some q =>
    rw [hm] at he
    obtain rfl : e = .returned (.int .i64 0) := he
    have HM := Lib.hid hm
    clear hm
    go_wp2_with (fail)
    refine (fresh2_any 6 (d + 1) S _ (.mk k l) q _ HM.out ((HT.out.below hb2).below hb1)).mono ?_
    rintro e w2 ⟨⟨v2, rfl, hT2, A2, c2, cs2, rfl, hown2⟩, hb4⟩
    have HT2 := Lib.hid hT2
    have HOWN := Lib.hid hown2
    have hy2 := (hb4.block w.heap.size (by omega)).trans hy0
    clear c0 c1 f0 f1 hT2 hown2
    have c0 := cell2_0 hy2
    have c1 := cell2_1 hy2
    have f0 := cell3_f hy2 0
    have f1 := cell3_f hy2 1
    go_wp2_with (fail)
    refine bodyPost_ret (v := .tuple #[.agg #[.int .i64 (Ty.mk k l).kind, .slice A2 (Ty.mk k l).args.length c2], .int .i64 0]) (by simp [results, Tryd.results15, go_sem, c0, c1]) rfl ?_
    rw [HM.out]
    refine ⟨⟨_, rfl, HT2.out.move fun b hb _ => ⟨by omega, fun _ => World.cell?_of_block (by rw [Below.heap_setCell _ _ _ _ (by show b ≠ w.heap.size; omega), Below.heap_setCell _ _ _ _ (by show b ≠ w.heap.size; omega)])⟩, _, _, cs2, rfl, ?_⟩, ?_⟩
    · exact Joins.ownsRow_le (ownsRow_setCell_below (ownsRow_setCell_below HOWN.out (by show w.heap.size < _; omega) _) (by show w.heap.size < _; omega) _) (by omega)
    · exact ((hb3.trans (hb4.mono (by omega))).setCell (p := ⟨w.heap.size, 0, none⟩) (Nat.le_refl _) _).setCell (p := ⟨w.heap.size, 1, none⟩) (Nat.le_refl _) _
end Go.Proofs.YtdoadedglpjldaaDoor
