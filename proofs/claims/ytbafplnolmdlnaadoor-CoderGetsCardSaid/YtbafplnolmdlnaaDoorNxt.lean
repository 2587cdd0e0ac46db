/-
fault and Next of package coder.
-/
import Derived.Test.YtbafplnolmdlnaaDoorRvl
namespace Go.Proofs.YtbafplnolmdlnaaDoor
open Go.RowKit

theorem set5_block {w : World} {g b : Nat} {b0 b1 b2 b3 b4 : Value} (hne : b ≠ g) : (((((w.setCell ⟨g, 0, none⟩ b0).setCell ⟨g, 1, none⟩ b1).setCell ⟨g, 2, none⟩ b2).setCell ⟨g, 3, none⟩ b3).setCell ⟨g, 4, none⟩ b4).drew.heap[b]? = w.heap[b]? := by
  have hd : ∀ W : World, W.drew.heap = W.heap := fun _ => rfl
  rw [hd]
  rw [Below.heap_setCell _ _ _ _ hne, Below.heap_setCell _ _ _ _ hne, Below.heap_setCell _ _ _ _ hne, Below.heap_setCell _ _ _ _ hne, Below.heap_setCell _ _ _ _ hne]

/-- The error of a fault at m. -/
def errA (l : List UInt8) (m : Nat) : Int := if m = l.length then 30 else 31

set_option maxHeartbeats 400000 in
theorem fault_any (R : Nat) (A : Option Addr) (c : Nat) (l : List UInt8) (m sz : Nat) (w : World) (h : Rdr w R A c l m sz) :
    Calls Tryd.prog 20 #[.pointer (some ⟨R, 0, none⟩)] w fun e w' => e = .returned (.int .i64 (errA l m)) ∧ Below w.heap.size w w' := by
  have c0 := cell3_0 h.box
  have c1 := cell3_1 h.box
  by_cases hm : m = l.length
  · have hb : ((m : Int) == (l.length : Int)) = true := by simp [hm]
    have HF : Hid (errA l m = 30) := by show _ = _; simp [errA, hm]
    clear hm h
    go_enter Tryd.func20, Tryd.ntmps20
    go_wp2_with (fail)
    go_quiet ((fail))
    go_wp2_with (fail)
    go_ret
    rw [HF.out]
    exact ⟨rfl, below_drewN (Below.refl _ _) _⟩
  · have hb : ((m : Int) == (l.length : Int)) = false := beq_eq_false_iff_ne.2 (by omega)
    have HF : Hid (errA l m = 31) := by show _ = _; simp [errA, hm]
    clear hm h
    go_enter Tryd.func20, Tryd.ntmps20
    go_wp2_with (fail)
    go_quiet ((fail))
    go_wp2_with (fail)
    go_ret
    rw [HF.out]
    exact ⟨rfl, below_drewN (Below.refl _ _) _⟩

abbrev zeroA : Value := .agg #[.int .i64 0, .int .i64 0, .string ⟨#[]⟩, .complex .f64 0 0, .slice none 0 0]

/-- What Next answers with. -/
def NxOut (w : World) (l : List UInt8) (e : Ending) (w' : World) : Option (Nat × Option (Val × Nat)) → Prop
  | none => e = .returned (.tuple #[.agg #[.int .i64 0, .int .i64 0, .string ⟨#[]⟩, .complex .f64 0 0, .slice none 0 0], .int .i64 0, .int .i64 20])
  | some (m', none) => e = .returned (.tuple #[.agg #[.int .i64 0, .int .i64 0, .string ⟨#[]⟩, .complex .f64 0 0, .slice none 0 0], .int .i64 (m' : Int), .int .i64 (errA l m')]) ∧ m' ≤ l.length
  | some (m', some (V, _)) => (∃ v, VAt w' (fun b => w.heap.size ≤ b) 6 v V ∧ e = .returned (.tuple #[v, .int .i64 (m' : Int), .int .i64 0])) ∧ m' ≤ l.length

def nextR (t : Ty) (l : List UInt8) : Option (Nat × Option (Val × Nat)) := (measureT 6 t).map fun _ => getV 6 t l 0 (leastT 6 t)

set_option maxRecDepth 100000 in
set_option maxHeartbeats 2000000 in
theorem next_any (d : Nat) (S : Nat → Prop) (v : Value) (t : Ty) (A : Option Addr) (c : Nat) (l : List UInt8) (w : World) (hT : TyAt w S d v t) (hG : Glob w) (hB : BAt w (fun _ => True) A l) (hlen : l.length ≤ 1000000) :
    Calls Tryd.prog 9 #[v, .slice A l.length c] w fun e w' => NxOut w l e w' (nextR t l) ∧ Below w.heap.size w w' := by
  have hGl := hG.lt
  have hTw : TyAt w (fun b => b < w.heap.size) d v t := hT.move fun b _ hl => ⟨hl, fun _ => rfl⟩
  have HT := Lib.hid hTw
  have hBw : BAt w (fun b => b < w.heap.size) A l := hB.move fun b _ hl => ⟨hl, fun _ => rfl⟩
  have HB := Lib.hid hBw
  obtain ⟨A0, c0, rfl⟩ := hT.form
  have hb2 := ((Below.refl w.heap.size w).alloc (Nat.le_refl _) (.cells #[.int .i64 t.kind, .slice A0 t.args.length c0] 38)).alloc (by simp) (.cells #[.int .i64 0, .int .i64 0, .string ⟨#[]⟩, .complex .f64 0 0, .slice none 0 0] 32)
  have hx0 : ((w.alloc (.cells #[.int .i64 t.kind, .slice A0 t.args.length c0] 38)).alloc (.cells #[.int .i64 0, .int .i64 0, .string ⟨#[]⟩, .complex .f64 0 0, .slice none 0 0] 32)).heap[w.heap.size]? = some (.cells #[.int .i64 t.kind, .slice A0 t.args.length c0] 38 (0, 0)) := heap_alloc_some (heap_alloc_new w _)
  have hx1 : ((w.alloc (.cells #[.int .i64 t.kind, .slice A0 t.args.length c0] 38)).alloc (.cells #[.int .i64 0, .int .i64 0, .string ⟨#[]⟩, .complex .f64 0 0, .slice none 0 0] 32)).heap[w.heap.size + 1]? = some (.cells #[.int .i64 0, .int .i64 0, .string ⟨#[]⟩, .complex .f64 0 0, .slice none 0 0] 32 (0, 0)) := heap_new_at (by simp)
  have HX0 := Lib.hid hx0
  have HX1 := Lib.hid hx1
  clear hT hTw hB hBw hx0 hx1
  go_enter Tryd.func9, Tryd.ntmps9
  go_wp2_with (fail)
  obtain ⟨w0, hw0⟩ : ∃ w0, w0 = (w.alloc (.cells #[.int .i64 t.kind, .slice A0 t.args.length c0] 38)).alloc (.cells #[.int .i64 0, .int .i64 0, .string ⟨#[]⟩, .complex .f64 0 0, .slice none 0 0] 32) := ⟨_, rfl⟩
  have hsz0 : w0.heap.size = w.heap.size + 2 := by rw [hw0]; simp
  rw [← hw0] at hb2 HX0 HX1
  rw [← hw0]
  clear hw0
  have HT0 := Lib.hid (HT.out.below hb2)
  refine (check_any d _ _ t _ HT0.out (hG.kept (hb2.block 0 hGl))).mono ?_
  rintro e w1 ⟨he, hb1⟩
  have HB1 := hb2.trans (hb1.mono hb2.size)
  have hs1 := hb1.size
  have HT1 := Lib.hid (HT0.out.below hb1)
  have hy0 := (hb1.block w.heap.size (by omega)).trans HX0.out
  have hy1 := (hb1.block (w.heap.size + 1) (by omega)).trans HX1.out
  have HY0 := Lib.hid hy0
  have HY1 := Lib.hid hy1
  have c0' := cell2_0 hy0
  have c1' := cell2_1 hy0
  have d0 := cell5_0 hy1
  have d1 := cell5_1 hy1
  have d2 := cell5_2 hy1
  have d3 := cell5_3 hy1
  have d4 := cell5_4 hy1
  have f0 := cell3_f hy1 0
  have f1 := cell3_f hy1 1
  have f2 := cell3_f hy1 2
  have f3 := cell3_f hy1 3
  have f4 := cell3_f hy1 4
  have hl1 := cell_lt hy1
  have hl0 := cell_lt hy0
  clear hy0 hy1
  cases hm : measureT 6 t with
  | none =>
    rw [hm] at he
    obtain rfl : e = .returned (.int .i64 20) := he
    have HF : Hid (nextR t l = none) := by show _ = _; simp only [nextR, hm, Option.map_none]
    clear hm
    go_wp2_with (fail)
    refine bodyPost_ret (v := .tuple #[.agg #[.int .i64 0, .int .i64 0, .string ⟨#[]⟩, .complex .f64 0 0, .slice none 0 0], .int .i64 0, .int .i64 20]) (by simp [results, Tryd.results9, go_sem, d0, d1, d2, d3, d4]) rfl ?_
    rw [HF.out]
    exact ⟨rfl, ((((HB1.setCell (p := ⟨w.heap.size + 1, 0, none⟩) (Nat.le_succ _) _).setCell (p := ⟨w.heap.size + 1, 1, none⟩) (Nat.le_succ _) _).setCell (p := ⟨w.heap.size + 1, 2, none⟩) (Nat.le_succ _) _).setCell (p := ⟨w.heap.size + 1, 3, none⟩) (Nat.le_succ _) _).setCell (p := ⟨w.heap.size + 1, 4, none⟩) (Nat.le_succ _) _⟩
  | some q =>
    rw [hm] at he
    obtain rfl : e = .returned (.int .i64 0) := he
    have HNX : Hid (nextR t l = some (getV 6 t l 0 (leastT 6 t))) := by show _ = _; simp only [nextR, hm, Option.map_some]
    have hL := leastT_le 6 t q hm
    have h64 : (2 : Nat) ^ 6 = 64 := by decide
    have HM := Lib.hid hm
    clear hm
    go_wp2_with (fail)
    refine (least_any 6 d q _ _ t w1 (Nat.le_refl _) HM.out HT1.out).mono ?_
    rintro e w2 ⟨rfl, hb2'⟩
    have HB2 := HB1.trans (hb2'.mono HB1.size)
    have hs2 := hb2'.size
    have HT2 := Lib.hid (HT1.out.below hb2')
    have HZ0 := Lib.hid ((hb2'.block w.heap.size hl0).trans HY0.out)
    have HZ1 := Lib.hid ((hb2'.block (w.heap.size + 1) hl1).trans HY1.out)
    clear c0' c1' d0 d1 d2 d3 d4 f0 f1 f2 f3 f4
    have c0' := cell2_0 HZ0.out
    have c1' := cell2_1 HZ0.out
    have hlz0 := cell_lt HZ0.out
    go_wp2_with (fail)
    obtain ⟨W, hW⟩ : ∃ W, W = w2.alloc (.cells #[.slice A l.length c, .int .i64 0, .int .i64 (leastT 6 t : Nat)] 54) := ⟨_, rfl⟩
    have hRb : W.heap[w2.heap.size]? = some (.cells #[.slice A l.length c, .int .i64 ((0 : Nat) : Int), .int .i64 ((leastT 6 t : Nat) : Int)] 54 (0, 0)) := by rw [hW]; exact heap_alloc_new w2 _
    have hbW := (Below.refl w2.heap.size w2).alloc (Nat.le_refl _) (.cells #[.slice A l.length c, .int .i64 0, .int .i64 (leastT 6 t : Nat)] 54)
    have hszW : W.heap.size = w2.heap.size + 1 := by rw [hW]; simp
    rw [← hW] at hbW
    rw [← hW]
    clear hW
    have HBW := HB2.trans (hbW.mono HB2.size)
    have HTW := Lib.hid (HT2.out.below hbW)
    have HRd : Hid (Rdr W w2.heap.size A c l 0 (leastT 6 t)) := Lib.hid ⟨hRb, HB.out.move fun b hb hl => ⟨by omega, fun _ => HBW.cell (p := ⟨b, _, none⟩) hl⟩, Nat.zero_le _, hlen⟩
    clear hRb c0' c1'
    refine (val_any 6 d _ q w2.heap.size A c l 0 (leastT 6 t) _ t W (Nat.le_refl _) HM.out HTW.out (fun b hb => by omega) HRd.out (by omega)).mono ?_
    cases hg : getV 6 t l 0 (leastT 6 t) with
    | mk m' o =>
    cases o with
    | none =>
      have HF : Hid (nextR t l = some (m', none)) := by show _ = _; rw [HNX.out, hg]
      clear hg
      rintro e w3 ⟨⟨v, ⟨kk, ii, ss, xx, yy, AA, nn, cc, rfl⟩, rfl⟩, ho, sz', hr⟩
      have HR3 := Lib.hid hr
      have hs3 := ho.size
      have hle := hr.le
      have hyz := (ho.block (w.heap.size + 1) (by omega) (by simp; omega)).trans ((hbW.block (w.heap.size + 1) (by omega)).trans HZ1.out)
      have d0 := cell5_0 hyz
      have d1 := cell5_1 hyz
      have d2 := cell5_2 hyz
      have d3 := cell5_3 hyz
      have d4 := cell5_4 hyz
      have f0 := cell3_f hyz 0
      have f1 := cell3_f hyz 1
      have f2 := cell3_f hyz 2
      have f3 := cell3_f hyz 3
      have f4 := cell3_f hyz 4
      have hlz := cell_lt hyz
      have HYZ := Lib.hid hyz
      clear hr hyz
      go_wp2_with (fail)
      obtain ⟨W4, hW4⟩ : ∃ W4, W4 = (((((w3.setCell ⟨w.heap.size + 1, 0, none⟩ (.int .i64 kk)).setCell ⟨w.heap.size + 1, 1, none⟩ (.int .i64 ii)).setCell ⟨w.heap.size + 1, 2, none⟩ (.string ss)).setCell ⟨w.heap.size + 1, 3, none⟩ (.complex .f64 xx yy)).setCell ⟨w.heap.size + 1, 4, none⟩ (.slice AA nn cc)) := ⟨_, rfl⟩
      have hz4 := put5_heap (b0 := .int .i64 kk) (b1 := .int .i64 ii) (b2 := .string ss) (b3 := .complex .f64 xx yy) (b4 := .slice AA nn cc) HYZ.out
      have hr4 : W4.heap[w2.heap.size]? = w3.heap[w2.heap.size]? := by
        have hne : w2.heap.size ≠ w.heap.size + 1 := by omega
        rw [hW4]
        repeat rw [Below.heap_setCell _ _ _ _ hne]
      have ho4 : ∀ b, b ≠ w.heap.size + 1 → W4.heap[b]? = w3.heap[b]? := fun b hne => by
        rw [hW4]
        repeat rw [Below.heap_setCell _ _ _ _ hne]
      have hB4 : Below w.heap.size w W4 := by
        rw [hW4]
        exact Below.set_own (Nat.le_succ _) (Below.set_own (Nat.le_succ _) (Below.set_own (Nat.le_succ _) (Below.set_own (Nat.le_succ _) (Below.set_own (Nat.le_succ _) (HBW.trans (ho.below (by omega) (by omega)))))))
      have hs4 : W4.heap.size = w3.heap.size := by rw [hW4]; simp
      rw [← hW4] at hz4
      rw [← hW4]
      clear hW4 d0 d1 d2 d3 d4 f0 f1 f2 f3 f4
      have HZ4 := Lib.hid hz4
      have HR4 : Hid (Rdr W4 w2.heap.size A c l m' sz') := Lib.hid ⟨hr4.trans HR3.out.box, HB.out.move fun b hb hl => ⟨by omega, fun _ => hB4.cell (p := ⟨b, _, none⟩) hl⟩, hle, hlen⟩
      have r1 := cell3_1 HR4.out.box
      have hrl4 : w2.heap.size < W4.heap.size := by omega
      clear hz4 hr4
      go_region_held3 (fun w' => w'.cell? ⟨w2.heap.size, 1, none⟩ = some (.int .i64 (m' : Int)) ∧ Below w.heap.size w w')
        ((refine ⟨?_, ?_⟩ <;> (repeat' (first | with_reducible assumption | with_reducible refine cell_drew_some ?_ | with_reducible refine cell_set_some ?_ ?_ | with_reducible refine Below.drew ?_ | with_reducible refine Below.set_own ?_ ?_ | (dsimp only; omega)))))
        (first
          | (go_at_call 20; refine (fault_any w2.heap.size A c l m' sz' W4.drew (HR4.out.below (Below.refl _ _).drew)).mono ?_; rintro e w5 ⟨rfl, hb5⟩; have hb5' : Below W4.heap.size W4 w5 := (show Below W4.heap.size W4 W4.drew from (Below.refl _ W4).drew).trans hb5; have HB5 : Below w.heap.size w w5 := hB4.trans (hb5'.mono hB4.size); have hy5 := (hb5'.block (w.heap.size + 1) (by omega)).trans HZ4.out; have r15 := (hb5'.cell (p := ⟨w2.heap.size, 1, none⟩) hrl4).trans r1; have d0 := cell5_0 hy5; have d1 := cell5_1 hy5; have d2 := cell5_2 hy5; have d3 := cell5_3 hy5; have d4 := cell5_4 hy5; have f0 := cell3_f hy5 0; have f1 := cell3_f hy5 1; have f2 := cell3_f hy5 2; have f3 := cell3_f hy5 3; have f4 := cell3_f hy5 4; have hl5 := cell_lt hy5; clear hy5))
      go_wp2_with (fail)
      refine bodyPost_ret (v := .tuple #[.agg #[.int .i64 0, .int .i64 0, .string ⟨#[]⟩, .complex .f64 0 0, .slice none 0 0], .int .i64 (m' : Int), .int .i64 (errA l m')]) (by simp [results, Tryd.results9, go_sem, d0, d1, d2, d3, d4]) rfl ?_
      rw [HF.out]
      exact ⟨⟨rfl, hle⟩, Below.set_own (Nat.le_succ _) (Below.set_own (Nat.le_succ _) (Below.set_own (Nat.le_succ _) (Below.set_own (Nat.le_succ _) (Below.set_own (Nat.le_succ _) HB5))))⟩
    | some p =>
      obtain ⟨V0, sz1⟩ := p
      have HF : Hid (nextR t l = some (m', some (V0, sz1))) := by show _ = _; rw [HNX.out, hg]
      clear hg
      rintro e w3 ⟨⟨v, hv, rfl⟩, ho, hr, hsz1⟩
      obtain ⟨Av, cv, xv, yv, rfl, _, _⟩ := hv.form
      have HVB := Lib.hid hv
      have HR3 := Lib.hid hr
      have hs3 := ho.size
      have hle := hr.le
      have hyz := (ho.block (w.heap.size + 1) (by omega) (by simp; omega)).trans ((hbW.block (w.heap.size + 1) (by omega)).trans HZ1.out)
      have d0 := cell5_0 hyz
      have d1 := cell5_1 hyz
      have d2 := cell5_2 hyz
      have d3 := cell5_3 hyz
      have d4 := cell5_4 hyz
      have f0 := cell3_f hyz 0
      have f1 := cell3_f hyz 1
      have f2 := cell3_f hyz 2
      have f3 := cell3_f hyz 3
      have f4 := cell3_f hyz 4
      have hlz := cell_lt hyz
      have HYZ := Lib.hid hyz
      clear hr hyz hv
      go_wp2_with (fail)
      obtain ⟨W4, hW4⟩ : ∃ W4, W4 = (((((w3.setCell ⟨w.heap.size + 1, 0, none⟩ (.int .i64 V0.kind)).setCell ⟨w.heap.size + 1, 1, none⟩ (.int .i64 V0.int)).setCell ⟨w.heap.size + 1, 2, none⟩ (.string V0.text)).setCell ⟨w.heap.size + 1, 3, none⟩ (.complex .f64 xv yv)).setCell ⟨w.heap.size + 1, 4, none⟩ (.slice Av V0.list.length cv)) := ⟨_, rfl⟩
      have hz4 := put5_heap (b0 := .int .i64 V0.kind) (b1 := .int .i64 V0.int) (b2 := .string V0.text) (b3 := .complex .f64 xv yv) (b4 := .slice Av V0.list.length cv) HYZ.out
      have hr4 : W4.heap[w2.heap.size]? = w3.heap[w2.heap.size]? := by
        have hne : w2.heap.size ≠ w.heap.size + 1 := by omega
        rw [hW4]
        repeat rw [Below.heap_setCell _ _ _ _ hne]
      have ho4 : ∀ b, b ≠ w.heap.size + 1 → W4.heap[b]? = w3.heap[b]? := fun b hne => by
        rw [hW4]
        repeat rw [Below.heap_setCell _ _ _ _ hne]
      have hB4 : Below w.heap.size w W4 := by
        rw [hW4]
        exact Below.set_own (Nat.le_succ _) (Below.set_own (Nat.le_succ _) (Below.set_own (Nat.le_succ _) (Below.set_own (Nat.le_succ _) (Below.set_own (Nat.le_succ _) (HBW.trans (ho.below (by omega) (by omega)))))))
      have hs4 : W4.heap.size = w3.heap.size := by rw [hW4]; simp
      rw [← hW4] at hz4
      rw [← hW4]
      clear hW4 d0 d1 d2 d3 d4 f0 f1 f2 f3 f4
      have HZ4 := Lib.hid hz4
      have HR4 : Hid (Rdr W4 w2.heap.size A c l m' sz1) := Lib.hid ⟨hr4.trans HR3.out.box, HB.out.move fun b hb hl => ⟨by omega, fun _ => hB4.cell (p := ⟨b, _, none⟩) hl⟩, hle, hlen⟩
      have r1 := cell3_1 HR4.out.box
      have hrl4 : w2.heap.size < W4.heap.size := by omega
      clear hz4 hr4
      have hy5 := HZ4.out
      have d0 := cell5_0 hy5
      have d1 := cell5_1 hy5
      have d2 := cell5_2 hy5
      have d3 := cell5_3 hy5
      have d4 := cell5_4 hy5
      have f0 := cell3_f hy5 0
      have f1 := cell3_f hy5 1
      have f2 := cell3_f hy5 2
      have f3 := cell3_f hy5 3
      have f4 := cell3_f hy5 4
      have hl5 := cell_lt hy5
      clear hy5
      have HV4 := Lib.hid (HVB.out.move (w' := W4) (S' := fun b => w.heap.size + 2 ≤ b) fun b hb hl => ⟨by have hb' : W.heap.size ≤ b := hb; omega, fun o => World.cell?_of_block (ho4 b (by have hb' : W.heap.size ≤ b := hb; omega))⟩)
      go_region
      all_goals (go_wp2_with (fail))
      all_goals (refine bodyPost_ret (v := .tuple #[.agg #[.int .i64 V0.kind, .int .i64 V0.int, .string V0.text, .complex .f64 xv yv, .slice Av V0.list.length cv], .int .i64 (m' : Int), .int .i64 0]) (by simp [results, Tryd.results9, go_sem, d0, d1, d2, d3, d4]) rfl ?_)
      all_goals (rw [HF.out])
      all_goals (refine ⟨⟨⟨_, HV4.out.move fun b hb hl => ⟨by have hb' : w.heap.size + 2 ≤ b := hb; show w.heap.size ≤ b; omega, fun o => World.cell?_of_block ?_⟩, rfl⟩, hle⟩, ?_⟩)
      all_goals first
        | (show Below _ _ _; repeat' (first | with_reducible assumption | with_reducible refine Below.drew ?_ | with_reducible refine Below.set_own ?_ ?_ | (dsimp only; omega)))
        | (have hb' : w.heap.size + 2 ≤ b := hb
           have hne : b ≠ w.heap.size + 1 := by omega
           exact set5_block hne)
end Go.Proofs.YtbafplnolmdlnaaDoor
