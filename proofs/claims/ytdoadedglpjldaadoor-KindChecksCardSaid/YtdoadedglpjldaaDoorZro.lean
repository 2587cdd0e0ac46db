/-
The least value of a type: zero of package kind, and Zero of the document's answer.
-/
import Derived.Test.YtdoadedglpjldaaDoorVal
namespace Go.Proofs.YtdoadedglpjldaaDoor
open Go.RowKit

/-- What zero answers with. -/
def ZOut (w w' : World) (r : Nat) (t : Ty) (e : Ending) : Prop := ∃ v', e = .returned v' ∧ VAt w' (fun b => w.heap.size ≤ b) r v' (zeroV r t)

def ZrOk (r d : Nat) : Prop := ∀ (q : Nat) (S : Nat → Prop) (v : Value) (t : Ty) (w : World), measureT r t = some q → TyAt w S d v t →
    Calls Tryd.prog 31 #[v] w fun e w' => ZOut w w' r t e ∧ Below w.heap.size w w'

set_option maxRecDepth 100000 in
set_option maxHeartbeats 1000000 in
theorem zero_pair (r d q0 q1 : Nat) (S : Nat → Prop) (a0 a1 : Ty) (b o c k0 k1 : Nat) (A0 A1 : Option Addr) (w : World) (hIH : ZrOk r d) (hq0 : measureT r a0 = some q0) (hq1 : measureT r a1 = some q1) (_hc : 2 ≤ c) (hbl : b < w.heap.size)
    (g0 : w.cell? ⟨b, o, none⟩ = some (.int .i64 a0.kind)) (g1 : w.cell? ⟨b, o + 1, none⟩ = some (.slice A0 a0.args.length k0)) (g2 : w.cell? ⟨b, o + 2, none⟩ = some (.int .i64 a1.kind)) (g3 : w.cell? ⟨b, o + 3, none⟩ = some (.slice A1 a1.args.length k1))
    (T0 : TyAt w S d (.agg #[.int .i64 a0.kind, .slice A0 a0.args.length k0]) a0) (T1 : TyAt w S d (.agg #[.int .i64 a1.kind, .slice A1 a1.args.length k1]) a1) :
    Calls Tryd.prog 31 #[.agg #[.int .i64 6, .slice (some ⟨b, o, none⟩) 2 c]] w fun e w' => ZOut w w' (r + 1) (.mk 6 [a0, a1]) e ∧ Below w.heap.size w w' := by
  have HIH := Lib.hid hIH
  have hb2 := ((Below.refl w.heap.size w).alloc (Nat.le_refl _) (.cells #[.int .i64 6, .slice (some ⟨b, o, none⟩) 2 c] 24)).alloc (by simp) (.cells #[.int .i64 0, .int .i64 0, .string ⟨#[]⟩, .complex .f64 0 0, .slice none 0 0] 40)
  have hx0 := (Below.heap_alloc (w.alloc (.cells #[.int .i64 6, .slice (some ⟨b, o, none⟩) 2 c] 24)) (.cells #[.int .i64 0, .int .i64 0, .string ⟨#[]⟩, .complex .f64 0 0, .slice none 0 0] 40) w.heap.size (by simp)).trans (heap_alloc_new w _)
  have hx1 : ((w.alloc (.cells #[.int .i64 6, .slice (some ⟨b, o, none⟩) 2 c] 24)).alloc (.cells #[.int .i64 0, .int .i64 0, .string ⟨#[]⟩, .complex .f64 0 0, .slice none 0 0] 40)).heap[w.heap.size + 1]? = some (.cells #[.int .i64 0, .int .i64 0, .string ⟨#[]⟩, .complex .f64 0 0, .slice none 0 0] 40 (0, 0)) := by simpa using heap_alloc_new (w.alloc (.cells #[.int .i64 6, .slice (some ⟨b, o, none⟩) 2 c] 24)) (.cells #[.int .i64 0, .int .i64 0, .string ⟨#[]⟩, .complex .f64 0 0, .slice none 0 0] 40)
  have HT0 := Lib.hid (T0.below hb2)
  have HT1 := Lib.hid (T1.below hb2)
  have HQ0 := Lib.hid hq0
  have HQ1 := Lib.hid hq1
  clear T0 T1 hq0 hq1 hIH
  go_enter Tryd.func31, Tryd.ntmps31
  go_wp2_with (fail)
  obtain ⟨w0, hw0⟩ : ∃ w0, w0 = (w.alloc (.cells #[.int .i64 6, .slice (some ⟨b, o, none⟩) 2 c] 24)).alloc (.cells #[.int .i64 0, .int .i64 0, .string ⟨#[]⟩, .complex .f64 0 0, .slice none 0 0] 40) := ⟨_, rfl⟩
  have hsz : w.heap.size + 2 ≤ w0.heap.size := by rw [hw0]; simp
  rw [← hw0] at HT0 HT1 hb2 hx0 hx1
  rw [← hw0]
  have hbw : b < w0.heap.size := by omega
  have e0 := (hb2.cell (p := ⟨b, o, none⟩) hbl).trans g0
  have e1 := (hb2.cell (p := ⟨b, o + 1, none⟩) hbl).trans g1
  have e2 := (hb2.cell (p := ⟨b, o + 2, none⟩) hbl).trans g2
  have e3 := (hb2.cell (p := ⟨b, o + 3, none⟩) hbl).trans g3
  have e5 := cell2_1 hx0
  have E0 := Lib.hid e0
  have E1 := Lib.hid e1
  have E2 := Lib.hid e2
  have E3 := Lib.hid e3
  have E5 := Lib.hid e5
  have hz0 : w.heap.size < w0.heap.size := by omega
  have hR0 : Below w.heap.size w w0 := hb2
  have HX0 := Lib.hid hx0
  have HX1 := Lib.hid hx1
  clear g0 g1 g2 g3 hw0 hx0 hx1
  go_region_held3 (fun w' => w'.cell? ⟨w.heap.size, 1, none⟩ = some (.slice (some ⟨b, o, none⟩) 2 c) ∧ w'.cell? ⟨b, o, none⟩ = some (.int .i64 a0.kind) ∧ w'.cell? ⟨b, o + 1, none⟩ = some (.slice A0 a0.args.length k0) ∧ w'.cell? ⟨b, o + 2, none⟩ = some (.int .i64 a1.kind) ∧ w'.cell? ⟨b, o + 3, none⟩ = some (.slice A1 a1.args.length k1) ∧ Below w.heap.size w w')
    ((refine ⟨?_, ?_, ?_, ?_, ?_, ?_⟩ <;> (repeat' (first | with_reducible assumption | with_reducible refine cell_drew_some ?_ | with_reducible refine cell_alloc_some ?_ | with_reducible refine cell_set_some ?_ ?_ | with_reducible refine Below.drew ?_ | with_reducible refine Below.alloc_own ?_ | with_reducible refine Below.set_own ?_ ?_ | (dsimp only; omega)))))
    (first
      | (go_at_call 31; refine (HIH.out _ _ _ a1 _ HQ1.out (HT1.out.below HB3)).mono ?_; rintro e w4 ⟨⟨v4, rfl, hv4⟩, hb4⟩; obtain ⟨A4, c4, rfl⟩ := hv4.form; have HV4 := Lib.hid hv4; have HB4 : Below w0.heap.size w0 w4 := HB3.trans (hb4.mono HB3.size); have KB4 : Below w.heap.size w w4 := hb2.trans (HB4.mono hb2.size); have x1 := (HB4.block (w.heap.size + 1) (by omega)).trans HX1.out; have y0 := cell5_0 x1; have z0 := cell3_f x1 0; have y1 := cell5_1 x1; have z1 := cell3_f x1 1; have y2 := cell5_2 x1; have z2 := cell3_f x1 2; have y3 := cell5_3 x1; have z3 := cell3_f x1 3; have y4 := cell5_4 x1; have z4 := cell3_f x1 4; have hl4 := cell_lt x1; clear x1; clear hv4; have f0 := (HB4.cell (p := ⟨b, o, none⟩) hbw).trans E0.out; have f1 := (HB4.cell (p := ⟨b, o + 1, none⟩) hbw).trans E1.out; have f2 := (HB4.cell (p := ⟨b, o + 2, none⟩) hbw).trans E2.out; have f3 := (HB4.cell (p := ⟨b, o + 3, none⟩) hbw).trans E3.out; have f5 := (HB4.cell (p := ⟨w.heap.size, 1, none⟩) hz0).trans E5.out)
      | (go_at_call 31; refine (HIH.out _ _ _ a0 w0.drew HQ0.out (HT0.out.below (Below.refl _ _).drew)).mono ?_; rintro e w3 ⟨⟨v3, rfl, hv3⟩, hb3⟩; obtain ⟨A3, c3, rfl⟩ := hv3.form; have HV3 := Lib.hid hv3; have HB3 : Below w0.heap.size w0 w3 := (Below.refl _ w0).drew.trans hb3; have KB3 : Below w.heap.size w w3 := hb2.trans (HB3.mono hb2.size); clear hv3; have f0 := (HB3.cell (p := ⟨b, o, none⟩) hbw).trans E0.out; have f1 := (HB3.cell (p := ⟨b, o + 1, none⟩) hbw).trans E1.out; have f2 := (HB3.cell (p := ⟨b, o + 2, none⟩) hbw).trans E2.out; have f3 := (HB3.cell (p := ⟨b, o + 3, none⟩) hbw).trans E3.out; have f5 := (HB3.cell (p := ⟨w.heap.size, 1, none⟩) hz0).trans E5.out))
  go_wp2_with (fail)
  refine bodyPost_ret (v := .agg #[.int .i64 6, .int .i64 0, .string ⟨#[]⟩, .complex .f64 0 0, .slice (some ⟨w4.heap.size, 0, none⟩) 2 2]) (by simp [results, Tryd.results31, go_sem, y0, y1, y2, y3, y4, hl4]) rfl ?_
  have hs3 := HB3.size
  have hs4 := hb4.size
  have hkk : ∀ (ob : Obj) (b : Nat), w0.heap.size ≤ b → b < w4.heap.size → (put5v w4 (w.heap.size + 1) (.int .i64 6) (.slice (some ⟨w4.heap.size, 0, none⟩) 2 2) ob).heap[b]? = w4.heap[b]? := fun ob b h1 h2 => put5v_block h2 (by omega)
  refine ⟨⟨_, rfl, ?_⟩, ?_⟩
  · rw [show zeroV (r + 1) (.mk 6 [a0, a1]) = .mk 6 0 ⟨#[]⟩ 0 0 [zeroV r a0, zeroV r a1] from rfl]
    refine vat_two (put5v_new _ _ _ _ _ _) (by show w.heap.size ≤ w4.heap.size; omega) ?_ ?_
    · exact (HV3.out.below hb4).move fun b h1 h2 => ⟨by have h1' : w0.heap.size ≤ b := h1; omega, fun _ => World.cell?_of_block (hkk _ b h1 h2)⟩
    · exact HV4.out.move fun b h1 h2 => ⟨by have h1' : w3.heap.size ≤ b := h1; omega, fun _ => World.cell?_of_block (hkk _ b (by have h1' : w3.heap.size ≤ b := h1; omega) h2)⟩
  · exact put5v_below KB4 (by omega)

set_option maxRecDepth 100000 in
set_option maxHeartbeats 1000000 in
theorem zero_any : ∀ (r d : Nat), ZrOk r d
  | r, 0 => fun q S v t w _ hT => hT.elim
  | 0, d + 1 => fun q S v t w hm hT => by simp [measureT] at hm
  | r + 1, d + 1 => fun q S v t w hm hT => by
    obtain ⟨x, hw, hxa, hxw, hall⟩ := measure_right hm
    obtain ⟨_, hxk⟩ := wordK_mem hw
    have IH := zero_any r d
    obtain ⟨A, c, rfl, hlc, hA⟩ := hT
    by_cases h6 : t.kind = 6
    · have h2 : t.args.length = 2 := by have := pair_two x hxw (by omega); omega
      obtain ⟨a0, a1, hl⟩ := list_two h2
      obtain ⟨b, o, rfl, hSb, hcells⟩ := hA (by omega)
      obtain ⟨q0, hq0⟩ := hall a0 (by rw [hl]; simp)
      obtain ⟨q1, hq1⟩ := hall a1 (by rw [hl]; simp)
      obtain ⟨A0, k0, g0, g1, T0, hbl⟩ := arg_cells hcells (j := 0) (by omega)
      obtain ⟨A1, k1, g2, g3, T1, _⟩ := arg_cells hcells (j := 1) (by omega)
      simp only [hl, List.getElem_cons_zero, List.getElem_cons_succ, Nat.zero_mul, Nat.add_zero, Nat.one_mul] at g0 g1 g2 g3 T0 T1
      have ht : t = .mk 6 [a0, a1] := by cases t with | mk k l => (have e1 : k = 6 := h6; have e2 : l = [a0, a1] := hl; rw [e1, e2])
      rw [h6, h2, ht]
      exact zero_pair r d q0 q1 S a0 a1 b o c k0 k1 A0 A1 w IH hq0 hq1 (by omega) hbl g0 g1 g2 g3 T0 T1
    · clear IH hall hm
      by_cases h9 : t.kind = 9
      · have hb6 : (t.kind == 6) = false := by simp [h6]
        have hb9 : (t.kind == 9) = true := by simp [h9]
        have HZ : Hid (zeroV (r + 1) t = .mk 8 0 ⟨#[]⟩ 0 0 []) := by show _ = _; simp only [zeroV, if_neg h6, if_pos h9]
        clear h6 h9 hw hxa hxk hA
        go_enter Tryd.func31, Tryd.ntmps31
        go_wp2_with (fail)
        refine bodyPost_ret (v := .agg #[.int .i64 8, .int .i64 0, .string ⟨#[]⟩, .complex .f64 0 0, .slice none 0 0]) (by simp [results, Tryd.results31, go_sem]) rfl ?_
        refine ⟨⟨_, rfl, ?_⟩, ?_⟩
        · rw [HZ.out]; exact VAt.leaf 8
        · exact ((Below.refl _ w).alloc (Nat.le_refl _) _).alloc (by simp) _
      · have hb6 : (t.kind == 6) = false := by simp [h6]
        have hb9 : (t.kind == 9) = false := by simp [h9]
        have HZ : Hid (zeroV (r + 1) t = .mk t.kind 0 ⟨#[]⟩ 0 0 []) := by show _ = _; simp only [zeroV, if_neg h6, if_neg h9]
        clear h6 h9 hw hxa hxk hA
        go_enter Tryd.func31, Tryd.ntmps31
        go_wp2_with (fail)
        refine bodyPost_ret (v := .agg #[.int .i64 t.kind, .int .i64 0, .string ⟨#[]⟩, .complex .f64 0 0, .slice none 0 0]) (by simp [results, Tryd.results31, go_sem]) rfl ?_
        refine ⟨⟨_, rfl, ?_⟩, ?_⟩
        · rw [HZ.out]; exact VAt.leaf _
        · exact ((Below.refl _ w).alloc (Nat.le_refl _) _).alloc (by simp) _

def RzOk (r d : Nat) : Prop := ∀ (q : Nat) (S : Nat → Prop) (v : Value) (t : Ty) (w : World), measureT r t = some q → TyAt w S d v t →
    Calls Tryd.prog 22 #[v] w fun e w' => ZOut w w' r t e ∧ Below w.heap.size w w'

set_option maxRecDepth 100000 in
set_option maxHeartbeats 1000000 in
theorem rzero_pair (r d q0 q1 : Nat) (S : Nat → Prop) (a0 a1 : Ty) (b o c k0 k1 : Nat) (A0 A1 : Option Addr) (w : World) (hIH : RzOk r d) (hq0 : measureT r a0 = some q0) (hq1 : measureT r a1 = some q1) (_hc : 2 ≤ c) (hbl : b < w.heap.size)
    (g0 : w.cell? ⟨b, o, none⟩ = some (.int .i64 a0.kind)) (g1 : w.cell? ⟨b, o + 1, none⟩ = some (.slice A0 a0.args.length k0)) (g2 : w.cell? ⟨b, o + 2, none⟩ = some (.int .i64 a1.kind)) (g3 : w.cell? ⟨b, o + 3, none⟩ = some (.slice A1 a1.args.length k1))
    (T0 : TyAt w S d (.agg #[.int .i64 a0.kind, .slice A0 a0.args.length k0]) a0) (T1 : TyAt w S d (.agg #[.int .i64 a1.kind, .slice A1 a1.args.length k1]) a1) :
    Calls Tryd.prog 22 #[.agg #[.int .i64 6, .slice (some ⟨b, o, none⟩) 2 c]] w fun e w' => ZOut w w' (r + 1) (.mk 6 [a0, a1]) e ∧ Below w.heap.size w w' := by
  have HIH := Lib.hid hIH
  have hb2 := ((Below.refl w.heap.size w).alloc (Nat.le_refl _) (.cells #[.int .i64 6, .slice (some ⟨b, o, none⟩) 2 c] 29)).alloc (by simp) (.cells #[.int .i64 0, .int .i64 0, .string ⟨#[]⟩, .complex .f64 0 0, .slice none 0 0] 40)
  have hx0 := (Below.heap_alloc (w.alloc (.cells #[.int .i64 6, .slice (some ⟨b, o, none⟩) 2 c] 29)) (.cells #[.int .i64 0, .int .i64 0, .string ⟨#[]⟩, .complex .f64 0 0, .slice none 0 0] 40) w.heap.size (by simp)).trans (heap_alloc_new w _)
  have hx1 : ((w.alloc (.cells #[.int .i64 6, .slice (some ⟨b, o, none⟩) 2 c] 29)).alloc (.cells #[.int .i64 0, .int .i64 0, .string ⟨#[]⟩, .complex .f64 0 0, .slice none 0 0] 40)).heap[w.heap.size + 1]? = some (.cells #[.int .i64 0, .int .i64 0, .string ⟨#[]⟩, .complex .f64 0 0, .slice none 0 0] 40 (0, 0)) := by simpa using heap_alloc_new (w.alloc (.cells #[.int .i64 6, .slice (some ⟨b, o, none⟩) 2 c] 29)) (.cells #[.int .i64 0, .int .i64 0, .string ⟨#[]⟩, .complex .f64 0 0, .slice none 0 0] 40)
  have HT0 := Lib.hid (T0.below hb2)
  have HT1 := Lib.hid (T1.below hb2)
  have HQ0 := Lib.hid hq0
  have HQ1 := Lib.hid hq1
  clear T0 T1 hq0 hq1 hIH
  go_enter Tryd.func22, Tryd.ntmps22
  go_wp2_with (fail)
  obtain ⟨w0, hw0⟩ : ∃ w0, w0 = (w.alloc (.cells #[.int .i64 6, .slice (some ⟨b, o, none⟩) 2 c] 29)).alloc (.cells #[.int .i64 0, .int .i64 0, .string ⟨#[]⟩, .complex .f64 0 0, .slice none 0 0] 40) := ⟨_, rfl⟩
  have hsz : w.heap.size + 2 ≤ w0.heap.size := by rw [hw0]; simp
  rw [← hw0] at HT0 HT1 hb2 hx0 hx1
  rw [← hw0]
  have hbw : b < w0.heap.size := by omega
  have e0 := (hb2.cell (p := ⟨b, o, none⟩) hbl).trans g0
  have e1 := (hb2.cell (p := ⟨b, o + 1, none⟩) hbl).trans g1
  have e2 := (hb2.cell (p := ⟨b, o + 2, none⟩) hbl).trans g2
  have e3 := (hb2.cell (p := ⟨b, o + 3, none⟩) hbl).trans g3
  have e5 := cell2_1 hx0
  have E0 := Lib.hid e0
  have E1 := Lib.hid e1
  have E2 := Lib.hid e2
  have E3 := Lib.hid e3
  have E5 := Lib.hid e5
  have hz0 : w.heap.size < w0.heap.size := by omega
  have hR0 : Below w.heap.size w w0 := hb2
  have HX0 := Lib.hid hx0
  have HX1 := Lib.hid hx1
  clear g0 g1 g2 g3 hw0 hx0 hx1
  go_region_held3 (fun w' => w'.cell? ⟨w.heap.size, 1, none⟩ = some (.slice (some ⟨b, o, none⟩) 2 c) ∧ w'.cell? ⟨b, o, none⟩ = some (.int .i64 a0.kind) ∧ w'.cell? ⟨b, o + 1, none⟩ = some (.slice A0 a0.args.length k0) ∧ w'.cell? ⟨b, o + 2, none⟩ = some (.int .i64 a1.kind) ∧ w'.cell? ⟨b, o + 3, none⟩ = some (.slice A1 a1.args.length k1) ∧ Below w.heap.size w w')
    ((refine ⟨?_, ?_, ?_, ?_, ?_, ?_⟩ <;> (repeat' (first | with_reducible assumption | with_reducible refine cell_drew_some ?_ | with_reducible refine cell_alloc_some ?_ | with_reducible refine cell_set_some ?_ ?_ | with_reducible refine Below.drew ?_ | with_reducible refine Below.alloc_own ?_ | with_reducible refine Below.set_own ?_ ?_ | (dsimp only; omega)))))
    (first
      | (go_at_call 22; refine (HIH.out _ _ _ a1 _ HQ1.out (HT1.out.below HB3)).mono ?_; rintro e w4 ⟨⟨v4, rfl, hv4⟩, hb4⟩; obtain ⟨A4, c4, rfl⟩ := hv4.form; have HV4 := Lib.hid hv4; have HB4 : Below w0.heap.size w0 w4 := HB3.trans (hb4.mono HB3.size); have KB4 : Below w.heap.size w w4 := hb2.trans (HB4.mono hb2.size); have x1 := (HB4.block (w.heap.size + 1) (by omega)).trans HX1.out; have y0 := cell5_0 x1; have z0 := cell3_f x1 0; have y1 := cell5_1 x1; have z1 := cell3_f x1 1; have y2 := cell5_2 x1; have z2 := cell3_f x1 2; have y3 := cell5_3 x1; have z3 := cell3_f x1 3; have y4 := cell5_4 x1; have z4 := cell3_f x1 4; have hl4 := cell_lt x1; clear x1; clear hv4; have f0 := (HB4.cell (p := ⟨b, o, none⟩) hbw).trans E0.out; have f1 := (HB4.cell (p := ⟨b, o + 1, none⟩) hbw).trans E1.out; have f2 := (HB4.cell (p := ⟨b, o + 2, none⟩) hbw).trans E2.out; have f3 := (HB4.cell (p := ⟨b, o + 3, none⟩) hbw).trans E3.out; have f5 := (HB4.cell (p := ⟨w.heap.size, 1, none⟩) hz0).trans E5.out)
      | (go_at_call 22; refine (HIH.out _ _ _ a0 w0.drew HQ0.out (HT0.out.below (Below.refl _ _).drew)).mono ?_; rintro e w3 ⟨⟨v3, rfl, hv3⟩, hb3⟩; obtain ⟨A3, c3, rfl⟩ := hv3.form; have HV3 := Lib.hid hv3; have HB3 : Below w0.heap.size w0 w3 := (Below.refl _ w0).drew.trans hb3; have KB3 : Below w.heap.size w w3 := hb2.trans (HB3.mono hb2.size); clear hv3; have f0 := (HB3.cell (p := ⟨b, o, none⟩) hbw).trans E0.out; have f1 := (HB3.cell (p := ⟨b, o + 1, none⟩) hbw).trans E1.out; have f2 := (HB3.cell (p := ⟨b, o + 2, none⟩) hbw).trans E2.out; have f3 := (HB3.cell (p := ⟨b, o + 3, none⟩) hbw).trans E3.out; have f5 := (HB3.cell (p := ⟨w.heap.size, 1, none⟩) hz0).trans E5.out))
  go_wp2_with (fail)
  refine bodyPost_ret (v := .agg #[.int .i64 6, .int .i64 0, .string ⟨#[]⟩, .complex .f64 0 0, .slice (some ⟨w4.heap.size, 0, none⟩) 2 2]) (by simp [results, Tryd.results22, go_sem, y0, y1, y2, y3, y4, hl4]) rfl ?_
  have hs3 := HB3.size
  have hs4 := hb4.size
  have hkk : ∀ (ob : Obj) (b : Nat), w0.heap.size ≤ b → b < w4.heap.size → (put5v w4 (w.heap.size + 1) (.int .i64 6) (.slice (some ⟨w4.heap.size, 0, none⟩) 2 2) ob).heap[b]? = w4.heap[b]? := fun ob b h1 h2 => put5v_block h2 (by omega)
  refine ⟨⟨_, rfl, ?_⟩, ?_⟩
  · rw [show zeroV (r + 1) (.mk 6 [a0, a1]) = .mk 6 0 ⟨#[]⟩ 0 0 [zeroV r a0, zeroV r a1] from rfl]
    refine vat_two (put5v_new _ _ _ _ _ _) (by show w.heap.size ≤ w4.heap.size; omega) ?_ ?_
    · exact (HV3.out.below hb4).move fun b h1 h2 => ⟨by have h1' : w0.heap.size ≤ b := h1; omega, fun _ => World.cell?_of_block (hkk _ b h1 h2)⟩
    · exact HV4.out.move fun b h1 h2 => ⟨by have h1' : w3.heap.size ≤ b := h1; omega, fun _ => World.cell?_of_block (hkk _ b (by have h1' : w3.heap.size ≤ b := h1; omega) h2)⟩
  · exact put5v_below KB4 (by omega)

set_option maxRecDepth 100000 in
set_option maxHeartbeats 1000000 in
theorem rzero_any : ∀ (r d : Nat), RzOk r d
  | r, 0 => fun q S v t w _ hT => hT.elim
  | 0, d + 1 => fun q S v t w hm hT => by simp [measureT] at hm
  | r + 1, d + 1 => fun q S v t w hm hT => by
    obtain ⟨x, hw, hxa, hxw, hall⟩ := measure_right hm
    obtain ⟨_, hxk⟩ := wordK_mem hw
    have IH := rzero_any r d
    obtain ⟨A, c, rfl, hlc, hA⟩ := hT
    by_cases h6 : t.kind = 6
    · have h2 : t.args.length = 2 := by have := pair_two x hxw (by omega); omega
      obtain ⟨a0, a1, hl⟩ := list_two h2
      obtain ⟨b, o, rfl, hSb, hcells⟩ := hA (by omega)
      obtain ⟨q0, hq0⟩ := hall a0 (by rw [hl]; simp)
      obtain ⟨q1, hq1⟩ := hall a1 (by rw [hl]; simp)
      obtain ⟨A0, k0, g0, g1, T0, hbl⟩ := arg_cells hcells (j := 0) (by omega)
      obtain ⟨A1, k1, g2, g3, T1, _⟩ := arg_cells hcells (j := 1) (by omega)
      simp only [hl, List.getElem_cons_zero, List.getElem_cons_succ, Nat.zero_mul, Nat.add_zero, Nat.one_mul] at g0 g1 g2 g3 T0 T1
      have ht : t = .mk 6 [a0, a1] := by cases t with | mk k l => (have e1 : k = 6 := h6; have e2 : l = [a0, a1] := hl; rw [e1, e2])
      rw [h6, h2, ht]
      exact rzero_pair r d q0 q1 S a0 a1 b o c k0 k1 A0 A1 w IH hq0 hq1 (by omega) hbl g0 g1 g2 g3 T0 T1
    · clear IH hall hm
      by_cases h9 : t.kind = 9
      · have hb6 : (t.kind == 6) = false := by simp [h6]
        have hb9 : (t.kind == 9) = true := by simp [h9]
        have HZ : Hid (zeroV (r + 1) t = .mk 8 0 ⟨#[]⟩ 0 0 []) := by show _ = _; simp only [zeroV, if_neg h6, if_pos h9]
        clear h6 h9 hw hxa hxk hA
        go_enter Tryd.func22, Tryd.ntmps22
        go_wp2_with (fail)
        refine bodyPost_ret (v := .agg #[.int .i64 8, .int .i64 0, .string ⟨#[]⟩, .complex .f64 0 0, .slice none 0 0]) (by simp [results, Tryd.results22, go_sem]) rfl ?_
        refine ⟨⟨_, rfl, ?_⟩, ?_⟩
        · rw [HZ.out]; exact VAt.leaf 8
        · exact ((Below.refl _ w).alloc (Nat.le_refl _) _).alloc (by simp) _
      · have hb6 : (t.kind == 6) = false := by simp [h6]
        have hb9 : (t.kind == 9) = false := by simp [h9]
        have HZ : Hid (zeroV (r + 1) t = .mk t.kind 0 ⟨#[]⟩ 0 0 []) := by show _ = _; simp only [zeroV, if_neg h6, if_neg h9]
        clear h6 h9 hw hxa hxk hA
        go_enter Tryd.func22, Tryd.ntmps22
        go_wp2_with (fail)
        refine bodyPost_ret (v := .agg #[.int .i64 t.kind, .int .i64 0, .string ⟨#[]⟩, .complex .f64 0 0, .slice none 0 0]) (by simp [results, Tryd.results22, go_sem]) rfl ?_
        refine ⟨⟨_, rfl, ?_⟩, ?_⟩
        · rw [HZ.out]; exact VAt.leaf _
        · exact ((Below.refl _ w).alloc (Nat.le_refl _) _).alloc (by simp) _
end Go.Proofs.YtdoadedglpjldaaDoor
