/-
least of package coder.
-/
import Derived.Test.YtbafplnolmdlnaaDoorVal
import Derived.IntWalk
namespace Go.Proofs.YtbafplnolmdlnaaDoor
open Go.RowKit

theorem pair_two : ∀ x ∈ words, x.kind = 6 → x.args = 2 := by decide

/-- The least size of a value of a type. -/
def leastT : Nat → Ty → Nat
  | 0, _ => 1
  | r + 1, t => if t.kind = 6 then 1 + (t.args.map (leastT r)).sum else 1

theorem leastT_le : ∀ (r : Nat) (t : Ty) (q : Nat), measureT r t = some q → 1 ≤ leastT r t ∧ leastT r t ≤ 2 ^ r
  | 0, t, q, h => by simp [measureT] at h
  | r + 1, t, q, h => by
    obtain ⟨x, hw, hxa, hxw, hall⟩ := measure_right h
    obtain ⟨_, hxk⟩ := wordK_mem hw
    unfold leastT
    split
    · rename_i h6
      have h2 : t.args.length = 2 := by have := pair_two x hxw (by omega); omega
      obtain ⟨a0, a1, hl⟩ := list_two h2
      obtain ⟨q0, hq0⟩ := hall a0 (by rw [hl]; simp)
      obtain ⟨q1, hq1⟩ := hall a1 (by rw [hl]; simp)
      cases r with
      | zero => simp [measureT] at hq0
      | succ r =>
        have b0 := leastT_le (r + 1) a0 q0 hq0
        have b1 := leastT_le (r + 1) a1 q1 hq1
        have b2 := leastT_lt (r + 1) a0 q0 hq0
        rw [hl]
        simp only [List.map_cons, List.map_nil, List.sum_cons, List.sum_nil, Nat.pow_succ] at b0 b1 b2 ⊢
        omega
    · have : 1 ≤ 2 ^ (r + 1) := Nat.one_le_two_pow
      omega
where
  leastT_lt : ∀ (r : Nat) (t : Ty) (q : Nat), measureT r t = some q → leastT r t < 2 ^ r
  | 0, t, q, h => by simp [measureT] at h
  | r + 1, t, q, h => by
    obtain ⟨x, hw, hxa, hxw, hall⟩ := measure_right h
    obtain ⟨_, hxk⟩ := wordK_mem hw
    unfold leastT
    split
    · rename_i h6
      have h2 : t.args.length = 2 := by have := pair_two x hxw (by omega); omega
      obtain ⟨a0, a1, hl⟩ := list_two h2
      obtain ⟨q0, hq0⟩ := hall a0 (by rw [hl]; simp)
      obtain ⟨q1, hq1⟩ := hall a1 (by rw [hl]; simp)
      have b0 := leastT_lt r a0 q0 hq0
      have b1 := leastT_lt r a1 q1 hq1
      rw [hl]
      simp only [List.map_cons, List.map_nil, List.sum_cons, List.sum_nil, Nat.pow_succ]
      omega
    · have : 1 ≤ 2 ^ r := Nat.one_le_two_pow
      rw [Nat.pow_succ]
      omega

def LsOk (r d : Nat) : Prop := ∀ (q : Nat) (S : Nat → Prop) (v : Value) (t : Ty) (w : World), r ≤ 6 → measureT r t = some q → TyAt w S d v t →
    Calls Tryd.prog 18 #[v] w fun e w' => e = .returned (.int .i64 (leastT r t : Nat)) ∧ Below w.heap.size w w'

set_option maxRecDepth 100000 in
set_option maxHeartbeats 1000000 in
theorem least_pair (r d q0 q1 : Nat) (S : Nat → Prop) (a0 a1 : Ty) (b o c k0 k1 : Nat) (A0 A1 : Option Addr) (w : World) (hIH : LsOk r d) (hr6 : r ≤ 6) (hq0 : measureT r a0 = some q0) (hq1 : measureT r a1 = some q1) (_hc : 2 ≤ c) (hbl : b < w.heap.size)
    (g0 : w.cell? ⟨b, o, none⟩ = some (.int .i64 a0.kind)) (g1 : w.cell? ⟨b, o + 1, none⟩ = some (.slice A0 a0.args.length k0)) (g2 : w.cell? ⟨b, o + 2, none⟩ = some (.int .i64 a1.kind)) (g3 : w.cell? ⟨b, o + 3, none⟩ = some (.slice A1 a1.args.length k1))
    (T0 : TyAt w S d (.agg #[.int .i64 a0.kind, .slice A0 a0.args.length k0]) a0) (T1 : TyAt w S d (.agg #[.int .i64 a1.kind, .slice A1 a1.args.length k1]) a1) :
    Calls Tryd.prog 18 #[.agg #[.int .i64 6, .slice (some ⟨b, o, none⟩) 2 c]] w fun e w' => e = .returned (.int .i64 (leastT (r + 1) (.mk 6 [a0, a1]) : Nat)) ∧ Below w.heap.size w w' := by
  have HIH := Lib.hid hIH
  have hL0 := leastT_le r a0 q0 hq0
  have hL1 := leastT_le r a1 q1 hq1
  have h64 : 2 ^ r ≤ 64 := Nat.le_trans (Nat.pow_le_pow_right (by omega) hr6) (by decide)
  have HF : Hid (((leastT (r + 1) (.mk 6 [a0, a1]) : Nat) : Int) = 1 + (leastT r a0 : Int) + (leastT r a1 : Int)) := by
    show _ = _
    rw [show leastT (r + 1) (.mk 6 [a0, a1]) = 1 + (leastT r a0 + (leastT r a1 + 0)) from rfl]
    omega
  have hb2 := ((Below.refl w.heap.size w).alloc (Nat.le_refl _) (.cells #[.int .i64 6, .slice (some ⟨b, o, none⟩) 2 c] 38))
  have hx0 := heap_alloc_new w (.cells #[.int .i64 6, .slice (some ⟨b, o, none⟩) 2 c] 38)
  have HT0 := Lib.hid (T0.below hb2)
  have HT1 := Lib.hid (T1.below hb2)
  have HQ0 := Lib.hid hq0
  have HQ1 := Lib.hid hq1
  clear T0 T1 hq0 hq1 hIH
  go_enter Tryd.func18, Tryd.ntmps18
  go_wp2_with (fail)
  obtain ⟨w0, hw0⟩ : ∃ w0, w0 = (w.alloc (.cells #[.int .i64 6, .slice (some ⟨b, o, none⟩) 2 c] 38)) := ⟨_, rfl⟩
  have hsz : w.heap.size + 1 ≤ w0.heap.size := by rw [hw0]; simp
  rw [← hw0] at HT0 HT1 hb2 hx0
  rw [← hw0]
  have hbw : b < w0.heap.size := by omega
  have e0 := (hb2.cell (p := ⟨b, o, none⟩) hbl).trans g0
  have e1 := (hb2.cell (p := ⟨b, o + 1, none⟩) hbl).trans g1
  have e2 := (hb2.cell (p := ⟨b, o + 2, none⟩) hbl).trans g2
  have e3 := (hb2.cell (p := ⟨b, o + 3, none⟩) hbl).trans g3
  have e5 := cell2_1 hx0
  have E0 := Lib.hid e0
  have E1 := Lib.hid e1
  have E2 := Lib.hid e2
  have E3 := Lib.hid e3
  have E5 := Lib.hid e5
  have hz0 : w.heap.size < w0.heap.size := by omega
  have hR0 : Below w.heap.size w w0 := hb2
  have s1 : IntKind.i64.wrap (1 + (leastT r a0 : Int)) = 1 + (leastT r a0 : Int) := IntWalk.i64_in _ (by omega)
  have s2 : IntKind.i64.wrap (1 + (leastT r a0 : Int) + (leastT r a1 : Int)) = 1 + (leastT r a0 : Int) + (leastT r a1 : Int) := IntWalk.i64_in _ (by omega)
  clear g0 g1 g2 g3 hw0 hx0
  go_region_held3 (fun w' => w'.cell? ⟨w.heap.size, 1, none⟩ = some (.slice (some ⟨b, o, none⟩) 2 c) ∧ w'.cell? ⟨b, o, none⟩ = some (.int .i64 a0.kind) ∧ w'.cell? ⟨b, o + 1, none⟩ = some (.slice A0 a0.args.length k0) ∧ w'.cell? ⟨b, o + 2, none⟩ = some (.int .i64 a1.kind) ∧ w'.cell? ⟨b, o + 3, none⟩ = some (.slice A1 a1.args.length k1) ∧ Below w.heap.size w w')
    ((refine ⟨?_, ?_, ?_, ?_, ?_, ?_⟩ <;> (repeat' (first | with_reducible assumption | with_reducible refine cell_drew_some ?_ | with_reducible refine Below.drew ?_))))
    (first
      | (go_at_call 18; refine (HIH.out _ _ _ a1 _ hr6 HQ1.out (HT1.out.below HB3)).mono ?_; rintro e w4 ⟨rfl, hb4⟩; have HB4 : Below w0.heap.size w0 w4 := HB3.trans (hb4.mono HB3.size); have KB4 : Below w.heap.size w w4 := hb2.trans (HB4.mono hb2.size); have f0 := (HB4.cell (p := ⟨b, o, none⟩) hbw).trans E0.out; have f1 := (HB4.cell (p := ⟨b, o + 1, none⟩) hbw).trans E1.out; have f2 := (HB4.cell (p := ⟨b, o + 2, none⟩) hbw).trans E2.out; have f3 := (HB4.cell (p := ⟨b, o + 3, none⟩) hbw).trans E3.out; have f5 := (HB4.cell (p := ⟨w.heap.size, 1, none⟩) hz0).trans E5.out)
      | (go_at_call 18; refine (HIH.out _ _ _ a0 w0.drew hr6 HQ0.out (HT0.out.below (Below.refl _ _).drew)).mono ?_; rintro e w3 ⟨rfl, hb3⟩; have HB3 : Below w0.heap.size w0 w3 := (Below.refl _ w0).drew.trans hb3; have KB3 : Below w.heap.size w w3 := hb2.trans (HB3.mono hb2.size); have f0 := (HB3.cell (p := ⟨b, o, none⟩) hbw).trans E0.out; have f1 := (HB3.cell (p := ⟨b, o + 1, none⟩) hbw).trans E1.out; have f2 := (HB3.cell (p := ⟨b, o + 2, none⟩) hbw).trans E2.out; have f3 := (HB3.cell (p := ⟨b, o + 3, none⟩) hbw).trans E3.out; have f5 := (HB3.cell (p := ⟨w.heap.size, 1, none⟩) hz0).trans E5.out))
  go_wp2_with (fail)
  go_ret
  rw [HF.out]
  exact ⟨rfl, KB4⟩

set_option maxRecDepth 100000 in
set_option maxHeartbeats 1000000 in
theorem least_any : ∀ (r d : Nat), LsOk r d
  | r, 0 => fun q S v t w _ _ hT => hT.elim
  | 0, d + 1 => fun q S v t w _ hm hT => by simp [measureT] at hm
  | r + 1, d + 1 => fun q S v t w hr6 hm hT => by
    obtain ⟨x, hw, hxa, hxw, hall⟩ := measure_right hm
    obtain ⟨_, hxk⟩ := wordK_mem hw
    have IH := least_any r d
    obtain ⟨A, c, rfl, hlc, hA⟩ := hT
    by_cases h6 : t.kind = 6
    · have h2 : t.args.length = 2 := by have := pair_two x hxw (by omega); omega
      obtain ⟨a0, a1, hl⟩ := list_two h2
      obtain ⟨b, o, rfl, hSb, hcells⟩ := hA (by omega)
      obtain ⟨q0, hq0⟩ := hall a0 (by rw [hl]; simp)
      obtain ⟨q1, hq1⟩ := hall a1 (by rw [hl]; simp)
      obtain ⟨A0, k0, g0, g1, T0, hbl⟩ := arg_cells hcells (j := 0) (by omega)
      obtain ⟨A1, k1, g2, g3, T1, _⟩ := arg_cells hcells (j := 1) (by omega)
      simp only [hl, List.getElem_cons_zero, List.getElem_cons_succ, Nat.zero_mul, Nat.add_zero, Nat.one_mul] at g0 g1 g2 g3 T0 T1
      have ht : t = .mk 6 [a0, a1] := by cases t with | mk k l => (have e1 : k = 6 := h6; have e2 : l = [a0, a1] := hl; rw [e1, e2])
      rw [h6, h2, ht]
      exact least_pair r d q0 q1 S a0 a1 b o c k0 k1 A0 A1 w IH (by omega) hq0 hq1 (by omega) hbl g0 g1 g2 g3 T0 T1
    · clear IH hall hm
      have hb6 : (t.kind != 6) = true := by simp [h6]
      have HF : Hid (leastT (r + 1) t = 1) := by show _ = _; simp only [leastT, if_neg h6]
      clear h6 hw hxa hxk hA
      go_enter Tryd.func18, Tryd.ntmps18
      go_wp2_with (fail)
      go_ret
      rw [HF.out]
      exact ⟨rfl, (Below.refl _ w).alloc (Nat.le_refl _) _⟩

def RlOk (r d : Nat) : Prop := ∀ (q : Nat) (S : Nat → Prop) (v : Value) (t : Ty) (w : World), r ≤ 6 → measureT r t = some q → TyAt w S d v t →
    Calls Tryd.prog 23 #[v] w fun e w' => e = .returned (.int .i64 (leastT r t : Nat)) ∧ Below w.heap.size w w'

set_option maxRecDepth 100000 in
set_option maxHeartbeats 1000000 in
theorem rleast_pair (r d q0 q1 : Nat) (S : Nat → Prop) (a0 a1 : Ty) (b o c k0 k1 : Nat) (A0 A1 : Option Addr) (w : World) (hIH : RlOk r d) (hr6 : r ≤ 6) (hq0 : measureT r a0 = some q0) (hq1 : measureT r a1 = some q1) (_hc : 2 ≤ c) (hbl : b < w.heap.size)
    (g0 : w.cell? ⟨b, o, none⟩ = some (.int .i64 a0.kind)) (g1 : w.cell? ⟨b, o + 1, none⟩ = some (.slice A0 a0.args.length k0)) (g2 : w.cell? ⟨b, o + 2, none⟩ = some (.int .i64 a1.kind)) (g3 : w.cell? ⟨b, o + 3, none⟩ = some (.slice A1 a1.args.length k1))
    (T0 : TyAt w S d (.agg #[.int .i64 a0.kind, .slice A0 a0.args.length k0]) a0) (T1 : TyAt w S d (.agg #[.int .i64 a1.kind, .slice A1 a1.args.length k1]) a1) :
    Calls Tryd.prog 23 #[.agg #[.int .i64 6, .slice (some ⟨b, o, none⟩) 2 c]] w fun e w' => e = .returned (.int .i64 (leastT (r + 1) (.mk 6 [a0, a1]) : Nat)) ∧ Below w.heap.size w w' := by
  have HIH := Lib.hid hIH
  have hL0 := leastT_le r a0 q0 hq0
  have hL1 := leastT_le r a1 q1 hq1
  have h64 : 2 ^ r ≤ 64 := Nat.le_trans (Nat.pow_le_pow_right (by omega) hr6) (by decide)
  have HF : Hid (((leastT (r + 1) (.mk 6 [a0, a1]) : Nat) : Int) = 1 + (leastT r a0 : Int) + (leastT r a1 : Int)) := by
    show _ = _
    rw [show leastT (r + 1) (.mk 6 [a0, a1]) = 1 + (leastT r a0 + (leastT r a1 + 0)) from rfl]
    omega
  have hb2 := ((Below.refl w.heap.size w).alloc (Nat.le_refl _) (.cells #[.int .i64 6, .slice (some ⟨b, o, none⟩) 2 c] 24))
  have hx0 := heap_alloc_new w (.cells #[.int .i64 6, .slice (some ⟨b, o, none⟩) 2 c] 24)
  have HT0 := Lib.hid (T0.below hb2)
  have HT1 := Lib.hid (T1.below hb2)
  have HQ0 := Lib.hid hq0
  have HQ1 := Lib.hid hq1
  clear T0 T1 hq0 hq1 hIH
  go_enter Tryd.func23, Tryd.ntmps23
  go_wp2_with (fail)
  obtain ⟨w0, hw0⟩ : ∃ w0, w0 = (w.alloc (.cells #[.int .i64 6, .slice (some ⟨b, o, none⟩) 2 c] 24)) := ⟨_, rfl⟩
  have hsz : w.heap.size + 1 ≤ w0.heap.size := by rw [hw0]; simp
  rw [← hw0] at HT0 HT1 hb2 hx0
  rw [← hw0]
  have hbw : b < w0.heap.size := by omega
  have e0 := (hb2.cell (p := ⟨b, o, none⟩) hbl).trans g0
  have e1 := (hb2.cell (p := ⟨b, o + 1, none⟩) hbl).trans g1
  have e2 := (hb2.cell (p := ⟨b, o + 2, none⟩) hbl).trans g2
  have e3 := (hb2.cell (p := ⟨b, o + 3, none⟩) hbl).trans g3
  have e5 := cell2_1 hx0
  have E0 := Lib.hid e0
  have E1 := Lib.hid e1
  have E2 := Lib.hid e2
  have E3 := Lib.hid e3
  have E5 := Lib.hid e5
  have hz0 : w.heap.size < w0.heap.size := by omega
  have hR0 : Below w.heap.size w w0 := hb2
  have s1 : IntKind.i64.wrap (1 + (leastT r a0 : Int)) = 1 + (leastT r a0 : Int) := IntWalk.i64_in _ (by omega)
  have s2 : IntKind.i64.wrap (1 + (leastT r a0 : Int) + (leastT r a1 : Int)) = 1 + (leastT r a0 : Int) + (leastT r a1 : Int) := IntWalk.i64_in _ (by omega)
  clear g0 g1 g2 g3 hw0 hx0
  go_region_held3 (fun w' => w'.cell? ⟨w.heap.size, 1, none⟩ = some (.slice (some ⟨b, o, none⟩) 2 c) ∧ w'.cell? ⟨b, o, none⟩ = some (.int .i64 a0.kind) ∧ w'.cell? ⟨b, o + 1, none⟩ = some (.slice A0 a0.args.length k0) ∧ w'.cell? ⟨b, o + 2, none⟩ = some (.int .i64 a1.kind) ∧ w'.cell? ⟨b, o + 3, none⟩ = some (.slice A1 a1.args.length k1) ∧ Below w.heap.size w w')
    ((refine ⟨?_, ?_, ?_, ?_, ?_, ?_⟩ <;> (repeat' (first | with_reducible assumption | with_reducible refine cell_drew_some ?_ | with_reducible refine Below.drew ?_))))
    (first
      | (go_at_call 23; refine (HIH.out _ _ _ a1 _ hr6 HQ1.out (HT1.out.below HB3)).mono ?_; rintro e w4 ⟨rfl, hb4⟩; have HB4 : Below w0.heap.size w0 w4 := HB3.trans (hb4.mono HB3.size); have KB4 : Below w.heap.size w w4 := hb2.trans (HB4.mono hb2.size); have f0 := (HB4.cell (p := ⟨b, o, none⟩) hbw).trans E0.out; have f1 := (HB4.cell (p := ⟨b, o + 1, none⟩) hbw).trans E1.out; have f2 := (HB4.cell (p := ⟨b, o + 2, none⟩) hbw).trans E2.out; have f3 := (HB4.cell (p := ⟨b, o + 3, none⟩) hbw).trans E3.out; have f5 := (HB4.cell (p := ⟨w.heap.size, 1, none⟩) hz0).trans E5.out)
      | (go_at_call 23; refine (HIH.out _ _ _ a0 w0.drew hr6 HQ0.out (HT0.out.below (Below.refl _ _).drew)).mono ?_; rintro e w3 ⟨rfl, hb3⟩; have HB3 : Below w0.heap.size w0 w3 := (Below.refl _ w0).drew.trans hb3; have KB3 : Below w.heap.size w w3 := hb2.trans (HB3.mono hb2.size); have f0 := (HB3.cell (p := ⟨b, o, none⟩) hbw).trans E0.out; have f1 := (HB3.cell (p := ⟨b, o + 1, none⟩) hbw).trans E1.out; have f2 := (HB3.cell (p := ⟨b, o + 2, none⟩) hbw).trans E2.out; have f3 := (HB3.cell (p := ⟨b, o + 3, none⟩) hbw).trans E3.out; have f5 := (HB3.cell (p := ⟨w.heap.size, 1, none⟩) hz0).trans E5.out))
  go_wp2_with (fail)
  go_ret
  rw [HF.out]
  exact ⟨rfl, KB4⟩

set_option maxRecDepth 100000 in
set_option maxHeartbeats 1000000 in
theorem rleast_any : ∀ (r d : Nat), RlOk r d
  | r, 0 => fun q S v t w _ _ hT => hT.elim
  | 0, d + 1 => fun q S v t w _ hm hT => by simp [measureT] at hm
  | r + 1, d + 1 => fun q S v t w hr6 hm hT => by
    obtain ⟨x, hw, hxa, hxw, hall⟩ := measure_right hm
    obtain ⟨_, hxk⟩ := wordK_mem hw
    have IH := rleast_any r d
    obtain ⟨A, c, rfl, hlc, hA⟩ := hT
    by_cases h6 : t.kind = 6
    · have h2 : t.args.length = 2 := by have := pair_two x hxw (by omega); omega
      obtain ⟨a0, a1, hl⟩ := list_two h2
      obtain ⟨b, o, rfl, hSb, hcells⟩ := hA (by omega)
      obtain ⟨q0, hq0⟩ := hall a0 (by rw [hl]; simp)
      obtain ⟨q1, hq1⟩ := hall a1 (by rw [hl]; simp)
      obtain ⟨A0, k0, g0, g1, T0, hbl⟩ := arg_cells hcells (j := 0) (by omega)
      obtain ⟨A1, k1, g2, g3, T1, _⟩ := arg_cells hcells (j := 1) (by omega)
      simp only [hl, List.getElem_cons_zero, List.getElem_cons_succ, Nat.zero_mul, Nat.add_zero, Nat.one_mul] at g0 g1 g2 g3 T0 T1
      have ht : t = .mk 6 [a0, a1] := by cases t with | mk k l => (have e1 : k = 6 := h6; have e2 : l = [a0, a1] := hl; rw [e1, e2])
      rw [h6, h2, ht]
      exact rleast_pair r d q0 q1 S a0 a1 b o c k0 k1 A0 A1 w IH (by omega) hq0 hq1 (by omega) hbl g0 g1 g2 g3 T0 T1
    · clear IH hall hm
      have hb6 : (t.kind != 6) = true := by simp [h6]
      have HF : Hid (leastT (r + 1) t = 1) := by show _ = _; simp only [leastT, if_neg h6]
      clear h6 hw hxa hxk hA
      go_enter Tryd.func23, Tryd.ntmps23
      go_wp2_with (fail)
      go_ret
      rw [HF.out]
      exact ⟨rfl, (Below.refl _ w).alloc (Nat.le_refl _) _⟩
end Go.Proofs.YtbafplnolmdlnaaDoor
