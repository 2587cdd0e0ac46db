/-
Ported from the texts of layer 2: Cmp.
-/
import Derived.Test.YtbafplnolmdlnaaDoorVal
import Derived.Test.YtbafplnolmdlnaaDoorRgt
namespace Go.Proofs.YtbafplnolmdlnaaDoor
open Go.RowKit

theorem toInt_run {x : Nat} {a : Int} (h : floatToIntVal .f64 x .i64 = some a) (w : World) : (convert 83 3 (.float .f64 x)).run Tryd.prog w = .ok (.int .i64 a) w :=
  run_convert_float_int w 83 3 .f64 .i64 x a (by kernel_rfl) (by kernel_rfl) h

theorem ints_self (n : Int) (w : World) : Calls Tryd.prog 38 #[.int .i64 n, .int .i64 n] w fun e w' => e = .returned (.int .i64 0) ∧ w = w' := by
  go_enter Tryd.func38, Tryd.ntmps38
  go_wp2
  go_ret
  exact ⟨rfl, rfl⟩

set_option maxHeartbeats 400000 in
theorem texts_self (s : ByteArray) (w : World) (hs : s.size ≤ 1000000) : Calls Tryd.prog 39 #[.string s, .string s] w fun e w' => e = .returned (.int .i64 0) ∧ Below w.heap.size w w' := by
  go_enter Tryd.func39, Tryd.ntmps39
  go_wp2_with (fail)
  go_loopw [5] (fun i wr => ∃ j : Nat, i = .int .i64 j ∧ j ≤ s.size ∧ Below w.heap.size w wr) (fun i _ => 1000001 - (intOf i).toNat)
  case atStart => exact ⟨0, rfl, by omega, Below.refl _ _⟩
  case round =>
    obtain ⟨j, rfl, hj, hbr⟩ := hrel
    by_cases hlt : j < s.size
    · go_wp2_with (fail)
      go_quiet ((fail))
      go_wp2_with (fail)
      go_roundw
      case rel => exact ⟨j + 1, by go_num, by omega, below_drewN hbr _⟩
      case measure => simp [intOf]; omega
    · go_wp2_with (fail)
      refine (ints_self _ _).mono ?_
      rintro e w3 ⟨rfl, rfl⟩
      go_wp2_with (fail)
      go_ret
      exact ⟨rfl, hbr⟩

/-- Values that may be held against themselves. -/
def CmpOk : Nat → Val → Prop
  | 0, _ => False
  | n + 1, V => V.text.size ≤ 1000000 ∧ V.list.length ≤ 1000000 ∧ ∀ x ∈ V.list, CmpOk n x

/-- The cells of a value of a List. -/
theorem val_cells {w : World} {S : Nat → Prop} {d b o j : Nat} {l : List Val} (hc : ∀ (j : Nat) (a : Val), l[j]? = some a → ∃ u0 u1 u2 u3 u4, w.cell? ⟨b, o + j * 5, none⟩ = some u0 ∧ w.cell? ⟨b, o + j * 5 + 1, none⟩ = some u1 ∧ w.cell? ⟨b, o + j * 5 + 2, none⟩ = some u2 ∧ w.cell? ⟨b, o + j * 5 + 3, none⟩ = some u3 ∧ w.cell? ⟨b, o + j * 5 + 4, none⟩ = some u4 ∧ VAt w S d (.agg #[u0, u1, u2, u3, u4]) a) (h : j < l.length) :
    ∃ A' c' x y, w.cell? ⟨b, o + j * 5, none⟩ = some (.int .i64 (l[j]).kind) ∧ w.cell? ⟨b, o + j * 5 + 1, none⟩ = some (.int .i64 (l[j]).int) ∧ w.cell? ⟨b, o + j * 5 + 2, none⟩ = some (.string (l[j]).text) ∧ w.cell? ⟨b, o + j * 5 + 3, none⟩ = some (.complex .f64 x y) ∧ w.cell? ⟨b, o + j * 5 + 4, none⟩ = some (.slice A' (l[j]).list.length c') ∧
      VAt w S d (.agg #[.int .i64 (l[j]).kind, .int .i64 (l[j]).int, .string (l[j]).text, .complex .f64 x y, .slice A' (l[j]).list.length c']) (l[j]) ∧ b < w.heap.size := by
  obtain ⟨u0, u1, u2, u3, u4, h0, h1, h2, h3, h4, h5⟩ := hc j _ (List.getElem?_eq_getElem h)
  have hbl := World.block_lt_of_cell? w _ h0
  obtain ⟨A', c', x, y, he', _, _⟩ := h5.form
  injection he' with he'
  have he2 := congrArg Array.toList he'
  simp only [List.cons.injEq, and_true] at he2
  obtain ⟨rfl, rfl, rfl, rfl, rfl⟩ := he2
  exact ⟨A', c', x, y, h0, h1, h2, h3, h4, h5, hbl⟩

def CpOk (d : Nat) : Prop := ∀ (d' n : Nat) (S S' : Nat → Prop) (v v' : Value) (V : Val) (w : World), CmpOk n V → VAt w S d v V → VAt w S' d' v' V →
    Calls Tryd.prog 25 #[v, v'] w fun e w' => e = .returned (.int .i64 0) ∧ Below w.heap.size w w'

set_option maxRecDepth 100000 in
set_option maxHeartbeats 1000000 in
theorem cmp_self : ∀ (d : Nat), CpOk d
  | 0 => fun d' n S S' v v' V w _ hT _ => hT.elim
  | d + 1 => fun d' n S S' v v' V w hN hT hT' => by
    cases d' with
    | zero => exact hT'.elim
    | succ d' =>
    cases n with
    | zero => exact hN.elim
    | succ n =>
    obtain ⟨hts, hll, hall⟩ := hN
    have IH := cmp_self d
    have HIH := Lib.hid IH
    have HALL := Lib.hid hall
    obtain ⟨A, c, x, y, rfl, hx, hy, hlc, hA⟩ := hT
    obtain ⟨A', c', x', y', rfl, hx', hy', hlc', hA'⟩ := hT'
    have HA := Lib.hid hA
    have HA' := Lib.hid hA'
    obtain ⟨V0, hV0⟩ : ∃ x, x = Value.int .i64 V.kind := ⟨_, rfl⟩
    have hb2 := ((Below.refl w.heap.size w).alloc (Nat.le_refl _) (.cells #[.int .i64 V.kind, .int .i64 V.int, .string V.text, .complex .f64 x y, .slice A V.list.length c] 32)).alloc (by simp) (.cells #[.int .i64 V.kind, .int .i64 V.int, .string V.text, .complex .f64 x' y', .slice A' V.list.length c'] 32)
    have hx0 := (Below.heap_alloc (w.alloc (.cells #[.int .i64 V.kind, .int .i64 V.int, .string V.text, .complex .f64 x y, .slice A V.list.length c] 32)) (.cells #[.int .i64 V.kind, .int .i64 V.int, .string V.text, .complex .f64 x' y', .slice A' V.list.length c'] 32) w.heap.size (by simp)).trans (heap_alloc_new w _)
    have hx1 : ((w.alloc (.cells #[.int .i64 V.kind, .int .i64 V.int, .string V.text, .complex .f64 x y, .slice A V.list.length c] 32)).alloc (.cells #[.int .i64 V.kind, .int .i64 V.int, .string V.text, .complex .f64 x' y', .slice A' V.list.length c'] 32)).heap[w.heap.size + 1]? = some (.cells #[.int .i64 V.kind, .int .i64 V.int, .string V.text, .complex .f64 x' y', .slice A' V.list.length c'] 32 (0, 0)) := by simpa using heap_alloc_new (w.alloc (.cells #[.int .i64 V.kind, .int .i64 V.int, .string V.text, .complex .f64 x y, .slice A V.list.length c] 32)) (.cells #[.int .i64 V.kind, .int .i64 V.int, .string V.text, .complex .f64 x' y', .slice A' V.list.length c'] 32)
    clear hA hA' IH hall hV0 V0
    by_cases k12 : V.kind = 1 ∨ V.kind = 2
    · have t12 : ((V.kind == 1) = true ∨ ((V.kind == 1) = false ∧ (V.kind == 2) = true)) := by rcases k12 with h | h <;> simp [h]
      clear k12 hx0 hx1 hx hy hx' hy'
      rcases t12 with t1 | ⟨t1, t2⟩ <;>
      · go_enter Tryd.func25, Tryd.ntmps25
        go_wp2_with (fail)
        refine (ints_self _ _).mono ?_
        rintro e w3 ⟨rfl, rfl⟩
        go_wp2_with (fail)
        go_ret
        exact ⟨rfl, hb2⟩
    · have t1 : (V.kind == 1) = false := by simp; omega
      have t2 : (V.kind == 2) = false := by simp; omega
      by_cases k34 : V.kind = 3 ∨ V.kind = 4
      · have t34 : ((V.kind == 3) = true ∨ ((V.kind == 3) = false ∧ (V.kind == 4) = true)) := by rcases k34 with h | h <;> simp [h]
        clear k12 k34 hx0 hx1 hx hy hx' hy'
        rcases t34 with t3 | ⟨t3, t4⟩ <;>
        · go_enter Tryd.func25, Tryd.ntmps25
          go_wp2_with (fail)
          refine (texts_self _ _ hts).mono ?_
          rintro e w3 ⟨rfl, hb3⟩
          go_wp2_with (fail)
          go_ret
          exact ⟨rfl, hb2.trans (hb3.mono hb2.size)⟩
      · have t3 : (V.kind == 3) = false := by simp; omega
        have t4 : (V.kind == 4) = false := by simp; omega
        by_cases k5 : V.kind = 5
        · have t5 : (V.kind == 5) = true := by simp [k5]
          have c1 := toInt_run hx
          have c2 := toInt_run hy
          have c3 := toInt_run hx'
          have c4 := toInt_run hy'
          clear k12 k34 k5 hx0 hx1 hx hy hx' hy'
          go_enter Tryd.func25, Tryd.ntmps25
          go_wp2_with (fail)
          refine (ints_self _ _).mono ?_
          rintro e w3 ⟨rfl, rfl⟩
          go_wp2_with (fail)
          refine (ints_self _ _).mono ?_
          rintro e w3 ⟨rfl, rfl⟩
          go_wp2_with (fail)
          go_ret
          exact ⟨rfl, hb2⟩
        · have t5 : (V.kind == 5) = false := by simp; omega
          clear k12 k34 k5 hx hy hx' hy'
          have hz2 : w.heap.size + 2 ≤ ((w.alloc (.cells #[.int .i64 V.kind, .int .i64 V.int, .string V.text, .complex .f64 x y, .slice A V.list.length c] 32)).alloc (.cells #[.int .i64 V.kind, .int .i64 V.int, .string V.text, .complex .f64 x' y', .slice A' V.list.length c'] 32)).heap.size := by simp
          have HX0 := Lib.hid hx0
          have HX1 := Lib.hid hx1
          clear hx0 hx1
          go_enter Tryd.func25, Tryd.ntmps25
          go_wp2_with (fail)
          go_loopw [6] (fun i wr => ∃ j : Nat, i = .int .i64 j ∧ j ≤ V.list.length ∧ Below w.heap.size w wr ∧ w.heap.size + 2 ≤ wr.heap.size ∧ Hid (wr.heap[w.heap.size]? = some (.cells #[.int .i64 V.kind, .int .i64 V.int, .string V.text, .complex .f64 x y, .slice A V.list.length c] 32 (0, 0))) ∧ Hid (wr.heap[w.heap.size + 1]? = some (.cells #[.int .i64 V.kind, .int .i64 V.int, .string V.text, .complex .f64 x' y', .slice A' V.list.length c'] 32 (0, 0)))) (fun i _ => 1000001 - (intOf i).toNat)
          case atStart => exact ⟨0, rfl, by omega, hb2, hz2, HX0, HX1⟩
          case round =>
            obtain ⟨j, rfl, hj, hbr, hsz, HY0, HY1⟩ := hrel
            have d4 := cell5_4 HY0.out
            have e4 := cell5_4 HY1.out
            have hsr := hbr.size
            by_cases hlt : j < V.list.length
            · obtain ⟨b1, o, rfl, hSb, hcells⟩ := HA.out (by omega)
              obtain ⟨b2, o', rfl, hSb', hcells'⟩ := HA'.out (by omega)
              obtain ⟨B1, k1, xa, ya, h0, h1, h2, h3, h4, h6, hbl⟩ := val_cells hcells hlt
              obtain ⟨B2, k2, xb, yb, h0', h1', h2', h3', h4', h6', hbl'⟩ := val_cells hcells' hlt
              have hna := HALL.out _ (List.getElem_mem hlt)
              generalize V.list[j] = z at *
              have hbw1 : b1 < wr.heap.size := by omega
              have hbw2 : b2 < wr.heap.size := by omega
              have hw0 : w.heap.size < wr.heap.size := by omega
              have hw1 : w.heap.size + 1 < wr.heap.size := by omega
              have g0 := Lib.hid ((hbr.cell (p := ⟨b1, o + j * 5, none⟩) hbl).trans h0)
              have g0' := Lib.hid ((hbr.cell (p := ⟨b2, o' + j * 5, none⟩) hbl').trans h0')
              have g1 := Lib.hid ((hbr.cell (p := ⟨b1, o + j * 5 + 1, none⟩) hbl).trans h1)
              have g1' := Lib.hid ((hbr.cell (p := ⟨b2, o' + j * 5 + 1, none⟩) hbl').trans h1')
              have g2 := Lib.hid ((hbr.cell (p := ⟨b1, o + j * 5 + 2, none⟩) hbl).trans h2)
              have g2' := Lib.hid ((hbr.cell (p := ⟨b2, o' + j * 5 + 2, none⟩) hbl').trans h2')
              have g3 := Lib.hid ((hbr.cell (p := ⟨b1, o + j * 5 + 3, none⟩) hbl).trans h3)
              have g3' := Lib.hid ((hbr.cell (p := ⟨b2, o' + j * 5 + 3, none⟩) hbl').trans h3')
              have g4 := Lib.hid ((hbr.cell (p := ⟨b1, o + j * 5 + 4, none⟩) hbl).trans h4)
              have g4' := Lib.hid ((hbr.cell (p := ⟨b2, o' + j * 5 + 4, none⟩) hbl').trans h4')
              have H6 := Lib.hid (h6.below hbr)
              have H6' := Lib.hid (h6'.below hbr)
              have HNA := Lib.hid hna
              clear h0 h1 h2 h3 h4 h6 h0' h1' h2' h3' h4' h6' hcells hcells' hna
              go_wp2_with (fail)
              have q0 := g0.out
              have q0' := g0'.out
              have q1 := g1.out
              have q1' := g1'.out
              have q2 := g2.out
              have q2' := g2'.out
              have q3 := g3.out
              have q3' := g3'.out
              have q4 := g4.out
              have q4' := g4'.out
              have hRR : Below wr.heap.size wr wr := Below.refl _ _
              go_region_held3 (fun w' => w'.cell? ⟨w.heap.size, 4, none⟩ = some (.slice (some ⟨b1, o, none⟩) V.list.length c) ∧ w'.cell? ⟨w.heap.size + 1, 4, none⟩ = some (.slice (some ⟨b2, o', none⟩) V.list.length c') ∧ w'.cell? ⟨b1, o + j * 5, none⟩ = some (.int .i64 z.kind) ∧ w'.cell? ⟨b1, o + j * 5 + 1, none⟩ = some (.int .i64 z.int) ∧ w'.cell? ⟨b1, o + j * 5 + 2, none⟩ = some (.string z.text) ∧ w'.cell? ⟨b1, o + j * 5 + 3, none⟩ = some (.complex .f64 xa ya) ∧ w'.cell? ⟨b1, o + j * 5 + 4, none⟩ = some (.slice B1 z.list.length k1) ∧ w'.cell? ⟨b2, o' + j * 5, none⟩ = some (.int .i64 z.kind) ∧ w'.cell? ⟨b2, o' + j * 5 + 1, none⟩ = some (.int .i64 z.int) ∧ w'.cell? ⟨b2, o' + j * 5 + 2, none⟩ = some (.string z.text) ∧ w'.cell? ⟨b2, o' + j * 5 + 3, none⟩ = some (.complex .f64 xb yb) ∧ w'.cell? ⟨b2, o' + j * 5 + 4, none⟩ = some (.slice B2 z.list.length k2) ∧ Below wr.heap.size wr w')
                (((refine ⟨?_, ?_, ?_, ?_, ?_, ?_, ?_, ?_, ?_, ?_, ?_, ?_, ?_⟩ <;> (repeat' (first | with_reducible assumption | with_reducible refine cell_drew_some ?_ | with_reducible refine Below.drew ?_)))))
                (first | (go_at_call 25; refine (HIH.out d' n _ _ _ _ z wr.drew HNA.out (H6.out.below (Below.refl _ _).drew) (H6'.out.below (Below.refl _ _).drew)).mono ?_; rintro e w3 ⟨rfl, hb3⟩; have HB3 : Below wr.heap.size wr w3 := (Below.refl _ wr).drew.trans hb3; have f4 := (HB3.cell (p := ⟨w.heap.size, 4, none⟩) hw0).trans d4; have f4' := (HB3.cell (p := ⟨w.heap.size + 1, 4, none⟩) hw1).trans e4; have p0 := (HB3.cell (p := ⟨b1, o + j * 5, none⟩) hbw1).trans g0.out; have p0' := (HB3.cell (p := ⟨b2, o' + j * 5, none⟩) hbw2).trans g0'.out; have p1 := (HB3.cell (p := ⟨b1, o + j * 5 + 1, none⟩) hbw1).trans g1.out; have p1' := (HB3.cell (p := ⟨b2, o' + j * 5 + 1, none⟩) hbw2).trans g1'.out; have p2 := (HB3.cell (p := ⟨b1, o + j * 5 + 2, none⟩) hbw1).trans g2.out; have p2' := (HB3.cell (p := ⟨b2, o' + j * 5 + 2, none⟩) hbw2).trans g2'.out; have p3 := (HB3.cell (p := ⟨b1, o + j * 5 + 3, none⟩) hbw1).trans g3.out; have p3' := (HB3.cell (p := ⟨b2, o' + j * 5 + 3, none⟩) hbw2).trans g3'.out; have p4 := (HB3.cell (p := ⟨b1, o + j * 5 + 4, none⟩) hbw1).trans g4.out; have p4' := (HB3.cell (p := ⟨b2, o' + j * 5 + 4, none⟩) hbw2).trans g4'.out))
              go_wp2_with (fail)
              go_roundw
              case rel => exact ⟨j + 1, by go_num, by omega, hbr.trans (HB3.mono hsr), by have := HB3.size; omega, (HB3.block _ (by omega)).trans HY0.out, (HB3.block _ (by omega)).trans HY1.out⟩
              case measure => simp [intOf]; omega
            · go_wp2_with (fail)
              refine (ints_self _ _).mono ?_
              rintro e w3 ⟨rfl, rfl⟩
              go_wp2_with (fail)
              go_ret
              exact ⟨rfl, hbr⟩

set_option maxRecDepth 100000 in
set_option maxHeartbeats 1000000 in
theorem vsame_self (d d' n : Nat) (S S' : Nat → Prop) (v v' : Value) (V : Val) (w : World) (hN : CmpOk n V) (hT : VAt w S d v V) (hT' : VAt w S' d' v' V) :
    Calls Tryd.prog 13 #[v, v'] w fun e w' => e = .returned (.bool true) ∧ Below w.heap.size w w' := by
  have HT := Lib.hid hT
  have HT' := Lib.hid hT'
  have HN := Lib.hid hN
  obtain ⟨A, c, x, y, rfl, _, _⟩ := hT.form
  obtain ⟨A', c', x', y', rfl, _, _⟩ := hT'.form
  have hb2 := ((Below.refl w.heap.size w).alloc (Nat.le_refl _) (.cells #[.int .i64 V.kind, .int .i64 V.int, .string V.text, .complex .f64 x y, .slice A V.list.length c] 32)).alloc (by simp) (.cells #[.int .i64 V.kind, .int .i64 V.int, .string V.text, .complex .f64 x' y', .slice A' V.list.length c'] 32)
  clear hT hT' hN
  go_enter Tryd.func13, Tryd.ntmps13
  go_wp2_with (fail)
  refine (cmp_self d d' n S S' _ _ V _ HN.out (HT.out.below hb2) (HT'.out.below hb2)).mono ?_
  rintro e w3 ⟨rfl, hb3⟩
  go_wp2_with (fail)
  go_ret
  exact ⟨rfl, hb2.trans (hb3.mono hb2.size)⟩
end Go.Proofs.YtbafplnolmdlnaaDoor
