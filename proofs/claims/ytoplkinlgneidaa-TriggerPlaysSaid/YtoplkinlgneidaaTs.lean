/-
TriggerSums.
-/
import Derived.Test.YtoplkinlgneidaaTm
set_option linter.unusedVariables false
namespace Go.Proofs.Ytoplkinlgneidaa
open Go.RowKit

theorem spec_set0 {w : World} {b : Nat} {E L T : Int} {a : Bool} (h : w.heap[b]? = some (.cells #[.int .i64 E, .int .i64 L, .int .i64 T, .bool a] 23 (0, 0))) (k : Int) : (w.setCell ⟨b, 0, none⟩ (.int .i64 k)).heap[b]? = some (.cells #[.int .i64 k, .int .i64 L, .int .i64 T, .bool a] 23 (0, 0)) := by
  simp [World.setCell, Array.getElem?_modify, h]

theorem spec_cells {w : World} {b : Nat} {E L T : Int} {a : Bool} (h : w.heap[b]? = some (.cells #[.int .i64 E, .int .i64 L, .int .i64 T, .bool a] 23 (0, 0))) : w.cell? ⟨b, 0, none⟩ = some (.int .i64 E) ∧ w.cell? ⟨b, 1, none⟩ = some (.int .i64 L) ∧ w.cell? ⟨b, 2, none⟩ = some (.int .i64 T) ∧ w.cell? ⟨b, 3, none⟩ = some (.bool a) :=
  ⟨cells_at h 0 _ rfl, cells_at h 1 _ rfl, cells_at h 2 _ rfl, cells_at h 3 _ rfl⟩

set_option maxRecDepth 100000 in
set_option maxHeartbeats 4000000 in
theorem sums_bad (E L T : Int) (a : Bool) (v : Value) (ns : List Int) (w : World) (h : NsAt w v ns) (hs : ¬ SpecOk 0 L T) : Calls Try.prog 5 #[.agg #[.int .i64 E, .int .i64 L, .int .i64 T, .bool a], v] w fun e w' => e = .returned (.bool true) ∧ Below w.heap.size w w' := by
  have HN := fun w => Lib.hid (tnew_no 0 L T a w hs)
  have HA := fun w => Lib.hid (tawake_any w)
  obtain ⟨ad, c, rfl, hlc, _⟩ := h
  clear hs
  go_enter Try.func5, Try.ntmps5
  go_upto_region 2 with (fail)
  have hb : ((w.alloc (.cells #[.int .i64 0, .int .i64 L, .int .i64 T, .bool a] 23))).heap[w.heap.size]? = some (.cells #[.int .i64 0, .int .i64 L, .int .i64 T, .bool a] 23 (0, 0)) := heap_alloc_new w _
  obtain ⟨b0, b1, b2, b3⟩ := spec_cells hb
  have hbl := cell_lt hb
  have HB := Lib.hid hb
  clear hb
  go_wp2_with (first
    | (go_at_call 8; (with_reducible refine (HN w1).out.mono ?_); rintro e w2 ⟨rfl, hB⟩; have HB2 : Hid (Below w.heap.size w w2) := Lib.hid (HBw.out.trans (hB.mono HBw.out.size)); clear hB)
    | (go_at_call 8; (with_reducible refine (HN _).out.mono ?_); rintro e w1 ⟨rfl, hB⟩; obtain ⟨b0, b1, b2, b3⟩ := spec_cells ((hB.block _ hbl).trans HB.out); have HBw : Hid (Below w.heap.size w w1) := Lib.hid (((Below.refl _ w).alloc (Nat.le_refl _) _).trans (hB.mono (by simp))); have hbl1 : w.heap.size < w1.heap.size := Nat.lt_of_lt_of_le hbl hB.size; clear hB)
    | (go_at_call 11; (with_reducible refine (HA _).out.mono ?_); rintro e w3 ⟨rfl, hb3⟩; have HB3 := Lib.hid hb3; clear hb3))
  go_ret
  exact ⟨rfl, HB2.out.trans (HB3.out.mono HB2.out.size)⟩

/-- Two machines of one spec, with nothing in common, and the box of the spec. -/
structure Two2 (w wr : World) (ma ga mb gb : Nat) (L T : Int) (a : Bool) (fa fb : Int) : Prop where
  A : Mc wr ma ga 0 L T a 0 0 fa false false
  B : Mc wr mb gb 0 L T a 0 0 fb false false
  box : wr.heap[w.heap.size]? = some (.cells #[.int .i64 0, .int .i64 L, .int .i64 T, .bool a] 23 (0, 0))
  la : w.heap.size < ma ∧ w.heap.size < ga
  lb : w.heap.size < mb ∧ w.heap.size < gb
  ne : ma ≠ mb ∧ ma ≠ gb ∧ ga ≠ mb ∧ ga ≠ gb
  bel : Below w.heap.size w wr

theorem Mc.at {w w' : World} {R S m g : Nat} {E L T : Int} {a : Bool} {n s fr : Int} {p c : Bool} (h : Mc w m g E L T a n s fr p c) (ho : Only2 R S w w') (h1 : m ≠ R) (h2 : m ≠ S) (h3 : g ≠ R) (h4 : g ≠ S) : Mc w' m g E L T a n s fr p c :=
  ⟨h.ne, ho.at h.cells h1 h2, ho.at h.line h3 h4⟩

theorem Mc.low {w w' : World} {B m g : Nat} {E L T : Int} {a : Bool} {n s fr : Int} {p c : Bool} (h : Mc w m g E L T a n s fr p c) (hb : Below B w w') (h1 : m < B) (h2 : g < B) : Mc w' m g E L T a n s fr p c :=
  ⟨h.ne, (hb.block _ h1).trans h.cells, (hb.block _ h2).trans h.line⟩

theorem Two2.below {w wr w' : World} {ma ga mb gb : Nat} {L T : Int} {a : Bool} {fa fb : Int} (h : Two2 w wr ma ga mb gb L T a fa fb) (hb : Below wr.heap.size wr w') : Two2 w w' ma ga mb gb L T a fa fb :=
  ⟨h.A.low hb (cell_lt h.A.cells) (cell_lt h.A.line), h.B.low hb (cell_lt h.B.cells) (cell_lt h.B.line), (hb.block _ (cell_lt h.box)).trans h.box, h.la, h.lb, h.ne, h.bel.trans (hb.mono h.bel.size)⟩

theorem Two2.far {w wr w' : World} {ma ga mb gb R S : Nat} {L T : Int} {a : Bool} {fa fb : Int} (h : Two2 w wr ma ga mb gb L T a fa fb) {X : World} (hX : Below wr.heap.size wr X) (ho : Only2 R S X w') (hR : wr.heap.size ≤ R) (hS : wr.heap.size ≤ S) : Two2 w w' ma ga mb gb L T a fa fb :=
  h.below (hX.trans (ho.below hR hS hX.size))

theorem Two2.addA {w wr w' : World} {ma ga mb gb : Nat} {L T : Int} {a : Bool} {fa fb fa' : Int} (h : Two2 w wr ma ga mb gb L T a fa fb) (hM : Mc w' ma ga 0 L T a 0 0 fa' false false) (ho : Only2 ma ga wr w') : Two2 w w' ma ga mb gb L T a fa' fb :=
  ⟨hM, h.B.at ho (fun e => h.ne.1 e.symm) (fun e => h.ne.2.2.1 e.symm) (fun e => h.ne.2.1 e.symm) (fun e => h.ne.2.2.2 e.symm), ho.at h.box (by have := h.la; omega) (by have := h.la; omega), h.la, h.lb, h.ne, h.bel.trans (ho.below (by have := h.la; omega) (by have := h.la; omega) h.bel.size)⟩

theorem Two2.addB {w wr w' : World} {ma ga mb gb : Nat} {L T : Int} {a : Bool} {fa fb fb' : Int} (h : Two2 w wr ma ga mb gb L T a fa fb) (hM : Mc w' mb gb 0 L T a 0 0 fb' false false) (ho : Only2 mb gb wr w') : Two2 w w' ma ga mb gb L T a fa fb' :=
  ⟨h.A.at ho h.ne.1 h.ne.2.1 h.ne.2.2.1 h.ne.2.2.2, hM, ho.at h.box (by have := h.lb; omega) (by have := h.lb; omega), h.la, h.lb, h.ne, h.bel.trans (ho.below (by have := h.lb; omega) (by have := h.lb; omega) h.bel.size)⟩

set_option maxRecDepth 100000 in
set_option maxHeartbeats 4000000 in
theorem sums_long (E L T : Int) (a : Bool) (v : Value) (ns : List Int) (w : World) (h : NsAt w v ns) (hs : SpecOk 0 L T) (hl : 100 < ns.length) (hl2 : ns.length ≤ 9223372036854775807) : Calls Try.prog 5 #[.agg #[.int .i64 E, .int .i64 L, .int .i64 T, .bool a], v] w fun e w' => e = .returned (.bool true) ∧ Below w.heap.size w w' := by
  have HN := fun w => Lib.hid (tnew_yes 0 L T a w hs)
  have HA := fun w => Lib.hid (tawake_any w)
  obtain ⟨ad, c, rfl, hlc, _⟩ := h
  have hd : decide ((100 : Int) < (ns.length : Int)) = true := decide_eq_true (by omega)
  clear hs
  go_enter Try.func5, Try.ntmps5
  go_upto_region 2 with (fail)
  have hb : ((w.alloc (.cells #[.int .i64 0, .int .i64 L, .int .i64 T, .bool a] 23))).heap[w.heap.size]? = some (.cells #[.int .i64 0, .int .i64 L, .int .i64 T, .bool a] 23 (0, 0)) := heap_alloc_new w _
  obtain ⟨b0, b1, b2, b3⟩ := spec_cells hb
  have hbl := cell_lt hb
  have HB := Lib.hid hb
  clear hb
  go_wp2_with (first
    | (go_at_call 8; (with_reducible refine (HN w1).out.mono ?_); rintro e w2 ⟨m', g', rfl, _, _, _, hB⟩; have HB2 : Hid (Below w.heap.size w w2) := Lib.hid (HBw.out.trans (hB.mono HBw.out.size)); clear hB)
    | (go_at_call 8; (with_reducible refine (HN _).out.mono ?_); rintro e w1 ⟨m, g, rfl, _, _, _, hB⟩; obtain ⟨b0, b1, b2, b3⟩ := spec_cells ((hB.block _ hbl).trans HB.out); have HBw : Hid (Below w.heap.size w w1) := Lib.hid (((Below.refl _ w).alloc (Nat.le_refl _) _).trans (hB.mono (by simp))); have hbl1 : w.heap.size < w1.heap.size := Nat.lt_of_lt_of_le hbl hB.size; clear hB)
    | (go_at_call 11; (with_reducible refine (HA _).out.mono ?_); rintro e w3 ⟨rfl, hb3⟩; have HB3 := Lib.hid hb3; clear hb3))
  go_ret
  exact ⟨rfl, HB2.out.trans (HB3.out.mono HB2.out.size)⟩

set_option maxRecDepth 100000 in
set_option maxHeartbeats 4000000 in
theorem sums_short (E L T : Int) (a : Bool) (v : Value) (ns : List Int) (w : World) (h : NsAt w v ns) (hs : SpecOk 0 L T) (hl : ns.length ≤ 100) : Calls Try.prog 5 #[.agg #[.int .i64 E, .int .i64 L, .int .i64 T, .bool a], v] w fun e w' => e = .returned (.bool true) ∧ Below w.heap.size w w' := by
  have HN := fun w => Lib.hid (tnew_yes 0 L T a w hs)
  have HA := fun w => Lib.hid (tawake_any w)
  obtain ⟨ad, c, rfl, hlc, hcells⟩ := h
  have HCELLS := Lib.hid hcells
  have hd : decide ((100 : Int) < (ns.length : Int)) = false := decide_eq_false (by omega)
  clear hs hcells
  go_enter Try.func5, Try.ntmps5
  go_upto_region 2 with (fail)
  have hb : ((w.alloc (.cells #[.int .i64 0, .int .i64 L, .int .i64 T, .bool a] 23))).heap[w.heap.size]? = some (.cells #[.int .i64 0, .int .i64 L, .int .i64 T, .bool a] 23 (0, 0)) := heap_alloc_new w _
  obtain ⟨b0, b1, b2, b3⟩ := spec_cells hb
  have hbl := cell_lt hb
  have HB := Lib.hid hb
  clear hb
  go_wp2_with (first
    | (go_at_call 8; (with_reducible refine (HN w1).out.mono ?_); rintro e w2 ⟨mb, gb, rfl, hmb, hgb, hMb, hB⟩; have HT : Hid (Two2 w w2 ma ga mb gb L T a 0 0) := Lib.hid ⟨HMa.out.low hB (cell_lt HMa.out.cells) (cell_lt HMa.out.line), hMb, (hB.block _ hbl1).trans HBOX.out, HLa.out, ⟨by omega, by omega⟩, (by have h1 := cell_lt HMa.out.cells; have h2 := cell_lt HMa.out.line; refine ⟨?_, ?_, ?_, ?_⟩ <;> omega), HBw.out.trans (hB.mono HBw.out.size)⟩; clear hB hmb hgb hMb)
    | (go_at_call 8; (with_reducible refine (HN _).out.mono ?_); rintro e w1 ⟨ma, ga, rfl, hma, hga, hMa, hB⟩; have HMa := Lib.hid hMa; have HBOX := Lib.hid ((hB.block _ hbl).trans HB.out); have HLa : Hid (w.heap.size < ma ∧ w.heap.size < ga) := Lib.hid (by simp at hma hga; exact ⟨by omega, by omega⟩); obtain ⟨b0, b1, b2, b3⟩ := spec_cells ((hB.block _ hbl).trans HB.out); have HBw : Hid (Below w.heap.size w w1) := Lib.hid (((Below.refl _ w).alloc (Nat.le_refl _) _).trans (hB.mono (by simp))); have hbl1 : w.heap.size < w1.heap.size := Nat.lt_of_lt_of_le hbl hB.size; clear hB hma hga hMa))
  go_loopw [9, 48] (fun sv iv wr => ∃ (k : Nat) (sm : Int), iv = .int .i64 (k : Int) ∧ k ≤ ns.length ∧ sv = .int .i64 sm ∧ 0 ≤ sm ∧ sm ≤ 5 * (k : Int) ∧ Hid (Two2 w wr ma ga mb gb L T a sm sm)) (fun _ iv _ => ns.length - (intOf iv).toNat)
  case atStart => exact ⟨0, 0, rfl, Nat.zero_le _, rfl, by omega, by omega, HT⟩
  case round =>
    obtain ⟨k, sm, rfl, hk, rfl, hs0, hs5, HTW⟩ := hrel
    by_cases hlt : k < ns.length
    · obtain ⟨b, o, rfl, hbw, hcl⟩ := HCELLS.out (by omega)
      have hx := List.getElem?_eq_getElem hlt
      have c0 := (HTW.out.bel.cell (p := ⟨b, o + k, none⟩) hbw).trans (hcl k _ hx)
      have hbr : b < wr.heap.size := Nat.lt_of_lt_of_le hbw HTW.out.bel.size
      generalize ns[k] = x at *
      have hk0 : (0 : Int) ≤ (k : Int) := by omega
      have hk1 : (k : Int) < (ns.length : Int) := by omega
      clear hx hcl
      by_cases h1 : x < 1
      · have d1 : decide (x < 1) = true := decide_eq_true h1
        clear h1
        go_wp2
        go_roundw
        case rel => exact ⟨k + 1, sm, by go_num, by omega, rfl, hs0, by omega, HTW⟩
        case measure => simp [intOf]; omega
      have d1 : decide (x < 1) = false := decide_eq_false h1
      by_cases h5 : 5 < x
      · have d2 : decide (5 < x) = true := decide_eq_true h5
        clear h1 h5
        go_wp2
        go_roundw
        case rel => exact ⟨k + 1, sm, by go_num, by omega, rfl, hs0, by omega, HTW⟩
        case measure => simp [intOf]; omega
      have d2 : decide (5 < x) = false := decide_eq_false h5
      obtain ⟨X, rfl⟩ := Int.eq_ofNat_of_zero_le (show 0 ≤ x by omega)
      have hX1 : 1 ≤ X := by omega
      have hX5 : X ≤ 5 := by omega
      have hwr : IntKind.i64.wrap (sm + (X : Int)) = sm + (X : Int) := IntWalk.i64_in _ (by omega)
      obtain ⟨w1', hw1'⟩ : ∃ w1' : World, w1' = wr := ⟨_, rfl⟩
      subst hw1'
      have HC1 := Lib.hid (add_quiet ma ga 0 L T a 0 0 sm false X w1' HTW.out.A ⟨by omega, by omega⟩ hs0 (by omega) (.inl rfl))
      clear h1 h5
      go_wp2_with (first
        | (go_at_call 14; (with_reducible refine HC1.out.mono ?_); rintro e w2' ⟨rfl, hM, hO⟩; have HT2 := Lib.hid (HTW.out.addA hM hO); obtain ⟨b0, b1, b2, b3⟩ := spec_cells HT2.out.box; have hbl2 := cell_lt HT2.out.box; clear hM hO HC1)
        | (go_at_call 8; (with_reducible refine (HN w2').out.mono ?_); rintro e w3' ⟨mo, go, rfl, hmo, hgo, hMo, hB⟩; have HMO := Lib.hid hMo; have HB3 := Lib.hid hB; clear hMo hB))
      go_loopw [72] (fun iv wr => ∃ (j : Nat), iv = .int .i64 (j : Int) ∧ j ≤ X ∧ Hid (Mc wr mo go 0 L T a 0 0 (j : Int) false false) ∧ Hid (Only2 mo go w3' wr)) (fun iv _ => X - (intOf iv).toNat)
      case atStart => exact ⟨0, rfl, Nat.zero_le _, HMO, Lib.hid (Only2.refl _ _ _)⟩
      case round =>
        obtain ⟨j, rfl, hj, HMJ, HOJ⟩ := hrel
        by_cases hlt2 : j < X
        · have HC := Lib.hid (add_quiet mo go 0 L T a 0 0 (j : Int) false 1 wr HMJ.out (by decide) (by omega) (by omega) (.inl rfl))
          go_wp2_with (go_at_call 14; (with_reducible refine HC.out.mono ?_); rintro e w4' ⟨rfl, hM, hO⟩; have HM4 := Lib.hid hM; have HO4 := Lib.hid (HOJ.out.trans hO); clear hM hO)
          go_roundw
          case rel => exact ⟨j + 1, by go_num, by omega, HM4, HO4⟩
          case measure => simp [intOf]; omega
        · obtain rfl : j = X := by omega
          have HT4 := Lib.hid (HT2.out.far HB3.out HOJ.out hmo hgo)
          have HJ := Lib.hid (join_ok mb gb 0 L T a 0 sm false mo go 0 L T a 0 (j : Int) false wr HT4.out.B HMJ.out (by have := cell_lt HT2.out.B.cells; omega) hs0 (by omega) (by omega) (by omega))
          go_wp2_with (go_at_call 13; (with_reducible refine HJ.out.mono ?_); rintro e w5' ⟨rfl, hM, hO⟩; have HT5 := Lib.hid (HT4.out.addB hM hO); clear hM hO)
          go_roundw
          case rel => exact ⟨k + 1, sm + (j : Int), by go_num, by omega, rfl, by omega, by omega, HT5⟩
          case measure => simp [intOf]; omega
    · obtain rfl : k = ns.length := by omega
      obtain ⟨z, hz⟩ : ∃ z : Bool, z = (T == 0) := ⟨_, rfl⟩
      have HZ := Lib.hid hz
      clear hz
      have HSA := fun W (h : Two2 w W ma ga mb gb L T a sm sm) => Lib.hid (state_any ma ga 0 L T a 0 0 sm false false W h.A)
      have HSB := fun W (h : Two2 w W ma ga mb gb L T a sm sm) => Lib.hid (state_any mb gb 0 L T a 0 0 sm false false W h.B)
      have hgs := fun w' => Try.guardS .neq w'
      have hes : ∀ w', (binOp .neq 51 (.agg #[.int .i64 0, .int .i64 0, .int .i64 sm, .bool false, .bool false]) (.agg #[.int .i64 0, .int .i64 0, .int .i64 sm, .bool false, .bool false])).run Try.prog w' = .ok (.bool false) w' := fun w' => by rw [Try.neqS]; simp
      have hfd := fun w' => Try.fieldS w' 0 0 sm false false
      go_wp2_with (first
        | (go_at_call 18; (with_reducible refine (HSA wr HTW.out).out.mono ?_); rintro e w2' ⟨rfl, hb⟩; have HT2 := Lib.hid (HTW.out.below hb); clear hb)
        | (go_at_call 18; (with_reducible refine (HSB w2' HT2.out).out.mono ?_); rintro e w3' ⟨rfl, hb⟩; have HT3 := Lib.hid (HT2.out.below hb); clear hb)
        | (go_at_call 18; (with_reducible refine (HSA w3' HT3.out).out.mono ?_); rintro e w4' ⟨rfl, hb⟩; have HT4 := Lib.hid (HT3.out.below hb); have HPA := Lib.hid (pass_ok ma ga 0 L T a 0 0 sm false w4' HT4.out.A (by decide) (by decide) (by decide) z HZ.out); clear hb)
        | (go_at_call 15; (with_reducible refine HPA.out.mono ?_); rintro e w5' ⟨bp, rfl, h1, hM, hO⟩; have HPB := Lib.hid (pass_ok mb gb 0 L T a 0 0 sm false w5' (HT4.out.B.at hO (fun e => HT4.out.ne.1 e.symm) (fun e => HT4.out.ne.2.2.1 e.symm) (fun e => HT4.out.ne.2.1 e.symm) (fun e => HT4.out.ne.2.2.2 e.symm)) (by decide) (by decide) (by decide) z HZ.out); have H1 := Lib.hid h1; have HO5 := Lib.hid hO; clear h1 hM hO HPA)
        | (go_at_call 15; (with_reducible refine HPB.out.mono ?_); rintro e w6' ⟨bq, rfl, h2, hM, hO⟩; have HP6 : Hid (One w4'.heap.size w6' bp (0, 1, z)) := Lib.hid ⟨H1.out.1, hO.at H1.out.2 (by have h1 := cell_lt HT4.out.B.cells; have h2 := H1.out.1; omega) (by have h1 := cell_lt HT4.out.B.line; have h2 := H1.out.1; omega)⟩; have HQ6 := Lib.hid h2; have HB6 : Hid (Below w.heap.size w w6') := Lib.hid (HT4.out.bel.trans ((HO5.out.below (by have := HT4.out.la; omega) (by have := HT4.out.la; omega) HT4.out.bel.size).trans (hO.below (by have := HT4.out.lb; omega) (by have := HT4.out.lb; omega) (Nat.le_trans HT4.out.bel.size HO5.out.size)))); clear h2 hM hO HPB))
      have hp0 := cell3_0 HP6.out.2
      have hp1 := cell3_1 HP6.out.2
      have hp2 := cell3_2 HP6.out.2
      have hpl := cell_lt HP6.out.2
      have hq0 := cell3_0 HQ6.out.2
      have hq1 := cell3_1 HQ6.out.2
      have hq2 := cell3_2 HQ6.out.2
      have hql := cell_lt HQ6.out.2
      have g0 := Wb.cell hp0 hpl
      have g1 := Wb.cell hp1 hpl
      have g2 := Wb.cell hp2 hpl
      have g3 := Wb.cell hq0 hql
      have g4 := Wb.cell hq1 hql
      have g5 := Wb.cell hq2 hql
      clear hp0 hp1 hp2 hq0 hq1 hq2
      have hgu := fun w' => Try.guardI .eql w'
      have hel : ∀ w', (binOp .eql 49 (.agg #[.int .i64 0, .int .i64 1, .bool z]) (.agg #[.int .i64 0, .int .i64 1, .bool z])).run Try.prog w' = .ok (.bool true) w' := fun w' => by rw [Try.eqlI]; simp
      refine wp_region_quiet_below (by kernel_rfl) (by kernel_rfl) ?_
      repeat (go_big_quiet_step ((go_at_call 11; exact Wb.call (HA _).out)))
      refine wpQuiet_nil ?_
      rintro _ ⟨⟨wc, HBc⟩, rfl⟩
      go_wp2_with (fail)
      go_ret
      exact ⟨rfl, HB6.out.trans (HBc.mono HB6.out.size)⟩

theorem sums_true (E L T : Int) (a : Bool) (v : Value) (ns : List Int) (w : World) (h : NsAt w v ns) (hl : ns.length ≤ maxLen) : Calls Try.prog 5 #[.agg #[.int .i64 E, .int .i64 L, .int .i64 T, .bool a], v] w fun e w' => e = .returned (.bool true) ∧ Below w.heap.size w w' := by
  by_cases hs : SpecOk 0 L T
  · rcases Nat.lt_or_ge 100 ns.length with h5 | h5
    · exact sums_long E L T a v ns w h hs h5 (by unfold maxLen at hl; omega)
    · exact sums_short E L T a v ns w h hs h5
  · exact sums_bad E L T a v ns w h hs
end Go.Proofs.Ytoplkinlgneidaa
