/-
Same of the document's answer, where both are equal; Assign of the document's answer.
-/
import Derived.Test.YtofollamkcgknaaDoorVo
set_option linter.unusedVariables false
namespace Go.Proofs.YtofollamkcgknaaDoor
open Go.RowKit

theorem below_drewN {B : Nat} {a b : World} (h : Below B a b) (n : Nat) : Below B a (b.drewN n) := ⟨h.os, h.tape, h.output, h.size, h.block⟩

set_option maxRecDepth 100000 in
set_option maxHeartbeats 1000000 in
theorem same_yes (B B' : Nat) (v v' : Value) (l : List Wn) (w : World) (h : WsAt w B v l) (h' : WsAt w B' v' l) (hl : l.length ≤ 2000000) :
    Calls Tryd.prog 18 #[v, v'] w fun e w' => e = .returned (.bool true) ∧ Below w.heap.size w w' := by
  obtain ⟨a, c, rfl, hlc, hA⟩ := h
  obtain ⟨a', c', rfl, hlc', hA'⟩ := h'
  have HA := Lib.hid hA
  have HA' := Lib.hid hA'
  clear hA hA'
  go_enter Tryd.func18, Tryd.ntmps18
  go_wp2
  go_loopw [5] (fun i wr => ∃ j : Nat, i = .int .i64 (j : Int) ∧ j ≤ l.length ∧ Hid (Below w.heap.size w wr)) (fun i _ => l.length - (intOf i).toNat)
  case atStart => exact ⟨0, rfl, Nat.zero_le _, Lib.hid (Below.refl _ _)⟩
  case round =>
    obtain ⟨j, rfl, hj, HB⟩ := hrel
    by_cases hlt : j < l.length
    · obtain ⟨b, o, rfl, hb1, hb2, hcells⟩ := HA.out (by omega)
      obtain ⟨b', o', rfl, hb1', hb2', hcells'⟩ := HA'.out (by omega)
      obtain ⟨c0, c1⟩ := ws_cells hcells hlt
      obtain ⟨d0, d1⟩ := ws_cells hcells' hlt
      clear hcells hcells'
      generalize l[j] = x at *
      obtain ⟨x1, x2⟩ := x
      dsimp only at c0 c1 d0 d1
      have c0 := (HB.out.cell (p := ⟨b, o + j * 2, none⟩) hb2).trans c0
      have c1 := (HB.out.cell (p := ⟨b, o + j * 2 + 1, none⟩) hb2).trans c1
      have d0 := (HB.out.cell (p := ⟨b', o' + j * 2, none⟩) hb2').trans d0
      have d1 := (HB.out.cell (p := ⟨b', o' + j * 2 + 1, none⟩) hb2').trans d1
      have hp : (0 : Int) ≤ (j : Int) := by omega
      have hq : decide ((j : Int) < (l.length : Int)) = true := by simp; omega
      go_wp2
      go_quiet (fail)
      go_wp2
      go_roundw
      case rel => exact ⟨j + 1, by go_num, by omega, Lib.hid (below_drewN HB.out _)⟩
      case measure => simp [intOf]; omega
    · go_wp2
      go_ret
      exact ⟨rfl, HB.out⟩

theorem emod_shift (o d s t : Int) : (o - (t - s + 1)) % d = fstA o d s t - (t - s + 1) := by unfold fstA; omega

set_option maxRecDepth 100000 in
set_option maxHeartbeats 1000000 in
theorem rassign_1 (s o t : Int) (w : World) (hd : 1 ≤ s) (hs : s ≤ s) (hs2 : s ≤ 1048576) (ho : 0 ≤ o) (ho2 : o < s) (ht : 0 ≤ t) (ht2 : t ≤ 1048576) :
    Calls Tryd.prog 20 #[.agg #[.int .i64 1, .int .i64 s, .int .i64 0, .int .i64 o], .int .i64 t] w fun e w' => WOut w.heap.size (ap (fstA o s s t) s s (numA o s s t)) e w' ∧ Below w.heap.size w w' := by
  obtain ⟨i0, hi, hq0, hq1, hq2⟩ := info_parts Tryd.infoR
  have hfi := fstA_in o s s t hd
  have HX : Hid ((o - (t - s + 1)) % s = fstA o s s t - (t - s + 1)) := Lib.hid (emod_shift o s s t)
  have HU := fun (j : Nat) => Lib.hid (up_iff o s s t hd hs j)
  have hnl := numA_le o s s t hd hs
  have hp0 := Int.emod_nonneg (o - (t - s + 1)) (show s ≠ 0 by omega)
  have hp1 := Int.emod_lt_of_pos (o - (t - s + 1)) (show 0 < s by omega)
  generalize numA o s s t = n at *
  generalize fstA o s s t = c at *
  have hM : ∃ q, (o - (t - s + 1)).tmod s = q ∧ -s < q ∧ q < s ∧ ((q < 0 ∧ q + s = c - (t - s + 1)) ∨ (0 ≤ q ∧ q = c - (t - s + 1))) := by
    have hx := HX.out
    refine ⟨_, rfl, ?_⟩
    rcases Int.lt_or_le (o - (t - s + 1)) 0 with h | h
    · by_cases hz : (o - (t - s + 1)) % s = 0
      · rw [tmod_neg0 hd hz]; omega
      · rw [tmod_neg1 hd h hz]; omega
    · rw [tmod_pos h]; omega
  obtain ⟨q, hm, hq1', hq2', hq⟩ := hM
  clear hp0 hp1
  rcases hq with ⟨hq3, hq4⟩ | ⟨hq3, hq4⟩
  · have HQ := Lib.hid hq4
    clear hq4
    go_enter Tryd.func20, Tryd.ntmps20
    go_wp2
    go_loopw [6, 8] (fun at0 vs wr => ∃ (j : Nat) (f : Int), at0 = .int .i64 f ∧ j ≤ n ∧ t - s < f ∧ f ≤ t + s ∧ Hid (f = c + s * (j : Int)) ∧ Hid (wr.ownsRow (w.heap.size + 1) 43 2 vs j (flat (ap c s s j))) ∧ Hid (Below w.heap.size w wr) ∧ Hid (wr.heap[w.heap.size]? = some (.cells #[.int .i64 1, .int .i64 s, .int .i64 0, .int .i64 o] 29 (0, 0)))) (fun _ vs _ => n - slLen vs)
    case atStart =>
      refine ⟨0, _, rfl, Nat.zero_le _, by omega, by omega, Lib.hid ?_, Lib.hid (World.ownsRow_nil _ _ _ _), Lib.hid ((Below.refl _ _).alloc (Nat.le_refl _) _), Lib.hid (heap_new_at rfl)⟩
      have := HQ.out
      simp only [Int.ofNat_zero, Int.mul_zero]; omega
    case round =>
      obtain ⟨j, f, rfl, hj, hf1, hf2, HF, HO, HB, HC⟩ := hrel
      obtain ⟨vs, rfl⟩ : ∃ vs : Value, vs = u8 := ⟨_, rfl⟩
      obtain ⟨Av, cv, rfl⟩ := own_slice HO.out
      have hsr := HB.out.size
      have hcl := cell_lt HC.out
      have b1 : wr.cell? ⟨w.heap.size, 1, none⟩ = some (.int .i64 s) := by simp [World.cell?, HC.out]
      by_cases hlt : j < n
      · have h3 : f ≤ t := by rw [HF.out]; exact (HU j).out.2 hlt
        have hd3 : decide (f ≤ t) = true := decide_eq_true h3
        go_wp2_with (at_builtin; refine wpList_append_own _ rfl _ _ 35 rfl (w.heap.size + 1) 43 i0 (.agg #[.int .i64 0, .int .i64 0]) 2 16 Tryd.underlying35 hi hq0 hq1 hq2 rfl (by decide) _ j (flat (ap c s s j)) rfl (HO.out.alloc _) ⟨wr.heap.size, 0, none⟩ 1 1 [.int .i64 f, .int .i64 (f + s)] rfl rfl (cell_two_new _ _ _ _ _ rfl) (two_one _ _) (by unfold maxLen; omega) (by omega) (by simp; omega) ?_; intro v' w7 hown7 hg7 _)
        obtain ⟨A7, c7, rfl⟩ := own_slice hown7
        go_roundw
        case rel =>
          refine ⟨j + 1, _, rfl, by omega, by omega, by omega, Lib.hid ?_, Lib.hid ?_, Lib.hid ?_, Lib.hid ?_⟩
          · have := HF.out; rw [Int.natCast_add, Int.mul_add]; omega
          · rw [ap_succ, flat_snoc, ← HF.out]; exact hown7
          · exact (HB.out.alloc (by omega) _).grown hg7 (by simp; omega) fun k hk => by have := (HO.out.lt k hk).1; omega
          · rw [hg7.block _ (by simp; omega) (fun e => by have := (HO.out.lt _ e.symm).1; omega)]
            exact heap_alloc_some HC.out
        case measure => simp [slLen]; omega
      · have h3 : ¬ f ≤ t := by rw [HF.out]; intro h; exact hlt ((HU j).out.1 h)
        have hd3 : decide (f ≤ t) = false := decide_eq_false h3
        obtain rfl : j = n := by omega
        go_wp2
        go_ret
        have hlen : (ap c s s j).length = j := ap_length _ _ _ _
        have HO2 : wr.ownsRow (w.heap.size + 1) 43 2 (.slice Av j cv) (ap c s s j).length (flat (ap c s s j)) := by rw [hlen]; exact HO.out
        exact ⟨⟨_, rfl, (WsAt.own HO2).low (by omega)⟩, HB.out⟩
  · have HQ := Lib.hid hq4
    clear hq4
    go_enter Tryd.func20, Tryd.ntmps20
    go_wp2
    go_loopw [6, 8] (fun at0 vs wr => ∃ (j : Nat) (f : Int), at0 = .int .i64 f ∧ j ≤ n ∧ t - s < f ∧ f ≤ t + s ∧ Hid (f = c + s * (j : Int)) ∧ Hid (wr.ownsRow (w.heap.size + 1) 43 2 vs j (flat (ap c s s j))) ∧ Hid (Below w.heap.size w wr) ∧ Hid (wr.heap[w.heap.size]? = some (.cells #[.int .i64 1, .int .i64 s, .int .i64 0, .int .i64 o] 29 (0, 0)))) (fun _ vs _ => n - slLen vs)
    case atStart =>
      refine ⟨0, _, rfl, Nat.zero_le _, by omega, by omega, Lib.hid ?_, Lib.hid (World.ownsRow_nil _ _ _ _), Lib.hid ((Below.refl _ _).alloc (Nat.le_refl _) _), Lib.hid (heap_new_at rfl)⟩
      have := HQ.out
      simp only [Int.ofNat_zero, Int.mul_zero]; omega
    case round =>
      obtain ⟨j, f, rfl, hj, hf1, hf2, HF, HO, HB, HC⟩ := hrel
      obtain ⟨vs, rfl⟩ : ∃ vs : Value, vs = u8 := ⟨_, rfl⟩
      obtain ⟨Av, cv, rfl⟩ := own_slice HO.out
      have hsr := HB.out.size
      have hcl := cell_lt HC.out
      have b1 : wr.cell? ⟨w.heap.size, 1, none⟩ = some (.int .i64 s) := by simp [World.cell?, HC.out]
      by_cases hlt : j < n
      · have h3 : f ≤ t := by rw [HF.out]; exact (HU j).out.2 hlt
        have hd3 : decide (f ≤ t) = true := decide_eq_true h3
        go_wp2_with (at_builtin; refine wpList_append_own _ rfl _ _ 35 rfl (w.heap.size + 1) 43 i0 (.agg #[.int .i64 0, .int .i64 0]) 2 16 Tryd.underlying35 hi hq0 hq1 hq2 rfl (by decide) _ j (flat (ap c s s j)) rfl (HO.out.alloc _) ⟨wr.heap.size, 0, none⟩ 1 1 [.int .i64 f, .int .i64 (f + s)] rfl rfl (cell_two_new _ _ _ _ _ rfl) (two_one _ _) (by unfold maxLen; omega) (by omega) (by simp; omega) ?_; intro v' w7 hown7 hg7 _)
        obtain ⟨A7, c7, rfl⟩ := own_slice hown7
        go_roundw
        case rel =>
          refine ⟨j + 1, _, rfl, by omega, by omega, by omega, Lib.hid ?_, Lib.hid ?_, Lib.hid ?_, Lib.hid ?_⟩
          · have := HF.out; rw [Int.natCast_add, Int.mul_add]; omega
          · rw [ap_succ, flat_snoc, ← HF.out]; exact hown7
          · exact (HB.out.alloc (by omega) _).grown hg7 (by simp; omega) fun k hk => by have := (HO.out.lt k hk).1; omega
          · rw [hg7.block _ (by simp; omega) (fun e => by have := (HO.out.lt _ e.symm).1; omega)]
            exact heap_alloc_some HC.out
        case measure => simp [slLen]; omega
      · have h3 : ¬ f ≤ t := by rw [HF.out]; intro h; exact hlt ((HU j).out.1 h)
        have hd3 : decide (f ≤ t) = false := decide_eq_false h3
        obtain rfl : j = n := by omega
        go_wp2
        go_ret
        have hlen : (ap c s s j).length = j := ap_length _ _ _ _
        have HO2 : wr.ownsRow (w.heap.size + 1) 43 2 (.slice Av j cv) (ap c s s j).length (flat (ap c s s j)) := by rw [hlen]; exact HO.out
        exact ⟨⟨_, rfl, (WsAt.own HO2).low (by omega)⟩, HB.out⟩

set_option maxRecDepth 100000 in
set_option maxHeartbeats 1000000 in
theorem rassign_2 (s p o t : Int) (w : World) (hd : 1 ≤ p) (hs : p ≤ s) (hs2 : s ≤ 1048576) (ho : 0 ≤ o) (ho2 : o < p) (ht : 0 ≤ t) (ht2 : t ≤ 1048576) :
    Calls Tryd.prog 20 #[.agg #[.int .i64 2, .int .i64 s, .int .i64 p, .int .i64 o], .int .i64 t] w fun e w' => WOut w.heap.size (ap (fstA o p s t) p s (numA o p s t)) e w' ∧ Below w.heap.size w w' := by
  obtain ⟨i0, hi, hq0, hq1, hq2⟩ := info_parts Tryd.infoR
  have hfi := fstA_in o p s t hd
  have HX : Hid ((o - (t - s + 1)) % p = fstA o p s t - (t - s + 1)) := Lib.hid (emod_shift o p s t)
  have HU := fun (j : Nat) => Lib.hid (up_iff o p s t hd hs j)
  have hnl := numA_le o p s t hd hs
  have hp0 := Int.emod_nonneg (o - (t - s + 1)) (show p ≠ 0 by omega)
  have hp1 := Int.emod_lt_of_pos (o - (t - s + 1)) (show 0 < p by omega)
  generalize numA o p s t = n at *
  generalize fstA o p s t = c at *
  have hM : ∃ q, (o - (t - s + 1)).tmod p = q ∧ -p < q ∧ q < p ∧ ((q < 0 ∧ q + p = c - (t - s + 1)) ∨ (0 ≤ q ∧ q = c - (t - s + 1))) := by
    have hx := HX.out
    refine ⟨_, rfl, ?_⟩
    rcases Int.lt_or_le (o - (t - s + 1)) 0 with h | h
    · by_cases hz : (o - (t - s + 1)) % p = 0
      · rw [tmod_neg0 hd hz]; omega
      · rw [tmod_neg1 hd h hz]; omega
    · rw [tmod_pos h]; omega
  obtain ⟨q, hm, hq1', hq2', hq⟩ := hM
  clear hp0 hp1
  rcases hq with ⟨hq3, hq4⟩ | ⟨hq3, hq4⟩
  · have HQ := Lib.hid hq4
    clear hq4
    go_enter Tryd.func20, Tryd.ntmps20
    go_wp2
    go_loopw [6, 8] (fun at0 vs wr => ∃ (j : Nat) (f : Int), at0 = .int .i64 f ∧ j ≤ n ∧ t - s < f ∧ f ≤ t + p ∧ Hid (f = c + p * (j : Int)) ∧ Hid (wr.ownsRow (w.heap.size + 1) 43 2 vs j (flat (ap c p s j))) ∧ Hid (Below w.heap.size w wr) ∧ Hid (wr.heap[w.heap.size]? = some (.cells #[.int .i64 2, .int .i64 s, .int .i64 p, .int .i64 o] 29 (0, 0)))) (fun _ vs _ => n - slLen vs)
    case atStart =>
      refine ⟨0, _, rfl, Nat.zero_le _, by omega, by omega, Lib.hid ?_, Lib.hid (World.ownsRow_nil _ _ _ _), Lib.hid ((Below.refl _ _).alloc (Nat.le_refl _) _), Lib.hid (heap_new_at rfl)⟩
      have := HQ.out
      simp only [Int.ofNat_zero, Int.mul_zero]; omega
    case round =>
      obtain ⟨j, f, rfl, hj, hf1, hf2, HF, HO, HB, HC⟩ := hrel
      obtain ⟨vs, rfl⟩ : ∃ vs : Value, vs = u8 := ⟨_, rfl⟩
      obtain ⟨Av, cv, rfl⟩ := own_slice HO.out
      have hsr := HB.out.size
      have hcl := cell_lt HC.out
      have b1 : wr.cell? ⟨w.heap.size, 1, none⟩ = some (.int .i64 s) := by simp [World.cell?, HC.out]
      by_cases hlt : j < n
      · have h3 : f ≤ t := by rw [HF.out]; exact (HU j).out.2 hlt
        have hd3 : decide (f ≤ t) = true := decide_eq_true h3
        go_wp2_with (at_builtin; refine wpList_append_own _ rfl _ _ 35 rfl (w.heap.size + 1) 43 i0 (.agg #[.int .i64 0, .int .i64 0]) 2 16 Tryd.underlying35 hi hq0 hq1 hq2 rfl (by decide) _ j (flat (ap c p s j)) rfl (HO.out.alloc _) ⟨wr.heap.size, 0, none⟩ 1 1 [.int .i64 f, .int .i64 (f + s)] rfl rfl (cell_two_new _ _ _ _ _ rfl) (two_one _ _) (by unfold maxLen; omega) (by omega) (by simp; omega) ?_; intro v' w7 hown7 hg7 _)
        obtain ⟨A7, c7, rfl⟩ := own_slice hown7
        go_roundw
        case rel =>
          refine ⟨j + 1, _, rfl, by omega, by omega, by omega, Lib.hid ?_, Lib.hid ?_, Lib.hid ?_, Lib.hid ?_⟩
          · have := HF.out; rw [Int.natCast_add, Int.mul_add]; omega
          · rw [ap_succ, flat_snoc, ← HF.out]; exact hown7
          · exact (HB.out.alloc (by omega) _).grown hg7 (by simp; omega) fun k hk => by have := (HO.out.lt k hk).1; omega
          · rw [hg7.block _ (by simp; omega) (fun e => by have := (HO.out.lt _ e.symm).1; omega)]
            exact heap_alloc_some HC.out
        case measure => simp [slLen]; omega
      · have h3 : ¬ f ≤ t := by rw [HF.out]; intro h; exact hlt ((HU j).out.1 h)
        have hd3 : decide (f ≤ t) = false := decide_eq_false h3
        obtain rfl : j = n := by omega
        go_wp2
        go_ret
        have hlen : (ap c p s j).length = j := ap_length _ _ _ _
        have HO2 : wr.ownsRow (w.heap.size + 1) 43 2 (.slice Av j cv) (ap c p s j).length (flat (ap c p s j)) := by rw [hlen]; exact HO.out
        exact ⟨⟨_, rfl, (WsAt.own HO2).low (by omega)⟩, HB.out⟩
  · have HQ := Lib.hid hq4
    clear hq4
    go_enter Tryd.func20, Tryd.ntmps20
    go_wp2
    go_loopw [6, 8] (fun at0 vs wr => ∃ (j : Nat) (f : Int), at0 = .int .i64 f ∧ j ≤ n ∧ t - s < f ∧ f ≤ t + p ∧ Hid (f = c + p * (j : Int)) ∧ Hid (wr.ownsRow (w.heap.size + 1) 43 2 vs j (flat (ap c p s j))) ∧ Hid (Below w.heap.size w wr) ∧ Hid (wr.heap[w.heap.size]? = some (.cells #[.int .i64 2, .int .i64 s, .int .i64 p, .int .i64 o] 29 (0, 0)))) (fun _ vs _ => n - slLen vs)
    case atStart =>
      refine ⟨0, _, rfl, Nat.zero_le _, by omega, by omega, Lib.hid ?_, Lib.hid (World.ownsRow_nil _ _ _ _), Lib.hid ((Below.refl _ _).alloc (Nat.le_refl _) _), Lib.hid (heap_new_at rfl)⟩
      have := HQ.out
      simp only [Int.ofNat_zero, Int.mul_zero]; omega
    case round =>
      obtain ⟨j, f, rfl, hj, hf1, hf2, HF, HO, HB, HC⟩ := hrel
      obtain ⟨vs, rfl⟩ : ∃ vs : Value, vs = u8 := ⟨_, rfl⟩
      obtain ⟨Av, cv, rfl⟩ := own_slice HO.out
      have hsr := HB.out.size
      have hcl := cell_lt HC.out
      have b1 : wr.cell? ⟨w.heap.size, 1, none⟩ = some (.int .i64 s) := by simp [World.cell?, HC.out]
      by_cases hlt : j < n
      · have h3 : f ≤ t := by rw [HF.out]; exact (HU j).out.2 hlt
        have hd3 : decide (f ≤ t) = true := decide_eq_true h3
        go_wp2_with (at_builtin; refine wpList_append_own _ rfl _ _ 35 rfl (w.heap.size + 1) 43 i0 (.agg #[.int .i64 0, .int .i64 0]) 2 16 Tryd.underlying35 hi hq0 hq1 hq2 rfl (by decide) _ j (flat (ap c p s j)) rfl (HO.out.alloc _) ⟨wr.heap.size, 0, none⟩ 1 1 [.int .i64 f, .int .i64 (f + s)] rfl rfl (cell_two_new _ _ _ _ _ rfl) (two_one _ _) (by unfold maxLen; omega) (by omega) (by simp; omega) ?_; intro v' w7 hown7 hg7 _)
        obtain ⟨A7, c7, rfl⟩ := own_slice hown7
        go_roundw
        case rel =>
          refine ⟨j + 1, _, rfl, by omega, by omega, by omega, Lib.hid ?_, Lib.hid ?_, Lib.hid ?_, Lib.hid ?_⟩
          · have := HF.out; rw [Int.natCast_add, Int.mul_add]; omega
          · rw [ap_succ, flat_snoc, ← HF.out]; exact hown7
          · exact (HB.out.alloc (by omega) _).grown hg7 (by simp; omega) fun k hk => by have := (HO.out.lt k hk).1; omega
          · rw [hg7.block _ (by simp; omega) (fun e => by have := (HO.out.lt _ e.symm).1; omega)]
            exact heap_alloc_some HC.out
        case measure => simp [slLen]; omega
      · have h3 : ¬ f ≤ t := by rw [HF.out]; intro h; exact hlt ((HU j).out.1 h)
        have hd3 : decide (f ≤ t) = false := decide_eq_false h3
        obtain rfl : j = n := by omega
        go_wp2
        go_ret
        have hlen : (ap c p s j).length = j := ap_length _ _ _ _
        have HO2 : wr.ownsRow (w.heap.size + 1) 43 2 (.slice Av j cv) (ap c p s j).length (flat (ap c p s j)) := by rw [hlen]; exact HO.out
        exact ⟨⟨_, rfl, (WsAt.own HO2).low (by omega)⟩, HB.out⟩

set_option maxHeartbeats 400000 in
theorem rassign_any (k s p o t : Int) (w : World) (hr : Rgt k s p o) (ht : 0 ≤ t) (ht2 : t ≤ 1048576) :
    Calls Tryd.prog 20 #[.agg #[.int .i64 k, .int .i64 s, .int .i64 p, .int .i64 o], .int .i64 t] w fun e w' => WOut w.heap.size (asg k s p o t) e w' ∧ Below w.heap.size w w' := by
  rcases hr with ⟨rfl, rfl, rfl, rfl⟩ | ⟨rfl, h1, h2, rfl, h3, h4⟩ | ⟨rfl, h1, h2, h3, h4, h5, h6, h7⟩ | ⟨rfl, h1, h2, rfl, rfl⟩
  · go_enter Tryd.func20, Tryd.ntmps20
    go_wp2
    go_ret
    exact ⟨⟨_, rfl, ws_one (heap_new_at (by simp)) (by simp)⟩, ((Below.refl _ _).alloc (Nat.le_refl _) _).alloc (by simp) _⟩
  · exact rassign_1 s o t w h1 (Int.le_refl _) h2 h3 h4 ht ht2
  · exact rassign_2 s p o t w h1 h3 h4 h6 h7 ht ht2
  · go_enter Tryd.func20, Tryd.ntmps20
    go_wp2
    go_ret
    exact ⟨⟨_, rfl, ws_one (heap_new_at (by simp)) (by simp)⟩, ((Below.refl _ _).alloc (Nat.le_refl _) _).alloc (by simp) _⟩

end Go.Proofs.YtofollamkcgknaaDoor
