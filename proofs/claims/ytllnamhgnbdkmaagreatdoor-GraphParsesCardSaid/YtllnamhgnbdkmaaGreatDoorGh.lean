/-
Stage 11: the document's Read: each.
-/
import Derived.Test.YtllnamhgnbdkmaaGreatDoorGg
set_option linter.unusedVariables false
set_option linter.unusedSimpArgs false
namespace Go.Proofs.YtllnamhgnbdkmaaGreatDoor
open Go.RowKit Go.Shelf Go.Sort
def Sn (w : World) (nb b : Nat) : Prop := w.heap.size + 1 ≤ b ∧ b ≠ nb
theorem IntsAt.setNB {w W : World} {nb i : Nat} {u v : Value} {l : List Int} (h : IntsAt W (Sn w nb) v l) : IntsAt (W.setCell ⟨nb, i, none⟩ u) (Sn w nb) v l :=
  h.move fun b hb hl => ⟨hb, by simpa [World.setCell] using hl, fun o => World.cell?_of_block (a := ⟨b, o, none⟩) (Below.heap_setCell W ⟨nb, i, none⟩ u b hb.2)⟩
theorem IntsAt.one1 {w W : World} {nb : Nat} {v : Value} {l : List Int} (h : IntsAt W (Sn w nb) v l) : IntsAt W (fun b => w.heap.size + 1 ≤ b) v l := h.move fun b hb hl => ⟨hb.1, hl, fun o => rfl⟩
theorem RdW.set {w W : World} (h : RdW w W) {nb i : Nat} {u : Value} (hn : w.heap.size < nb) : RdW w (W.setCell ⟨nb, i, none⟩ u) := ⟨bl_set h.hb (Nat.le_of_lt hn), (Below.heap_setCell W ⟨nb, i, none⟩ u w.heap.size (Nat.ne_of_lt hn)).trans h.hx⟩
theorem node2_of {a x t : List UInt8} {v : Int} (h : goodN a 999 = some v) : node2 placesP a x t = (sidesP placesP x).bind fun s => if isTx t = true then some { gz 2 with ins := [v], side := s, text := t } else none := by
  unfold node2
  rw [h]
  cases sidesP placesP x with
  | none => rfl
  | some s => cases isTx t <;> rfl
theorem sides_nums (x : List UInt8) (hx : x ≠ [45]) : sidesP placesP x = (numsP 999 44 x).bind fun l => if l.length ≤ 4 ∧ risG l = true then some l else none := by
  unfold sidesP
  rw [if_neg hx, placesP_nums]
structure OneC (rest r1 : List UInt8) (ok : Bool) (o : Option Int) : Prop where
  one : ∀ W, Calls Tryz.prog 64 #[.string ⟨rest.toArray⟩] W fun e w' => (match o with
    | some v => ∃ A c, e = .returned (.tuple #[.slice A 1 c, .string ⟨r1.toArray⟩, .bool ok]) ∧ IntsAt w' (fun b => W.heap.size ≤ b) (.slice A ([v] : List Int).length c) [v]
    | none => e = .returned (.tuple #[.slice none 0 0, .string ⟨r1.toArray⟩, .bool false])) ∧ Below W.heap.size W w'
theorem oneC (rest : List UInt8) (h : rest.length ≤ 900000) : OneC rest (Lib.cut rest [32]).2.1 (Lib.cut rest [32]).2.2 (goodN (Lib.cut rest [32]).1 999) := ⟨fun W => by
  have := rone_any rest W (Nat.le_trans h (by decide))
  unfold OneOut at this
  exact this⟩
set_option maxRecDepth 100000 in
set_option maxHeartbeats 4000000 in
theorem rread_each_no (s rest r1 : List UInt8) (ok : Bool) (g : Option Int) (w : World) (o : Option Gn) (h : RdC s [101, 97, 99, 104] rest true) (h1 : OneC rest r1 ok g) (hng : ok = false ∨ g = none) (ho : o = none) :
    Calls Tryz.prog 38 #[.string ⟨s.toArray⟩] w fun e w' => LineOut w w' e o := by
  have HCUT := Lib.hid h.cut
  have HE := Lib.hid ho
  have HONE := Lib.hid h1.one
  cases g with
  | none =>
    go_enter Tryz.func38, Tryz.ntmps38
    go_wp2_with (first
      | (go_at_call 58; (with_reducible refine (HCUT.out _).mono ?_); rintro e w1 ⟨rfl, nd, rfl⟩; have HW := Lib.hid ((RdW.start w).dr nd))
      | (go_at_call 64; (with_reducible refine (HONE.out _).mono ?_); rintro e w2 ⟨he, hb2⟩; obtain rfl : e = _ := he; have HW := Lib.hid (HW.out.on hb2); have hx2 := HW.out.hx; have e2 := HW.out.lt; have c0 := cellN (i := 0) hx2 rfl; have d0 := frozN (i := 0) hx2; have c1 := cellN (i := 1) hx2 rfl; have d1 := frozN (i := 1) hx2; have c2 := cellN (i := 2) hx2 rfl; have d2 := frozN (i := 2) hx2; have c3 := cellN (i := 3) hx2 rfl; have d3 := frozN (i := 3) hx2; have c4 := cellN (i := 4) hx2 rfl; have d4 := frozN (i := 4) hx2; have c5 := cellN (i := 5) hx2 rfl; have d5 := frozN (i := 5) hx2; have c6 := cellN (i := 6) hx2 rfl; have d6 := frozN (i := 6) hx2; have c7 := cellN (i := 7) hx2 rfl; have d7 := frozN (i := 7) hx2; have c8 := cellN (i := 8) hx2 rfl; have d8 := frozN (i := 8) hx2; have c9 := cellN (i := 9) hx2 rfl; have d9 := frozN (i := 9) hx2; have c10 := cellN (i := 10) hx2 rfl; have d10 := frozN (i := 10) hx2; have c11 := cellN (i := 11) hx2 rfl; have d11 := frozN (i := 11) hx2; have c12 := cellN (i := 12) hx2 rfl; have d12 := frozN (i := 12) hx2; have c13 := cellN (i := 13) hx2 rfl; have d13 := frozN (i := 13) hx2; clear hx2; clear hb2)
      | fail)
    refine bodyPost_ret (v := .tuple #[.agg #[.int .i64 0, .slice none 0 0, .slice none 0 0, .string ⟨#[]⟩, .int .i64 0, .slice none 0 0, .int .i64 0, .int .i64 0, .int .i64 0, .int .i64 0, .int .i64 0, .int .i64 0, .int .i64 0, .bool false], .bool false]) (results_rd Tryz.results38 rfl rfl (node_told HW.out.hx)) rfl ?_
    refine ⟨⟨gz 0, none, none, none, 0, 0, 0, by rw [HE.out]; rfl, (fun v hv => by rw [HE.out] at hv; cases hv), ?_⟩, node_told_bl HW.out.hb (Nat.le_refl _)⟩
    exact (rd_end HW.out (gz_at _ _ 0)).1
  | some v =>
    obtain rfl : ok = false := by rcases hng with h | h; exact h; cases h
    go_enter Tryz.func38, Tryz.ntmps38
    go_wp2_with (first
      | (go_at_call 58; (with_reducible refine (HCUT.out _).mono ?_); rintro e w1 ⟨rfl, nd, rfl⟩; have HW := Lib.hid ((RdW.start w).dr nd))
      | (go_at_call 64; (with_reducible refine (HONE.out _).mono ?_); rintro e w2 ⟨⟨A, c, he, hia⟩, hb2⟩; obtain rfl : e = _ := he; have HIN : Hid (IntsAt w2 (fun b => w.heap.size + 1 ≤ b) (.slice A ([v] : List Int).length c) [v]) := Lib.hid (hia.move fun b hb hl => ⟨up1 HW.out hb, hl, fun o => rfl⟩); have HW := Lib.hid (HW.out.on hb2); have hx2 := HW.out.hx; have e2 := HW.out.lt; have c0 := cellN (i := 0) hx2 rfl; have d0 := frozN (i := 0) hx2; have c1 := cellN (i := 1) hx2 rfl; have d1 := frozN (i := 1) hx2; have c2 := cellN (i := 2) hx2 rfl; have d2 := frozN (i := 2) hx2; have c3 := cellN (i := 3) hx2 rfl; have d3 := frozN (i := 3) hx2; have c4 := cellN (i := 4) hx2 rfl; have d4 := frozN (i := 4) hx2; have c5 := cellN (i := 5) hx2 rfl; have d5 := frozN (i := 5) hx2; have c6 := cellN (i := 6) hx2 rfl; have d6 := frozN (i := 6) hx2; have c7 := cellN (i := 7) hx2 rfl; have d7 := frozN (i := 7) hx2; have c8 := cellN (i := 8) hx2 rfl; have d8 := frozN (i := 8) hx2; have c9 := cellN (i := 9) hx2 rfl; have d9 := frozN (i := 9) hx2; have c10 := cellN (i := 10) hx2 rfl; have d10 := frozN (i := 10) hx2; have c11 := cellN (i := 11) hx2 rfl; have d11 := frozN (i := 11) hx2; have c12 := cellN (i := 12) hx2 rfl; have d12 := frozN (i := 12) hx2; have c13 := cellN (i := 13) hx2 rfl; have d13 := frozN (i := 13) hx2; clear hx2; clear hb2 hia)
      | fail)
    refine bodyPost_ret (v := .tuple #[.agg #[.int .i64 0, .slice none 0 0, .slice none 0 0, .string ⟨#[]⟩, .int .i64 0, .slice none 0 0, .int .i64 0, .int .i64 0, .int .i64 0, .int .i64 0, .int .i64 0, .int .i64 0, .int .i64 0, .bool false], .bool false]) (results_rd Tryz.results38 rfl rfl (node_told HW.out.hx)) rfl ?_
    refine ⟨⟨gz 0, none, none, none, 0, 0, 0, by rw [HE.out]; rfl, (fun v hv => by rw [HE.out] at hv; cases hv), ?_⟩, node_told_bl HW.out.hb (Nat.le_refl _)⟩
    exact (rd_end HW.out (gz_at _ _ 0)).1
set_option maxRecDepth 100000 in
set_option maxHeartbeats 4000000 in
theorem rread_window_no (s rest r1 : List UInt8) (ok : Bool) (g : Option Int) (w : World) (o : Option Gn) (h : RdC s [119, 105, 110, 100, 111, 119] rest true) (h1 : OneC rest r1 ok g) (hng : ok = false ∨ g = none) (ho : o = none) :
    Calls Tryz.prog 38 #[.string ⟨s.toArray⟩] w fun e w' => LineOut w w' e o := by
  have HCUT := Lib.hid h.cut
  have HE := Lib.hid ho
  have HONE := Lib.hid h1.one
  cases g with
  | none =>
    go_enter Tryz.func38, Tryz.ntmps38
    go_wp2_with (first
      | (go_at_call 58; (with_reducible refine (HCUT.out _).mono ?_); rintro e w1 ⟨rfl, nd, rfl⟩; have HW := Lib.hid ((RdW.start w).dr nd))
      | (go_at_call 64; (with_reducible refine (HONE.out _).mono ?_); rintro e w2 ⟨he, hb2⟩; obtain rfl : e = _ := he; have HW := Lib.hid (HW.out.on hb2); have hx2 := HW.out.hx; have e2 := HW.out.lt; have c0 := cellN (i := 0) hx2 rfl; have d0 := frozN (i := 0) hx2; have c1 := cellN (i := 1) hx2 rfl; have d1 := frozN (i := 1) hx2; have c2 := cellN (i := 2) hx2 rfl; have d2 := frozN (i := 2) hx2; have c3 := cellN (i := 3) hx2 rfl; have d3 := frozN (i := 3) hx2; have c4 := cellN (i := 4) hx2 rfl; have d4 := frozN (i := 4) hx2; have c5 := cellN (i := 5) hx2 rfl; have d5 := frozN (i := 5) hx2; have c6 := cellN (i := 6) hx2 rfl; have d6 := frozN (i := 6) hx2; have c7 := cellN (i := 7) hx2 rfl; have d7 := frozN (i := 7) hx2; have c8 := cellN (i := 8) hx2 rfl; have d8 := frozN (i := 8) hx2; have c9 := cellN (i := 9) hx2 rfl; have d9 := frozN (i := 9) hx2; have c10 := cellN (i := 10) hx2 rfl; have d10 := frozN (i := 10) hx2; have c11 := cellN (i := 11) hx2 rfl; have d11 := frozN (i := 11) hx2; have c12 := cellN (i := 12) hx2 rfl; have d12 := frozN (i := 12) hx2; have c13 := cellN (i := 13) hx2 rfl; have d13 := frozN (i := 13) hx2; clear hx2; clear hb2)
      | fail)
    refine bodyPost_ret (v := .tuple #[.agg #[.int .i64 0, .slice none 0 0, .slice none 0 0, .string ⟨#[]⟩, .int .i64 0, .slice none 0 0, .int .i64 0, .int .i64 0, .int .i64 0, .int .i64 0, .int .i64 0, .int .i64 0, .int .i64 0, .bool false], .bool false]) (results_rd Tryz.results38 rfl rfl (node_told HW.out.hx)) rfl ?_
    refine ⟨⟨gz 0, none, none, none, 0, 0, 0, by rw [HE.out]; rfl, (fun v hv => by rw [HE.out] at hv; cases hv), ?_⟩, node_told_bl HW.out.hb (Nat.le_refl _)⟩
    exact (rd_end HW.out (gz_at _ _ 0)).1
  | some v =>
    obtain rfl : ok = false := by rcases hng with h | h; exact h; cases h
    go_enter Tryz.func38, Tryz.ntmps38
    go_wp2_with (first
      | (go_at_call 58; (with_reducible refine (HCUT.out _).mono ?_); rintro e w1 ⟨rfl, nd, rfl⟩; have HW := Lib.hid ((RdW.start w).dr nd))
      | (go_at_call 64; (with_reducible refine (HONE.out _).mono ?_); rintro e w2 ⟨⟨A, c, he, hia⟩, hb2⟩; obtain rfl : e = _ := he; have HIN : Hid (IntsAt w2 (fun b => w.heap.size + 1 ≤ b) (.slice A ([v] : List Int).length c) [v]) := Lib.hid (hia.move fun b hb hl => ⟨up1 HW.out hb, hl, fun o => rfl⟩); have HW := Lib.hid (HW.out.on hb2); have hx2 := HW.out.hx; have e2 := HW.out.lt; have c0 := cellN (i := 0) hx2 rfl; have d0 := frozN (i := 0) hx2; have c1 := cellN (i := 1) hx2 rfl; have d1 := frozN (i := 1) hx2; have c2 := cellN (i := 2) hx2 rfl; have d2 := frozN (i := 2) hx2; have c3 := cellN (i := 3) hx2 rfl; have d3 := frozN (i := 3) hx2; have c4 := cellN (i := 4) hx2 rfl; have d4 := frozN (i := 4) hx2; have c5 := cellN (i := 5) hx2 rfl; have d5 := frozN (i := 5) hx2; have c6 := cellN (i := 6) hx2 rfl; have d6 := frozN (i := 6) hx2; have c7 := cellN (i := 7) hx2 rfl; have d7 := frozN (i := 7) hx2; have c8 := cellN (i := 8) hx2 rfl; have d8 := frozN (i := 8) hx2; have c9 := cellN (i := 9) hx2 rfl; have d9 := frozN (i := 9) hx2; have c10 := cellN (i := 10) hx2 rfl; have d10 := frozN (i := 10) hx2; have c11 := cellN (i := 11) hx2 rfl; have d11 := frozN (i := 11) hx2; have c12 := cellN (i := 12) hx2 rfl; have d12 := frozN (i := 12) hx2; have c13 := cellN (i := 13) hx2 rfl; have d13 := frozN (i := 13) hx2; clear hx2; clear hb2 hia)
      | fail)
    refine bodyPost_ret (v := .tuple #[.agg #[.int .i64 0, .slice none 0 0, .slice none 0 0, .string ⟨#[]⟩, .int .i64 0, .slice none 0 0, .int .i64 0, .int .i64 0, .int .i64 0, .int .i64 0, .int .i64 0, .int .i64 0, .int .i64 0, .bool false], .bool false]) (results_rd Tryz.results38 rfl rfl (node_told HW.out.hx)) rfl ?_
    refine ⟨⟨gz 0, none, none, none, 0, 0, 0, by rw [HE.out]; rfl, (fun v hv => by rw [HE.out] at hv; cases hv), ?_⟩, node_told_bl HW.out.hb (Nat.le_refl _)⟩
    exact (rd_end HW.out (gz_at _ _ 0)).1
set_option maxRecDepth 100000 in
set_option maxHeartbeats 4000000 in
theorem rread_group_no (s rest r1 : List UInt8) (ok : Bool) (g : Option Int) (w : World) (o : Option Gn) (h : RdC s [103, 114, 111, 117, 112] rest true) (h1 : OneC rest r1 ok g) (hng : ok = false ∨ g = none) (ho : o = none) :
    Calls Tryz.prog 38 #[.string ⟨s.toArray⟩] w fun e w' => LineOut w w' e o := by
  have HCUT := Lib.hid h.cut
  have HE := Lib.hid ho
  have HONE := Lib.hid h1.one
  cases g with
  | none =>
    go_enter Tryz.func38, Tryz.ntmps38
    go_wp2_with (first
      | (go_at_call 58; (with_reducible refine (HCUT.out _).mono ?_); rintro e w1 ⟨rfl, nd, rfl⟩; have HW := Lib.hid ((RdW.start w).dr nd))
      | (go_at_call 64; (with_reducible refine (HONE.out _).mono ?_); rintro e w2 ⟨he, hb2⟩; obtain rfl : e = _ := he; have HW := Lib.hid (HW.out.on hb2); have hx2 := HW.out.hx; have e2 := HW.out.lt; have c0 := cellN (i := 0) hx2 rfl; have d0 := frozN (i := 0) hx2; have c1 := cellN (i := 1) hx2 rfl; have d1 := frozN (i := 1) hx2; have c2 := cellN (i := 2) hx2 rfl; have d2 := frozN (i := 2) hx2; have c3 := cellN (i := 3) hx2 rfl; have d3 := frozN (i := 3) hx2; have c4 := cellN (i := 4) hx2 rfl; have d4 := frozN (i := 4) hx2; have c5 := cellN (i := 5) hx2 rfl; have d5 := frozN (i := 5) hx2; have c6 := cellN (i := 6) hx2 rfl; have d6 := frozN (i := 6) hx2; have c7 := cellN (i := 7) hx2 rfl; have d7 := frozN (i := 7) hx2; have c8 := cellN (i := 8) hx2 rfl; have d8 := frozN (i := 8) hx2; have c9 := cellN (i := 9) hx2 rfl; have d9 := frozN (i := 9) hx2; have c10 := cellN (i := 10) hx2 rfl; have d10 := frozN (i := 10) hx2; have c11 := cellN (i := 11) hx2 rfl; have d11 := frozN (i := 11) hx2; have c12 := cellN (i := 12) hx2 rfl; have d12 := frozN (i := 12) hx2; have c13 := cellN (i := 13) hx2 rfl; have d13 := frozN (i := 13) hx2; clear hx2; clear hb2)
      | fail)
    refine bodyPost_ret (v := .tuple #[.agg #[.int .i64 0, .slice none 0 0, .slice none 0 0, .string ⟨#[]⟩, .int .i64 0, .slice none 0 0, .int .i64 0, .int .i64 0, .int .i64 0, .int .i64 0, .int .i64 0, .int .i64 0, .int .i64 0, .bool false], .bool false]) (results_rd Tryz.results38 rfl rfl (node_told HW.out.hx)) rfl ?_
    refine ⟨⟨gz 0, none, none, none, 0, 0, 0, by rw [HE.out]; rfl, (fun v hv => by rw [HE.out] at hv; cases hv), ?_⟩, node_told_bl HW.out.hb (Nat.le_refl _)⟩
    exact (rd_end HW.out (gz_at _ _ 0)).1
  | some v =>
    obtain rfl : ok = false := by rcases hng with h | h; exact h; cases h
    go_enter Tryz.func38, Tryz.ntmps38
    go_wp2_with (first
      | (go_at_call 58; (with_reducible refine (HCUT.out _).mono ?_); rintro e w1 ⟨rfl, nd, rfl⟩; have HW := Lib.hid ((RdW.start w).dr nd))
      | (go_at_call 64; (with_reducible refine (HONE.out _).mono ?_); rintro e w2 ⟨⟨A, c, he, hia⟩, hb2⟩; obtain rfl : e = _ := he; have HIN : Hid (IntsAt w2 (fun b => w.heap.size + 1 ≤ b) (.slice A ([v] : List Int).length c) [v]) := Lib.hid (hia.move fun b hb hl => ⟨up1 HW.out hb, hl, fun o => rfl⟩); have HW := Lib.hid (HW.out.on hb2); have hx2 := HW.out.hx; have e2 := HW.out.lt; have c0 := cellN (i := 0) hx2 rfl; have d0 := frozN (i := 0) hx2; have c1 := cellN (i := 1) hx2 rfl; have d1 := frozN (i := 1) hx2; have c2 := cellN (i := 2) hx2 rfl; have d2 := frozN (i := 2) hx2; have c3 := cellN (i := 3) hx2 rfl; have d3 := frozN (i := 3) hx2; have c4 := cellN (i := 4) hx2 rfl; have d4 := frozN (i := 4) hx2; have c5 := cellN (i := 5) hx2 rfl; have d5 := frozN (i := 5) hx2; have c6 := cellN (i := 6) hx2 rfl; have d6 := frozN (i := 6) hx2; have c7 := cellN (i := 7) hx2 rfl; have d7 := frozN (i := 7) hx2; have c8 := cellN (i := 8) hx2 rfl; have d8 := frozN (i := 8) hx2; have c9 := cellN (i := 9) hx2 rfl; have d9 := frozN (i := 9) hx2; have c10 := cellN (i := 10) hx2 rfl; have d10 := frozN (i := 10) hx2; have c11 := cellN (i := 11) hx2 rfl; have d11 := frozN (i := 11) hx2; have c12 := cellN (i := 12) hx2 rfl; have d12 := frozN (i := 12) hx2; have c13 := cellN (i := 13) hx2 rfl; have d13 := frozN (i := 13) hx2; clear hx2; clear hb2 hia)
      | fail)
    refine bodyPost_ret (v := .tuple #[.agg #[.int .i64 0, .slice none 0 0, .slice none 0 0, .string ⟨#[]⟩, .int .i64 0, .slice none 0 0, .int .i64 0, .int .i64 0, .int .i64 0, .int .i64 0, .int .i64 0, .int .i64 0, .int .i64 0, .bool false], .bool false]) (results_rd Tryz.results38 rfl rfl (node_told HW.out.hx)) rfl ?_
    refine ⟨⟨gz 0, none, none, none, 0, 0, 0, by rw [HE.out]; rfl, (fun v hv => by rw [HE.out] at hv; cases hv), ?_⟩, node_told_bl HW.out.hb (Nat.le_refl _)⟩
    exact (rd_end HW.out (gz_at _ _ 0)).1
theorem sn_of {w w4 : World} {o : Obj} {b : Nat} (hu : w.heap.size < w4.heap.size) (hb : (w4.alloc o).heap.size ≤ b) : Sn w w4.heap.size b := by
  have h9 : w4.heap.size + 1 ≤ b := by simpa using hb
  exact ⟨by omega, by omega⟩
set_option maxRecDepth 100000 in
set_option maxHeartbeats 4000000 in
theorem rread_each_dash (s rest r1 text : List UInt8) (ok2 : Bool) (v : Int) (w : World) (o : Option Gn) (h : RdC s [101, 97, 99, 104] rest true) (h1 : OneC rest r1 true (some v)) (h2 : ∀ W : World, Calls Tryz.prog 58 #[.string ⟨r1.toArray⟩, .int .u8 32] W fun e w' => e = .returned (.tuple #[.string ⟨#[45]⟩, .string ⟨text.toArray⟩, .bool ok2]) ∧ ∃ m, w' = W.drewN m) (ht : text.length ≤ 900000) (ho : o = if ok2 = true ∧ isTx text = true then some { gz 2 with ins := [v], text := text } else none) :
    Calls Tryz.prog 38 #[.string ⟨s.toArray⟩] w fun e w' => LineOut w w' e o := by
  have HCUT := Lib.hid h.cut
  have HONE := Lib.hid h1.one
  have HCU2 := Lib.hid h2
  have HTX : Hid (∀ W, Calls Tryz.prog 65 #[.string ⟨text.toArray⟩] W fun e w' => e = .returned (.bool (isTx text)) ∧ W = w') := Lib.hid fun W => rtext_any text W (Nat.le_trans ht (by decide))
  clear h h1 h2
  cases ok2 with
  | false =>
    have HE : Hid (o = none) := Lib.hid (by rw [ho, if_neg (fun h => by cases h.1)])
    clear ho
    go_enter Tryz.func38, Tryz.ntmps38
    go_upto_region 25 with (first
      | (go_at_call 58; (with_reducible refine (HCUT.out _).mono ?_); rintro e w1 ⟨rfl, nd, rfl⟩; have HW := Lib.hid ((RdW.start w).dr nd))
      | (go_at_call 64; (with_reducible refine (HONE.out _).mono ?_); rintro e w2 ⟨⟨A, c, he, hia⟩, hb2⟩; obtain rfl : e = _ := he; have HIN : Hid (IntsAt w2 (fun b => w.heap.size + 1 ≤ b) (.slice A ([v] : List Int).length c) [v]) := Lib.hid (hia.move fun b hb hl => ⟨up1 HW.out hb, hl, fun o => rfl⟩); have HW := Lib.hid (HW.out.on hb2); have hx2 := HW.out.hx; have e2 := HW.out.lt; have c0 := cellN (i := 0) hx2 rfl; have d0 := frozN (i := 0) hx2; have c1 := cellN (i := 1) hx2 rfl; have d1 := frozN (i := 1) hx2; have c2 := cellN (i := 2) hx2 rfl; have d2 := frozN (i := 2) hx2; have c3 := cellN (i := 3) hx2 rfl; have d3 := frozN (i := 3) hx2; have c4 := cellN (i := 4) hx2 rfl; have d4 := frozN (i := 4) hx2; have c5 := cellN (i := 5) hx2 rfl; have d5 := frozN (i := 5) hx2; have c6 := cellN (i := 6) hx2 rfl; have d6 := frozN (i := 6) hx2; have c7 := cellN (i := 7) hx2 rfl; have d7 := frozN (i := 7) hx2; have c8 := cellN (i := 8) hx2 rfl; have d8 := frozN (i := 8) hx2; have c9 := cellN (i := 9) hx2 rfl; have d9 := frozN (i := 9) hx2; have c10 := cellN (i := 10) hx2 rfl; have d10 := frozN (i := 10) hx2; have c11 := cellN (i := 11) hx2 rfl; have d11 := frozN (i := 11) hx2; have c12 := cellN (i := 12) hx2 rfl; have d12 := frozN (i := 12) hx2; have c13 := cellN (i := 13) hx2 rfl; have d13 := frozN (i := 13) hx2; clear hx2; clear hb2 hia)
      | (go_at_call 58; (with_reducible refine (HCU2.out _).mono ?_); rintro e w4 ⟨rfl, nd2, hw4⟩; have hb4 : Below w2.heap.size w2 w4 := (congrArg (Below w2.heap.size w2) hw4).mpr (bl_drn (Below.refl _ _) nd2); have HIN : Hid (IntsAt w4 (Sn w w4.heap.size) (.slice A ([v] : List Int).length c) [v]) := Lib.hid ((HIN.out.below hb4).move fun b hb hl => ⟨⟨hb, Nat.ne_of_lt hl⟩, hl, fun o => rfl⟩); have HW := Lib.hid (HW.out.on hb4); have hx2 := HW.out.hx; have e2 := HW.out.lt; have c0 := cellN (i := 0) hx2 rfl; have d0 := frozN (i := 0) hx2; have c1 := cellN (i := 1) hx2 rfl; have d1 := frozN (i := 1) hx2; have c2 := cellN (i := 2) hx2 rfl; have d2 := frozN (i := 2) hx2; have c3 := cellN (i := 3) hx2 rfl; have d3 := frozN (i := 3) hx2; have c4 := cellN (i := 4) hx2 rfl; have d4 := frozN (i := 4) hx2; have c5 := cellN (i := 5) hx2 rfl; have d5 := frozN (i := 5) hx2; have c6 := cellN (i := 6) hx2 rfl; have d6 := frozN (i := 6) hx2; have c7 := cellN (i := 7) hx2 rfl; have d7 := frozN (i := 7) hx2; have c8 := cellN (i := 8) hx2 rfl; have d8 := frozN (i := 8) hx2; have c9 := cellN (i := 9) hx2 rfl; have d9 := frozN (i := 9) hx2; have c10 := cellN (i := 10) hx2 rfl; have d10 := frozN (i := 10) hx2; have c11 := cellN (i := 11) hx2 rfl; have d11 := frozN (i := 11) hx2; have c12 := cellN (i := 12) hx2 rfl; have d12 := frozN (i := 12) hx2; have c13 := cellN (i := 13) hx2 rfl; have d13 := frozN (i := 13) hx2; clear hx2; clear hw4 hb4)
      | fail)
    have hn2 := heap_alloc_new w4 (.cells #[.int .i64 2, .slice A 1 c, .slice none 0 0, .string ⟨text.toArray⟩, .int .i64 0, .slice none 0 0, .int .i64 0, .int .i64 0, .int .i64 0, .int .i64 0, .int .i64 0, .int .i64 0, .int .i64 0, .bool false] 51)
    have HLT := Lib.hid HW.out.lt
    have HW := Lib.hid (HW.out.al (.cells #[.int .i64 2, .slice A 1 c, .slice none 0 0, .string ⟨text.toArray⟩, .int .i64 0, .slice none 0 0, .int .i64 0, .int .i64 0, .int .i64 0, .int .i64 0, .int .i64 0, .int .i64 0, .int .i64 0, .bool false] 51))
    have HIN := Lib.hid (HIN.out.below (bl_al (Below.refl _ _) (.cells #[.int .i64 2, .slice A 1 c, .slice none 0 0, .string ⟨text.toArray⟩, .int .i64 0, .slice none 0 0, .int .i64 0, .int .i64 0, .int .i64 0, .int .i64 0, .int .i64 0, .int .i64 0, .int .i64 0, .bool false] 51)))
    generalize w4.alloc (.cells #[.int .i64 2, .slice A 1 c, .slice none 0 0, .string ⟨text.toArray⟩, .int .i64 0, .slice none 0 0, .int .i64 0, .int .i64 0, .int .i64 0, .int .i64 0, .int .i64 0, .int .i64 0, .int .i64 0, .bool false] 51) = W1 at *
    clear c0 d0 c1 d1 c2 d2 c3 d3 c4 d4 c5 d5 c6 d6 c7 d7 c8 d8 c9 d9 c10 d10 c11 d11 c12 d12 c13 d13 e2
    have b0 := cellN (i := 0) hn2 rfl
    have b1 := cellN (i := 1) hn2 rfl
    have b2 := cellN (i := 2) hn2 rfl
    have b3 := cellN (i := 3) hn2 rfl
    have b4 := cellN (i := 4) hn2 rfl
    have b5 := cellN (i := 5) hn2 rfl
    have b6 := cellN (i := 6) hn2 rfl
    have b7 := cellN (i := 7) hn2 rfl
    have b8 := cellN (i := 8) hn2 rfl
    have b9 := cellN (i := 9) hn2 rfl
    have b10 := cellN (i := 10) hn2 rfl
    have b11 := cellN (i := 11) hn2 rfl
    have b12 := cellN (i := 12) hn2 rfl
    have b13 := cellN (i := 13) hn2 rfl
    have bd2 := frozN (i := 2) hn2
    have bl2 := cell_lt hn2
    have hx2 := HW.out.hx
    have e2 := HW.out.lt
    have c0 := cellN (i := 0) hx2 rfl
    have d0 := frozN (i := 0) hx2
    have c1 := cellN (i := 1) hx2 rfl
    have d1 := frozN (i := 1) hx2
    have c2 := cellN (i := 2) hx2 rfl
    have d2 := frozN (i := 2) hx2
    have c3 := cellN (i := 3) hx2 rfl
    have d3 := frozN (i := 3) hx2
    have c4 := cellN (i := 4) hx2 rfl
    have d4 := frozN (i := 4) hx2
    have c5 := cellN (i := 5) hx2 rfl
    have d5 := frozN (i := 5) hx2
    have c6 := cellN (i := 6) hx2 rfl
    have d6 := frozN (i := 6) hx2
    have c7 := cellN (i := 7) hx2 rfl
    have d7 := frozN (i := 7) hx2
    have c8 := cellN (i := 8) hx2 rfl
    have d8 := frozN (i := 8) hx2
    have c9 := cellN (i := 9) hx2 rfl
    have d9 := frozN (i := 9) hx2
    have c10 := cellN (i := 10) hx2 rfl
    have d10 := frozN (i := 10) hx2
    have c11 := cellN (i := 11) hx2 rfl
    have d11 := frozN (i := 11) hx2
    have c12 := cellN (i := 12) hx2 rfl
    have d12 := frozN (i := 12) hx2
    have c13 := cellN (i := 13) hx2 rfl
    have d13 := frozN (i := 13) hx2
    clear hx2
    clear hn2
    go_region
    all_goals
      go_wp2
      refine bodyPost_ret (v := .tuple #[.agg #[.int .i64 2, .slice A 1 c, .slice none 0 0, .string ⟨text.toArray⟩, .int .i64 0, .slice none 0 0, .int .i64 0, .int .i64 0, .int .i64 0, .int .i64 0, .int .i64 0, .int .i64 0, .int .i64 0, .bool false], .bool false]) (results_rd_drew Tryz.results38 rfl rfl (node_told HW.out.hx)) rfl ?_
      refine ⟨⟨{ gz 2 with ins := [v], text := text }, A, none, none, c, 0, 0, by rw [HE.out]; rfl, (fun v hv => by rw [HE.out] at hv; cases hv), ?_⟩, bl_dr (node_told_bl HW.out.hb (Nat.le_refl _))⟩
      exact (rd_end HW.out (⟨A, none, none, c, 0, 0, rfl, HIN.out.one1, IntsAt.nil _ _, tyZ_at _ _⟩)).1.below (bl_dr (Below.refl _ _))
  | true =>
    cases htx : isTx text with
    | true =>
      rw [htx] at HTX
      have HE : Hid (o = some { gz 2 with ins := [v], text := text }) := Lib.hid (by rw [ho, if_pos ⟨rfl, htx⟩])
      clear ho
      go_enter Tryz.func38, Tryz.ntmps38
      go_upto_region 25 with (first
        | (go_at_call 58; (with_reducible refine (HCUT.out _).mono ?_); rintro e w1 ⟨rfl, nd, rfl⟩; have HW := Lib.hid ((RdW.start w).dr nd))
        | (go_at_call 64; (with_reducible refine (HONE.out _).mono ?_); rintro e w2 ⟨⟨A, c, he, hia⟩, hb2⟩; obtain rfl : e = _ := he; have HIN : Hid (IntsAt w2 (fun b => w.heap.size + 1 ≤ b) (.slice A ([v] : List Int).length c) [v]) := Lib.hid (hia.move fun b hb hl => ⟨up1 HW.out hb, hl, fun o => rfl⟩); have HW := Lib.hid (HW.out.on hb2); have hx2 := HW.out.hx; have e2 := HW.out.lt; have c0 := cellN (i := 0) hx2 rfl; have d0 := frozN (i := 0) hx2; have c1 := cellN (i := 1) hx2 rfl; have d1 := frozN (i := 1) hx2; have c2 := cellN (i := 2) hx2 rfl; have d2 := frozN (i := 2) hx2; have c3 := cellN (i := 3) hx2 rfl; have d3 := frozN (i := 3) hx2; have c4 := cellN (i := 4) hx2 rfl; have d4 := frozN (i := 4) hx2; have c5 := cellN (i := 5) hx2 rfl; have d5 := frozN (i := 5) hx2; have c6 := cellN (i := 6) hx2 rfl; have d6 := frozN (i := 6) hx2; have c7 := cellN (i := 7) hx2 rfl; have d7 := frozN (i := 7) hx2; have c8 := cellN (i := 8) hx2 rfl; have d8 := frozN (i := 8) hx2; have c9 := cellN (i := 9) hx2 rfl; have d9 := frozN (i := 9) hx2; have c10 := cellN (i := 10) hx2 rfl; have d10 := frozN (i := 10) hx2; have c11 := cellN (i := 11) hx2 rfl; have d11 := frozN (i := 11) hx2; have c12 := cellN (i := 12) hx2 rfl; have d12 := frozN (i := 12) hx2; have c13 := cellN (i := 13) hx2 rfl; have d13 := frozN (i := 13) hx2; clear hx2; clear hb2 hia)
        | (go_at_call 58; (with_reducible refine (HCU2.out _).mono ?_); rintro e w4 ⟨rfl, nd2, hw4⟩; have hb4 : Below w2.heap.size w2 w4 := (congrArg (Below w2.heap.size w2) hw4).mpr (bl_drn (Below.refl _ _) nd2); have HIN : Hid (IntsAt w4 (Sn w w4.heap.size) (.slice A ([v] : List Int).length c) [v]) := Lib.hid ((HIN.out.below hb4).move fun b hb hl => ⟨⟨hb, Nat.ne_of_lt hl⟩, hl, fun o => rfl⟩); have HW := Lib.hid (HW.out.on hb4); have hx2 := HW.out.hx; have e2 := HW.out.lt; have c0 := cellN (i := 0) hx2 rfl; have d0 := frozN (i := 0) hx2; have c1 := cellN (i := 1) hx2 rfl; have d1 := frozN (i := 1) hx2; have c2 := cellN (i := 2) hx2 rfl; have d2 := frozN (i := 2) hx2; have c3 := cellN (i := 3) hx2 rfl; have d3 := frozN (i := 3) hx2; have c4 := cellN (i := 4) hx2 rfl; have d4 := frozN (i := 4) hx2; have c5 := cellN (i := 5) hx2 rfl; have d5 := frozN (i := 5) hx2; have c6 := cellN (i := 6) hx2 rfl; have d6 := frozN (i := 6) hx2; have c7 := cellN (i := 7) hx2 rfl; have d7 := frozN (i := 7) hx2; have c8 := cellN (i := 8) hx2 rfl; have d8 := frozN (i := 8) hx2; have c9 := cellN (i := 9) hx2 rfl; have d9 := frozN (i := 9) hx2; have c10 := cellN (i := 10) hx2 rfl; have d10 := frozN (i := 10) hx2; have c11 := cellN (i := 11) hx2 rfl; have d11 := frozN (i := 11) hx2; have c12 := cellN (i := 12) hx2 rfl; have d12 := frozN (i := 12) hx2; have c13 := cellN (i := 13) hx2 rfl; have d13 := frozN (i := 13) hx2; clear hx2; clear hw4 hb4)
        | fail)
      have hn2 := heap_alloc_new w4 (.cells #[.int .i64 2, .slice A 1 c, .slice none 0 0, .string ⟨text.toArray⟩, .int .i64 0, .slice none 0 0, .int .i64 0, .int .i64 0, .int .i64 0, .int .i64 0, .int .i64 0, .int .i64 0, .int .i64 0, .bool false] 51)
      have HLT := Lib.hid HW.out.lt
      have HW := Lib.hid (HW.out.al (.cells #[.int .i64 2, .slice A 1 c, .slice none 0 0, .string ⟨text.toArray⟩, .int .i64 0, .slice none 0 0, .int .i64 0, .int .i64 0, .int .i64 0, .int .i64 0, .int .i64 0, .int .i64 0, .int .i64 0, .bool false] 51))
      have HIN := Lib.hid (HIN.out.below (bl_al (Below.refl _ _) (.cells #[.int .i64 2, .slice A 1 c, .slice none 0 0, .string ⟨text.toArray⟩, .int .i64 0, .slice none 0 0, .int .i64 0, .int .i64 0, .int .i64 0, .int .i64 0, .int .i64 0, .int .i64 0, .int .i64 0, .bool false] 51)))
      generalize w4.alloc (.cells #[.int .i64 2, .slice A 1 c, .slice none 0 0, .string ⟨text.toArray⟩, .int .i64 0, .slice none 0 0, .int .i64 0, .int .i64 0, .int .i64 0, .int .i64 0, .int .i64 0, .int .i64 0, .int .i64 0, .bool false] 51) = W1 at *
      clear c0 d0 c1 d1 c2 d2 c3 d3 c4 d4 c5 d5 c6 d6 c7 d7 c8 d8 c9 d9 c10 d10 c11 d11 c12 d12 c13 d13 e2
      have b0 := cellN (i := 0) hn2 rfl
      have b1 := cellN (i := 1) hn2 rfl
      have b2 := cellN (i := 2) hn2 rfl
      have b3 := cellN (i := 3) hn2 rfl
      have b4 := cellN (i := 4) hn2 rfl
      have b5 := cellN (i := 5) hn2 rfl
      have b6 := cellN (i := 6) hn2 rfl
      have b7 := cellN (i := 7) hn2 rfl
      have b8 := cellN (i := 8) hn2 rfl
      have b9 := cellN (i := 9) hn2 rfl
      have b10 := cellN (i := 10) hn2 rfl
      have b11 := cellN (i := 11) hn2 rfl
      have b12 := cellN (i := 12) hn2 rfl
      have b13 := cellN (i := 13) hn2 rfl
      have bd2 := frozN (i := 2) hn2
      have bl2 := cell_lt hn2
      have hx2 := HW.out.hx
      have e2 := HW.out.lt
      have c0 := cellN (i := 0) hx2 rfl
      have d0 := frozN (i := 0) hx2
      have c1 := cellN (i := 1) hx2 rfl
      have d1 := frozN (i := 1) hx2
      have c2 := cellN (i := 2) hx2 rfl
      have d2 := frozN (i := 2) hx2
      have c3 := cellN (i := 3) hx2 rfl
      have d3 := frozN (i := 3) hx2
      have c4 := cellN (i := 4) hx2 rfl
      have d4 := frozN (i := 4) hx2
      have c5 := cellN (i := 5) hx2 rfl
      have d5 := frozN (i := 5) hx2
      have c6 := cellN (i := 6) hx2 rfl
      have d6 := frozN (i := 6) hx2
      have c7 := cellN (i := 7) hx2 rfl
      have d7 := frozN (i := 7) hx2
      have c8 := cellN (i := 8) hx2 rfl
      have d8 := frozN (i := 8) hx2
      have c9 := cellN (i := 9) hx2 rfl
      have d9 := frozN (i := 9) hx2
      have c10 := cellN (i := 10) hx2 rfl
      have d10 := frozN (i := 10) hx2
      have c11 := cellN (i := 11) hx2 rfl
      have d11 := frozN (i := 11) hx2
      have c12 := cellN (i := 12) hx2 rfl
      have d12 := frozN (i := 12) hx2
      have c13 := cellN (i := 13) hx2 rfl
      have d13 := frozN (i := 13) hx2
      clear hx2
      clear hn2
      go_region_with (go_at_call 65; (with_reducible refine (HTX.out _).mono ?_); rintro e w8 ⟨rfl, rfl⟩)
      all_goals
        go_wp2
        refine bodyPost_ret (v := .tuple #[.agg #[.int .i64 2, .slice A 1 c, .slice none 0 0, .string ⟨text.toArray⟩, .int .i64 0, .slice none 0 0, .int .i64 0, .int .i64 0, .int .i64 0, .int .i64 0, .int .i64 0, .int .i64 0, .int .i64 0, .bool false], .bool true]) (results_rd_drew Tryz.results38 rfl rfl (node_told HW.out.hx)) rfl ?_
        refine ⟨⟨{ gz 2 with ins := [v], text := text }, A, none, none, c, 0, 0, by rw [HE.out]; rfl, (fun v hv => by rw [HE.out] at hv; exact Option.some.inj hv), ?_⟩, bl_dr (node_told_bl HW.out.hb (Nat.le_refl _))⟩
        exact (rd_end HW.out (⟨A, none, none, c, 0, 0, rfl, HIN.out.one1, IntsAt.nil _ _, tyZ_at _ _⟩)).1.below (bl_dr (Below.refl _ _))
    | false =>
      rw [htx] at HTX
      have HE : Hid (o = none) := Lib.hid (by rw [ho, htx, if_neg (fun h => by cases h.2)])
      clear ho
      go_enter Tryz.func38, Tryz.ntmps38
      go_upto_region 25 with (first
        | (go_at_call 58; (with_reducible refine (HCUT.out _).mono ?_); rintro e w1 ⟨rfl, nd, rfl⟩; have HW := Lib.hid ((RdW.start w).dr nd))
        | (go_at_call 64; (with_reducible refine (HONE.out _).mono ?_); rintro e w2 ⟨⟨A, c, he, hia⟩, hb2⟩; obtain rfl : e = _ := he; have HIN : Hid (IntsAt w2 (fun b => w.heap.size + 1 ≤ b) (.slice A ([v] : List Int).length c) [v]) := Lib.hid (hia.move fun b hb hl => ⟨up1 HW.out hb, hl, fun o => rfl⟩); have HW := Lib.hid (HW.out.on hb2); have hx2 := HW.out.hx; have e2 := HW.out.lt; have c0 := cellN (i := 0) hx2 rfl; have d0 := frozN (i := 0) hx2; have c1 := cellN (i := 1) hx2 rfl; have d1 := frozN (i := 1) hx2; have c2 := cellN (i := 2) hx2 rfl; have d2 := frozN (i := 2) hx2; have c3 := cellN (i := 3) hx2 rfl; have d3 := frozN (i := 3) hx2; have c4 := cellN (i := 4) hx2 rfl; have d4 := frozN (i := 4) hx2; have c5 := cellN (i := 5) hx2 rfl; have d5 := frozN (i := 5) hx2; have c6 := cellN (i := 6) hx2 rfl; have d6 := frozN (i := 6) hx2; have c7 := cellN (i := 7) hx2 rfl; have d7 := frozN (i := 7) hx2; have c8 := cellN (i := 8) hx2 rfl; have d8 := frozN (i := 8) hx2; have c9 := cellN (i := 9) hx2 rfl; have d9 := frozN (i := 9) hx2; have c10 := cellN (i := 10) hx2 rfl; have d10 := frozN (i := 10) hx2; have c11 := cellN (i := 11) hx2 rfl; have d11 := frozN (i := 11) hx2; have c12 := cellN (i := 12) hx2 rfl; have d12 := frozN (i := 12) hx2; have c13 := cellN (i := 13) hx2 rfl; have d13 := frozN (i := 13) hx2; clear hx2; clear hb2 hia)
        | (go_at_call 58; (with_reducible refine (HCU2.out _).mono ?_); rintro e w4 ⟨rfl, nd2, hw4⟩; have hb4 : Below w2.heap.size w2 w4 := (congrArg (Below w2.heap.size w2) hw4).mpr (bl_drn (Below.refl _ _) nd2); have HIN : Hid (IntsAt w4 (Sn w w4.heap.size) (.slice A ([v] : List Int).length c) [v]) := Lib.hid ((HIN.out.below hb4).move fun b hb hl => ⟨⟨hb, Nat.ne_of_lt hl⟩, hl, fun o => rfl⟩); have HW := Lib.hid (HW.out.on hb4); have hx2 := HW.out.hx; have e2 := HW.out.lt; have c0 := cellN (i := 0) hx2 rfl; have d0 := frozN (i := 0) hx2; have c1 := cellN (i := 1) hx2 rfl; have d1 := frozN (i := 1) hx2; have c2 := cellN (i := 2) hx2 rfl; have d2 := frozN (i := 2) hx2; have c3 := cellN (i := 3) hx2 rfl; have d3 := frozN (i := 3) hx2; have c4 := cellN (i := 4) hx2 rfl; have d4 := frozN (i := 4) hx2; have c5 := cellN (i := 5) hx2 rfl; have d5 := frozN (i := 5) hx2; have c6 := cellN (i := 6) hx2 rfl; have d6 := frozN (i := 6) hx2; have c7 := cellN (i := 7) hx2 rfl; have d7 := frozN (i := 7) hx2; have c8 := cellN (i := 8) hx2 rfl; have d8 := frozN (i := 8) hx2; have c9 := cellN (i := 9) hx2 rfl; have d9 := frozN (i := 9) hx2; have c10 := cellN (i := 10) hx2 rfl; have d10 := frozN (i := 10) hx2; have c11 := cellN (i := 11) hx2 rfl; have d11 := frozN (i := 11) hx2; have c12 := cellN (i := 12) hx2 rfl; have d12 := frozN (i := 12) hx2; have c13 := cellN (i := 13) hx2 rfl; have d13 := frozN (i := 13) hx2; clear hx2; clear hw4 hb4)
        | fail)
      have hn2 := heap_alloc_new w4 (.cells #[.int .i64 2, .slice A 1 c, .slice none 0 0, .string ⟨text.toArray⟩, .int .i64 0, .slice none 0 0, .int .i64 0, .int .i64 0, .int .i64 0, .int .i64 0, .int .i64 0, .int .i64 0, .int .i64 0, .bool false] 51)
      have HLT := Lib.hid HW.out.lt
      have HW := Lib.hid (HW.out.al (.cells #[.int .i64 2, .slice A 1 c, .slice none 0 0, .string ⟨text.toArray⟩, .int .i64 0, .slice none 0 0, .int .i64 0, .int .i64 0, .int .i64 0, .int .i64 0, .int .i64 0, .int .i64 0, .int .i64 0, .bool false] 51))
      have HIN := Lib.hid (HIN.out.below (bl_al (Below.refl _ _) (.cells #[.int .i64 2, .slice A 1 c, .slice none 0 0, .string ⟨text.toArray⟩, .int .i64 0, .slice none 0 0, .int .i64 0, .int .i64 0, .int .i64 0, .int .i64 0, .int .i64 0, .int .i64 0, .int .i64 0, .bool false] 51)))
      generalize w4.alloc (.cells #[.int .i64 2, .slice A 1 c, .slice none 0 0, .string ⟨text.toArray⟩, .int .i64 0, .slice none 0 0, .int .i64 0, .int .i64 0, .int .i64 0, .int .i64 0, .int .i64 0, .int .i64 0, .int .i64 0, .bool false] 51) = W1 at *
      clear c0 d0 c1 d1 c2 d2 c3 d3 c4 d4 c5 d5 c6 d6 c7 d7 c8 d8 c9 d9 c10 d10 c11 d11 c12 d12 c13 d13 e2
      have b0 := cellN (i := 0) hn2 rfl
      have b1 := cellN (i := 1) hn2 rfl
      have b2 := cellN (i := 2) hn2 rfl
      have b3 := cellN (i := 3) hn2 rfl
      have b4 := cellN (i := 4) hn2 rfl
      have b5 := cellN (i := 5) hn2 rfl
      have b6 := cellN (i := 6) hn2 rfl
      have b7 := cellN (i := 7) hn2 rfl
      have b8 := cellN (i := 8) hn2 rfl
      have b9 := cellN (i := 9) hn2 rfl
      have b10 := cellN (i := 10) hn2 rfl
      have b11 := cellN (i := 11) hn2 rfl
      have b12 := cellN (i := 12) hn2 rfl
      have b13 := cellN (i := 13) hn2 rfl
      have bd2 := frozN (i := 2) hn2
      have bl2 := cell_lt hn2
      have hx2 := HW.out.hx
      have e2 := HW.out.lt
      have c0 := cellN (i := 0) hx2 rfl
      have d0 := frozN (i := 0) hx2
      have c1 := cellN (i := 1) hx2 rfl
      have d1 := frozN (i := 1) hx2
      have c2 := cellN (i := 2) hx2 rfl
      have d2 := frozN (i := 2) hx2
      have c3 := cellN (i := 3) hx2 rfl
      have d3 := frozN (i := 3) hx2
      have c4 := cellN (i := 4) hx2 rfl
      have d4 := frozN (i := 4) hx2
      have c5 := cellN (i := 5) hx2 rfl
      have d5 := frozN (i := 5) hx2
      have c6 := cellN (i := 6) hx2 rfl
      have d6 := frozN (i := 6) hx2
      have c7 := cellN (i := 7) hx2 rfl
      have d7 := frozN (i := 7) hx2
      have c8 := cellN (i := 8) hx2 rfl
      have d8 := frozN (i := 8) hx2
      have c9 := cellN (i := 9) hx2 rfl
      have d9 := frozN (i := 9) hx2
      have c10 := cellN (i := 10) hx2 rfl
      have d10 := frozN (i := 10) hx2
      have c11 := cellN (i := 11) hx2 rfl
      have d11 := frozN (i := 11) hx2
      have c12 := cellN (i := 12) hx2 rfl
      have d12 := frozN (i := 12) hx2
      have c13 := cellN (i := 13) hx2 rfl
      have d13 := frozN (i := 13) hx2
      clear hx2
      clear hn2
      go_region_with (go_at_call 65; (with_reducible refine (HTX.out _).mono ?_); rintro e w8 ⟨rfl, rfl⟩)
      all_goals
        go_wp2
        refine bodyPost_ret (v := .tuple #[.agg #[.int .i64 2, .slice A 1 c, .slice none 0 0, .string ⟨text.toArray⟩, .int .i64 0, .slice none 0 0, .int .i64 0, .int .i64 0, .int .i64 0, .int .i64 0, .int .i64 0, .int .i64 0, .int .i64 0, .bool false], .bool false]) (results_rd_drew Tryz.results38 rfl rfl (node_told HW.out.hx)) rfl ?_
        refine ⟨⟨{ gz 2 with ins := [v], text := text }, A, none, none, c, 0, 0, by rw [HE.out]; rfl, (fun v hv => by rw [HE.out] at hv; cases hv), ?_⟩, bl_dr (node_told_bl HW.out.hb (Nat.le_refl _))⟩
        exact (rd_end HW.out (⟨A, none, none, c, 0, 0, rfl, HIN.out.one1, IntsAt.nil _ _, tyZ_at _ _⟩)).1.below (bl_dr (Below.refl _ _))
end Go.Proofs.YtllnamhgnbdkmaaGreatDoor
