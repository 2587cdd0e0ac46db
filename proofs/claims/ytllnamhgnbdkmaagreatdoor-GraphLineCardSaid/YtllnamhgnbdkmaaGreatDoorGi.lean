/-
Stage 11: the document's Read: each, with Sides.
-/
import Derived.Test.YtllnamhgnbdkmaaGreatDoorGh
set_option linter.unusedVariables false
set_option linter.unusedSimpArgs false
namespace Go.Proofs.YtllnamhgnbdkmaaGreatDoor
open Go.RowKit Go.Shelf Go.Sort
set_option maxRecDepth 100000 in
set_option maxHeartbeats 4000000 in
theorem rread_each_none (s rest r1 x text : List UInt8) (ok2 : Bool) (v : Int) (w : World) (o : Option Gn) (hx : (x == [45]) = false) (h : RdC s [101, 97, 99, 104] rest true) (h1 : OneC rest r1 true (some v)) (h2 : ∀ W : World, Calls Tryz.prog 58 #[.string ⟨r1.toArray⟩, .int .u8 32] W fun e w' => e = .returned (.tuple #[.string ⟨x.toArray⟩, .string ⟨text.toArray⟩, .bool ok2]) ∧ ∃ m, w' = W.drewN m) (ht : text.length ≤ 900000) (hnu : ∀ W, Calls Tryz.prog 62 #[.string ⟨x.toArray⟩, .int .u8 44, .int .i64 3] W fun e w' => NumsOut W w' e none ∧ Below W.heap.size W w') (ho : o = none) :
    Calls Tryz.prog 38 #[.string ⟨s.toArray⟩] w fun e w' => LineOut w w' e o := by
  have HCUT := Lib.hid h.cut
  have HONE := Lib.hid h1.one
  have HCU2 := Lib.hid h2
  have HTX : Hid (∀ W, Calls Tryz.prog 65 #[.string ⟨text.toArray⟩] W fun e w' => e = .returned (.bool (isTx text)) ∧ W = w') := Lib.hid fun W => rtext_any text W (Nat.le_trans ht (by decide))
  have HNU := Lib.hid hnu
  have HE := Lib.hid ho
  clear h h1 h2 hnu ho
  cases ok2 with
  | false =>
    go_enter Tryz.func38, Tryz.ntmps38
    go_upto_region 25 with (first
      | (go_at_call 58; (with_reducible refine (HCUT.out _).mono ?_); rintro e w1 ⟨rfl, nd, rfl⟩; have HW := Lib.hid ((RdW.start w).dr nd))
      | (go_at_call 64; (with_reducible refine (HONE.out _).mono ?_); rintro e w2 ⟨⟨A, c, he, hia⟩, hb2⟩; obtain rfl : e = _ := he; have HIN : Hid (IntsAt w2 (fun b => w.heap.size + 1 ≤ b) (.slice A ([v] : List Int).length c) [v]) := Lib.hid (hia.move fun b hb hl => ⟨up1 HW.out hb, hl, fun o => rfl⟩); have HW := Lib.hid (HW.out.on hb2); have hx2 := HW.out.hx; have e2 := HW.out.lt; have c0 := cellN (i := 0) hx2 rfl; have d0 := frozN (i := 0) hx2; have c1 := cellN (i := 1) hx2 rfl; have d1 := frozN (i := 1) hx2; have c2 := cellN (i := 2) hx2 rfl; have d2 := frozN (i := 2) hx2; have c3 := cellN (i := 3) hx2 rfl; have d3 := frozN (i := 3) hx2; have c4 := cellN (i := 4) hx2 rfl; have d4 := frozN (i := 4) hx2; have c5 := cellN (i := 5) hx2 rfl; have d5 := frozN (i := 5) hx2; have c6 := cellN (i := 6) hx2 rfl; have d6 := frozN (i := 6) hx2; have c7 := cellN (i := 7) hx2 rfl; have d7 := frozN (i := 7) hx2; have c8 := cellN (i := 8) hx2 rfl; have d8 := frozN (i := 8) hx2; have c9 := cellN (i := 9) hx2 rfl; have d9 := frozN (i := 9) hx2; have c10 := cellN (i := 10) hx2 rfl; have d10 := frozN (i := 10) hx2; have c11 := cellN (i := 11) hx2 rfl; have d11 := frozN (i := 11) hx2; have c12 := cellN (i := 12) hx2 rfl; have d12 := frozN (i := 12) hx2; have c13 := cellN (i := 13) hx2 rfl; have d13 := frozN (i := 13) hx2; clear hx2; clear hb2 hia)
      | (go_at_call 58; (with_reducible refine (HCU2.out _).mono ?_); rintro e w4 ⟨rfl, nd2, hw4⟩; have hb4 : Below w2.heap.size w2 w4 := (congrArg (Below w2.heap.size w2) hw4).mpr (bl_drn (Below.refl _ _) nd2); have HIN : Hid (IntsAt w4 (Sn w w4.heap.size) (.slice A ([v] : List Int).length c) [v]) := Lib.hid ((HIN.out.below hb4).move fun b hb hl => ⟨⟨hb, Nat.ne_of_lt hl⟩, hl, fun o => rfl⟩); have HW := Lib.hid (HW.out.on hb4); have hx2 := HW.out.hx; have e2 := HW.out.lt; have c0 := cellN (i := 0) hx2 rfl; have d0 := frozN (i := 0) hx2; have c1 := cellN (i := 1) hx2 rfl; have d1 := frozN (i := 1) hx2; have c2 := cellN (i := 2) hx2 rfl; have d2 := frozN (i := 2) hx2; have c3 := cellN (i := 3) hx2 rfl; have d3 := frozN (i := 3) hx2; have c4 := cellN (i := 4) hx2 rfl; have d4 := frozN (i := 4) hx2; have c5 := cellN (i := 5) hx2 rfl; have d5 := frozN (i := 5) hx2; have c6 := cellN (i := 6) hx2 rfl; have d6 := frozN (i := 6) hx2; have c7 := cellN (i := 7) hx2 rfl; have d7 := frozN (i := 7) hx2; have c8 := cellN (i := 8) hx2 rfl; have d8 := frozN (i := 8) hx2; have c9 := cellN (i := 9) hx2 rfl; have d9 := frozN (i := 9) hx2; have c10 := cellN (i := 10) hx2 rfl; have d10 := frozN (i := 10) hx2; have c11 := cellN (i := 11) hx2 rfl; have d11 := frozN (i := 11) hx2; have c12 := cellN (i := 12) hx2 rfl; have d12 := frozN (i := 12) hx2; have c13 := cellN (i := 13) hx2 rfl; have d13 := frozN (i := 13) hx2; clear hx2; clear hw4 hb4)
      | (go_at_call 62; (with_reducible refine (HNU.out _).mono ?_); rintro e w5 ⟨he, hb5⟩; obtain rfl : e = _ := he; have hn2 : w5.heap[w4.heap.size]? = some (.cells #[.int .i64 2, .slice A 1 c, .slice none 0 0, .string ⟨text.toArray⟩, .int .i64 0, .slice none 0 0, .int .i64 0, .int .i64 0, .int .i64 0, .int .i64 0, .int .i64 0, .int .i64 0, .int .i64 0, .bool false] 51 (0, 0)) := bl_blk hb5 (heap_alloc_new _ _); have b0 := cellN (i := 0) hn2 rfl; have b1 := cellN (i := 1) hn2 rfl; have b2 := cellN (i := 2) hn2 rfl; have b3 := cellN (i := 3) hn2 rfl; have b4 := cellN (i := 4) hn2 rfl; have b5 := cellN (i := 5) hn2 rfl; have b6 := cellN (i := 6) hn2 rfl; have b7 := cellN (i := 7) hn2 rfl; have b8 := cellN (i := 8) hn2 rfl; have b9 := cellN (i := 9) hn2 rfl; have b10 := cellN (i := 10) hn2 rfl; have b11 := cellN (i := 11) hn2 rfl; have b12 := cellN (i := 12) hn2 rfl; have b13 := cellN (i := 13) hn2 rfl; have bd2 := frozN (i := 2) hn2; have bl2 := cell_lt hn2; have HN2 := Lib.hid hn2; clear hn2; have HLT := Lib.hid HW.out.lt; have hbx : Below w4.heap.size w4 w5 := (bl_al (Below.refl _ _) _).trans (hb5.mono (by simp)); have HIN : Hid (IntsAt w5 (Sn w w4.heap.size) (.slice A ([v] : List Int).length c) [v]) := Lib.hid (HIN.out.below hbx); have HW := Lib.hid (HW.out.on hbx); have hx2 := HW.out.hx; have e2 := HW.out.lt; have c0 := cellN (i := 0) hx2 rfl; have d0 := frozN (i := 0) hx2; have c1 := cellN (i := 1) hx2 rfl; have d1 := frozN (i := 1) hx2; have c2 := cellN (i := 2) hx2 rfl; have d2 := frozN (i := 2) hx2; have c3 := cellN (i := 3) hx2 rfl; have d3 := frozN (i := 3) hx2; have c4 := cellN (i := 4) hx2 rfl; have d4 := frozN (i := 4) hx2; have c5 := cellN (i := 5) hx2 rfl; have d5 := frozN (i := 5) hx2; have c6 := cellN (i := 6) hx2 rfl; have d6 := frozN (i := 6) hx2; have c7 := cellN (i := 7) hx2 rfl; have d7 := frozN (i := 7) hx2; have c8 := cellN (i := 8) hx2 rfl; have d8 := frozN (i := 8) hx2; have c9 := cellN (i := 9) hx2 rfl; have d9 := frozN (i := 9) hx2; have c10 := cellN (i := 10) hx2 rfl; have d10 := frozN (i := 10) hx2; have c11 := cellN (i := 11) hx2 rfl; have d11 := frozN (i := 11) hx2; have c12 := cellN (i := 12) hx2 rfl; have d12 := frozN (i := 12) hx2; have c13 := cellN (i := 13) hx2 rfl; have d13 := frozN (i := 13) hx2; clear hx2; clear hb5 hbx)
      | fail)
    have hn2 : (w5.setCell ⟨w4.heap.size, 2, none⟩ (.slice none 0 0)).heap[w4.heap.size]? = some (.cells #[.int .i64 2, .slice A 1 c, .slice none 0 0, .string ⟨text.toArray⟩, .int .i64 0, .slice none 0 0, .int .i64 0, .int .i64 0, .int .i64 0, .int .i64 0, .int .i64 0, .int .i64 0, .int .i64 0, .bool false] 51 (0, 0)) := set_block (i := 2) HN2.out
    have HW := Lib.hid (HW.out.set (nb := w4.heap.size) (i := 2) (u := .slice none 0 0) HLT.out)
    have HIN := Lib.hid (HIN.out.setNB (i := 2) (u := .slice none 0 0))
    generalize (w5.setCell ⟨w4.heap.size, 2, none⟩ (.slice none 0 0)) = W1 at *
    clear c0 d0 c1 d1 c2 d2 c3 d3 c4 d4 c5 d5 c6 d6 c7 d7 c8 d8 c9 d9 c10 d10 c11 d11 c12 d12 c13 d13 b0 b1 b2 b3 b4 b5 b6 b7 b8 b9 b10 b11 b12 b13 bd2 bl2 e2
    have b0 := cellN (i := 0) hn2 rfl
    have b1 := cellN (i := 1) hn2 rfl
    have b2 := cellN (i := 2) hn2 rfl
    have b3 := cellN (i := 3) hn2 rfl
    have b4 := cellN (i := 4) hn2 rfl
    have b5 := cellN (i := 5) hn2 rfl
    have b6 := cellN (i := 6) hn2 rfl
    have b7 := cellN (i := 7) hn2 rfl
    have b8 := cellN (i := 8) hn2 rfl
    have b9 := cellN (i := 9) hn2 rfl
    have b10 := cellN (i := 10) hn2 rfl
    have b11 := cellN (i := 11) hn2 rfl
    have b12 := cellN (i := 12) hn2 rfl
    have b13 := cellN (i := 13) hn2 rfl
    have bd2 := frozN (i := 2) hn2
    have bl2 := cell_lt hn2
    have hx2 := HW.out.hx
    have e2 := HW.out.lt
    have c0 := cellN (i := 0) hx2 rfl
    have d0 := frozN (i := 0) hx2
    have c1 := cellN (i := 1) hx2 rfl
    have d1 := frozN (i := 1) hx2
    have c2 := cellN (i := 2) hx2 rfl
    have d2 := frozN (i := 2) hx2
    have c3 := cellN (i := 3) hx2 rfl
    have d3 := frozN (i := 3) hx2
    have c4 := cellN (i := 4) hx2 rfl
    have d4 := frozN (i := 4) hx2
    have c5 := cellN (i := 5) hx2 rfl
    have d5 := frozN (i := 5) hx2
    have c6 := cellN (i := 6) hx2 rfl
    have d6 := frozN (i := 6) hx2
    have c7 := cellN (i := 7) hx2 rfl
    have d7 := frozN (i := 7) hx2
    have c8 := cellN (i := 8) hx2 rfl
    have d8 := frozN (i := 8) hx2
    have c9 := cellN (i := 9) hx2 rfl
    have d9 := frozN (i := 9) hx2
    have c10 := cellN (i := 10) hx2 rfl
    have d10 := frozN (i := 10) hx2
    have c11 := cellN (i := 11) hx2 rfl
    have d11 := frozN (i := 11) hx2
    have c12 := cellN (i := 12) hx2 rfl
    have d12 := frozN (i := 12) hx2
    have c13 := cellN (i := 13) hx2 rfl
    have d13 := frozN (i := 13) hx2
    clear hx2
    clear hn2
    go_region
    all_goals
      go_wp2
      refine bodyPost_ret (v := .tuple #[.agg #[.int .i64 2, .slice A 1 c, .slice none 0 0, .string ⟨text.toArray⟩, .int .i64 0, .slice none 0 0, .int .i64 0, .int .i64 0, .int .i64 0, .int .i64 0, .int .i64 0, .int .i64 0, .int .i64 0, .bool false], .bool false]) (results_rd_drew Tryz.results38 rfl rfl (node_told HW.out.hx)) rfl ?_
      refine ⟨⟨{ gz 2 with ins := [v], text := text }, A, none, none, c, 0, 0, by rw [HE.out]; rfl, (fun v hv => by rw [HE.out] at hv; cases hv), ?_⟩, bl_dr (node_told_bl HW.out.hb (Nat.le_refl _))⟩
      exact (rd_end HW.out (⟨A, none, none, c, 0, 0, rfl, HIN.out.one1, IntsAt.nil _ _, tyZ_at _ _⟩)).1.below (bl_dr (Below.refl _ _))
  | true =>
    go_enter Tryz.func38, Tryz.ntmps38
    go_upto_region 25 with (first
      | (go_at_call 58; (with_reducible refine (HCUT.out _).mono ?_); rintro e w1 ⟨rfl, nd, rfl⟩; have HW := Lib.hid ((RdW.start w).dr nd))
      | (go_at_call 64; (with_reducible refine (HONE.out _).mono ?_); rintro e w2 ⟨⟨A, c, he, hia⟩, hb2⟩; obtain rfl : e = _ := he; have HIN : Hid (IntsAt w2 (fun b => w.heap.size + 1 ≤ b) (.slice A ([v] : List Int).length c) [v]) := Lib.hid (hia.move fun b hb hl => ⟨up1 HW.out hb, hl, fun o => rfl⟩); have HW := Lib.hid (HW.out.on hb2); have hx2 := HW.out.hx; have e2 := HW.out.lt; have c0 := cellN (i := 0) hx2 rfl; have d0 := frozN (i := 0) hx2; have c1 := cellN (i := 1) hx2 rfl; have d1 := frozN (i := 1) hx2; have c2 := cellN (i := 2) hx2 rfl; have d2 := frozN (i := 2) hx2; have c3 := cellN (i := 3) hx2 rfl; have d3 := frozN (i := 3) hx2; have c4 := cellN (i := 4) hx2 rfl; have d4 := frozN (i := 4) hx2; have c5 := cellN (i := 5) hx2 rfl; have d5 := frozN (i := 5) hx2; have c6 := cellN (i := 6) hx2 rfl; have d6 := frozN (i := 6) hx2; have c7 := cellN (i := 7) hx2 rfl; have d7 := frozN (i := 7) hx2; have c8 := cellN (i := 8) hx2 rfl; have d8 := frozN (i := 8) hx2; have c9 := cellN (i := 9) hx2 rfl; have d9 := frozN (i := 9) hx2; have c10 := cellN (i := 10) hx2 rfl; have d10 := frozN (i := 10) hx2; have c11 := cellN (i := 11) hx2 rfl; have d11 := frozN (i := 11) hx2; have c12 := cellN (i := 12) hx2 rfl; have d12 := frozN (i := 12) hx2; have c13 := cellN (i := 13) hx2 rfl; have d13 := frozN (i := 13) hx2; clear hx2; clear hb2 hia)
      | (go_at_call 58; (with_reducible refine (HCU2.out _).mono ?_); rintro e w4 ⟨rfl, nd2, hw4⟩; have hb4 : Below w2.heap.size w2 w4 := (congrArg (Below w2.heap.size w2) hw4).mpr (bl_drn (Below.refl _ _) nd2); have HIN : Hid (IntsAt w4 (Sn w w4.heap.size) (.slice A ([v] : List Int).length c) [v]) := Lib.hid ((HIN.out.below hb4).move fun b hb hl => ⟨⟨hb, Nat.ne_of_lt hl⟩, hl, fun o => rfl⟩); have HW := Lib.hid (HW.out.on hb4); have hx2 := HW.out.hx; have e2 := HW.out.lt; have c0 := cellN (i := 0) hx2 rfl; have d0 := frozN (i := 0) hx2; have c1 := cellN (i := 1) hx2 rfl; have d1 := frozN (i := 1) hx2; have c2 := cellN (i := 2) hx2 rfl; have d2 := frozN (i := 2) hx2; have c3 := cellN (i := 3) hx2 rfl; have d3 := frozN (i := 3) hx2; have c4 := cellN (i := 4) hx2 rfl; have d4 := frozN (i := 4) hx2; have c5 := cellN (i := 5) hx2 rfl; have d5 := frozN (i := 5) hx2; have c6 := cellN (i := 6) hx2 rfl; have d6 := frozN (i := 6) hx2; have c7 := cellN (i := 7) hx2 rfl; have d7 := frozN (i := 7) hx2; have c8 := cellN (i := 8) hx2 rfl; have d8 := frozN (i := 8) hx2; have c9 := cellN (i := 9) hx2 rfl; have d9 := frozN (i := 9) hx2; have c10 := cellN (i := 10) hx2 rfl; have d10 := frozN (i := 10) hx2; have c11 := cellN (i := 11) hx2 rfl; have d11 := frozN (i := 11) hx2; have c12 := cellN (i := 12) hx2 rfl; have d12 := frozN (i := 12) hx2; have c13 := cellN (i := 13) hx2 rfl; have d13 := frozN (i := 13) hx2; clear hx2; clear hw4 hb4)
      | (go_at_call 62; (with_reducible refine (HNU.out _).mono ?_); rintro e w5 ⟨he, hb5⟩; obtain rfl : e = _ := he; have hn2 : w5.heap[w4.heap.size]? = some (.cells #[.int .i64 2, .slice A 1 c, .slice none 0 0, .string ⟨text.toArray⟩, .int .i64 0, .slice none 0 0, .int .i64 0, .int .i64 0, .int .i64 0, .int .i64 0, .int .i64 0, .int .i64 0, .int .i64 0, .bool false] 51 (0, 0)) := bl_blk hb5 (heap_alloc_new _ _); have b0 := cellN (i := 0) hn2 rfl; have b1 := cellN (i := 1) hn2 rfl; have b2 := cellN (i := 2) hn2 rfl; have b3 := cellN (i := 3) hn2 rfl; have b4 := cellN (i := 4) hn2 rfl; have b5 := cellN (i := 5) hn2 rfl; have b6 := cellN (i := 6) hn2 rfl; have b7 := cellN (i := 7) hn2 rfl; have b8 := cellN (i := 8) hn2 rfl; have b9 := cellN (i := 9) hn2 rfl; have b10 := cellN (i := 10) hn2 rfl; have b11 := cellN (i := 11) hn2 rfl; have b12 := cellN (i := 12) hn2 rfl; have b13 := cellN (i := 13) hn2 rfl; have bd2 := frozN (i := 2) hn2; have bl2 := cell_lt hn2; have HN2 := Lib.hid hn2; clear hn2; have HLT := Lib.hid HW.out.lt; have hbx : Below w4.heap.size w4 w5 := (bl_al (Below.refl _ _) _).trans (hb5.mono (by simp)); have HIN : Hid (IntsAt w5 (Sn w w4.heap.size) (.slice A ([v] : List Int).length c) [v]) := Lib.hid (HIN.out.below hbx); have HW := Lib.hid (HW.out.on hbx); have hx2 := HW.out.hx; have e2 := HW.out.lt; have c0 := cellN (i := 0) hx2 rfl; have d0 := frozN (i := 0) hx2; have c1 := cellN (i := 1) hx2 rfl; have d1 := frozN (i := 1) hx2; have c2 := cellN (i := 2) hx2 rfl; have d2 := frozN (i := 2) hx2; have c3 := cellN (i := 3) hx2 rfl; have d3 := frozN (i := 3) hx2; have c4 := cellN (i := 4) hx2 rfl; have d4 := frozN (i := 4) hx2; have c5 := cellN (i := 5) hx2 rfl; have d5 := frozN (i := 5) hx2; have c6 := cellN (i := 6) hx2 rfl; have d6 := frozN (i := 6) hx2; have c7 := cellN (i := 7) hx2 rfl; have d7 := frozN (i := 7) hx2; have c8 := cellN (i := 8) hx2 rfl; have d8 := frozN (i := 8) hx2; have c9 := cellN (i := 9) hx2 rfl; have d9 := frozN (i := 9) hx2; have c10 := cellN (i := 10) hx2 rfl; have d10 := frozN (i := 10) hx2; have c11 := cellN (i := 11) hx2 rfl; have d11 := frozN (i := 11) hx2; have c12 := cellN (i := 12) hx2 rfl; have d12 := frozN (i := 12) hx2; have c13 := cellN (i := 13) hx2 rfl; have d13 := frozN (i := 13) hx2; clear hx2; clear hb5 hbx)
      | fail)
    have hn2 : (w5.setCell ⟨w4.heap.size, 2, none⟩ (.slice none 0 0)).heap[w4.heap.size]? = some (.cells #[.int .i64 2, .slice A 1 c, .slice none 0 0, .string ⟨text.toArray⟩, .int .i64 0, .slice none 0 0, .int .i64 0, .int .i64 0, .int .i64 0, .int .i64 0, .int .i64 0, .int .i64 0, .int .i64 0, .bool false] 51 (0, 0)) := set_block (i := 2) HN2.out
    have HW := Lib.hid (HW.out.set (nb := w4.heap.size) (i := 2) (u := .slice none 0 0) HLT.out)
    have HIN := Lib.hid (HIN.out.setNB (i := 2) (u := .slice none 0 0))
    generalize (w5.setCell ⟨w4.heap.size, 2, none⟩ (.slice none 0 0)) = W1 at *
    clear c0 d0 c1 d1 c2 d2 c3 d3 c4 d4 c5 d5 c6 d6 c7 d7 c8 d8 c9 d9 c10 d10 c11 d11 c12 d12 c13 d13 b0 b1 b2 b3 b4 b5 b6 b7 b8 b9 b10 b11 b12 b13 bd2 bl2 e2
    have b0 := cellN (i := 0) hn2 rfl
    have b1 := cellN (i := 1) hn2 rfl
    have b2 := cellN (i := 2) hn2 rfl
    have b3 := cellN (i := 3) hn2 rfl
    have b4 := cellN (i := 4) hn2 rfl
    have b5 := cellN (i := 5) hn2 rfl
    have b6 := cellN (i := 6) hn2 rfl
    have b7 := cellN (i := 7) hn2 rfl
    have b8 := cellN (i := 8) hn2 rfl
    have b9 := cellN (i := 9) hn2 rfl
    have b10 := cellN (i := 10) hn2 rfl
    have b11 := cellN (i := 11) hn2 rfl
    have b12 := cellN (i := 12) hn2 rfl
    have b13 := cellN (i := 13) hn2 rfl
    have bd2 := frozN (i := 2) hn2
    have bl2 := cell_lt hn2
    have hx2 := HW.out.hx
    have e2 := HW.out.lt
    have c0 := cellN (i := 0) hx2 rfl
    have d0 := frozN (i := 0) hx2
    have c1 := cellN (i := 1) hx2 rfl
    have d1 := frozN (i := 1) hx2
    have c2 := cellN (i := 2) hx2 rfl
    have d2 := frozN (i := 2) hx2
    have c3 := cellN (i := 3) hx2 rfl
    have d3 := frozN (i := 3) hx2
    have c4 := cellN (i := 4) hx2 rfl
    have d4 := frozN (i := 4) hx2
    have c5 := cellN (i := 5) hx2 rfl
    have d5 := frozN (i := 5) hx2
    have c6 := cellN (i := 6) hx2 rfl
    have d6 := frozN (i := 6) hx2
    have c7 := cellN (i := 7) hx2 rfl
    have d7 := frozN (i := 7) hx2
    have c8 := cellN (i := 8) hx2 rfl
    have d8 := frozN (i := 8) hx2
    have c9 := cellN (i := 9) hx2 rfl
    have d9 := frozN (i := 9) hx2
    have c10 := cellN (i := 10) hx2 rfl
    have d10 := frozN (i := 10) hx2
    have c11 := cellN (i := 11) hx2 rfl
    have d11 := frozN (i := 11) hx2
    have c12 := cellN (i := 12) hx2 rfl
    have d12 := frozN (i := 12) hx2
    have c13 := cellN (i := 13) hx2 rfl
    have d13 := frozN (i := 13) hx2
    clear hx2
    clear hn2
    go_region
    all_goals
      go_wp2
      refine bodyPost_ret (v := .tuple #[.agg #[.int .i64 2, .slice A 1 c, .slice none 0 0, .string ⟨text.toArray⟩, .int .i64 0, .slice none 0 0, .int .i64 0, .int .i64 0, .int .i64 0, .int .i64 0, .int .i64 0, .int .i64 0, .int .i64 0, .bool false], .bool false]) (results_rd_drew Tryz.results38 rfl rfl (node_told HW.out.hx)) rfl ?_
      refine ⟨⟨{ gz 2 with ins := [v], text := text }, A, none, none, c, 0, 0, by rw [HE.out]; rfl, (fun v hv => by rw [HE.out] at hv; cases hv), ?_⟩, bl_dr (node_told_bl HW.out.hb (Nat.le_refl _))⟩
      exact (rd_end HW.out (⟨A, none, none, c, 0, 0, rfl, HIN.out.one1, IntsAt.nil _ _, tyZ_at _ _⟩)).1.below (bl_dr (Below.refl _ _))
set_option maxRecDepth 100000 in
set_option maxHeartbeats 4000000 in
theorem rread_each_some (s rest r1 x text : List UInt8) (ok2 : Bool) (v : Int) (l : List Int) (RB : Bool) (hl : l.length ≤ 900001) (w : World) (o : Option Gn) (hx : (x == [45]) = false) (h : RdC s [101, 97, 99, 104] rest true) (h1 : OneC rest r1 true (some v)) (h2 : ∀ W : World, Calls Tryz.prog 58 #[.string ⟨r1.toArray⟩, .int .u8 32] W fun e w' => e = .returned (.tuple #[.string ⟨x.toArray⟩, .string ⟨text.toArray⟩, .bool ok2]) ∧ ∃ m, w' = W.drewN m) (ht : text.length ≤ 900000) (hnu : ∀ W, Calls Tryz.prog 62 #[.string ⟨x.toArray⟩, .int .u8 44, .int .i64 3] W fun e w' => NumsOut W w' e (some l) ∧ Below W.heap.size W w') (hr : (risG l && decide ((1 : Int) ≤ l.length ∧ (l.length : Int) ≤ 4)) = RB) (ho : o = if ok2 = true ∧ RB = true ∧ isTx text = true then some { gz 2 with ins := [v], side := l, text := text } else none) :
    Calls Tryz.prog 38 #[.string ⟨s.toArray⟩] w fun e w' => LineOut w w' e o := by
  have HCUT := Lib.hid h.cut
  have HONE := Lib.hid h1.one
  have HCU2 := Lib.hid h2
  have HTX : Hid (∀ W, Calls Tryz.prog 65 #[.string ⟨text.toArray⟩] W fun e w' => e = .returned (.bool (isTx text)) ∧ W = w') := Lib.hid fun W => rtext_any text W (Nat.le_trans ht (by decide))
  have HNU := Lib.hid hnu
  have HR := Lib.hid hr
  clear h h1 h2 hnu hr
  cases RB with
  | false =>
    have HE : Hid (o = none) := Lib.hid (by rw [ho, if_neg (fun h => by cases h.2.1)])
    clear ho
    cases ok2 with
    | false =>
      go_enter Tryz.func38, Tryz.ntmps38
      go_upto_region 25 with (first
        | (go_at_call 58; (with_reducible refine (HCUT.out _).mono ?_); rintro e w1 ⟨rfl, nd, rfl⟩; have HW := Lib.hid ((RdW.start w).dr nd))
        | (go_at_call 64; (with_reducible refine (HONE.out _).mono ?_); rintro e w2 ⟨⟨A, c, he, hia⟩, hb2⟩; obtain rfl : e = _ := he; have HIN : Hid (IntsAt w2 (fun b => w.heap.size + 1 ≤ b) (.slice A ([v] : List Int).length c) [v]) := Lib.hid (hia.move fun b hb hl => ⟨up1 HW.out hb, hl, fun o => rfl⟩); have HW := Lib.hid (HW.out.on hb2); have hx2 := HW.out.hx; have e2 := HW.out.lt; have c0 := cellN (i := 0) hx2 rfl; have d0 := frozN (i := 0) hx2; have c1 := cellN (i := 1) hx2 rfl; have d1 := frozN (i := 1) hx2; have c2 := cellN (i := 2) hx2 rfl; have d2 := frozN (i := 2) hx2; have c3 := cellN (i := 3) hx2 rfl; have d3 := frozN (i := 3) hx2; have c4 := cellN (i := 4) hx2 rfl; have d4 := frozN (i := 4) hx2; have c5 := cellN (i := 5) hx2 rfl; have d5 := frozN (i := 5) hx2; have c6 := cellN (i := 6) hx2 rfl; have d6 := frozN (i := 6) hx2; have c7 := cellN (i := 7) hx2 rfl; have d7 := frozN (i := 7) hx2; have c8 := cellN (i := 8) hx2 rfl; have d8 := frozN (i := 8) hx2; have c9 := cellN (i := 9) hx2 rfl; have d9 := frozN (i := 9) hx2; have c10 := cellN (i := 10) hx2 rfl; have d10 := frozN (i := 10) hx2; have c11 := cellN (i := 11) hx2 rfl; have d11 := frozN (i := 11) hx2; have c12 := cellN (i := 12) hx2 rfl; have d12 := frozN (i := 12) hx2; have c13 := cellN (i := 13) hx2 rfl; have d13 := frozN (i := 13) hx2; clear hx2; clear hb2 hia)
        | (go_at_call 58; (with_reducible refine (HCU2.out _).mono ?_); rintro e w4 ⟨rfl, nd2, hw4⟩; have hb4 : Below w2.heap.size w2 w4 := (congrArg (Below w2.heap.size w2) hw4).mpr (bl_drn (Below.refl _ _) nd2); have HIN : Hid (IntsAt w4 (Sn w w4.heap.size) (.slice A ([v] : List Int).length c) [v]) := Lib.hid ((HIN.out.below hb4).move fun b hb hl => ⟨⟨hb, Nat.ne_of_lt hl⟩, hl, fun o => rfl⟩); have HW := Lib.hid (HW.out.on hb4); have hx2 := HW.out.hx; have e2 := HW.out.lt; have c0 := cellN (i := 0) hx2 rfl; have d0 := frozN (i := 0) hx2; have c1 := cellN (i := 1) hx2 rfl; have d1 := frozN (i := 1) hx2; have c2 := cellN (i := 2) hx2 rfl; have d2 := frozN (i := 2) hx2; have c3 := cellN (i := 3) hx2 rfl; have d3 := frozN (i := 3) hx2; have c4 := cellN (i := 4) hx2 rfl; have d4 := frozN (i := 4) hx2; have c5 := cellN (i := 5) hx2 rfl; have d5 := frozN (i := 5) hx2; have c6 := cellN (i := 6) hx2 rfl; have d6 := frozN (i := 6) hx2; have c7 := cellN (i := 7) hx2 rfl; have d7 := frozN (i := 7) hx2; have c8 := cellN (i := 8) hx2 rfl; have d8 := frozN (i := 8) hx2; have c9 := cellN (i := 9) hx2 rfl; have d9 := frozN (i := 9) hx2; have c10 := cellN (i := 10) hx2 rfl; have d10 := frozN (i := 10) hx2; have c11 := cellN (i := 11) hx2 rfl; have d11 := frozN (i := 11) hx2; have c12 := cellN (i := 12) hx2 rfl; have d12 := frozN (i := 12) hx2; have c13 := cellN (i := 13) hx2 rfl; have d13 := frozN (i := 13) hx2; clear hx2; clear hw4 hb4)
        | (go_at_call 62; (with_reducible refine (HNU.out _).mono ?_); rintro e w5 ⟨⟨SA, sc, he, hia⟩, hb5⟩; obtain rfl : e = _ := he; have hn2 : w5.heap[w4.heap.size]? = some (.cells #[.int .i64 2, .slice A 1 c, .slice none 0 0, .string ⟨text.toArray⟩, .int .i64 0, .slice none 0 0, .int .i64 0, .int .i64 0, .int .i64 0, .int .i64 0, .int .i64 0, .int .i64 0, .int .i64 0, .bool false] 51 (0, 0)) := bl_blk hb5 (heap_alloc_new _ _); have b0 := cellN (i := 0) hn2 rfl; have b1 := cellN (i := 1) hn2 rfl; have b2 := cellN (i := 2) hn2 rfl; have b3 := cellN (i := 3) hn2 rfl; have b4 := cellN (i := 4) hn2 rfl; have b5 := cellN (i := 5) hn2 rfl; have b6 := cellN (i := 6) hn2 rfl; have b7 := cellN (i := 7) hn2 rfl; have b8 := cellN (i := 8) hn2 rfl; have b9 := cellN (i := 9) hn2 rfl; have b10 := cellN (i := 10) hn2 rfl; have b11 := cellN (i := 11) hn2 rfl; have b12 := cellN (i := 12) hn2 rfl; have b13 := cellN (i := 13) hn2 rfl; have bd2 := frozN (i := 2) hn2; have bl2 := cell_lt hn2; have HN2 := Lib.hid hn2; clear hn2; have HLT := Lib.hid HW.out.lt; have hbx : Below w4.heap.size w4 w5 := (bl_al (Below.refl _ _) _).trans (hb5.mono (by simp)); have HIS : Hid (IntsAt w5 (Sn w w4.heap.size) (.slice SA l.length sc) l) := Lib.hid (hia.move fun b hb hl => ⟨sn_of HLT.out hb, hl, fun o => rfl⟩); have HIN : Hid (IntsAt w5 (Sn w w4.heap.size) (.slice A ([v] : List Int).length c) [v]) := Lib.hid (HIN.out.below hbx); have HW := Lib.hid (HW.out.on hbx); have hx2 := HW.out.hx; have e2 := HW.out.lt; have c0 := cellN (i := 0) hx2 rfl; have d0 := frozN (i := 0) hx2; have c1 := cellN (i := 1) hx2 rfl; have d1 := frozN (i := 1) hx2; have c2 := cellN (i := 2) hx2 rfl; have d2 := frozN (i := 2) hx2; have c3 := cellN (i := 3) hx2 rfl; have d3 := frozN (i := 3) hx2; have c4 := cellN (i := 4) hx2 rfl; have d4 := frozN (i := 4) hx2; have c5 := cellN (i := 5) hx2 rfl; have d5 := frozN (i := 5) hx2; have c6 := cellN (i := 6) hx2 rfl; have d6 := frozN (i := 6) hx2; have c7 := cellN (i := 7) hx2 rfl; have d7 := frozN (i := 7) hx2; have c8 := cellN (i := 8) hx2 rfl; have d8 := frozN (i := 8) hx2; have c9 := cellN (i := 9) hx2 rfl; have d9 := frozN (i := 9) hx2; have c10 := cellN (i := 10) hx2 rfl; have d10 := frozN (i := 10) hx2; have c11 := cellN (i := 11) hx2 rfl; have d11 := frozN (i := 11) hx2; have c12 := cellN (i := 12) hx2 rfl; have d12 := frozN (i := 12) hx2; have c13 := cellN (i := 13) hx2 rfl; have d13 := frozN (i := 13) hx2; clear hx2; clear hb5 hbx hia)
        | (go_at_call 63; (with_reducible refine (rrises_any _ _ _ l 1 4 (HIS.out.setNB (i := 2)) (by omega)).mono ?_); rintro e w6 ⟨he, q, rfl⟩; obtain rfl : e = .returned (.bool false) := he.trans (by rw [HR.out]))
        | fail)
      have hn2 : (w5.setCell ⟨w4.heap.size, 2, none⟩ (.slice SA l.length sc)).heap[w4.heap.size]? = some (.cells #[.int .i64 2, .slice A 1 c, .slice SA l.length sc, .string ⟨text.toArray⟩, .int .i64 0, .slice none 0 0, .int .i64 0, .int .i64 0, .int .i64 0, .int .i64 0, .int .i64 0, .int .i64 0, .int .i64 0, .bool false] 51 (0, 0)) := set_block (i := 2) HN2.out
      have HW := Lib.hid (HW.out.set (nb := w4.heap.size) (i := 2) (u := .slice SA l.length sc) HLT.out)
      have HIN := Lib.hid (HIN.out.setNB (i := 2) (u := .slice SA l.length sc))
      have HIS := Lib.hid (HIS.out.setNB (i := 2) (u := .slice SA l.length sc))
      have hn2 : ((w5.setCell ⟨w4.heap.size, 2, none⟩ (.slice SA l.length sc)).drewN q).heap[w4.heap.size]? = _ := hn2
      have HW := Lib.hid (HW.out.dr q)
      have HIN := Lib.hid (HIN.out.below (bl_drn (Below.refl _ _) q))
      have HIS := Lib.hid (HIS.out.below (bl_drn (Below.refl _ _) q))
      generalize ((w5.setCell ⟨w4.heap.size, 2, none⟩ (.slice SA l.length sc)).drewN q) = W1 at *
      clear c0 d0 c1 d1 c2 d2 c3 d3 c4 d4 c5 d5 c6 d6 c7 d7 c8 d8 c9 d9 c10 d10 c11 d11 c12 d12 c13 d13 b0 b1 b2 b3 b4 b5 b6 b7 b8 b9 b10 b11 b12 b13 bd2 bl2 e2
      have b0 := cellN (i := 0) hn2 rfl
      have b1 := cellN (i := 1) hn2 rfl
      have b2 := cellN (i := 2) hn2 rfl
      have b3 := cellN (i := 3) hn2 rfl
      have b4 := cellN (i := 4) hn2 rfl
      have b5 := cellN (i := 5) hn2 rfl
      have b6 := cellN (i := 6) hn2 rfl
      have b7 := cellN (i := 7) hn2 rfl
      have b8 := cellN (i := 8) hn2 rfl
      have b9 := cellN (i := 9) hn2 rfl
      have b10 := cellN (i := 10) hn2 rfl
      have b11 := cellN (i := 11) hn2 rfl
      have b12 := cellN (i := 12) hn2 rfl
      have b13 := cellN (i := 13) hn2 rfl
      have bd2 := frozN (i := 2) hn2
      have bl2 := cell_lt hn2
      have hx2 := HW.out.hx
      have e2 := HW.out.lt
      have c0 := cellN (i := 0) hx2 rfl
      have d0 := frozN (i := 0) hx2
      have c1 := cellN (i := 1) hx2 rfl
      have d1 := frozN (i := 1) hx2
      have c2 := cellN (i := 2) hx2 rfl
      have d2 := frozN (i := 2) hx2
      have c3 := cellN (i := 3) hx2 rfl
      have d3 := frozN (i := 3) hx2
      have c4 := cellN (i := 4) hx2 rfl
      have d4 := frozN (i := 4) hx2
      have c5 := cellN (i := 5) hx2 rfl
      have d5 := frozN (i := 5) hx2
      have c6 := cellN (i := 6) hx2 rfl
      have d6 := frozN (i := 6) hx2
      have c7 := cellN (i := 7) hx2 rfl
      have d7 := frozN (i := 7) hx2
      have c8 := cellN (i := 8) hx2 rfl
      have d8 := frozN (i := 8) hx2
      have c9 := cellN (i := 9) hx2 rfl
      have d9 := frozN (i := 9) hx2
      have c10 := cellN (i := 10) hx2 rfl
      have d10 := frozN (i := 10) hx2
      have c11 := cellN (i := 11) hx2 rfl
      have d11 := frozN (i := 11) hx2
      have c12 := cellN (i := 12) hx2 rfl
      have d12 := frozN (i := 12) hx2
      have c13 := cellN (i := 13) hx2 rfl
      have d13 := frozN (i := 13) hx2
      clear hx2
      clear hn2
      go_region
      all_goals
        go_wp2
        refine bodyPost_ret (v := .tuple #[.agg #[.int .i64 2, .slice A 1 c, .slice SA l.length sc, .string ⟨text.toArray⟩, .int .i64 0, .slice none 0 0, .int .i64 0, .int .i64 0, .int .i64 0, .int .i64 0, .int .i64 0, .int .i64 0, .int .i64 0, .bool false], .bool false]) (results_rd_drew Tryz.results38 rfl rfl (node_told HW.out.hx)) rfl ?_
        refine ⟨⟨{ gz 2 with ins := [v], side := l, text := text }, A, SA, none, c, sc, 0, by rw [HE.out]; rfl, (fun v hv => by rw [HE.out] at hv; cases hv), ?_⟩, bl_dr (node_told_bl HW.out.hb (Nat.le_refl _))⟩
        exact (rd_end HW.out (⟨A, SA, none, c, sc, 0, rfl, HIN.out.one1, HIS.out.one1, tyZ_at _ _⟩)).1.below (bl_dr (Below.refl _ _))
    | true =>
      go_enter Tryz.func38, Tryz.ntmps38
      go_upto_region 25 with (first
        | (go_at_call 58; (with_reducible refine (HCUT.out _).mono ?_); rintro e w1 ⟨rfl, nd, rfl⟩; have HW := Lib.hid ((RdW.start w).dr nd))
        | (go_at_call 64; (with_reducible refine (HONE.out _).mono ?_); rintro e w2 ⟨⟨A, c, he, hia⟩, hb2⟩; obtain rfl : e = _ := he; have HIN : Hid (IntsAt w2 (fun b => w.heap.size + 1 ≤ b) (.slice A ([v] : List Int).length c) [v]) := Lib.hid (hia.move fun b hb hl => ⟨up1 HW.out hb, hl, fun o => rfl⟩); have HW := Lib.hid (HW.out.on hb2); have hx2 := HW.out.hx; have e2 := HW.out.lt; have c0 := cellN (i := 0) hx2 rfl; have d0 := frozN (i := 0) hx2; have c1 := cellN (i := 1) hx2 rfl; have d1 := frozN (i := 1) hx2; have c2 := cellN (i := 2) hx2 rfl; have d2 := frozN (i := 2) hx2; have c3 := cellN (i := 3) hx2 rfl; have d3 := frozN (i := 3) hx2; have c4 := cellN (i := 4) hx2 rfl; have d4 := frozN (i := 4) hx2; have c5 := cellN (i := 5) hx2 rfl; have d5 := frozN (i := 5) hx2; have c6 := cellN (i := 6) hx2 rfl; have d6 := frozN (i := 6) hx2; have c7 := cellN (i := 7) hx2 rfl; have d7 := frozN (i := 7) hx2; have c8 := cellN (i := 8) hx2 rfl; have d8 := frozN (i := 8) hx2; have c9 := cellN (i := 9) hx2 rfl; have d9 := frozN (i := 9) hx2; have c10 := cellN (i := 10) hx2 rfl; have d10 := frozN (i := 10) hx2; have c11 := cellN (i := 11) hx2 rfl; have d11 := frozN (i := 11) hx2; have c12 := cellN (i := 12) hx2 rfl; have d12 := frozN (i := 12) hx2; have c13 := cellN (i := 13) hx2 rfl; have d13 := frozN (i := 13) hx2; clear hx2; clear hb2 hia)
        | (go_at_call 58; (with_reducible refine (HCU2.out _).mono ?_); rintro e w4 ⟨rfl, nd2, hw4⟩; have hb4 : Below w2.heap.size w2 w4 := (congrArg (Below w2.heap.size w2) hw4).mpr (bl_drn (Below.refl _ _) nd2); have HIN : Hid (IntsAt w4 (Sn w w4.heap.size) (.slice A ([v] : List Int).length c) [v]) := Lib.hid ((HIN.out.below hb4).move fun b hb hl => ⟨⟨hb, Nat.ne_of_lt hl⟩, hl, fun o => rfl⟩); have HW := Lib.hid (HW.out.on hb4); have hx2 := HW.out.hx; have e2 := HW.out.lt; have c0 := cellN (i := 0) hx2 rfl; have d0 := frozN (i := 0) hx2; have c1 := cellN (i := 1) hx2 rfl; have d1 := frozN (i := 1) hx2; have c2 := cellN (i := 2) hx2 rfl; have d2 := frozN (i := 2) hx2; have c3 := cellN (i := 3) hx2 rfl; have d3 := frozN (i := 3) hx2; have c4 := cellN (i := 4) hx2 rfl; have d4 := frozN (i := 4) hx2; have c5 := cellN (i := 5) hx2 rfl; have d5 := frozN (i := 5) hx2; have c6 := cellN (i := 6) hx2 rfl; have d6 := frozN (i := 6) hx2; have c7 := cellN (i := 7) hx2 rfl; have d7 := frozN (i := 7) hx2; have c8 := cellN (i := 8) hx2 rfl; have d8 := frozN (i := 8) hx2; have c9 := cellN (i := 9) hx2 rfl; have d9 := frozN (i := 9) hx2; have c10 := cellN (i := 10) hx2 rfl; have d10 := frozN (i := 10) hx2; have c11 := cellN (i := 11) hx2 rfl; have d11 := frozN (i := 11) hx2; have c12 := cellN (i := 12) hx2 rfl; have d12 := frozN (i := 12) hx2; have c13 := cellN (i := 13) hx2 rfl; have d13 := frozN (i := 13) hx2; clear hx2; clear hw4 hb4)
        | (go_at_call 62; (with_reducible refine (HNU.out _).mono ?_); rintro e w5 ⟨⟨SA, sc, he, hia⟩, hb5⟩; obtain rfl : e = _ := he; have hn2 : w5.heap[w4.heap.size]? = some (.cells #[.int .i64 2, .slice A 1 c, .slice none 0 0, .string ⟨text.toArray⟩, .int .i64 0, .slice none 0 0, .int .i64 0, .int .i64 0, .int .i64 0, .int .i64 0, .int .i64 0, .int .i64 0, .int .i64 0, .bool false] 51 (0, 0)) := bl_blk hb5 (heap_alloc_new _ _); have b0 := cellN (i := 0) hn2 rfl; have b1 := cellN (i := 1) hn2 rfl; have b2 := cellN (i := 2) hn2 rfl; have b3 := cellN (i := 3) hn2 rfl; have b4 := cellN (i := 4) hn2 rfl; have b5 := cellN (i := 5) hn2 rfl; have b6 := cellN (i := 6) hn2 rfl; have b7 := cellN (i := 7) hn2 rfl; have b8 := cellN (i := 8) hn2 rfl; have b9 := cellN (i := 9) hn2 rfl; have b10 := cellN (i := 10) hn2 rfl; have b11 := cellN (i := 11) hn2 rfl; have b12 := cellN (i := 12) hn2 rfl; have b13 := cellN (i := 13) hn2 rfl; have bd2 := frozN (i := 2) hn2; have bl2 := cell_lt hn2; have HN2 := Lib.hid hn2; clear hn2; have HLT := Lib.hid HW.out.lt; have hbx : Below w4.heap.size w4 w5 := (bl_al (Below.refl _ _) _).trans (hb5.mono (by simp)); have HIS : Hid (IntsAt w5 (Sn w w4.heap.size) (.slice SA l.length sc) l) := Lib.hid (hia.move fun b hb hl => ⟨sn_of HLT.out hb, hl, fun o => rfl⟩); have HIN : Hid (IntsAt w5 (Sn w w4.heap.size) (.slice A ([v] : List Int).length c) [v]) := Lib.hid (HIN.out.below hbx); have HW := Lib.hid (HW.out.on hbx); have hx2 := HW.out.hx; have e2 := HW.out.lt; have c0 := cellN (i := 0) hx2 rfl; have d0 := frozN (i := 0) hx2; have c1 := cellN (i := 1) hx2 rfl; have d1 := frozN (i := 1) hx2; have c2 := cellN (i := 2) hx2 rfl; have d2 := frozN (i := 2) hx2; have c3 := cellN (i := 3) hx2 rfl; have d3 := frozN (i := 3) hx2; have c4 := cellN (i := 4) hx2 rfl; have d4 := frozN (i := 4) hx2; have c5 := cellN (i := 5) hx2 rfl; have d5 := frozN (i := 5) hx2; have c6 := cellN (i := 6) hx2 rfl; have d6 := frozN (i := 6) hx2; have c7 := cellN (i := 7) hx2 rfl; have d7 := frozN (i := 7) hx2; have c8 := cellN (i := 8) hx2 rfl; have d8 := frozN (i := 8) hx2; have c9 := cellN (i := 9) hx2 rfl; have d9 := frozN (i := 9) hx2; have c10 := cellN (i := 10) hx2 rfl; have d10 := frozN (i := 10) hx2; have c11 := cellN (i := 11) hx2 rfl; have d11 := frozN (i := 11) hx2; have c12 := cellN (i := 12) hx2 rfl; have d12 := frozN (i := 12) hx2; have c13 := cellN (i := 13) hx2 rfl; have d13 := frozN (i := 13) hx2; clear hx2; clear hb5 hbx hia)
        | (go_at_call 63; (with_reducible refine (rrises_any _ _ _ l 1 4 (HIS.out.setNB (i := 2)) (by omega)).mono ?_); rintro e w6 ⟨he, q, rfl⟩; obtain rfl : e = .returned (.bool false) := he.trans (by rw [HR.out]))
        | fail)
      have hn2 : (w5.setCell ⟨w4.heap.size, 2, none⟩ (.slice SA l.length sc)).heap[w4.heap.size]? = some (.cells #[.int .i64 2, .slice A 1 c, .slice SA l.length sc, .string ⟨text.toArray⟩, .int .i64 0, .slice none 0 0, .int .i64 0, .int .i64 0, .int .i64 0, .int .i64 0, .int .i64 0, .int .i64 0, .int .i64 0, .bool false] 51 (0, 0)) := set_block (i := 2) HN2.out
      have HW := Lib.hid (HW.out.set (nb := w4.heap.size) (i := 2) (u := .slice SA l.length sc) HLT.out)
      have HIN := Lib.hid (HIN.out.setNB (i := 2) (u := .slice SA l.length sc))
      have HIS := Lib.hid (HIS.out.setNB (i := 2) (u := .slice SA l.length sc))
      have hn2 : ((w5.setCell ⟨w4.heap.size, 2, none⟩ (.slice SA l.length sc)).drewN q).heap[w4.heap.size]? = _ := hn2
      have HW := Lib.hid (HW.out.dr q)
      have HIN := Lib.hid (HIN.out.below (bl_drn (Below.refl _ _) q))
      have HIS := Lib.hid (HIS.out.below (bl_drn (Below.refl _ _) q))
      generalize ((w5.setCell ⟨w4.heap.size, 2, none⟩ (.slice SA l.length sc)).drewN q) = W1 at *
      clear c0 d0 c1 d1 c2 d2 c3 d3 c4 d4 c5 d5 c6 d6 c7 d7 c8 d8 c9 d9 c10 d10 c11 d11 c12 d12 c13 d13 b0 b1 b2 b3 b4 b5 b6 b7 b8 b9 b10 b11 b12 b13 bd2 bl2 e2
      have b0 := cellN (i := 0) hn2 rfl
      have b1 := cellN (i := 1) hn2 rfl
      have b2 := cellN (i := 2) hn2 rfl
      have b3 := cellN (i := 3) hn2 rfl
      have b4 := cellN (i := 4) hn2 rfl
      have b5 := cellN (i := 5) hn2 rfl
      have b6 := cellN (i := 6) hn2 rfl
      have b7 := cellN (i := 7) hn2 rfl
      have b8 := cellN (i := 8) hn2 rfl
      have b9 := cellN (i := 9) hn2 rfl
      have b10 := cellN (i := 10) hn2 rfl
      have b11 := cellN (i := 11) hn2 rfl
      have b12 := cellN (i := 12) hn2 rfl
      have b13 := cellN (i := 13) hn2 rfl
      have bd2 := frozN (i := 2) hn2
      have bl2 := cell_lt hn2
      have hx2 := HW.out.hx
      have e2 := HW.out.lt
      have c0 := cellN (i := 0) hx2 rfl
      have d0 := frozN (i := 0) hx2
      have c1 := cellN (i := 1) hx2 rfl
      have d1 := frozN (i := 1) hx2
      have c2 := cellN (i := 2) hx2 rfl
      have d2 := frozN (i := 2) hx2
      have c3 := cellN (i := 3) hx2 rfl
      have d3 := frozN (i := 3) hx2
      have c4 := cellN (i := 4) hx2 rfl
      have d4 := frozN (i := 4) hx2
      have c5 := cellN (i := 5) hx2 rfl
      have d5 := frozN (i := 5) hx2
      have c6 := cellN (i := 6) hx2 rfl
      have d6 := frozN (i := 6) hx2
      have c7 := cellN (i := 7) hx2 rfl
      have d7 := frozN (i := 7) hx2
      have c8 := cellN (i := 8) hx2 rfl
      have d8 := frozN (i := 8) hx2
      have c9 := cellN (i := 9) hx2 rfl
      have d9 := frozN (i := 9) hx2
      have c10 := cellN (i := 10) hx2 rfl
      have d10 := frozN (i := 10) hx2
      have c11 := cellN (i := 11) hx2 rfl
      have d11 := frozN (i := 11) hx2
      have c12 := cellN (i := 12) hx2 rfl
      have d12 := frozN (i := 12) hx2
      have c13 := cellN (i := 13) hx2 rfl
      have d13 := frozN (i := 13) hx2
      clear hx2
      clear hn2
      go_region
      all_goals
        go_wp2
        refine bodyPost_ret (v := .tuple #[.agg #[.int .i64 2, .slice A 1 c, .slice SA l.length sc, .string ⟨text.toArray⟩, .int .i64 0, .slice none 0 0, .int .i64 0, .int .i64 0, .int .i64 0, .int .i64 0, .int .i64 0, .int .i64 0, .int .i64 0, .bool false], .bool false]) (results_rd_drew Tryz.results38 rfl rfl (node_told HW.out.hx)) rfl ?_
        refine ⟨⟨{ gz 2 with ins := [v], side := l, text := text }, A, SA, none, c, sc, 0, by rw [HE.out]; rfl, (fun v hv => by rw [HE.out] at hv; cases hv), ?_⟩, bl_dr (node_told_bl HW.out.hb (Nat.le_refl _))⟩
        exact (rd_end HW.out (⟨A, SA, none, c, sc, 0, rfl, HIN.out.one1, HIS.out.one1, tyZ_at _ _⟩)).1.below (bl_dr (Below.refl _ _))
  | true =>
    cases ok2 with
    | false =>
      have HE : Hid (o = none) := Lib.hid (by rw [ho, if_neg (fun h => by cases h.1)])
      clear ho
      go_enter Tryz.func38, Tryz.ntmps38
      go_upto_region 25 with (first
        | (go_at_call 58; (with_reducible refine (HCUT.out _).mono ?_); rintro e w1 ⟨rfl, nd, rfl⟩; have HW := Lib.hid ((RdW.start w).dr nd))
        | (go_at_call 64; (with_reducible refine (HONE.out _).mono ?_); rintro e w2 ⟨⟨A, c, he, hia⟩, hb2⟩; obtain rfl : e = _ := he; have HIN : Hid (IntsAt w2 (fun b => w.heap.size + 1 ≤ b) (.slice A ([v] : List Int).length c) [v]) := Lib.hid (hia.move fun b hb hl => ⟨up1 HW.out hb, hl, fun o => rfl⟩); have HW := Lib.hid (HW.out.on hb2); have hx2 := HW.out.hx; have e2 := HW.out.lt; have c0 := cellN (i := 0) hx2 rfl; have d0 := frozN (i := 0) hx2; have c1 := cellN (i := 1) hx2 rfl; have d1 := frozN (i := 1) hx2; have c2 := cellN (i := 2) hx2 rfl; have d2 := frozN (i := 2) hx2; have c3 := cellN (i := 3) hx2 rfl; have d3 := frozN (i := 3) hx2; have c4 := cellN (i := 4) hx2 rfl; have d4 := frozN (i := 4) hx2; have c5 := cellN (i := 5) hx2 rfl; have d5 := frozN (i := 5) hx2; have c6 := cellN (i := 6) hx2 rfl; have d6 := frozN (i := 6) hx2; have c7 := cellN (i := 7) hx2 rfl; have d7 := frozN (i := 7) hx2; have c8 := cellN (i := 8) hx2 rfl; have d8 := frozN (i := 8) hx2; have c9 := cellN (i := 9) hx2 rfl; have d9 := frozN (i := 9) hx2; have c10 := cellN (i := 10) hx2 rfl; have d10 := frozN (i := 10) hx2; have c11 := cellN (i := 11) hx2 rfl; have d11 := frozN (i := 11) hx2; have c12 := cellN (i := 12) hx2 rfl; have d12 := frozN (i := 12) hx2; have c13 := cellN (i := 13) hx2 rfl; have d13 := frozN (i := 13) hx2; clear hx2; clear hb2 hia)
        | (go_at_call 58; (with_reducible refine (HCU2.out _).mono ?_); rintro e w4 ⟨rfl, nd2, hw4⟩; have hb4 : Below w2.heap.size w2 w4 := (congrArg (Below w2.heap.size w2) hw4).mpr (bl_drn (Below.refl _ _) nd2); have HIN : Hid (IntsAt w4 (Sn w w4.heap.size) (.slice A ([v] : List Int).length c) [v]) := Lib.hid ((HIN.out.below hb4).move fun b hb hl => ⟨⟨hb, Nat.ne_of_lt hl⟩, hl, fun o => rfl⟩); have HW := Lib.hid (HW.out.on hb4); have hx2 := HW.out.hx; have e2 := HW.out.lt; have c0 := cellN (i := 0) hx2 rfl; have d0 := frozN (i := 0) hx2; have c1 := cellN (i := 1) hx2 rfl; have d1 := frozN (i := 1) hx2; have c2 := cellN (i := 2) hx2 rfl; have d2 := frozN (i := 2) hx2; have c3 := cellN (i := 3) hx2 rfl; have d3 := frozN (i := 3) hx2; have c4 := cellN (i := 4) hx2 rfl; have d4 := frozN (i := 4) hx2; have c5 := cellN (i := 5) hx2 rfl; have d5 := frozN (i := 5) hx2; have c6 := cellN (i := 6) hx2 rfl; have d6 := frozN (i := 6) hx2; have c7 := cellN (i := 7) hx2 rfl; have d7 := frozN (i := 7) hx2; have c8 := cellN (i := 8) hx2 rfl; have d8 := frozN (i := 8) hx2; have c9 := cellN (i := 9) hx2 rfl; have d9 := frozN (i := 9) hx2; have c10 := cellN (i := 10) hx2 rfl; have d10 := frozN (i := 10) hx2; have c11 := cellN (i := 11) hx2 rfl; have d11 := frozN (i := 11) hx2; have c12 := cellN (i := 12) hx2 rfl; have d12 := frozN (i := 12) hx2; have c13 := cellN (i := 13) hx2 rfl; have d13 := frozN (i := 13) hx2; clear hx2; clear hw4 hb4)
        | (go_at_call 62; (with_reducible refine (HNU.out _).mono ?_); rintro e w5 ⟨⟨SA, sc, he, hia⟩, hb5⟩; obtain rfl : e = _ := he; have hn2 : w5.heap[w4.heap.size]? = some (.cells #[.int .i64 2, .slice A 1 c, .slice none 0 0, .string ⟨text.toArray⟩, .int .i64 0, .slice none 0 0, .int .i64 0, .int .i64 0, .int .i64 0, .int .i64 0, .int .i64 0, .int .i64 0, .int .i64 0, .bool false] 51 (0, 0)) := bl_blk hb5 (heap_alloc_new _ _); have b0 := cellN (i := 0) hn2 rfl; have b1 := cellN (i := 1) hn2 rfl; have b2 := cellN (i := 2) hn2 rfl; have b3 := cellN (i := 3) hn2 rfl; have b4 := cellN (i := 4) hn2 rfl; have b5 := cellN (i := 5) hn2 rfl; have b6 := cellN (i := 6) hn2 rfl; have b7 := cellN (i := 7) hn2 rfl; have b8 := cellN (i := 8) hn2 rfl; have b9 := cellN (i := 9) hn2 rfl; have b10 := cellN (i := 10) hn2 rfl; have b11 := cellN (i := 11) hn2 rfl; have b12 := cellN (i := 12) hn2 rfl; have b13 := cellN (i := 13) hn2 rfl; have bd2 := frozN (i := 2) hn2; have bl2 := cell_lt hn2; have HN2 := Lib.hid hn2; clear hn2; have HLT := Lib.hid HW.out.lt; have hbx : Below w4.heap.size w4 w5 := (bl_al (Below.refl _ _) _).trans (hb5.mono (by simp)); have HIS : Hid (IntsAt w5 (Sn w w4.heap.size) (.slice SA l.length sc) l) := Lib.hid (hia.move fun b hb hl => ⟨sn_of HLT.out hb, hl, fun o => rfl⟩); have HIN : Hid (IntsAt w5 (Sn w w4.heap.size) (.slice A ([v] : List Int).length c) [v]) := Lib.hid (HIN.out.below hbx); have HW := Lib.hid (HW.out.on hbx); have hx2 := HW.out.hx; have e2 := HW.out.lt; have c0 := cellN (i := 0) hx2 rfl; have d0 := frozN (i := 0) hx2; have c1 := cellN (i := 1) hx2 rfl; have d1 := frozN (i := 1) hx2; have c2 := cellN (i := 2) hx2 rfl; have d2 := frozN (i := 2) hx2; have c3 := cellN (i := 3) hx2 rfl; have d3 := frozN (i := 3) hx2; have c4 := cellN (i := 4) hx2 rfl; have d4 := frozN (i := 4) hx2; have c5 := cellN (i := 5) hx2 rfl; have d5 := frozN (i := 5) hx2; have c6 := cellN (i := 6) hx2 rfl; have d6 := frozN (i := 6) hx2; have c7 := cellN (i := 7) hx2 rfl; have d7 := frozN (i := 7) hx2; have c8 := cellN (i := 8) hx2 rfl; have d8 := frozN (i := 8) hx2; have c9 := cellN (i := 9) hx2 rfl; have d9 := frozN (i := 9) hx2; have c10 := cellN (i := 10) hx2 rfl; have d10 := frozN (i := 10) hx2; have c11 := cellN (i := 11) hx2 rfl; have d11 := frozN (i := 11) hx2; have c12 := cellN (i := 12) hx2 rfl; have d12 := frozN (i := 12) hx2; have c13 := cellN (i := 13) hx2 rfl; have d13 := frozN (i := 13) hx2; clear hx2; clear hb5 hbx hia)
        | (go_at_call 63; (with_reducible refine (rrises_any _ _ _ l 1 4 (HIS.out.setNB (i := 2)) (by omega)).mono ?_); rintro e w6 ⟨he, q, rfl⟩; obtain rfl : e = .returned (.bool true) := he.trans (by rw [HR.out]))
        | fail)
      have hn2 : (w5.setCell ⟨w4.heap.size, 2, none⟩ (.slice SA l.length sc)).heap[w4.heap.size]? = some (.cells #[.int .i64 2, .slice A 1 c, .slice SA l.length sc, .string ⟨text.toArray⟩, .int .i64 0, .slice none 0 0, .int .i64 0, .int .i64 0, .int .i64 0, .int .i64 0, .int .i64 0, .int .i64 0, .int .i64 0, .bool false] 51 (0, 0)) := set_block (i := 2) HN2.out
      have HW := Lib.hid (HW.out.set (nb := w4.heap.size) (i := 2) (u := .slice SA l.length sc) HLT.out)
      have HIN := Lib.hid (HIN.out.setNB (i := 2) (u := .slice SA l.length sc))
      have HIS := Lib.hid (HIS.out.setNB (i := 2) (u := .slice SA l.length sc))
      have hn2 : ((w5.setCell ⟨w4.heap.size, 2, none⟩ (.slice SA l.length sc)).drewN q).heap[w4.heap.size]? = _ := hn2
      have HW := Lib.hid (HW.out.dr q)
      have HIN := Lib.hid (HIN.out.below (bl_drn (Below.refl _ _) q))
      have HIS := Lib.hid (HIS.out.below (bl_drn (Below.refl _ _) q))
      generalize ((w5.setCell ⟨w4.heap.size, 2, none⟩ (.slice SA l.length sc)).drewN q) = W1 at *
      clear c0 d0 c1 d1 c2 d2 c3 d3 c4 d4 c5 d5 c6 d6 c7 d7 c8 d8 c9 d9 c10 d10 c11 d11 c12 d12 c13 d13 b0 b1 b2 b3 b4 b5 b6 b7 b8 b9 b10 b11 b12 b13 bd2 bl2 e2
      have b0 := cellN (i := 0) hn2 rfl
      have b1 := cellN (i := 1) hn2 rfl
      have b2 := cellN (i := 2) hn2 rfl
      have b3 := cellN (i := 3) hn2 rfl
      have b4 := cellN (i := 4) hn2 rfl
      have b5 := cellN (i := 5) hn2 rfl
      have b6 := cellN (i := 6) hn2 rfl
      have b7 := cellN (i := 7) hn2 rfl
      have b8 := cellN (i := 8) hn2 rfl
      have b9 := cellN (i := 9) hn2 rfl
      have b10 := cellN (i := 10) hn2 rfl
      have b11 := cellN (i := 11) hn2 rfl
      have b12 := cellN (i := 12) hn2 rfl
      have b13 := cellN (i := 13) hn2 rfl
      have bd2 := frozN (i := 2) hn2
      have bl2 := cell_lt hn2
      have hx2 := HW.out.hx
      have e2 := HW.out.lt
      have c0 := cellN (i := 0) hx2 rfl
      have d0 := frozN (i := 0) hx2
      have c1 := cellN (i := 1) hx2 rfl
      have d1 := frozN (i := 1) hx2
      have c2 := cellN (i := 2) hx2 rfl
      have d2 := frozN (i := 2) hx2
      have c3 := cellN (i := 3) hx2 rfl
      have d3 := frozN (i := 3) hx2
      have c4 := cellN (i := 4) hx2 rfl
      have d4 := frozN (i := 4) hx2
      have c5 := cellN (i := 5) hx2 rfl
      have d5 := frozN (i := 5) hx2
      have c6 := cellN (i := 6) hx2 rfl
      have d6 := frozN (i := 6) hx2
      have c7 := cellN (i := 7) hx2 rfl
      have d7 := frozN (i := 7) hx2
      have c8 := cellN (i := 8) hx2 rfl
      have d8 := frozN (i := 8) hx2
      have c9 := cellN (i := 9) hx2 rfl
      have d9 := frozN (i := 9) hx2
      have c10 := cellN (i := 10) hx2 rfl
      have d10 := frozN (i := 10) hx2
      have c11 := cellN (i := 11) hx2 rfl
      have d11 := frozN (i := 11) hx2
      have c12 := cellN (i := 12) hx2 rfl
      have d12 := frozN (i := 12) hx2
      have c13 := cellN (i := 13) hx2 rfl
      have d13 := frozN (i := 13) hx2
      clear hx2
      clear hn2
      go_region
      all_goals
        go_wp2
        refine bodyPost_ret (v := .tuple #[.agg #[.int .i64 2, .slice A 1 c, .slice SA l.length sc, .string ⟨text.toArray⟩, .int .i64 0, .slice none 0 0, .int .i64 0, .int .i64 0, .int .i64 0, .int .i64 0, .int .i64 0, .int .i64 0, .int .i64 0, .bool false], .bool false]) (results_rd_drew Tryz.results38 rfl rfl (node_told HW.out.hx)) rfl ?_
        refine ⟨⟨{ gz 2 with ins := [v], side := l, text := text }, A, SA, none, c, sc, 0, by rw [HE.out]; rfl, (fun v hv => by rw [HE.out] at hv; cases hv), ?_⟩, bl_dr (node_told_bl HW.out.hb (Nat.le_refl _))⟩
        exact (rd_end HW.out (⟨A, SA, none, c, sc, 0, rfl, HIN.out.one1, HIS.out.one1, tyZ_at _ _⟩)).1.below (bl_dr (Below.refl _ _))
    | true =>
      cases htx : isTx text with
      | true =>
        rw [htx] at HTX
        have HE : Hid (o = some { gz 2 with ins := [v], side := l, text := text }) := Lib.hid (by rw [ho, if_pos ⟨rfl, rfl, htx⟩])
        clear ho
        go_enter Tryz.func38, Tryz.ntmps38
        go_upto_region 25 with (first
          | (go_at_call 58; (with_reducible refine (HCUT.out _).mono ?_); rintro e w1 ⟨rfl, nd, rfl⟩; have HW := Lib.hid ((RdW.start w).dr nd))
          | (go_at_call 64; (with_reducible refine (HONE.out _).mono ?_); rintro e w2 ⟨⟨A, c, he, hia⟩, hb2⟩; obtain rfl : e = _ := he; have HIN : Hid (IntsAt w2 (fun b => w.heap.size + 1 ≤ b) (.slice A ([v] : List Int).length c) [v]) := Lib.hid (hia.move fun b hb hl => ⟨up1 HW.out hb, hl, fun o => rfl⟩); have HW := Lib.hid (HW.out.on hb2); have hx2 := HW.out.hx; have e2 := HW.out.lt; have c0 := cellN (i := 0) hx2 rfl; have d0 := frozN (i := 0) hx2; have c1 := cellN (i := 1) hx2 rfl; have d1 := frozN (i := 1) hx2; have c2 := cellN (i := 2) hx2 rfl; have d2 := frozN (i := 2) hx2; have c3 := cellN (i := 3) hx2 rfl; have d3 := frozN (i := 3) hx2; have c4 := cellN (i := 4) hx2 rfl; have d4 := frozN (i := 4) hx2; have c5 := cellN (i := 5) hx2 rfl; have d5 := frozN (i := 5) hx2; have c6 := cellN (i := 6) hx2 rfl; have d6 := frozN (i := 6) hx2; have c7 := cellN (i := 7) hx2 rfl; have d7 := frozN (i := 7) hx2; have c8 := cellN (i := 8) hx2 rfl; have d8 := frozN (i := 8) hx2; have c9 := cellN (i := 9) hx2 rfl; have d9 := frozN (i := 9) hx2; have c10 := cellN (i := 10) hx2 rfl; have d10 := frozN (i := 10) hx2; have c11 := cellN (i := 11) hx2 rfl; have d11 := frozN (i := 11) hx2; have c12 := cellN (i := 12) hx2 rfl; have d12 := frozN (i := 12) hx2; have c13 := cellN (i := 13) hx2 rfl; have d13 := frozN (i := 13) hx2; clear hx2; clear hb2 hia)
          | (go_at_call 58; (with_reducible refine (HCU2.out _).mono ?_); rintro e w4 ⟨rfl, nd2, hw4⟩; have hb4 : Below w2.heap.size w2 w4 := (congrArg (Below w2.heap.size w2) hw4).mpr (bl_drn (Below.refl _ _) nd2); have HIN : Hid (IntsAt w4 (Sn w w4.heap.size) (.slice A ([v] : List Int).length c) [v]) := Lib.hid ((HIN.out.below hb4).move fun b hb hl => ⟨⟨hb, Nat.ne_of_lt hl⟩, hl, fun o => rfl⟩); have HW := Lib.hid (HW.out.on hb4); have hx2 := HW.out.hx; have e2 := HW.out.lt; have c0 := cellN (i := 0) hx2 rfl; have d0 := frozN (i := 0) hx2; have c1 := cellN (i := 1) hx2 rfl; have d1 := frozN (i := 1) hx2; have c2 := cellN (i := 2) hx2 rfl; have d2 := frozN (i := 2) hx2; have c3 := cellN (i := 3) hx2 rfl; have d3 := frozN (i := 3) hx2; have c4 := cellN (i := 4) hx2 rfl; have d4 := frozN (i := 4) hx2; have c5 := cellN (i := 5) hx2 rfl; have d5 := frozN (i := 5) hx2; have c6 := cellN (i := 6) hx2 rfl; have d6 := frozN (i := 6) hx2; have c7 := cellN (i := 7) hx2 rfl; have d7 := frozN (i := 7) hx2; have c8 := cellN (i := 8) hx2 rfl; have d8 := frozN (i := 8) hx2; have c9 := cellN (i := 9) hx2 rfl; have d9 := frozN (i := 9) hx2; have c10 := cellN (i := 10) hx2 rfl; have d10 := frozN (i := 10) hx2; have c11 := cellN (i := 11) hx2 rfl; have d11 := frozN (i := 11) hx2; have c12 := cellN (i := 12) hx2 rfl; have d12 := frozN (i := 12) hx2; have c13 := cellN (i := 13) hx2 rfl; have d13 := frozN (i := 13) hx2; clear hx2; clear hw4 hb4)
          | (go_at_call 62; (with_reducible refine (HNU.out _).mono ?_); rintro e w5 ⟨⟨SA, sc, he, hia⟩, hb5⟩; obtain rfl : e = _ := he; have hn2 : w5.heap[w4.heap.size]? = some (.cells #[.int .i64 2, .slice A 1 c, .slice none 0 0, .string ⟨text.toArray⟩, .int .i64 0, .slice none 0 0, .int .i64 0, .int .i64 0, .int .i64 0, .int .i64 0, .int .i64 0, .int .i64 0, .int .i64 0, .bool false] 51 (0, 0)) := bl_blk hb5 (heap_alloc_new _ _); have b0 := cellN (i := 0) hn2 rfl; have b1 := cellN (i := 1) hn2 rfl; have b2 := cellN (i := 2) hn2 rfl; have b3 := cellN (i := 3) hn2 rfl; have b4 := cellN (i := 4) hn2 rfl; have b5 := cellN (i := 5) hn2 rfl; have b6 := cellN (i := 6) hn2 rfl; have b7 := cellN (i := 7) hn2 rfl; have b8 := cellN (i := 8) hn2 rfl; have b9 := cellN (i := 9) hn2 rfl; have b10 := cellN (i := 10) hn2 rfl; have b11 := cellN (i := 11) hn2 rfl; have b12 := cellN (i := 12) hn2 rfl; have b13 := cellN (i := 13) hn2 rfl; have bd2 := frozN (i := 2) hn2; have bl2 := cell_lt hn2; have HN2 := Lib.hid hn2; clear hn2; have HLT := Lib.hid HW.out.lt; have hbx : Below w4.heap.size w4 w5 := (bl_al (Below.refl _ _) _).trans (hb5.mono (by simp)); have HIS : Hid (IntsAt w5 (Sn w w4.heap.size) (.slice SA l.length sc) l) := Lib.hid (hia.move fun b hb hl => ⟨sn_of HLT.out hb, hl, fun o => rfl⟩); have HIN : Hid (IntsAt w5 (Sn w w4.heap.size) (.slice A ([v] : List Int).length c) [v]) := Lib.hid (HIN.out.below hbx); have HW := Lib.hid (HW.out.on hbx); have hx2 := HW.out.hx; have e2 := HW.out.lt; have c0 := cellN (i := 0) hx2 rfl; have d0 := frozN (i := 0) hx2; have c1 := cellN (i := 1) hx2 rfl; have d1 := frozN (i := 1) hx2; have c2 := cellN (i := 2) hx2 rfl; have d2 := frozN (i := 2) hx2; have c3 := cellN (i := 3) hx2 rfl; have d3 := frozN (i := 3) hx2; have c4 := cellN (i := 4) hx2 rfl; have d4 := frozN (i := 4) hx2; have c5 := cellN (i := 5) hx2 rfl; have d5 := frozN (i := 5) hx2; have c6 := cellN (i := 6) hx2 rfl; have d6 := frozN (i := 6) hx2; have c7 := cellN (i := 7) hx2 rfl; have d7 := frozN (i := 7) hx2; have c8 := cellN (i := 8) hx2 rfl; have d8 := frozN (i := 8) hx2; have c9 := cellN (i := 9) hx2 rfl; have d9 := frozN (i := 9) hx2; have c10 := cellN (i := 10) hx2 rfl; have d10 := frozN (i := 10) hx2; have c11 := cellN (i := 11) hx2 rfl; have d11 := frozN (i := 11) hx2; have c12 := cellN (i := 12) hx2 rfl; have d12 := frozN (i := 12) hx2; have c13 := cellN (i := 13) hx2 rfl; have d13 := frozN (i := 13) hx2; clear hx2; clear hb5 hbx hia)
          | (go_at_call 63; (with_reducible refine (rrises_any _ _ _ l 1 4 (HIS.out.setNB (i := 2)) (by omega)).mono ?_); rintro e w6 ⟨he, q, rfl⟩; obtain rfl : e = .returned (.bool true) := he.trans (by rw [HR.out]))
          | fail)
        have hn2 : (w5.setCell ⟨w4.heap.size, 2, none⟩ (.slice SA l.length sc)).heap[w4.heap.size]? = some (.cells #[.int .i64 2, .slice A 1 c, .slice SA l.length sc, .string ⟨text.toArray⟩, .int .i64 0, .slice none 0 0, .int .i64 0, .int .i64 0, .int .i64 0, .int .i64 0, .int .i64 0, .int .i64 0, .int .i64 0, .bool false] 51 (0, 0)) := set_block (i := 2) HN2.out
        have HW := Lib.hid (HW.out.set (nb := w4.heap.size) (i := 2) (u := .slice SA l.length sc) HLT.out)
        have HIN := Lib.hid (HIN.out.setNB (i := 2) (u := .slice SA l.length sc))
        have HIS := Lib.hid (HIS.out.setNB (i := 2) (u := .slice SA l.length sc))
        have hn2 : ((w5.setCell ⟨w4.heap.size, 2, none⟩ (.slice SA l.length sc)).drewN q).heap[w4.heap.size]? = _ := hn2
        have HW := Lib.hid (HW.out.dr q)
        have HIN := Lib.hid (HIN.out.below (bl_drn (Below.refl _ _) q))
        have HIS := Lib.hid (HIS.out.below (bl_drn (Below.refl _ _) q))
        generalize ((w5.setCell ⟨w4.heap.size, 2, none⟩ (.slice SA l.length sc)).drewN q) = W1 at *
        clear c0 d0 c1 d1 c2 d2 c3 d3 c4 d4 c5 d5 c6 d6 c7 d7 c8 d8 c9 d9 c10 d10 c11 d11 c12 d12 c13 d13 b0 b1 b2 b3 b4 b5 b6 b7 b8 b9 b10 b11 b12 b13 bd2 bl2 e2
        have b0 := cellN (i := 0) hn2 rfl
        have b1 := cellN (i := 1) hn2 rfl
        have b2 := cellN (i := 2) hn2 rfl
        have b3 := cellN (i := 3) hn2 rfl
        have b4 := cellN (i := 4) hn2 rfl
        have b5 := cellN (i := 5) hn2 rfl
        have b6 := cellN (i := 6) hn2 rfl
        have b7 := cellN (i := 7) hn2 rfl
        have b8 := cellN (i := 8) hn2 rfl
        have b9 := cellN (i := 9) hn2 rfl
        have b10 := cellN (i := 10) hn2 rfl
        have b11 := cellN (i := 11) hn2 rfl
        have b12 := cellN (i := 12) hn2 rfl
        have b13 := cellN (i := 13) hn2 rfl
        have bd2 := frozN (i := 2) hn2
        have bl2 := cell_lt hn2
        have hx2 := HW.out.hx
        have e2 := HW.out.lt
        have c0 := cellN (i := 0) hx2 rfl
        have d0 := frozN (i := 0) hx2
        have c1 := cellN (i := 1) hx2 rfl
        have d1 := frozN (i := 1) hx2
        have c2 := cellN (i := 2) hx2 rfl
        have d2 := frozN (i := 2) hx2
        have c3 := cellN (i := 3) hx2 rfl
        have d3 := frozN (i := 3) hx2
        have c4 := cellN (i := 4) hx2 rfl
        have d4 := frozN (i := 4) hx2
        have c5 := cellN (i := 5) hx2 rfl
        have d5 := frozN (i := 5) hx2
        have c6 := cellN (i := 6) hx2 rfl
        have d6 := frozN (i := 6) hx2
        have c7 := cellN (i := 7) hx2 rfl
        have d7 := frozN (i := 7) hx2
        have c8 := cellN (i := 8) hx2 rfl
        have d8 := frozN (i := 8) hx2
        have c9 := cellN (i := 9) hx2 rfl
        have d9 := frozN (i := 9) hx2
        have c10 := cellN (i := 10) hx2 rfl
        have d10 := frozN (i := 10) hx2
        have c11 := cellN (i := 11) hx2 rfl
        have d11 := frozN (i := 11) hx2
        have c12 := cellN (i := 12) hx2 rfl
        have d12 := frozN (i := 12) hx2
        have c13 := cellN (i := 13) hx2 rfl
        have d13 := frozN (i := 13) hx2
        clear hx2
        clear hn2
        go_region_with (go_at_call 65; (with_reducible refine (HTX.out _).mono ?_); rintro e w8 ⟨rfl, rfl⟩)
        all_goals
          go_wp2
          refine bodyPost_ret (v := .tuple #[.agg #[.int .i64 2, .slice A 1 c, .slice SA l.length sc, .string ⟨text.toArray⟩, .int .i64 0, .slice none 0 0, .int .i64 0, .int .i64 0, .int .i64 0, .int .i64 0, .int .i64 0, .int .i64 0, .int .i64 0, .bool false], .bool true]) (results_rd_drew Tryz.results38 rfl rfl (node_told HW.out.hx)) rfl ?_
          refine ⟨⟨{ gz 2 with ins := [v], side := l, text := text }, A, SA, none, c, sc, 0, by rw [HE.out]; rfl, (fun v hv => by rw [HE.out] at hv; exact Option.some.inj hv), ?_⟩, bl_dr (node_told_bl HW.out.hb (Nat.le_refl _))⟩
          exact (rd_end HW.out (⟨A, SA, none, c, sc, 0, rfl, HIN.out.one1, HIS.out.one1, tyZ_at _ _⟩)).1.below (bl_dr (Below.refl _ _))
      | false =>
        rw [htx] at HTX
        have HE : Hid (o = none) := Lib.hid (by rw [ho, htx, if_neg (fun h => by cases h.2.2)])
        clear ho
        go_enter Tryz.func38, Tryz.ntmps38
        go_upto_region 25 with (first
          | (go_at_call 58; (with_reducible refine (HCUT.out _).mono ?_); rintro e w1 ⟨rfl, nd, rfl⟩; have HW := Lib.hid ((RdW.start w).dr nd))
          | (go_at_call 64; (with_reducible refine (HONE.out _).mono ?_); rintro e w2 ⟨⟨A, c, he, hia⟩, hb2⟩; obtain rfl : e = _ := he; have HIN : Hid (IntsAt w2 (fun b => w.heap.size + 1 ≤ b) (.slice A ([v] : List Int).length c) [v]) := Lib.hid (hia.move fun b hb hl => ⟨up1 HW.out hb, hl, fun o => rfl⟩); have HW := Lib.hid (HW.out.on hb2); have hx2 := HW.out.hx; have e2 := HW.out.lt; have c0 := cellN (i := 0) hx2 rfl; have d0 := frozN (i := 0) hx2; have c1 := cellN (i := 1) hx2 rfl; have d1 := frozN (i := 1) hx2; have c2 := cellN (i := 2) hx2 rfl; have d2 := frozN (i := 2) hx2; have c3 := cellN (i := 3) hx2 rfl; have d3 := frozN (i := 3) hx2; have c4 := cellN (i := 4) hx2 rfl; have d4 := frozN (i := 4) hx2; have c5 := cellN (i := 5) hx2 rfl; have d5 := frozN (i := 5) hx2; have c6 := cellN (i := 6) hx2 rfl; have d6 := frozN (i := 6) hx2; have c7 := cellN (i := 7) hx2 rfl; have d7 := frozN (i := 7) hx2; have c8 := cellN (i := 8) hx2 rfl; have d8 := frozN (i := 8) hx2; have c9 := cellN (i := 9) hx2 rfl; have d9 := frozN (i := 9) hx2; have c10 := cellN (i := 10) hx2 rfl; have d10 := frozN (i := 10) hx2; have c11 := cellN (i := 11) hx2 rfl; have d11 := frozN (i := 11) hx2; have c12 := cellN (i := 12) hx2 rfl; have d12 := frozN (i := 12) hx2; have c13 := cellN (i := 13) hx2 rfl; have d13 := frozN (i := 13) hx2; clear hx2; clear hb2 hia)
          | (go_at_call 58; (with_reducible refine (HCU2.out _).mono ?_); rintro e w4 ⟨rfl, nd2, hw4⟩; have hb4 : Below w2.heap.size w2 w4 := (congrArg (Below w2.heap.size w2) hw4).mpr (bl_drn (Below.refl _ _) nd2); have HIN : Hid (IntsAt w4 (Sn w w4.heap.size) (.slice A ([v] : List Int).length c) [v]) := Lib.hid ((HIN.out.below hb4).move fun b hb hl => ⟨⟨hb, Nat.ne_of_lt hl⟩, hl, fun o => rfl⟩); have HW := Lib.hid (HW.out.on hb4); have hx2 := HW.out.hx; have e2 := HW.out.lt; have c0 := cellN (i := 0) hx2 rfl; have d0 := frozN (i := 0) hx2; have c1 := cellN (i := 1) hx2 rfl; have d1 := frozN (i := 1) hx2; have c2 := cellN (i := 2) hx2 rfl; have d2 := frozN (i := 2) hx2; have c3 := cellN (i := 3) hx2 rfl; have d3 := frozN (i := 3) hx2; have c4 := cellN (i := 4) hx2 rfl; have d4 := frozN (i := 4) hx2; have c5 := cellN (i := 5) hx2 rfl; have d5 := frozN (i := 5) hx2; have c6 := cellN (i := 6) hx2 rfl; have d6 := frozN (i := 6) hx2; have c7 := cellN (i := 7) hx2 rfl; have d7 := frozN (i := 7) hx2; have c8 := cellN (i := 8) hx2 rfl; have d8 := frozN (i := 8) hx2; have c9 := cellN (i := 9) hx2 rfl; have d9 := frozN (i := 9) hx2; have c10 := cellN (i := 10) hx2 rfl; have d10 := frozN (i := 10) hx2; have c11 := cellN (i := 11) hx2 rfl; have d11 := frozN (i := 11) hx2; have c12 := cellN (i := 12) hx2 rfl; have d12 := frozN (i := 12) hx2; have c13 := cellN (i := 13) hx2 rfl; have d13 := frozN (i := 13) hx2; clear hx2; clear hw4 hb4)
          | (go_at_call 62; (with_reducible refine (HNU.out _).mono ?_); rintro e w5 ⟨⟨SA, sc, he, hia⟩, hb5⟩; obtain rfl : e = _ := he; have hn2 : w5.heap[w4.heap.size]? = some (.cells #[.int .i64 2, .slice A 1 c, .slice none 0 0, .string ⟨text.toArray⟩, .int .i64 0, .slice none 0 0, .int .i64 0, .int .i64 0, .int .i64 0, .int .i64 0, .int .i64 0, .int .i64 0, .int .i64 0, .bool false] 51 (0, 0)) := bl_blk hb5 (heap_alloc_new _ _); have b0 := cellN (i := 0) hn2 rfl; have b1 := cellN (i := 1) hn2 rfl; have b2 := cellN (i := 2) hn2 rfl; have b3 := cellN (i := 3) hn2 rfl; have b4 := cellN (i := 4) hn2 rfl; have b5 := cellN (i := 5) hn2 rfl; have b6 := cellN (i := 6) hn2 rfl; have b7 := cellN (i := 7) hn2 rfl; have b8 := cellN (i := 8) hn2 rfl; have b9 := cellN (i := 9) hn2 rfl; have b10 := cellN (i := 10) hn2 rfl; have b11 := cellN (i := 11) hn2 rfl; have b12 := cellN (i := 12) hn2 rfl; have b13 := cellN (i := 13) hn2 rfl; have bd2 := frozN (i := 2) hn2; have bl2 := cell_lt hn2; have HN2 := Lib.hid hn2; clear hn2; have HLT := Lib.hid HW.out.lt; have hbx : Below w4.heap.size w4 w5 := (bl_al (Below.refl _ _) _).trans (hb5.mono (by simp)); have HIS : Hid (IntsAt w5 (Sn w w4.heap.size) (.slice SA l.length sc) l) := Lib.hid (hia.move fun b hb hl => ⟨sn_of HLT.out hb, hl, fun o => rfl⟩); have HIN : Hid (IntsAt w5 (Sn w w4.heap.size) (.slice A ([v] : List Int).length c) [v]) := Lib.hid (HIN.out.below hbx); have HW := Lib.hid (HW.out.on hbx); have hx2 := HW.out.hx; have e2 := HW.out.lt; have c0 := cellN (i := 0) hx2 rfl; have d0 := frozN (i := 0) hx2; have c1 := cellN (i := 1) hx2 rfl; have d1 := frozN (i := 1) hx2; have c2 := cellN (i := 2) hx2 rfl; have d2 := frozN (i := 2) hx2; have c3 := cellN (i := 3) hx2 rfl; have d3 := frozN (i := 3) hx2; have c4 := cellN (i := 4) hx2 rfl; have d4 := frozN (i := 4) hx2; have c5 := cellN (i := 5) hx2 rfl; have d5 := frozN (i := 5) hx2; have c6 := cellN (i := 6) hx2 rfl; have d6 := frozN (i := 6) hx2; have c7 := cellN (i := 7) hx2 rfl; have d7 := frozN (i := 7) hx2; have c8 := cellN (i := 8) hx2 rfl; have d8 := frozN (i := 8) hx2; have c9 := cellN (i := 9) hx2 rfl; have d9 := frozN (i := 9) hx2; have c10 := cellN (i := 10) hx2 rfl; have d10 := frozN (i := 10) hx2; have c11 := cellN (i := 11) hx2 rfl; have d11 := frozN (i := 11) hx2; have c12 := cellN (i := 12) hx2 rfl; have d12 := frozN (i := 12) hx2; have c13 := cellN (i := 13) hx2 rfl; have d13 := frozN (i := 13) hx2; clear hx2; clear hb5 hbx hia)
          | (go_at_call 63; (with_reducible refine (rrises_any _ _ _ l 1 4 (HIS.out.setNB (i := 2)) (by omega)).mono ?_); rintro e w6 ⟨he, q, rfl⟩; obtain rfl : e = .returned (.bool true) := he.trans (by rw [HR.out]))
          | fail)
        have hn2 : (w5.setCell ⟨w4.heap.size, 2, none⟩ (.slice SA l.length sc)).heap[w4.heap.size]? = some (.cells #[.int .i64 2, .slice A 1 c, .slice SA l.length sc, .string ⟨text.toArray⟩, .int .i64 0, .slice none 0 0, .int .i64 0, .int .i64 0, .int .i64 0, .int .i64 0, .int .i64 0, .int .i64 0, .int .i64 0, .bool false] 51 (0, 0)) := set_block (i := 2) HN2.out
        have HW := Lib.hid (HW.out.set (nb := w4.heap.size) (i := 2) (u := .slice SA l.length sc) HLT.out)
        have HIN := Lib.hid (HIN.out.setNB (i := 2) (u := .slice SA l.length sc))
        have HIS := Lib.hid (HIS.out.setNB (i := 2) (u := .slice SA l.length sc))
        have hn2 : ((w5.setCell ⟨w4.heap.size, 2, none⟩ (.slice SA l.length sc)).drewN q).heap[w4.heap.size]? = _ := hn2
        have HW := Lib.hid (HW.out.dr q)
        have HIN := Lib.hid (HIN.out.below (bl_drn (Below.refl _ _) q))
        have HIS := Lib.hid (HIS.out.below (bl_drn (Below.refl _ _) q))
        generalize ((w5.setCell ⟨w4.heap.size, 2, none⟩ (.slice SA l.length sc)).drewN q) = W1 at *
        clear c0 d0 c1 d1 c2 d2 c3 d3 c4 d4 c5 d5 c6 d6 c7 d7 c8 d8 c9 d9 c10 d10 c11 d11 c12 d12 c13 d13 b0 b1 b2 b3 b4 b5 b6 b7 b8 b9 b10 b11 b12 b13 bd2 bl2 e2
        have b0 := cellN (i := 0) hn2 rfl
        have b1 := cellN (i := 1) hn2 rfl
        have b2 := cellN (i := 2) hn2 rfl
        have b3 := cellN (i := 3) hn2 rfl
        have b4 := cellN (i := 4) hn2 rfl
        have b5 := cellN (i := 5) hn2 rfl
        have b6 := cellN (i := 6) hn2 rfl
        have b7 := cellN (i := 7) hn2 rfl
        have b8 := cellN (i := 8) hn2 rfl
        have b9 := cellN (i := 9) hn2 rfl
        have b10 := cellN (i := 10) hn2 rfl
        have b11 := cellN (i := 11) hn2 rfl
        have b12 := cellN (i := 12) hn2 rfl
        have b13 := cellN (i := 13) hn2 rfl
        have bd2 := frozN (i := 2) hn2
        have bl2 := cell_lt hn2
        have hx2 := HW.out.hx
        have e2 := HW.out.lt
        have c0 := cellN (i := 0) hx2 rfl
        have d0 := frozN (i := 0) hx2
        have c1 := cellN (i := 1) hx2 rfl
        have d1 := frozN (i := 1) hx2
        have c2 := cellN (i := 2) hx2 rfl
        have d2 := frozN (i := 2) hx2
        have c3 := cellN (i := 3) hx2 rfl
        have d3 := frozN (i := 3) hx2
        have c4 := cellN (i := 4) hx2 rfl
        have d4 := frozN (i := 4) hx2
        have c5 := cellN (i := 5) hx2 rfl
        have d5 := frozN (i := 5) hx2
        have c6 := cellN (i := 6) hx2 rfl
        have d6 := frozN (i := 6) hx2
        have c7 := cellN (i := 7) hx2 rfl
        have d7 := frozN (i := 7) hx2
        have c8 := cellN (i := 8) hx2 rfl
        have d8 := frozN (i := 8) hx2
        have c9 := cellN (i := 9) hx2 rfl
        have d9 := frozN (i := 9) hx2
        have c10 := cellN (i := 10) hx2 rfl
        have d10 := frozN (i := 10) hx2
        have c11 := cellN (i := 11) hx2 rfl
        have d11 := frozN (i := 11) hx2
        have c12 := cellN (i := 12) hx2 rfl
        have d12 := frozN (i := 12) hx2
        have c13 := cellN (i := 13) hx2 rfl
        have d13 := frozN (i := 13) hx2
        clear hx2
        clear hn2
        go_region_with (go_at_call 65; (with_reducible refine (HTX.out _).mono ?_); rintro e w8 ⟨rfl, rfl⟩)
        all_goals
          go_wp2
          refine bodyPost_ret (v := .tuple #[.agg #[.int .i64 2, .slice A 1 c, .slice SA l.length sc, .string ⟨text.toArray⟩, .int .i64 0, .slice none 0 0, .int .i64 0, .int .i64 0, .int .i64 0, .int .i64 0, .int .i64 0, .int .i64 0, .int .i64 0, .bool false], .bool false]) (results_rd_drew Tryz.results38 rfl rfl (node_told HW.out.hx)) rfl ?_
          refine ⟨⟨{ gz 2 with ins := [v], side := l, text := text }, A, SA, none, c, sc, 0, by rw [HE.out]; rfl, (fun v hv => by rw [HE.out] at hv; cases hv), ?_⟩, bl_dr (node_told_bl HW.out.hb (Nat.le_refl _))⟩
          exact (rd_end HW.out (⟨A, SA, none, c, sc, 0, rfl, HIN.out.one1, HIS.out.one1, tyZ_at _ _⟩)).1.below (bl_dr (Below.refl _ _))
end Go.Proofs.YtllnamhgnbdkmaaGreatDoor
