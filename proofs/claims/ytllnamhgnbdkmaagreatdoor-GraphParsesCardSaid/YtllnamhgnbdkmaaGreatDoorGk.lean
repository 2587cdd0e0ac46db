/-
Stage 11: the document's Read: group.
-/
import Derived.Test.YtllnamhgnbdkmaaGreatDoorGs
set_option linter.unusedVariables false
set_option linter.unusedSimpArgs false
namespace Go.Proofs.YtllnamhgnbdkmaaGreatDoor
open Go.RowKit Go.Shelf Go.Sort
def grpT (v : Int) : Nat → List Int → List UInt8 → Option Gn
  | k + 1, xs, r => if (Lib.cut r [32]).2.2 = true then (goodN (Lib.cut r [32]).1 9999999).bind fun x => grpT v k (xs ++ [x]) (Lib.cut r [32]).2.1 else none
  | 0, xs, r => if (Lib.cut r [32]).2.2 = true then (match xs, modeP (Lib.cut r [32]).1, isTx (Lib.cut r [32]).2.1 with
    | [a, b, c], some m, true => some { gz 4 with ins := [v], e := a, l := b, lt := c, acc := m, text := (Lib.cut r [32]).2.1 }
    | _, _, _ => none) else none
theorem op4_grp (q : List UInt8 → Option (List Int)) (r : List UInt8) : opR q r (some gop4) = if (Lib.cut r [32]).2.2 = true then (goodN (Lib.cut r [32]).1 999).bind fun v => grpT v 3 [] (Lib.cut r [32]).2.1 else none := by
  rw [op4_eq q r _ _ _ _ _ rfl rfl rfl rfl rfl]
  by_cases h1 : (Lib.cut r [32]).2.2 = true
  · rw [if_pos h1]
    generalize (Lib.cut r [32]).1 = a
    generalize (Lib.cut r [32]).2.1 = r1 at *
    simp only [grpT]
    by_cases h2 : (Lib.cut r1 [32]).2.2 = true
    · simp only [if_pos h2]
      by_cases h3 : (Lib.cut (Lib.cut r1 [32]).2.1 [32]).2.2 = true
      · simp only [if_pos h3]
        by_cases h4 : (Lib.cut (Lib.cut (Lib.cut r1 [32]).2.1 [32]).2.1 [32]).2.2 = true
        · simp only [if_pos h4]
          by_cases h5 : (Lib.cut (Lib.cut (Lib.cut (Lib.cut r1 [32]).2.1 [32]).2.1 [32]).2.1 [32]).2.2 = true
          · rw [if_pos ⟨h1, h2, h3, h4, h5⟩]
            simp only [if_pos h5]
            unfold node4
            cases goodN a 999 <;> cases goodN (Lib.cut r1 [32]).1 9999999 <;> cases goodN (Lib.cut (Lib.cut r1 [32]).2.1 [32]).1 9999999 <;> cases goodN (Lib.cut (Lib.cut (Lib.cut r1 [32]).2.1 [32]).2.1 [32]).1 9999999 <;> first | rfl | (simp only [Option.bind_some, List.nil_append, List.cons_append]; cases modeP (Lib.cut (Lib.cut (Lib.cut (Lib.cut r1 [32]).2.1 [32]).2.1 [32]).2.1 [32]).1 <;> cases isTx (Lib.cut (Lib.cut (Lib.cut (Lib.cut r1 [32]).2.1 [32]).2.1 [32]).2.1 [32]).2.1 <;> rfl)
          · rw [if_neg (fun h => h5 h.2.2.2.2)]
            simp only [if_neg h5]
            cases goodN a 999 <;> cases goodN (Lib.cut r1 [32]).1 9999999 <;> cases goodN (Lib.cut (Lib.cut r1 [32]).2.1 [32]).1 9999999 <;> cases goodN (Lib.cut (Lib.cut (Lib.cut r1 [32]).2.1 [32]).2.1 [32]).1 9999999 <;> rfl
        · rw [if_neg (fun h => h4 h.2.2.2.1)]
          simp only [if_neg h4]
          cases goodN a 999 <;> cases goodN (Lib.cut r1 [32]).1 9999999 <;> cases goodN (Lib.cut (Lib.cut r1 [32]).2.1 [32]).1 9999999 <;> rfl
      · rw [if_neg (fun h => h3 h.2.2.1)]
        simp only [if_neg h3]
        cases goodN a 999 <;> cases goodN (Lib.cut r1 [32]).1 9999999 <;> rfl
    · rw [if_neg (fun h => h2 h.2.1)]
      simp only [if_neg h2]
      cases goodN a 999 <;> rfl
  · rw [if_neg h1, if_neg (fun h => h1 h.1)]
structure GpW (w : World) (nb : Nat) (W : World) (A : Option Addr) (c : Nat) (v : Int) (xs : List Int) : Prop where
  rd : RdW w W
  lt : w.heap.size < nb
  nbx : W.heap[nb]? = some (.cells #[.int .i64 4, .slice A 1 c, .slice none 0 0, .string ⟨#[]⟩, .int .i64 0, .slice none 0 0, .int .i64 0, .int .i64 0, .int .i64 0, .int .i64 0, .int .i64 0, .int .i64 0, .int .i64 0, .bool false] 51 (0, 0))
  lbx : W.heap[nb + 1]? = some (.cells #[.int .i64 (xs.getD 0 0), .int .i64 (xs.getD 1 0), .int .i64 (xs.getD 2 0)] 119 (0, 0))
  ins : IntsAt W (fun b => w.heap.size + 1 ≤ b ∧ b < nb) (.slice A ([v] : List Int).length c) [v]
theorem GpW.on {w W W' : World} {nb c : Nat} {A : Option Addr} {v : Int} {xs : List Int} (h : GpW w nb W A c v xs) (hb : Below W.heap.size W W') : GpW w nb W' A c v xs := ⟨h.rd.on hb, h.lt, bl_blk hb h.nbx, bl_blk hb h.lbx, h.ins.below hb⟩
theorem GpW.put {w W : World} {nb c : Nat} {A : Option Addr} {v y : Int} {xs : List Int} (h : GpW w nb W A c v xs) (hl : xs.length < 3) : GpW w nb (W.setCell ⟨nb + 1, xs.length, none⟩ (.int .i64 y)) A c v (xs ++ [y]) := by
  have hlt := h.lt
  refine ⟨h.rd.set (by omega), h.lt, (Below.heap_setCell W ⟨nb + 1, xs.length, none⟩ _ nb (by simp)).trans h.nbx, ?_, h.ins.move fun b hb hl => ⟨hb, by simpa [World.setCell] using hl, fun o => World.cell?_of_block (a := ⟨b, o, none⟩) (Below.heap_setCell W ⟨nb + 1, xs.length, none⟩ _ b (by have := hb.2; simp; omega))⟩⟩
  have := set_block (i := xs.length) (u := .int .i64 y) h.lbx
  rw [this]
  match xs, hl with
  | [], _ => rfl
  | [a], _ => rfl
  | [a, b], _ => rfl
theorem GpW.cell {w W : World} {nb c j : Nat} {A : Option Addr} {v : Int} {xs : List Int} (h : GpW w nb W A c v xs) (hj : j < 3) : ∃ u, W.cell? ⟨nb + 1, j, none⟩ = some u := by
  match j, hj with
  | 0, _ => exact ⟨_, cellN h.lbx rfl⟩
  | 1, _ => exact ⟨_, cellN h.lbx rfl⟩
  | 2, _ => exact ⟨_, cellN h.lbx rfl⟩
theorem IntsAt.setN {w W : World} {nb i : Nat} {u v : Value} {l : List Int} (h : IntsAt W (fun b => w.heap.size + 1 ≤ b ∧ b < nb) v l) : IntsAt (W.setCell ⟨nb, i, none⟩ u) (fun b => w.heap.size + 1 ≤ b ∧ b < nb) v l :=
  h.move fun b hb hl => ⟨hb, by simpa [World.setCell] using hl, fun o => World.cell?_of_block (a := ⟨b, o, none⟩) (Below.heap_setCell W ⟨nb, i, none⟩ u b (Nat.ne_of_lt hb.2))⟩
theorem grpT_no {v : Int} {k : Nat} {xs : List Int} {r : List UInt8} (h : (Lib.cut r [32]).2.2 = false ∨ goodN (Lib.cut r [32]).1 9999999 = none) : grpT v (k + 1) xs r = none := by
  unfold grpT
  rcases h with h | h
  · rw [if_neg (by rw [h]; decide)]
  · rw [h]; split <;> rfl
theorem grpT_yes {v y : Int} {k : Nat} {xs : List Int} {r : List UInt8} (h : (Lib.cut r [32]).2.2 = true) (h2 : goodN (Lib.cut r [32]).1 9999999 = some y) : grpT v (k + 1) xs r = grpT v k (xs ++ [y]) (Lib.cut r [32]).2.1 := by
  conv => lhs; unfold grpT
  rw [if_pos h, h2]
  rfl
set_option maxRecDepth 100000 in
set_option maxHeartbeats 4000000 in
theorem rread_group (s rest r1 : List UInt8) (v : Int) (w : World) (h : RdC s [103, 114, 111, 117, 112] rest true) (h1 : OneC rest r1 true (some v)) (hl : r1.length ≤ 900000) :
    Calls Tryz.prog 38 #[.string ⟨s.toArray⟩] w fun e w' => LineOut w w' e (grpT v 3 [] r1) := by
  have HCUT := Lib.hid h.cut
  have HONE := Lib.hid h1.one
  clear h h1
  go_enter Tryz.func38, Tryz.ntmps38
  go_wp2_with (first
    | (go_at_call 58; (with_reducible refine (HCUT.out _).mono ?_); rintro e w1 ⟨rfl, nd, rfl⟩; have HW := Lib.hid ((RdW.start w).dr nd))
    | (go_at_call 64; (with_reducible refine (HONE.out _).mono ?_); rintro e w2 ⟨⟨A, c, he, hia⟩, hb2⟩; obtain rfl : e = _ := he; have HIN : Hid (IntsAt w2 (fun b => w.heap.size + 1 ≤ b) (.slice A ([v] : List Int).length c) [v]) := Lib.hid (hia.move fun b hb hl => ⟨up1 HW.out hb, hl, fun o => rfl⟩); have HW := Lib.hid (HW.out.on hb2); have hx2 := HW.out.hx; have e2 := HW.out.lt; have c0 := cellN (i := 0) hx2 rfl; have d0 := frozN (i := 0) hx2; have c1 := cellN (i := 1) hx2 rfl; have d1 := frozN (i := 1) hx2; have c2 := cellN (i := 2) hx2 rfl; have d2 := frozN (i := 2) hx2; have c3 := cellN (i := 3) hx2 rfl; have d3 := frozN (i := 3) hx2; have c4 := cellN (i := 4) hx2 rfl; have d4 := frozN (i := 4) hx2; have c5 := cellN (i := 5) hx2 rfl; have d5 := frozN (i := 5) hx2; have c6 := cellN (i := 6) hx2 rfl; have d6 := frozN (i := 6) hx2; have c7 := cellN (i := 7) hx2 rfl; have d7 := frozN (i := 7) hx2; have c8 := cellN (i := 8) hx2 rfl; have d8 := frozN (i := 8) hx2; have c9 := cellN (i := 9) hx2 rfl; have d9 := frozN (i := 9) hx2; have c10 := cellN (i := 10) hx2 rfl; have d10 := frozN (i := 10) hx2; have c11 := cellN (i := 11) hx2 rfl; have d11 := frozN (i := 11) hx2; have c12 := cellN (i := 12) hx2 rfl; have d12 := frozN (i := 12) hx2; have c13 := cellN (i := 13) hx2 rfl; have d13 := frozN (i := 13) hx2; clear hx2; clear hb2 hia)
    | fail)
  have HG0 : Hid (GpW w w2.heap.size ((w2.alloc (.cells #[.int .i64 4, .slice A 1 c, .slice none 0 0, .string ⟨#[]⟩, .int .i64 0, .slice none 0 0, .int .i64 0, .int .i64 0, .int .i64 0, .int .i64 0, .int .i64 0, .int .i64 0, .int .i64 0, .bool false] 51)).alloc (.cells #[.int .i64 0, .int .i64 0, .int .i64 0] 119)) A c v []) := Lib.hid (by
    refine ⟨(HW.out.al _).al _, HW.out.lt, alloc_old (heap_alloc_new w2 _), ?_, (HIN.out.move fun b hb hl => ⟨⟨hb, hl⟩, hl, fun o => rfl⟩).below (bl_al (bl_al (Below.refl _ _) _) _)⟩
    have := heap_alloc_new (w2.alloc (.cells #[.int .i64 4, .slice A 1 c, .slice none 0 0, .string ⟨#[]⟩, .int .i64 0, .slice none 0 0, .int .i64 0, .int .i64 0, .int .i64 0, .int .i64 0, .int .i64 0, .int .i64 0, .int .i64 0, .bool false] 51)) (.cells #[.int .i64 0, .int .i64 0, .int .i64 0] 119)
    rwa [World.size_alloc] at this)
  clear c0 d0 c1 d1 c2 d2 c3 d3 c4 d4 c5 d5 c6 d6 c7 d7 c8 d8 c9 d9 c10 d10 c11 d11 c12 d12 c13 d13 e2
  generalize w2.heap.size = nb at *
  go_loopw [5, 24] (fun sv iv wr => ∃ (j : Nat) (xs : List Int) (r : List UInt8), sv = .string ⟨r.toArray⟩ ∧ iv = .int .i64 (j : Int) ∧ j ≤ 3 ∧ xs.length = j ∧ r.length ≤ 900000 ∧ Hid (grpT v 3 [] r1 = grpT v (3 - j) xs r) ∧ Hid (GpW w nb wr A c v xs)) (fun _ iv _ => 3 - (intOf iv).toNat)
  case atStart => exact ⟨0, [], r1, rfl, rfl, Nat.zero_le _, rfl, hl, Lib.hid rfl, HG0⟩
  case round =>
    obtain ⟨j, xs, r, rfl, rfl, hj, hxl, hrl, HE0, HG⟩ := hrel
    clear HG0 HIN HW HONE HCUT
    have HCU2 := Lib.hid fun W => rcut_any r 32 W (Nat.le_trans hrl (by decide))
    have HCL := Lib.hid (cutR_le r 32)
    by_cases hj3 : j < 3
    · have hjl : (j : Int) < 3 := by omega
      have hj0 : (0 : Int) ≤ (j : Int) := by omega
      have HNU : Hid (∀ W, Calls Tryz.prog 62 #[.string ⟨(Lib.cut r [32]).1.toArray⟩, .int .u8 32, .int .i64 7] W fun e w' => NumsOut W w' e ((goodN (Lib.cut r [32]).1 9999999).map fun v => [v]) ∧ Below W.heap.size W w') := Lib.hid fun W => by
        have := rnums_any 7 9999999 km7 (Lib.cut r [32]).1 32 W (by have := HCL.out.1; omega)
        rw [show ((32 : UInt8).toNat : Int) = 32 from rfl, numsP_one (cut_no r 32)] at this
        exact this
      have HNO : Hid ((Lib.cut r [32]).2.2 = false ∨ goodN (Lib.cut r [32]).1 9999999 = none → grpT v 3 [] r1 = none) := Lib.hid fun h => by rw [HE0.out, show 3 - j = (2 - j) + 1 by omega]; exact grpT_no h
      have HYES : Hid (∀ y, (Lib.cut r [32]).2.2 = true → goodN (Lib.cut r [32]).1 9999999 = some y → grpT v 3 [] r1 = grpT v (3 - (j + 1)) (xs ++ [y]) (Lib.cut r [32]).2.1) := Lib.hid fun y h1 h2 => by rw [HE0.out, show 3 - j = (3 - (j + 1)) + 1 by omega]; exact grpT_yes h1 h2
      clear HE0
      generalize goodN (Lib.cut r [32]).1 9999999 = g at *
      obtain ⟨x, r2, mo, hcut⟩ : ∃ x r2 mo, Lib.cut r [32] = (x, r2, mo) := ⟨_, _, _, rfl⟩
      rw [hcut] at HCU2 HCL HNU HNO HYES
      dsimp only at HCU2 HCL HNU HNO HYES
      rw [show ((32 : UInt8).toNat : Int) = 32 from rfl] at HCU2
      clear hcut
      cases g with
      | none =>
        have HE := Lib.hid (HNO.out (.inr rfl))
        clear HNO HYES
        cases mo with
        | false =>
          go_wp2_with (first
            | (go_at_call 58; (with_reducible refine (HCU2.out _).mono ?_); rintro e w4 ⟨rfl, nd2, hw4⟩; have hb4 := (congrArg (fun W : World => Below wr.heap.size wr W) hw4).mpr (bl_drn (Below.refl _ _) nd2); have HG := Lib.hid (HG.out.on hb4); clear hw4 hb4)
            | (go_at_call 62; (with_reducible refine (HNU.out _).mono ?_); rintro e w5 ⟨he, hb5⟩; obtain rfl : e = _ := he; have HG := Lib.hid (HG.out.on hb5); have hx2 := HG.out.rd.hx; have e2 := HG.out.rd.lt; have c0 := cellN (i := 0) hx2 rfl; have d0 := frozN (i := 0) hx2; have c1 := cellN (i := 1) hx2 rfl; have d1 := frozN (i := 1) hx2; have c2 := cellN (i := 2) hx2 rfl; have d2 := frozN (i := 2) hx2; have c3 := cellN (i := 3) hx2 rfl; have d3 := frozN (i := 3) hx2; have c4 := cellN (i := 4) hx2 rfl; have d4 := frozN (i := 4) hx2; have c5 := cellN (i := 5) hx2 rfl; have d5 := frozN (i := 5) hx2; have c6 := cellN (i := 6) hx2 rfl; have d6 := frozN (i := 6) hx2; have c7 := cellN (i := 7) hx2 rfl; have d7 := frozN (i := 7) hx2; have c8 := cellN (i := 8) hx2 rfl; have d8 := frozN (i := 8) hx2; have c9 := cellN (i := 9) hx2 rfl; have d9 := frozN (i := 9) hx2; have c10 := cellN (i := 10) hx2 rfl; have d10 := frozN (i := 10) hx2; have c11 := cellN (i := 11) hx2 rfl; have d11 := frozN (i := 11) hx2; have c12 := cellN (i := 12) hx2 rfl; have d12 := frozN (i := 12) hx2; have c13 := cellN (i := 13) hx2 rfl; have d13 := frozN (i := 13) hx2; clear hx2; clear hb5)
            | fail)
          have HW := Lib.hid HG.out.rd
          refine bodyPost_ret (v := .tuple #[.agg #[.int .i64 0, .slice none 0 0, .slice none 0 0, .string ⟨#[]⟩, .int .i64 0, .slice none 0 0, .int .i64 0, .int .i64 0, .int .i64 0, .int .i64 0, .int .i64 0, .int .i64 0, .int .i64 0, .bool false], .bool false]) (results_rd Tryz.results38 rfl rfl (node_told HW.out.hx)) rfl ?_
          refine ⟨⟨gz 0, none, none, none, 0, 0, 0, by rw [HE.out]; rfl, (fun v hv => by rw [HE.out] at hv; cases hv), ?_⟩, node_told_bl HW.out.hb (Nat.le_refl _)⟩
          exact (rd_end HW.out (gz_at _ _ 0)).1
        | true =>
          go_wp2_with (first
            | (go_at_call 58; (with_reducible refine (HCU2.out _).mono ?_); rintro e w4 ⟨rfl, nd2, hw4⟩; have hb4 := (congrArg (fun W : World => Below wr.heap.size wr W) hw4).mpr (bl_drn (Below.refl _ _) nd2); have HG := Lib.hid (HG.out.on hb4); clear hw4 hb4)
            | (go_at_call 62; (with_reducible refine (HNU.out _).mono ?_); rintro e w5 ⟨he, hb5⟩; obtain rfl : e = _ := he; have HG := Lib.hid (HG.out.on hb5); have hx2 := HG.out.rd.hx; have e2 := HG.out.rd.lt; have c0 := cellN (i := 0) hx2 rfl; have d0 := frozN (i := 0) hx2; have c1 := cellN (i := 1) hx2 rfl; have d1 := frozN (i := 1) hx2; have c2 := cellN (i := 2) hx2 rfl; have d2 := frozN (i := 2) hx2; have c3 := cellN (i := 3) hx2 rfl; have d3 := frozN (i := 3) hx2; have c4 := cellN (i := 4) hx2 rfl; have d4 := frozN (i := 4) hx2; have c5 := cellN (i := 5) hx2 rfl; have d5 := frozN (i := 5) hx2; have c6 := cellN (i := 6) hx2 rfl; have d6 := frozN (i := 6) hx2; have c7 := cellN (i := 7) hx2 rfl; have d7 := frozN (i := 7) hx2; have c8 := cellN (i := 8) hx2 rfl; have d8 := frozN (i := 8) hx2; have c9 := cellN (i := 9) hx2 rfl; have d9 := frozN (i := 9) hx2; have c10 := cellN (i := 10) hx2 rfl; have d10 := frozN (i := 10) hx2; have c11 := cellN (i := 11) hx2 rfl; have d11 := frozN (i := 11) hx2; have c12 := cellN (i := 12) hx2 rfl; have d12 := frozN (i := 12) hx2; have c13 := cellN (i := 13) hx2 rfl; have d13 := frozN (i := 13) hx2; clear hx2; clear hb5)
            | fail)
          have HW := Lib.hid HG.out.rd
          refine bodyPost_ret (v := .tuple #[.agg #[.int .i64 0, .slice none 0 0, .slice none 0 0, .string ⟨#[]⟩, .int .i64 0, .slice none 0 0, .int .i64 0, .int .i64 0, .int .i64 0, .int .i64 0, .int .i64 0, .int .i64 0, .int .i64 0, .bool false], .bool false]) (results_rd Tryz.results38 rfl rfl (node_told HW.out.hx)) rfl ?_
          refine ⟨⟨gz 0, none, none, none, 0, 0, 0, by rw [HE.out]; rfl, (fun v hv => by rw [HE.out] at hv; cases hv), ?_⟩, node_told_bl HW.out.hb (Nat.le_refl _)⟩
          exact (rd_end HW.out (gz_at _ _ 0)).1
      | some y =>
        cases mo with
        | false =>
          have HE := Lib.hid (HNO.out (.inl rfl))
          clear HNO HYES
          go_wp2_with (first
            | (go_at_call 58; (with_reducible refine (HCU2.out _).mono ?_); rintro e w4 ⟨rfl, nd2, hw4⟩; have hb4 := (congrArg (fun W : World => Below wr.heap.size wr W) hw4).mpr (bl_drn (Below.refl _ _) nd2); have HG := Lib.hid (HG.out.on hb4); clear hw4 hb4)
            | (go_at_call 62; (with_reducible refine (HNU.out _).mono ?_); rintro e w5 ⟨⟨SA, sc, he, hia⟩, hb5⟩; obtain rfl : e = _ := he; obtain ⟨ib, io, rfl, i0, _, _⟩ := hia.cell (j := 0) (by simp); have i0 : w5.cell? ⟨ib, io, none⟩ = some (.int .i64 y) := i0; have HG := Lib.hid (HG.out.on hb5); have hx2 := HG.out.rd.hx; have e2 := HG.out.rd.lt; have c0 := cellN (i := 0) hx2 rfl; have d0 := frozN (i := 0) hx2; have c1 := cellN (i := 1) hx2 rfl; have d1 := frozN (i := 1) hx2; have c2 := cellN (i := 2) hx2 rfl; have d2 := frozN (i := 2) hx2; have c3 := cellN (i := 3) hx2 rfl; have d3 := frozN (i := 3) hx2; have c4 := cellN (i := 4) hx2 rfl; have d4 := frozN (i := 4) hx2; have c5 := cellN (i := 5) hx2 rfl; have d5 := frozN (i := 5) hx2; have c6 := cellN (i := 6) hx2 rfl; have d6 := frozN (i := 6) hx2; have c7 := cellN (i := 7) hx2 rfl; have d7 := frozN (i := 7) hx2; have c8 := cellN (i := 8) hx2 rfl; have d8 := frozN (i := 8) hx2; have c9 := cellN (i := 9) hx2 rfl; have d9 := frozN (i := 9) hx2; have c10 := cellN (i := 10) hx2 rfl; have d10 := frozN (i := 10) hx2; have c11 := cellN (i := 11) hx2 rfl; have d11 := frozN (i := 11) hx2; have c12 := cellN (i := 12) hx2 rfl; have d12 := frozN (i := 12) hx2; have c13 := cellN (i := 13) hx2 rfl; have d13 := frozN (i := 13) hx2; clear hx2; obtain ⟨lu, l0⟩ := HG.out.cell hj3; have l1 := frozN (i := j) HG.out.lbx; have l2 := cell_lt HG.out.lbx; clear hb5 hia)
            | fail)
          have HW := Lib.hid HG.out.rd
          refine bodyPost_ret (v := .tuple #[.agg #[.int .i64 0, .slice none 0 0, .slice none 0 0, .string ⟨#[]⟩, .int .i64 0, .slice none 0 0, .int .i64 0, .int .i64 0, .int .i64 0, .int .i64 0, .int .i64 0, .int .i64 0, .int .i64 0, .bool false], .bool false]) (results_rd Tryz.results38 rfl rfl (node_told HW.out.hx)) rfl ?_
          refine ⟨⟨gz 0, none, none, none, 0, 0, 0, by rw [HE.out]; rfl, (fun v hv => by rw [HE.out] at hv; cases hv), ?_⟩, node_told_bl HW.out.hb (Nat.le_refl _)⟩
          exact (rd_end HW.out (gz_at _ _ 0)).1
        | true =>
          have HE := Lib.hid (HYES.out y rfl rfl)
          clear HNO HYES
          go_wp2_with (first
            | (go_at_call 58; (with_reducible refine (HCU2.out _).mono ?_); rintro e w4 ⟨rfl, nd2, hw4⟩; have hb4 := (congrArg (fun W : World => Below wr.heap.size wr W) hw4).mpr (bl_drn (Below.refl _ _) nd2); have HG := Lib.hid (HG.out.on hb4); clear hw4 hb4)
            | (go_at_call 62; (with_reducible refine (HNU.out _).mono ?_); rintro e w5 ⟨⟨SA, sc, he, hia⟩, hb5⟩; obtain rfl : e = _ := he; obtain ⟨ib, io, rfl, i0, _, _⟩ := hia.cell (j := 0) (by simp); have i0 : w5.cell? ⟨ib, io, none⟩ = some (.int .i64 y) := i0; have HG := Lib.hid (HG.out.on hb5); have hx2 := HG.out.rd.hx; have e2 := HG.out.rd.lt; have c0 := cellN (i := 0) hx2 rfl; have d0 := frozN (i := 0) hx2; have c1 := cellN (i := 1) hx2 rfl; have d1 := frozN (i := 1) hx2; have c2 := cellN (i := 2) hx2 rfl; have d2 := frozN (i := 2) hx2; have c3 := cellN (i := 3) hx2 rfl; have d3 := frozN (i := 3) hx2; have c4 := cellN (i := 4) hx2 rfl; have d4 := frozN (i := 4) hx2; have c5 := cellN (i := 5) hx2 rfl; have d5 := frozN (i := 5) hx2; have c6 := cellN (i := 6) hx2 rfl; have d6 := frozN (i := 6) hx2; have c7 := cellN (i := 7) hx2 rfl; have d7 := frozN (i := 7) hx2; have c8 := cellN (i := 8) hx2 rfl; have d8 := frozN (i := 8) hx2; have c9 := cellN (i := 9) hx2 rfl; have d9 := frozN (i := 9) hx2; have c10 := cellN (i := 10) hx2 rfl; have d10 := frozN (i := 10) hx2; have c11 := cellN (i := 11) hx2 rfl; have d11 := frozN (i := 11) hx2; have c12 := cellN (i := 12) hx2 rfl; have d12 := frozN (i := 12) hx2; have c13 := cellN (i := 13) hx2 rfl; have d13 := frozN (i := 13) hx2; clear hx2; obtain ⟨lu, l0⟩ := HG.out.cell hj3; have l1 := frozN (i := j) HG.out.lbx; have l2 := cell_lt HG.out.lbx; clear hb5 hia)
            | fail)
          go_roundw
          case rel => exact ⟨j + 1, xs ++ [y], r2, rfl, by go_num, by omega, by rw [List.length_append, hxl]; rfl, by have := HCL.out.2; omega, HE, Lib.hid (by rw [← hxl]; exact HG.out.put (by omega))⟩
          case measure => simp [intOf]; omega
    · obtain rfl : j = 3 := by omega
      obtain ⟨x0, x1, x2, rfl⟩ : ∃ x0 x1 x2, xs = [x0, x1, x2] := by
        match xs, hxl with
        | [x0, x1, x2], _ => exact ⟨x0, x1, x2, rfl⟩
      obtain ⟨how, text, ok, hcut⟩ : ∃ how text ok, Lib.cut r [32] = (how, text, ok) := ⟨_, _, _, rfl⟩
      have HE1 : Hid (grpT v 3 [] r1 = if ok = true then (match modeP how, isTx text with
        | some m, true => some { gz 4 with ins := [v], e := x0, l := x1, lt := x2, acc := m, text := text }
        | _, _ => none) else none) := Lib.hid (by
        rw [HE0.out, Nat.sub_self]
        unfold grpT
        rw [hcut]
        dsimp only
        cases ok <;> cases modeP how <;> cases isTx text <;> rfl)
      have HTX : Hid (∀ W, Calls Tryz.prog 65 #[.string ⟨text.toArray⟩] W fun e w' => e = .returned (.bool (isTx text)) ∧ W = w') := Lib.hid fun W => rtext_any text W (by have := HCL.out.2; rw [hcut] at this; dsimp only at this; omega)
      rw [hcut] at HCU2
      dsimp only at HCU2
      rw [show ((32 : UInt8).toNat : Int) = 32 from rfl] at HCU2
      clear hcut HE0 HCL hrl hl hxl hj hj3
      cases ok with
      | false =>
        have HE : Hid (grpT v 3 [] r1 = none) := Lib.hid HE1.out
        clear HE1
        go_upto_region 46 with (first
          | (go_at_call 58; (with_reducible refine (HCU2.out _).mono ?_); rintro e w4 ⟨rfl, nd2, hw4⟩; have hb4 := (congrArg (fun W : World => Below wr.heap.size wr W) hw4).mpr (bl_drn (Below.refl _ _) nd2); have HG := Lib.hid (HG.out.on hb4); have hx2 := HG.out.rd.hx; have e2 := HG.out.rd.lt; have c0 := cellN (i := 0) hx2 rfl; have d0 := frozN (i := 0) hx2; have c1 := cellN (i := 1) hx2 rfl; have d1 := frozN (i := 1) hx2; have c2 := cellN (i := 2) hx2 rfl; have d2 := frozN (i := 2) hx2; have c3 := cellN (i := 3) hx2 rfl; have d3 := frozN (i := 3) hx2; have c4 := cellN (i := 4) hx2 rfl; have d4 := frozN (i := 4) hx2; have c5 := cellN (i := 5) hx2 rfl; have d5 := frozN (i := 5) hx2; have c6 := cellN (i := 6) hx2 rfl; have d6 := frozN (i := 6) hx2; have c7 := cellN (i := 7) hx2 rfl; have d7 := frozN (i := 7) hx2; have c8 := cellN (i := 8) hx2 rfl; have d8 := frozN (i := 8) hx2; have c9 := cellN (i := 9) hx2 rfl; have d9 := frozN (i := 9) hx2; have c10 := cellN (i := 10) hx2 rfl; have d10 := frozN (i := 10) hx2; have c11 := cellN (i := 11) hx2 rfl; have d11 := frozN (i := 11) hx2; have c12 := cellN (i := 12) hx2 rfl; have d12 := frozN (i := 12) hx2; have c13 := cellN (i := 13) hx2 rfl; have d13 := frozN (i := 13) hx2; clear hx2; have hn2 := HG.out.nbx; have b0 := cellN (i := 0) hn2 rfl; have g0 := frozN (i := 0) hn2; have b1 := cellN (i := 1) hn2 rfl; have g1 := frozN (i := 1) hn2; have b2 := cellN (i := 2) hn2 rfl; have g2 := frozN (i := 2) hn2; have b3 := cellN (i := 3) hn2 rfl; have g3 := frozN (i := 3) hn2; have b4 := cellN (i := 4) hn2 rfl; have g4 := frozN (i := 4) hn2; have b5 := cellN (i := 5) hn2 rfl; have g5 := frozN (i := 5) hn2; have b6 := cellN (i := 6) hn2 rfl; have g6 := frozN (i := 6) hn2; have b7 := cellN (i := 7) hn2 rfl; have g7 := frozN (i := 7) hn2; have b8 := cellN (i := 8) hn2 rfl; have g8 := frozN (i := 8) hn2; have b9 := cellN (i := 9) hn2 rfl; have g9 := frozN (i := 9) hn2; have b10 := cellN (i := 10) hn2 rfl; have g10 := frozN (i := 10) hn2; have b11 := cellN (i := 11) hn2 rfl; have g11 := frozN (i := 11) hn2; have b12 := cellN (i := 12) hn2 rfl; have g12 := frozN (i := 12) hn2; have b13 := cellN (i := 13) hn2 rfl; have g13 := frozN (i := 13) hn2; have bl2 := cell_lt hn2; clear hn2; have hl2 := HG.out.lbx; have l0 := cellN (i := 0) (x := .int .i64 x0) hl2 rfl; have l1 := cellN (i := 1) (x := .int .i64 x1) hl2 rfl; have l2 := cellN (i := 2) (x := .int .i64 x2) hl2 rfl; have ll := cell_lt hl2; clear hl2; clear hw4 hb4)
          | fail)
        have hn2 : (((((w4.setCell ⟨nb, 10, none⟩ (.int .i64 x0)).setCell ⟨nb, 11, none⟩ (.int .i64 x1)).setCell ⟨nb, 12, none⟩ (.int .i64 x2)).setCell ⟨nb, 13, none⟩ (.bool (how == [97, 99, 99]))).setCell ⟨nb, 3, none⟩ (.string ⟨text.toArray⟩)).heap[nb]? = some (.cells #[.int .i64 4, .slice A 1 c, .slice none 0 0, .string ⟨text.toArray⟩, .int .i64 0, .slice none 0 0, .int .i64 0, .int .i64 0, .int .i64 0, .int .i64 0, .int .i64 x0, .int .i64 x1, .int .i64 x2, .bool (how == [97, 99, 99])] 51 (0, 0)) := (set_block (i := 3) (u := .string ⟨text.toArray⟩) (set_block (i := 13) (u := .bool (how == [97, 99, 99])) (set_block (i := 12) (u := .int .i64 x2) (set_block (i := 11) (u := .int .i64 x1) (set_block (i := 10) (u := .int .i64 x0) HG.out.nbx)))))
        have HW := Lib.hid (((((HG.out.rd.set (nb := nb) (i := 10) (u := .int .i64 x0) HG.out.lt).set (nb := nb) (i := 11) (u := .int .i64 x1) HG.out.lt).set (nb := nb) (i := 12) (u := .int .i64 x2) HG.out.lt).set (nb := nb) (i := 13) (u := .bool (how == [97, 99, 99])) HG.out.lt).set (nb := nb) (i := 3) (u := .string ⟨text.toArray⟩) HG.out.lt)
        have HIN := Lib.hid (((((HG.out.ins.setN (i := 10) (u := .int .i64 x0)).setN (i := 11) (u := .int .i64 x1)).setN (i := 12) (u := .int .i64 x2)).setN (i := 13) (u := .bool (how == [97, 99, 99]))).setN (i := 3) (u := .string ⟨text.toArray⟩))
        generalize (((((w4.setCell ⟨nb, 10, none⟩ (.int .i64 x0)).setCell ⟨nb, 11, none⟩ (.int .i64 x1)).setCell ⟨nb, 12, none⟩ (.int .i64 x2)).setCell ⟨nb, 13, none⟩ (.bool (how == [97, 99, 99]))).setCell ⟨nb, 3, none⟩ (.string ⟨text.toArray⟩)) = W1 at *
        clear c0 d0 b0 g0 c1 d1 b1 g1 c2 d2 b2 g2 c3 d3 b3 g3 c4 d4 b4 g4 c5 d5 b5 g5 c6 d6 b6 g6 c7 d7 b7 g7 c8 d8 b8 g8 c9 d9 b9 g9 c10 d10 b10 g10 c11 d11 b11 g11 c12 d12 b12 g12 c13 d13 b13 g13 bl2 e2 l0 l1 l2 ll
        have b0 := cellN (i := 0) hn2 rfl
        have b1 := cellN (i := 1) hn2 rfl
        have b2 := cellN (i := 2) hn2 rfl
        have b3 := cellN (i := 3) hn2 rfl
        have b4 := cellN (i := 4) hn2 rfl
        have b5 := cellN (i := 5) hn2 rfl
        have b6 := cellN (i := 6) hn2 rfl
        have b7 := cellN (i := 7) hn2 rfl
        have b8 := cellN (i := 8) hn2 rfl
        have b9 := cellN (i := 9) hn2 rfl
        have b10 := cellN (i := 10) hn2 rfl
        have b11 := cellN (i := 11) hn2 rfl
        have b12 := cellN (i := 12) hn2 rfl
        have b13 := cellN (i := 13) hn2 rfl
        have bl2 := cell_lt hn2
        have hx2 := HW.out.hx
        have e2 := HW.out.lt
        have c0 := cellN (i := 0) hx2 rfl
        have d0 := frozN (i := 0) hx2
        have c1 := cellN (i := 1) hx2 rfl
        have d1 := frozN (i := 1) hx2
        have c2 := cellN (i := 2) hx2 rfl
        have d2 := frozN (i := 2) hx2
        have c3 := cellN (i := 3) hx2 rfl
        have d3 := frozN (i := 3) hx2
        have c4 := cellN (i := 4) hx2 rfl
        have d4 := frozN (i := 4) hx2
        have c5 := cellN (i := 5) hx2 rfl
        have d5 := frozN (i := 5) hx2
        have c6 := cellN (i := 6) hx2 rfl
        have d6 := frozN (i := 6) hx2
        have c7 := cellN (i := 7) hx2 rfl
        have d7 := frozN (i := 7) hx2
        have c8 := cellN (i := 8) hx2 rfl
        have d8 := frozN (i := 8) hx2
        have c9 := cellN (i := 9) hx2 rfl
        have d9 := frozN (i := 9) hx2
        have c10 := cellN (i := 10) hx2 rfl
        have d10 := frozN (i := 10) hx2
        have c11 := cellN (i := 11) hx2 rfl
        have d11 := frozN (i := 11) hx2
        have c12 := cellN (i := 12) hx2 rfl
        have d12 := frozN (i := 12) hx2
        have c13 := cellN (i := 13) hx2 rfl
        have d13 := frozN (i := 13) hx2
        clear hx2
        clear hn2
        go_region
        all_goals
          go_wp2
          refine bodyPost_ret (v := .tuple #[.agg #[.int .i64 4, .slice A 1 c, .slice none 0 0, .string ⟨text.toArray⟩, .int .i64 0, .slice none 0 0, .int .i64 0, .int .i64 0, .int .i64 0, .int .i64 0, .int .i64 x0, .int .i64 x1, .int .i64 x2, .bool (how == [97, 99, 99])], .bool false]) (results_rd_drew Tryz.results38 rfl rfl (node_told HW.out.hx)) rfl ?_
          refine ⟨⟨{ gz 4 with ins := [v], e := x0, l := x1, lt := x2, acc := (how == [97, 99, 99]), text := text }, A, none, none, c, 0, 0, by rw [HE.out]; rfl, (fun v hv => by rw [HE.out] at hv; cases hv), ?_⟩, bl_dr (node_told_bl HW.out.hb (Nat.le_refl _))⟩
          exact (rd_end HW.out (⟨A, none, none, c, 0, 0, rfl, HIN.out.move fun b hb hl => ⟨hb.1, hl, fun o => rfl⟩, IntsAt.nil _ _, tyZ_at _ _⟩)).1.below (bl_dr (Below.refl _ _))
      | true =>
        by_cases ha : how = [97, 99, 99]
        · subst ha
          have HBO : Hid ((grpT v 3 [] r1).isSome = isTx text) := Lib.hid (by rw [HE1.out]; cases isTx text <;> rfl)
          have HVO : Hid (∀ u, grpT v 3 [] r1 = some u → { gz 4 with ins := [v], e := x0, l := x1, lt := x2, acc := true, text := text } = u) := Lib.hid (fun u hu => by rw [HE1.out] at hu; cases htx : isTx text with | true => (rw [htx] at hu; exact Option.some.inj hu) | false => (rw [htx] at hu; cases hu))
          clear HE1
          go_upto_region 46 with (first
            | (go_at_call 58; (with_reducible refine (HCU2.out _).mono ?_); rintro e w4 ⟨rfl, nd2, hw4⟩; have hb4 := (congrArg (fun W : World => Below wr.heap.size wr W) hw4).mpr (bl_drn (Below.refl _ _) nd2); have HG := Lib.hid (HG.out.on hb4); have hx2 := HG.out.rd.hx; have e2 := HG.out.rd.lt; have c0 := cellN (i := 0) hx2 rfl; have d0 := frozN (i := 0) hx2; have c1 := cellN (i := 1) hx2 rfl; have d1 := frozN (i := 1) hx2; have c2 := cellN (i := 2) hx2 rfl; have d2 := frozN (i := 2) hx2; have c3 := cellN (i := 3) hx2 rfl; have d3 := frozN (i := 3) hx2; have c4 := cellN (i := 4) hx2 rfl; have d4 := frozN (i := 4) hx2; have c5 := cellN (i := 5) hx2 rfl; have d5 := frozN (i := 5) hx2; have c6 := cellN (i := 6) hx2 rfl; have d6 := frozN (i := 6) hx2; have c7 := cellN (i := 7) hx2 rfl; have d7 := frozN (i := 7) hx2; have c8 := cellN (i := 8) hx2 rfl; have d8 := frozN (i := 8) hx2; have c9 := cellN (i := 9) hx2 rfl; have d9 := frozN (i := 9) hx2; have c10 := cellN (i := 10) hx2 rfl; have d10 := frozN (i := 10) hx2; have c11 := cellN (i := 11) hx2 rfl; have d11 := frozN (i := 11) hx2; have c12 := cellN (i := 12) hx2 rfl; have d12 := frozN (i := 12) hx2; have c13 := cellN (i := 13) hx2 rfl; have d13 := frozN (i := 13) hx2; clear hx2; have hn2 := HG.out.nbx; have b0 := cellN (i := 0) hn2 rfl; have g0 := frozN (i := 0) hn2; have b1 := cellN (i := 1) hn2 rfl; have g1 := frozN (i := 1) hn2; have b2 := cellN (i := 2) hn2 rfl; have g2 := frozN (i := 2) hn2; have b3 := cellN (i := 3) hn2 rfl; have g3 := frozN (i := 3) hn2; have b4 := cellN (i := 4) hn2 rfl; have g4 := frozN (i := 4) hn2; have b5 := cellN (i := 5) hn2 rfl; have g5 := frozN (i := 5) hn2; have b6 := cellN (i := 6) hn2 rfl; have g6 := frozN (i := 6) hn2; have b7 := cellN (i := 7) hn2 rfl; have g7 := frozN (i := 7) hn2; have b8 := cellN (i := 8) hn2 rfl; have g8 := frozN (i := 8) hn2; have b9 := cellN (i := 9) hn2 rfl; have g9 := frozN (i := 9) hn2; have b10 := cellN (i := 10) hn2 rfl; have g10 := frozN (i := 10) hn2; have b11 := cellN (i := 11) hn2 rfl; have g11 := frozN (i := 11) hn2; have b12 := cellN (i := 12) hn2 rfl; have g12 := frozN (i := 12) hn2; have b13 := cellN (i := 13) hn2 rfl; have g13 := frozN (i := 13) hn2; have bl2 := cell_lt hn2; clear hn2; have hl2 := HG.out.lbx; have l0 := cellN (i := 0) (x := .int .i64 x0) hl2 rfl; have l1 := cellN (i := 1) (x := .int .i64 x1) hl2 rfl; have l2 := cellN (i := 2) (x := .int .i64 x2) hl2 rfl; have ll := cell_lt hl2; clear hl2; clear hw4 hb4)
            | fail)
          have hn2 : (((((w4.setCell ⟨nb, 10, none⟩ (.int .i64 x0)).setCell ⟨nb, 11, none⟩ (.int .i64 x1)).setCell ⟨nb, 12, none⟩ (.int .i64 x2)).setCell ⟨nb, 13, none⟩ (.bool true)).setCell ⟨nb, 3, none⟩ (.string ⟨text.toArray⟩)).heap[nb]? = some (.cells #[.int .i64 4, .slice A 1 c, .slice none 0 0, .string ⟨text.toArray⟩, .int .i64 0, .slice none 0 0, .int .i64 0, .int .i64 0, .int .i64 0, .int .i64 0, .int .i64 x0, .int .i64 x1, .int .i64 x2, .bool true] 51 (0, 0)) := (set_block (i := 3) (u := .string ⟨text.toArray⟩) (set_block (i := 13) (u := .bool true) (set_block (i := 12) (u := .int .i64 x2) (set_block (i := 11) (u := .int .i64 x1) (set_block (i := 10) (u := .int .i64 x0) HG.out.nbx)))))
          have HW := Lib.hid (((((HG.out.rd.set (nb := nb) (i := 10) (u := .int .i64 x0) HG.out.lt).set (nb := nb) (i := 11) (u := .int .i64 x1) HG.out.lt).set (nb := nb) (i := 12) (u := .int .i64 x2) HG.out.lt).set (nb := nb) (i := 13) (u := .bool true) HG.out.lt).set (nb := nb) (i := 3) (u := .string ⟨text.toArray⟩) HG.out.lt)
          have HIN := Lib.hid (((((HG.out.ins.setN (i := 10) (u := .int .i64 x0)).setN (i := 11) (u := .int .i64 x1)).setN (i := 12) (u := .int .i64 x2)).setN (i := 13) (u := .bool true)).setN (i := 3) (u := .string ⟨text.toArray⟩))
          generalize (((((w4.setCell ⟨nb, 10, none⟩ (.int .i64 x0)).setCell ⟨nb, 11, none⟩ (.int .i64 x1)).setCell ⟨nb, 12, none⟩ (.int .i64 x2)).setCell ⟨nb, 13, none⟩ (.bool true)).setCell ⟨nb, 3, none⟩ (.string ⟨text.toArray⟩)) = W1 at *
          clear c0 d0 b0 g0 c1 d1 b1 g1 c2 d2 b2 g2 c3 d3 b3 g3 c4 d4 b4 g4 c5 d5 b5 g5 c6 d6 b6 g6 c7 d7 b7 g7 c8 d8 b8 g8 c9 d9 b9 g9 c10 d10 b10 g10 c11 d11 b11 g11 c12 d12 b12 g12 c13 d13 b13 g13 bl2 e2 l0 l1 l2 ll
          have b0 := cellN (i := 0) hn2 rfl
          have b1 := cellN (i := 1) hn2 rfl
          have b2 := cellN (i := 2) hn2 rfl
          have b3 := cellN (i := 3) hn2 rfl
          have b4 := cellN (i := 4) hn2 rfl
          have b5 := cellN (i := 5) hn2 rfl
          have b6 := cellN (i := 6) hn2 rfl
          have b7 := cellN (i := 7) hn2 rfl
          have b8 := cellN (i := 8) hn2 rfl
          have b9 := cellN (i := 9) hn2 rfl
          have b10 := cellN (i := 10) hn2 rfl
          have b11 := cellN (i := 11) hn2 rfl
          have b12 := cellN (i := 12) hn2 rfl
          have b13 := cellN (i := 13) hn2 rfl
          have bl2 := cell_lt hn2
          have hx2 := HW.out.hx
          have e2 := HW.out.lt
          have c0 := cellN (i := 0) hx2 rfl
          have d0 := frozN (i := 0) hx2
          have c1 := cellN (i := 1) hx2 rfl
          have d1 := frozN (i := 1) hx2
          have c2 := cellN (i := 2) hx2 rfl
          have d2 := frozN (i := 2) hx2
          have c3 := cellN (i := 3) hx2 rfl
          have d3 := frozN (i := 3) hx2
          have c4 := cellN (i := 4) hx2 rfl
          have d4 := frozN (i := 4) hx2
          have c5 := cellN (i := 5) hx2 rfl
          have d5 := frozN (i := 5) hx2
          have c6 := cellN (i := 6) hx2 rfl
          have d6 := frozN (i := 6) hx2
          have c7 := cellN (i := 7) hx2 rfl
          have d7 := frozN (i := 7) hx2
          have c8 := cellN (i := 8) hx2 rfl
          have d8 := frozN (i := 8) hx2
          have c9 := cellN (i := 9) hx2 rfl
          have d9 := frozN (i := 9) hx2
          have c10 := cellN (i := 10) hx2 rfl
          have d10 := frozN (i := 10) hx2
          have c11 := cellN (i := 11) hx2 rfl
          have d11 := frozN (i := 11) hx2
          have c12 := cellN (i := 12) hx2 rfl
          have d12 := frozN (i := 12) hx2
          have c13 := cellN (i := 13) hx2 rfl
          have d13 := frozN (i := 13) hx2
          clear hx2
          clear hn2
          refine region_G _ W1 W1.drew nb w.heap.size A c [97, 99, 99] text x0 x1 x2 true (isTx text) _ 46 rfl (by simp) rfl rfl rfl rfl rfl rfl (by decide) (Nat.ne_of_gt HG.out.lt) bl2 b0 b1 b2 b3 b4 b5 b6 b7 b8 b9 b10 b11 b12 b13 (HW.out.on (bl_dr (Below.refl _ _))).hx HTX ?_
          intro a9 hd h2 h3
          go_wp2
          refine bodyPost_ret (v := .tuple #[.agg #[.int .i64 4, .slice A 1 c, .slice none 0 0, .string ⟨text.toArray⟩, .int .i64 0, .slice none 0 0, .int .i64 0, .int .i64 0, .int .i64 0, .int .i64 0, .int .i64 x0, .int .i64 x1, .int .i64 x2, .bool true], .bool (isTx text)]) (results_rd_drew Tryz.results38 h2 h3 (node_told HW.out.hx)) hd ?_
          refine ⟨⟨{ gz 4 with ins := [v], e := x0, l := x1, lt := x2, acc := true, text := text }, A, none, none, c, 0, 0, by rw [HBO.out]; rfl, HVO.out, ?_⟩, bl_dr (node_told_bl HW.out.hb (Nat.le_refl _))⟩
          exact (rd_end HW.out (⟨A, none, none, c, 0, 0, rfl, HIN.out.move fun b hb hl => ⟨hb.1, hl, fun o => rfl⟩, IntsAt.nil _ _, tyZ_at _ _⟩)).1.below (bl_dr (Below.refl _ _))
        · by_cases hd : how = [100, 105, 115]
          · subst hd
            clear ha
            have HBO : Hid ((grpT v 3 [] r1).isSome = isTx text) := Lib.hid (by rw [HE1.out]; cases isTx text <;> rfl)
            have HVO : Hid (∀ u, grpT v 3 [] r1 = some u → { gz 4 with ins := [v], e := x0, l := x1, lt := x2, acc := false, text := text } = u) := Lib.hid (fun u hu => by rw [HE1.out] at hu; cases htx : isTx text with | true => (rw [htx] at hu; exact Option.some.inj hu) | false => (rw [htx] at hu; cases hu))
            clear HE1
            go_upto_region 46 with (first
              | (go_at_call 58; (with_reducible refine (HCU2.out _).mono ?_); rintro e w4 ⟨rfl, nd2, hw4⟩; have hb4 := (congrArg (fun W : World => Below wr.heap.size wr W) hw4).mpr (bl_drn (Below.refl _ _) nd2); have HG := Lib.hid (HG.out.on hb4); have hx2 := HG.out.rd.hx; have e2 := HG.out.rd.lt; have c0 := cellN (i := 0) hx2 rfl; have d0 := frozN (i := 0) hx2; have c1 := cellN (i := 1) hx2 rfl; have d1 := frozN (i := 1) hx2; have c2 := cellN (i := 2) hx2 rfl; have d2 := frozN (i := 2) hx2; have c3 := cellN (i := 3) hx2 rfl; have d3 := frozN (i := 3) hx2; have c4 := cellN (i := 4) hx2 rfl; have d4 := frozN (i := 4) hx2; have c5 := cellN (i := 5) hx2 rfl; have d5 := frozN (i := 5) hx2; have c6 := cellN (i := 6) hx2 rfl; have d6 := frozN (i := 6) hx2; have c7 := cellN (i := 7) hx2 rfl; have d7 := frozN (i := 7) hx2; have c8 := cellN (i := 8) hx2 rfl; have d8 := frozN (i := 8) hx2; have c9 := cellN (i := 9) hx2 rfl; have d9 := frozN (i := 9) hx2; have c10 := cellN (i := 10) hx2 rfl; have d10 := frozN (i := 10) hx2; have c11 := cellN (i := 11) hx2 rfl; have d11 := frozN (i := 11) hx2; have c12 := cellN (i := 12) hx2 rfl; have d12 := frozN (i := 12) hx2; have c13 := cellN (i := 13) hx2 rfl; have d13 := frozN (i := 13) hx2; clear hx2; have hn2 := HG.out.nbx; have b0 := cellN (i := 0) hn2 rfl; have g0 := frozN (i := 0) hn2; have b1 := cellN (i := 1) hn2 rfl; have g1 := frozN (i := 1) hn2; have b2 := cellN (i := 2) hn2 rfl; have g2 := frozN (i := 2) hn2; have b3 := cellN (i := 3) hn2 rfl; have g3 := frozN (i := 3) hn2; have b4 := cellN (i := 4) hn2 rfl; have g4 := frozN (i := 4) hn2; have b5 := cellN (i := 5) hn2 rfl; have g5 := frozN (i := 5) hn2; have b6 := cellN (i := 6) hn2 rfl; have g6 := frozN (i := 6) hn2; have b7 := cellN (i := 7) hn2 rfl; have g7 := frozN (i := 7) hn2; have b8 := cellN (i := 8) hn2 rfl; have g8 := frozN (i := 8) hn2; have b9 := cellN (i := 9) hn2 rfl; have g9 := frozN (i := 9) hn2; have b10 := cellN (i := 10) hn2 rfl; have g10 := frozN (i := 10) hn2; have b11 := cellN (i := 11) hn2 rfl; have g11 := frozN (i := 11) hn2; have b12 := cellN (i := 12) hn2 rfl; have g12 := frozN (i := 12) hn2; have b13 := cellN (i := 13) hn2 rfl; have g13 := frozN (i := 13) hn2; have bl2 := cell_lt hn2; clear hn2; have hl2 := HG.out.lbx; have l0 := cellN (i := 0) (x := .int .i64 x0) hl2 rfl; have l1 := cellN (i := 1) (x := .int .i64 x1) hl2 rfl; have l2 := cellN (i := 2) (x := .int .i64 x2) hl2 rfl; have ll := cell_lt hl2; clear hl2; clear hw4 hb4)
              | fail)
            have hn2 : (((((w4.setCell ⟨nb, 10, none⟩ (.int .i64 x0)).setCell ⟨nb, 11, none⟩ (.int .i64 x1)).setCell ⟨nb, 12, none⟩ (.int .i64 x2)).setCell ⟨nb, 13, none⟩ (.bool false)).setCell ⟨nb, 3, none⟩ (.string ⟨text.toArray⟩)).heap[nb]? = some (.cells #[.int .i64 4, .slice A 1 c, .slice none 0 0, .string ⟨text.toArray⟩, .int .i64 0, .slice none 0 0, .int .i64 0, .int .i64 0, .int .i64 0, .int .i64 0, .int .i64 x0, .int .i64 x1, .int .i64 x2, .bool false] 51 (0, 0)) := (set_block (i := 3) (u := .string ⟨text.toArray⟩) (set_block (i := 13) (u := .bool false) (set_block (i := 12) (u := .int .i64 x2) (set_block (i := 11) (u := .int .i64 x1) (set_block (i := 10) (u := .int .i64 x0) HG.out.nbx)))))
            have HW := Lib.hid (((((HG.out.rd.set (nb := nb) (i := 10) (u := .int .i64 x0) HG.out.lt).set (nb := nb) (i := 11) (u := .int .i64 x1) HG.out.lt).set (nb := nb) (i := 12) (u := .int .i64 x2) HG.out.lt).set (nb := nb) (i := 13) (u := .bool false) HG.out.lt).set (nb := nb) (i := 3) (u := .string ⟨text.toArray⟩) HG.out.lt)
            have HIN := Lib.hid (((((HG.out.ins.setN (i := 10) (u := .int .i64 x0)).setN (i := 11) (u := .int .i64 x1)).setN (i := 12) (u := .int .i64 x2)).setN (i := 13) (u := .bool false)).setN (i := 3) (u := .string ⟨text.toArray⟩))
            generalize (((((w4.setCell ⟨nb, 10, none⟩ (.int .i64 x0)).setCell ⟨nb, 11, none⟩ (.int .i64 x1)).setCell ⟨nb, 12, none⟩ (.int .i64 x2)).setCell ⟨nb, 13, none⟩ (.bool false)).setCell ⟨nb, 3, none⟩ (.string ⟨text.toArray⟩)) = W1 at *
            clear c0 d0 b0 g0 c1 d1 b1 g1 c2 d2 b2 g2 c3 d3 b3 g3 c4 d4 b4 g4 c5 d5 b5 g5 c6 d6 b6 g6 c7 d7 b7 g7 c8 d8 b8 g8 c9 d9 b9 g9 c10 d10 b10 g10 c11 d11 b11 g11 c12 d12 b12 g12 c13 d13 b13 g13 bl2 e2 l0 l1 l2 ll
            have b0 := cellN (i := 0) hn2 rfl
            have b1 := cellN (i := 1) hn2 rfl
            have b2 := cellN (i := 2) hn2 rfl
            have b3 := cellN (i := 3) hn2 rfl
            have b4 := cellN (i := 4) hn2 rfl
            have b5 := cellN (i := 5) hn2 rfl
            have b6 := cellN (i := 6) hn2 rfl
            have b7 := cellN (i := 7) hn2 rfl
            have b8 := cellN (i := 8) hn2 rfl
            have b9 := cellN (i := 9) hn2 rfl
            have b10 := cellN (i := 10) hn2 rfl
            have b11 := cellN (i := 11) hn2 rfl
            have b12 := cellN (i := 12) hn2 rfl
            have b13 := cellN (i := 13) hn2 rfl
            have bl2 := cell_lt hn2
            have hx2 := HW.out.hx
            have e2 := HW.out.lt
            have c0 := cellN (i := 0) hx2 rfl
            have d0 := frozN (i := 0) hx2
            have c1 := cellN (i := 1) hx2 rfl
            have d1 := frozN (i := 1) hx2
            have c2 := cellN (i := 2) hx2 rfl
            have d2 := frozN (i := 2) hx2
            have c3 := cellN (i := 3) hx2 rfl
            have d3 := frozN (i := 3) hx2
            have c4 := cellN (i := 4) hx2 rfl
            have d4 := frozN (i := 4) hx2
            have c5 := cellN (i := 5) hx2 rfl
            have d5 := frozN (i := 5) hx2
            have c6 := cellN (i := 6) hx2 rfl
            have d6 := frozN (i := 6) hx2
            have c7 := cellN (i := 7) hx2 rfl
            have d7 := frozN (i := 7) hx2
            have c8 := cellN (i := 8) hx2 rfl
            have d8 := frozN (i := 8) hx2
            have c9 := cellN (i := 9) hx2 rfl
            have d9 := frozN (i := 9) hx2
            have c10 := cellN (i := 10) hx2 rfl
            have d10 := frozN (i := 10) hx2
            have c11 := cellN (i := 11) hx2 rfl
            have d11 := frozN (i := 11) hx2
            have c12 := cellN (i := 12) hx2 rfl
            have d12 := frozN (i := 12) hx2
            have c13 := cellN (i := 13) hx2 rfl
            have d13 := frozN (i := 13) hx2
            clear hx2
            clear hn2
            refine region_G _ W1 W1.drew nb w.heap.size A c [100, 105, 115] text x0 x1 x2 false (isTx text) _ 46 rfl (by simp) rfl rfl rfl rfl rfl rfl (by decide) (Nat.ne_of_gt HG.out.lt) bl2 b0 b1 b2 b3 b4 b5 b6 b7 b8 b9 b10 b11 b12 b13 (HW.out.on (bl_dr (Below.refl _ _))).hx HTX ?_
            intro a9 hd h2 h3
            go_wp2
            refine bodyPost_ret (v := .tuple #[.agg #[.int .i64 4, .slice A 1 c, .slice none 0 0, .string ⟨text.toArray⟩, .int .i64 0, .slice none 0 0, .int .i64 0, .int .i64 0, .int .i64 0, .int .i64 0, .int .i64 x0, .int .i64 x1, .int .i64 x2, .bool false], .bool (isTx text)]) (results_rd_drew Tryz.results38 h2 h3 (node_told HW.out.hx)) hd ?_
            refine ⟨⟨{ gz 4 with ins := [v], e := x0, l := x1, lt := x2, acc := false, text := text }, A, none, none, c, 0, 0, by rw [HBO.out]; rfl, HVO.out, ?_⟩, bl_dr (node_told_bl HW.out.hb (Nat.le_refl _))⟩
            exact (rd_end HW.out (⟨A, none, none, c, 0, 0, rfl, HIN.out.move fun b hb hl => ⟨hb.1, hl, fun o => rfl⟩, IntsAt.nil _ _, tyZ_at _ _⟩)).1.below (bl_dr (Below.refl _ _))
          · have HE : Hid (grpT v 3 [] r1 = none) := Lib.hid (by rw [HE1.out]; unfold modeP; rw [if_neg ha, if_neg hd]; rfl)
            have e1 : (how == [97, 99, 99]) = false := by simpa using ha
            have e3 : (how == [100, 105, 115]) = false := by simpa using hd
            clear HE1 ha hd
            go_upto_region 46 with (first
              | (go_at_call 58; (with_reducible refine (HCU2.out _).mono ?_); rintro e w4 ⟨rfl, nd2, hw4⟩; have hb4 := (congrArg (fun W : World => Below wr.heap.size wr W) hw4).mpr (bl_drn (Below.refl _ _) nd2); have HG := Lib.hid (HG.out.on hb4); have hx2 := HG.out.rd.hx; have e2 := HG.out.rd.lt; have c0 := cellN (i := 0) hx2 rfl; have d0 := frozN (i := 0) hx2; have c1 := cellN (i := 1) hx2 rfl; have d1 := frozN (i := 1) hx2; have c2 := cellN (i := 2) hx2 rfl; have d2 := frozN (i := 2) hx2; have c3 := cellN (i := 3) hx2 rfl; have d3 := frozN (i := 3) hx2; have c4 := cellN (i := 4) hx2 rfl; have d4 := frozN (i := 4) hx2; have c5 := cellN (i := 5) hx2 rfl; have d5 := frozN (i := 5) hx2; have c6 := cellN (i := 6) hx2 rfl; have d6 := frozN (i := 6) hx2; have c7 := cellN (i := 7) hx2 rfl; have d7 := frozN (i := 7) hx2; have c8 := cellN (i := 8) hx2 rfl; have d8 := frozN (i := 8) hx2; have c9 := cellN (i := 9) hx2 rfl; have d9 := frozN (i := 9) hx2; have c10 := cellN (i := 10) hx2 rfl; have d10 := frozN (i := 10) hx2; have c11 := cellN (i := 11) hx2 rfl; have d11 := frozN (i := 11) hx2; have c12 := cellN (i := 12) hx2 rfl; have d12 := frozN (i := 12) hx2; have c13 := cellN (i := 13) hx2 rfl; have d13 := frozN (i := 13) hx2; clear hx2; have hn2 := HG.out.nbx; have b0 := cellN (i := 0) hn2 rfl; have g0 := frozN (i := 0) hn2; have b1 := cellN (i := 1) hn2 rfl; have g1 := frozN (i := 1) hn2; have b2 := cellN (i := 2) hn2 rfl; have g2 := frozN (i := 2) hn2; have b3 := cellN (i := 3) hn2 rfl; have g3 := frozN (i := 3) hn2; have b4 := cellN (i := 4) hn2 rfl; have g4 := frozN (i := 4) hn2; have b5 := cellN (i := 5) hn2 rfl; have g5 := frozN (i := 5) hn2; have b6 := cellN (i := 6) hn2 rfl; have g6 := frozN (i := 6) hn2; have b7 := cellN (i := 7) hn2 rfl; have g7 := frozN (i := 7) hn2; have b8 := cellN (i := 8) hn2 rfl; have g8 := frozN (i := 8) hn2; have b9 := cellN (i := 9) hn2 rfl; have g9 := frozN (i := 9) hn2; have b10 := cellN (i := 10) hn2 rfl; have g10 := frozN (i := 10) hn2; have b11 := cellN (i := 11) hn2 rfl; have g11 := frozN (i := 11) hn2; have b12 := cellN (i := 12) hn2 rfl; have g12 := frozN (i := 12) hn2; have b13 := cellN (i := 13) hn2 rfl; have g13 := frozN (i := 13) hn2; have bl2 := cell_lt hn2; clear hn2; have hl2 := HG.out.lbx; have l0 := cellN (i := 0) (x := .int .i64 x0) hl2 rfl; have l1 := cellN (i := 1) (x := .int .i64 x1) hl2 rfl; have l2 := cellN (i := 2) (x := .int .i64 x2) hl2 rfl; have ll := cell_lt hl2; clear hl2; clear hw4 hb4)
              | fail)
            have hn2 : (((((w4.setCell ⟨nb, 10, none⟩ (.int .i64 x0)).setCell ⟨nb, 11, none⟩ (.int .i64 x1)).setCell ⟨nb, 12, none⟩ (.int .i64 x2)).setCell ⟨nb, 13, none⟩ (.bool false)).setCell ⟨nb, 3, none⟩ (.string ⟨text.toArray⟩)).heap[nb]? = some (.cells #[.int .i64 4, .slice A 1 c, .slice none 0 0, .string ⟨text.toArray⟩, .int .i64 0, .slice none 0 0, .int .i64 0, .int .i64 0, .int .i64 0, .int .i64 0, .int .i64 x0, .int .i64 x1, .int .i64 x2, .bool false] 51 (0, 0)) := (set_block (i := 3) (u := .string ⟨text.toArray⟩) (set_block (i := 13) (u := .bool false) (set_block (i := 12) (u := .int .i64 x2) (set_block (i := 11) (u := .int .i64 x1) (set_block (i := 10) (u := .int .i64 x0) HG.out.nbx)))))
            have HW := Lib.hid (((((HG.out.rd.set (nb := nb) (i := 10) (u := .int .i64 x0) HG.out.lt).set (nb := nb) (i := 11) (u := .int .i64 x1) HG.out.lt).set (nb := nb) (i := 12) (u := .int .i64 x2) HG.out.lt).set (nb := nb) (i := 13) (u := .bool false) HG.out.lt).set (nb := nb) (i := 3) (u := .string ⟨text.toArray⟩) HG.out.lt)
            have HIN := Lib.hid (((((HG.out.ins.setN (i := 10) (u := .int .i64 x0)).setN (i := 11) (u := .int .i64 x1)).setN (i := 12) (u := .int .i64 x2)).setN (i := 13) (u := .bool false)).setN (i := 3) (u := .string ⟨text.toArray⟩))
            generalize (((((w4.setCell ⟨nb, 10, none⟩ (.int .i64 x0)).setCell ⟨nb, 11, none⟩ (.int .i64 x1)).setCell ⟨nb, 12, none⟩ (.int .i64 x2)).setCell ⟨nb, 13, none⟩ (.bool false)).setCell ⟨nb, 3, none⟩ (.string ⟨text.toArray⟩)) = W1 at *
            clear c0 d0 b0 g0 c1 d1 b1 g1 c2 d2 b2 g2 c3 d3 b3 g3 c4 d4 b4 g4 c5 d5 b5 g5 c6 d6 b6 g6 c7 d7 b7 g7 c8 d8 b8 g8 c9 d9 b9 g9 c10 d10 b10 g10 c11 d11 b11 g11 c12 d12 b12 g12 c13 d13 b13 g13 bl2 e2 l0 l1 l2 ll
            have b0 := cellN (i := 0) hn2 rfl
            have b1 := cellN (i := 1) hn2 rfl
            have b2 := cellN (i := 2) hn2 rfl
            have b3 := cellN (i := 3) hn2 rfl
            have b4 := cellN (i := 4) hn2 rfl
            have b5 := cellN (i := 5) hn2 rfl
            have b6 := cellN (i := 6) hn2 rfl
            have b7 := cellN (i := 7) hn2 rfl
            have b8 := cellN (i := 8) hn2 rfl
            have b9 := cellN (i := 9) hn2 rfl
            have b10 := cellN (i := 10) hn2 rfl
            have b11 := cellN (i := 11) hn2 rfl
            have b12 := cellN (i := 12) hn2 rfl
            have b13 := cellN (i := 13) hn2 rfl
            have bl2 := cell_lt hn2
            have hx2 := HW.out.hx
            have e2 := HW.out.lt
            have c0 := cellN (i := 0) hx2 rfl
            have d0 := frozN (i := 0) hx2
            have c1 := cellN (i := 1) hx2 rfl
            have d1 := frozN (i := 1) hx2
            have c2 := cellN (i := 2) hx2 rfl
            have d2 := frozN (i := 2) hx2
            have c3 := cellN (i := 3) hx2 rfl
            have d3 := frozN (i := 3) hx2
            have c4 := cellN (i := 4) hx2 rfl
            have d4 := frozN (i := 4) hx2
            have c5 := cellN (i := 5) hx2 rfl
            have d5 := frozN (i := 5) hx2
            have c6 := cellN (i := 6) hx2 rfl
            have d6 := frozN (i := 6) hx2
            have c7 := cellN (i := 7) hx2 rfl
            have d7 := frozN (i := 7) hx2
            have c8 := cellN (i := 8) hx2 rfl
            have d8 := frozN (i := 8) hx2
            have c9 := cellN (i := 9) hx2 rfl
            have d9 := frozN (i := 9) hx2
            have c10 := cellN (i := 10) hx2 rfl
            have d10 := frozN (i := 10) hx2
            have c11 := cellN (i := 11) hx2 rfl
            have d11 := frozN (i := 11) hx2
            have c12 := cellN (i := 12) hx2 rfl
            have d12 := frozN (i := 12) hx2
            have c13 := cellN (i := 13) hx2 rfl
            have d13 := frozN (i := 13) hx2
            clear hx2
            clear hn2
            go_region
            all_goals
              go_wp2
              refine bodyPost_ret (v := .tuple #[.agg #[.int .i64 4, .slice A 1 c, .slice none 0 0, .string ⟨text.toArray⟩, .int .i64 0, .slice none 0 0, .int .i64 0, .int .i64 0, .int .i64 0, .int .i64 0, .int .i64 x0, .int .i64 x1, .int .i64 x2, .bool false], .bool false]) (results_rd_drew Tryz.results38 rfl rfl (node_told HW.out.hx)) rfl ?_
              refine ⟨⟨{ gz 4 with ins := [v], e := x0, l := x1, lt := x2, acc := false, text := text }, A, none, none, c, 0, 0, by rw [HE.out]; rfl, (fun v hv => by rw [HE.out] at hv; cases hv), ?_⟩, bl_dr (node_told_bl HW.out.hb (Nat.le_refl _))⟩
              exact (rd_end HW.out (⟨A, none, none, c, 0, 0, rfl, HIN.out.move fun b hb hl => ⟨hb.1, hl, fun o => rfl⟩, IntsAt.nil _ _, tyZ_at _ _⟩)).1.below (bl_dr (Below.refl _ _))
end Go.Proofs.YtllnamhgnbdkmaaGreatDoor
