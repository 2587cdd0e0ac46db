/-
Same of terms of the document's answer.
-/
import Derived.Test.YtdmkcemgbajdkaaDoorOf
import Derived.Test.YtdmkcemgbajdkaaDoorOfn
namespace Go.Proofs.YtdmkcemgbajdkaaDoor
open Go.RowKit

theorem nd_ext {a b : Nd} (h0 : a.op = b.op) (h1 : a.int = b.int) (h2 : a.text = b.text) (h3 : a.ty = b.ty) (h4 : a.kids = b.kids) : a = b := by
  cases a; cases b
  simp only [Nd.op, Nd.int, Nd.text, Nd.ty, Nd.kids] at *
  subst h0; subst h1; subst h2; subst h3; subst h4; rfl

set_option maxRecDepth 100000 in
set_option maxHeartbeats 2000000 in
theorem same_any : ∀ (d d' n : Nat) (S S' : Nat → Prop) (v v' : Value) (a b : Nd) (w : World), NarN n a → NdAt w S d v a → NdAt w S' d' v' b →
    Calls Tryd.prog 11 #[v, v'] w fun e w' => (∃ q : Bool, e = .returned (.bool q) ∧ (q = true ↔ a = b)) ∧ Below w.heap.size w w'
  | 0, d', n, S, S', v, v', a, b, w, _, hT, _ => hT.elim
  | d + 1, 0, n, S, S', v, v', a, b, w, _, _, hT' => hT'.elim
  | d + 1, d' + 1, 0, S, S', v, v', a, b, w, hN, _, _ => hN.elim
  | d + 1, d' + 1, n + 1, S, S', v, v', a, b, w, hN, hT, hT' => by
    obtain ⟨hnar, hlen, hall⟩ := hN
    have IH := same_any d d' n
    have HIH := Lib.hid IH
    have HALL := Lib.hid hall
    have HNAR := Lib.hid hnar
    obtain ⟨A, c, K, k, rfl, ⟨dt, hty⟩, hlk, hA⟩ := hT
    obtain ⟨A', c', K', k', rfl, ⟨dt', hty'⟩, hlk', hA'⟩ := hT'
    have HA := Lib.hid hA
    have HA' := Lib.hid hA'
    have HTY := Lib.hid hty
    have HTY' := Lib.hid hty'
    clear hA hA' IH hall hnar hty hty'
    rcases (Decidable.em (a.op = b.op)).symm with ho | ho
    · have g0 : (a.op == b.op) = false := by simp [ho]
      have HF : Hid (a ≠ b) := fun e => ho (by rw [e])
      clear ho
      go_enter Tryd.func11, Tryd.ntmps11
      go_wp2_with (fail)
      go_ret
      exact ⟨⟨false, rfl, by simp; exact HF.out⟩, ((Below.refl w.heap.size w).alloc (Nat.le_refl _) _).alloc (by simp) _⟩
    have g0 : (a.op == b.op) = true := by simp [ho]
    have HO := Lib.hid ho
    clear ho
    rcases (Decidable.em (a.int = b.int)).symm with hi | hi
    · have g1 : (a.int != b.int) = true := by simp [hi]
      have HF : Hid (a ≠ b) := fun e => hi (by rw [e])
      clear hi
      go_enter Tryd.func11, Tryd.ntmps11
      go_wp2_with (fail)
      go_ret
      exact ⟨⟨false, rfl, by simp; exact HF.out⟩, ((Below.refl w.heap.size w).alloc (Nat.le_refl _) _).alloc (by simp) _⟩
    have g1 : (a.int != b.int) = false := by simp [hi]
    have HII := Lib.hid hi
    clear hi
    rcases (Decidable.em (a.text = b.text)).symm with ht | ht
    · have g2 : (a.text == b.text) = false := by simp [ht]
      have HF : Hid (a ≠ b) := fun e => ht (by rw [e])
      clear ht
      go_enter Tryd.func11, Tryd.ntmps11
      go_wp2_with (fail)
      go_ret
      exact ⟨⟨false, rfl, by simp; exact HF.out⟩, ((Below.refl w.heap.size w).alloc (Nat.le_refl _) _).alloc (by simp) _⟩
    have g2 : (a.text == b.text) = true := by simp [ht]
    have HTT := Lib.hid ht
    clear ht
    have hb2 := ((Below.refl w.heap.size w).alloc (Nat.le_refl _) (.cells #[.string ⟨a.op.toArray⟩, .int .i64 a.int, .string ⟨a.text.toArray⟩, .int .i64 a.ty.kind, .slice A a.ty.args.length c, .slice K a.kids.length k] 40)).alloc (by simp) (.cells #[.string ⟨b.op.toArray⟩, .int .i64 b.int, .string ⟨b.text.toArray⟩, .int .i64 b.ty.kind, .slice A' b.ty.args.length c', .slice K' b.kids.length k'] 40)
    have HX0 : Hid (((w.alloc (.cells #[.string ⟨a.op.toArray⟩, .int .i64 a.int, .string ⟨a.text.toArray⟩, .int .i64 a.ty.kind, .slice A a.ty.args.length c, .slice K a.kids.length k] 40)).alloc (.cells #[.string ⟨b.op.toArray⟩, .int .i64 b.int, .string ⟨b.text.toArray⟩, .int .i64 b.ty.kind, .slice A' b.ty.args.length c', .slice K' b.kids.length k'] 40)).heap[w.heap.size]? = some (.cells #[.string ⟨a.op.toArray⟩, .int .i64 a.int, .string ⟨a.text.toArray⟩, .int .i64 a.ty.kind, .slice A a.ty.args.length c, .slice K a.kids.length k] 40 (0, 0))) := (Below.heap_alloc _ _ _ (by simp)).trans (heap_alloc_new w _)
    have HX1 : Hid (((w.alloc (.cells #[.string ⟨a.op.toArray⟩, .int .i64 a.int, .string ⟨a.text.toArray⟩, .int .i64 a.ty.kind, .slice A a.ty.args.length c, .slice K a.kids.length k] 40)).alloc (.cells #[.string ⟨b.op.toArray⟩, .int .i64 b.int, .string ⟨b.text.toArray⟩, .int .i64 b.ty.kind, .slice A' b.ty.args.length c', .slice K' b.kids.length k'] 40)).heap[w.heap.size + 1]? = some (.cells #[.string ⟨b.op.toArray⟩, .int .i64 b.int, .string ⟨b.text.toArray⟩, .int .i64 b.ty.kind, .slice A' b.ty.args.length c', .slice K' b.kids.length k'] 40 (0, 0))) := heap_new_at (by simp)
    have hz2 : ((w.alloc (.cells #[.string ⟨a.op.toArray⟩, .int .i64 a.int, .string ⟨a.text.toArray⟩, .int .i64 a.ty.kind, .slice A a.ty.args.length c, .slice K a.kids.length k] 40)).alloc (.cells #[.string ⟨b.op.toArray⟩, .int .i64 b.int, .string ⟨b.text.toArray⟩, .int .i64 b.ty.kind, .slice A' b.ty.args.length c', .slice K' b.kids.length k'] 40)).heap.size = w.heap.size + 2 := by simp
    have hts := tsame_any dt dt' 30 _ _ _ _ a.ty b.ty ((w.alloc (.cells #[.string ⟨a.op.toArray⟩, .int .i64 a.int, .string ⟨a.text.toArray⟩, .int .i64 a.ty.kind, .slice A a.ty.args.length c, .slice K a.kids.length k] 40)).alloc (.cells #[.string ⟨b.op.toArray⟩, .int .i64 b.int, .string ⟨b.text.toArray⟩, .int .i64 b.ty.kind, .slice A' b.ty.args.length c', .slice K' b.kids.length k'] 40)) HNAR.out (HTY.out.move fun x _ hl => ⟨(trivial : (fun _ => True) x), fun _ => World.cell?_of_block (hb2.block x hl)⟩) (HTY'.out.move fun x _ hl => ⟨(trivial : (fun _ => True) x), fun _ => World.cell?_of_block (hb2.block x hl)⟩)
    have HTS := Lib.hid hts
    clear hts
    go_enter Tryd.func11, Tryd.ntmps11
    go_wp2_with (fail)
    refine HTS.out.mono ?_
    clear HTS
    rintro e w3 ⟨⟨q, rfl, hq⟩, hb3⟩
    have hs3 := hb3.size
    have HB3 := Lib.hid (hb2.trans (hb3.mono (by omega)))
    have HX3 := Lib.hid (below_at hb3 HX0.out)
    have HY3 := Lib.hid (below_at hb3 HX1.out)
    have HQ := Lib.hid hq
    clear hq hb3 HX0 HX1 hb2
    cases q with
    | false =>
      go_wp2_with (fail)
      go_ret
      exact ⟨⟨false, rfl, by simp; exact fun e => absurd (HQ.out.2 (by rw [e])) (by simp)⟩, HB3.out⟩
    | true =>
    have x5 := cell6_5 HX3.out
    have y5 := cell6_5 HY3.out
    have xl := cell_lt HX3.out
    have yl := cell_lt HY3.out
    rcases (Decidable.em (a.kids.length = b.kids.length)).symm with hl | hl
    · have g3 : ((a.kids.length : Int) != (b.kids.length : Int)) = true := by simp; omega
      have HF : Hid (a ≠ b) := fun e => hl (by rw [e])
      clear hl
      go_wp2_with (fail)
      go_ret
      exact ⟨⟨false, rfl, by simp; exact HF.out⟩, HB3.out⟩
    have g3 : ((a.kids.length : Int) != (b.kids.length : Int)) = false := by simp [hl]
    have HL := Lib.hid hl
    clear hl
    go_wp2_with (fail)
    go_loopw [5] (fun i wr => ∃ j : Nat, i = .int .i64 j ∧ j ≤ a.kids.length ∧ Hid (a.kids.take j = b.kids.take j) ∧ Hid (Below w.heap.size w wr) ∧ Hid (wr.heap[w.heap.size]? = some (.cells #[.string ⟨a.op.toArray⟩, .int .i64 a.int, .string ⟨a.text.toArray⟩, .int .i64 a.ty.kind, .slice A a.ty.args.length c, .slice K a.kids.length k] 40 (0, 0))) ∧ Hid (wr.heap[w.heap.size + 1]? = some (.cells #[.string ⟨b.op.toArray⟩, .int .i64 b.int, .string ⟨b.text.toArray⟩, .int .i64 b.ty.kind, .slice A' b.ty.args.length c', .slice K' b.kids.length k'] 40 (0, 0)))) (fun i _ => 6000 - (intOf i).toNat)
    case atStart => exact ⟨0, rfl, by omega, rfl, HB3, HX3, HY3⟩
    case round =>
      obtain ⟨j, rfl, hj, HE, HBR, HX, HY⟩ := hrel
      clear x5 y5 xl yl
      have x5 := cell6_5 HX.out
      have y5 := cell6_5 HY.out
      have xl := cell_lt HX.out
      have yl := cell_lt HY.out
      have hsz := HBR.out.size
      rcases Nat.lt_or_ge j a.kids.length with hlt | hge
      · have hltm : j < b.kids.length := by have := HL.out; omega
        obtain ⟨b1, o, rfl, hSb, hcells⟩ := HA.out (by omega)
        obtain ⟨b2, o', rfl, hSb', hcells'⟩ := HA'.out (by omega)
        obtain ⟨x, hx⟩ : ∃ x, a.kids[j]? = some x := ⟨_, List.getElem?_eq_getElem hlt⟩
        obtain ⟨y, hy⟩ : ∃ y, b.kids[j]? = some y := ⟨_, List.getElem?_eq_getElem hltm⟩
        obtain ⟨A1, c1, K1, k1, h0, h1, h2, h3, h4, h5, h6, hbl⟩ := kid_cells hcells hx
        obtain ⟨A2, c2, K2, k2, h0', h1', h2', h3', h4', h5', h6', hbl'⟩ := kid_cells hcells' hy
        have g0 := (HBR.out.cell (p := ⟨b1, o + j * 6, none⟩) hbl).trans h0
        have g1 := (HBR.out.cell (p := ⟨b1, o + j * 6 + 1, none⟩) hbl).trans h1
        have g2 := (HBR.out.cell (p := ⟨b1, o + j * 6 + 2, none⟩) hbl).trans h2
        have g3 := (HBR.out.cell (p := ⟨b1, o + j * 6 + 3, none⟩) hbl).trans h3
        have g4 := (HBR.out.cell (p := ⟨b1, o + j * 6 + 4, none⟩) hbl).trans h4
        have g5 := (HBR.out.cell (p := ⟨b1, o + j * 6 + 5, none⟩) hbl).trans h5
        have g0' := (HBR.out.cell (p := ⟨b2, o' + j * 6, none⟩) hbl').trans h0'
        have g1' := (HBR.out.cell (p := ⟨b2, o' + j * 6 + 1, none⟩) hbl').trans h1'
        have g2' := (HBR.out.cell (p := ⟨b2, o' + j * 6 + 2, none⟩) hbl').trans h2'
        have g3' := (HBR.out.cell (p := ⟨b2, o' + j * 6 + 3, none⟩) hbl').trans h3'
        have g4' := (HBR.out.cell (p := ⟨b2, o' + j * 6 + 4, none⟩) hbl').trans h4'
        have g5' := (HBR.out.cell (p := ⟨b2, o' + j * 6 + 5, none⟩) hbl').trans h5'
        have H2 := Lib.hid (h6.below HBR.out)
        have H2' := Lib.hid (h6'.below HBR.out)
        have HNA := Lib.hid (HALL.out x (List.mem_of_getElem? hx))
        have HXX := Lib.hid hx
        have HYY := Lib.hid hy
        clear h0 h1 h2 h3 h4 h5 h6 h0' h1' h2' h3' h4' h5' h6' hx hy hcells hcells'
        go_wp2_with (fail)
        refine wp_region_still_tail 10 (by kernel_rfl) (by kernel_rfl) ?_
        simp only [List.take_succ_cons, List.take_zero, List.drop_succ_cons, List.drop_zero]
        change wpStill _ _ (World.drew _) _ _ _
        repeat still_step
        refine wpStill_nil ?_
        change wpList _ _ _ _ _ (World.drew _)
        go_wp2_with (fail)
        refine (HIH.out S S' _ _ x y (wr.drew) HNA.out (H2.out.below (Below.refl wr.heap.size wr).drew) (H2'.out.below (Below.refl wr.heap.size wr).drew)).mono ?_
        rintro e w4 ⟨⟨q, rfl, hq⟩, hb4⟩
        have hb4' : Below wr.heap.size wr w4 := (Below.refl wr.heap.size wr).drew.trans hb4
        have HB4 := Lib.hid (HBR.out.trans (hb4'.mono hsz))
        have HX4 := Lib.hid (below_at hb4' HX.out)
        have HY4 := Lib.hid (below_at hb4' HY.out)
        have HQ2 := Lib.hid hq
        clear hq hb4 hb4' g0 g1 g2 g3 g4 g5 g0' g1' g2' g3' g4' g5'
        cases q with
        | false =>
          go_wp2_with (fail)
          go_ret
          exact ⟨⟨false, rfl, by simp; exact fun e => absurd (HQ2.out.2 (by have h := HXX.out; rw [e, HYY.out] at h; injection h with h; exact h.symm)) (by simp)⟩, HB4.out⟩
        | true =>
          have HF2 : Hid (a.kids.take (j + 1) = b.kids.take (j + 1)) := by show _ = _; rw [List.take_add_one, List.take_add_one, HE.out, HXX.out, HYY.out, HQ2.out.1 rfl]
          go_wp2_with (fail)
          go_roundw
          case rel => exact ⟨j + 1, by go_num, by omega, HF2, HB4, HX4, HY4⟩
          case measure => simp [intOf]; omega
      · have HF2 : Hid (a.kids = b.kids) := by
          have h := HE.out
          rwa [List.take_of_length_le (by omega), List.take_of_length_le (by have := HL.out; omega)] at h
        have hjl : ¬ ((j : Int) < (a.kids.length : Int)) := by omega
        go_wp2_with (fail)
        go_ret
        exact ⟨.inr ⟨rfl, nd_ext HO.out HII.out HTT.out (HQ.out.1 (by simp)) HF2.out⟩, HBR.out⟩
end Go.Proofs.YtdmkcemgbajdkaaDoor
