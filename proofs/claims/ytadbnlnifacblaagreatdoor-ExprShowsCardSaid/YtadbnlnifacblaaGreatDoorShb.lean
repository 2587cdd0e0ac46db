/-
The document's answer for package expr: Size.
-/
import Derived.Test.YtadbnlnifacblaaGreatDoorStp
import Derived.Test.YtadbnlnifacblaaGreatDoorOsn
import Derived.Test.YtadbnlnifacblaaGreatDoorSzp
import Derived.Test.YtadbnlnifacblaaGreatDoorFra
import Derived.Test.YtadbnlnifacblaaGreatDoorShq
import Derived.Deep.DeepCutAuto
namespace Go.Proofs.YtadbnlnifacblaaGreatDoor
open Go.RowKit
theorem cnt_le {n : Nd} (h : (showW n).isSome = true) : cntW n ≤ 4096 ∧ cntW n = 1 + (n.kids.map cntW).sum := by
  obtain ⟨x, hx⟩ := Option.isSome_iff_exists.1 h
  obtain ⟨_, h1, h2⟩ := sizes_pure hx
  have e : cntW n = x.2 := by unfold cntW; rw [hx]; rfl
  exact ⟨by omega, by omega⟩
theorem kids_le {n : Nd} (h : (showW n).isSome = true) : n.kids.length ≤ 64 := by
  obtain ⟨s, s', ht⟩ := showW_term h
  by_cases hn : n.op = nameW
  · obtain ⟨t, e, _⟩ := term_name ht hn
    rw [e]
    simp [nameN, Nd.kids]
  · exact Nat.le_trans (termW_kids (r := 23) ht hn).1 (parts_short _)
set_option maxRecDepth 100000 in
set_option maxHeartbeats 2000000 in
theorem size_d : ∀ (d : Nat) (S : Nat → Prop) (v : Value) (n : Nd) (w : World), (showW n).isSome = true → NdAt w S d v n →
    Calls Tryz.prog 24 #[v] w fun e w' => e = .returned (.int .i64 (cntW n : Int)) ∧ Below w.heap.size w w'
  | 0, _, _, _, _, _, h => h.elim
  | d + 1, S, v, n, w, hq, hT => by
    obtain ⟨hc1, hc2⟩ := cnt_le hq
    obtain ⟨x, hx⟩ := Option.isSome_iff_exists.1 hq
    have HKQ := Lib.hid (sizes_pure hx).1
    have hkl := kids_le hq
    have IH := size_d d S
    have HIH := Lib.hid IH
    obtain ⟨A, c, K, k, rfl, ⟨dt, hty⟩, hlk, hA⟩ := hT
    have HA := Lib.hid hA
    have hb1 := (Below.refl w.heap.size w).alloc (Nat.le_refl _) (.cells #[.string ⟨n.op.toArray⟩, .int .i64 n.int, .string ⟨n.text.toArray⟩, .int .i64 n.ty.kind, .slice A n.ty.args.length c, .slice K n.kids.length k] 37)
    have hs1 : (w.alloc (.cells #[.string ⟨n.op.toArray⟩, .int .i64 n.int, .string ⟨n.text.toArray⟩, .int .i64 n.ty.kind, .slice A n.ty.args.length c, .slice K n.kids.length k] 37)).heap.size = w.heap.size + 1 := by simp
    have HC1 := Lib.hid (heap_alloc_new w (.cells #[.string ⟨n.op.toArray⟩, .int .i64 n.int, .string ⟨n.text.toArray⟩, .int .i64 n.ty.kind, .slice A n.ty.args.length c, .slice K n.kids.length k] 37))
    have HB1 := Lib.hid hb1
    have HCC := Lib.hid hc2
    obtain ⟨w1, hw1⟩ : ∃ w1, w1 = w.alloc (.cells #[.string ⟨n.op.toArray⟩, .int .i64 n.int, .string ⟨n.text.toArray⟩, .int .i64 n.ty.kind, .slice A n.ty.args.length c, .slice K n.kids.length k] 37) := ⟨_, rfl⟩
    rw [← hw1] at HC1 HB1 hs1
    have HW1 := Lib.hid hw1
    clear hA IH hty hb1 hx hq hw1 hc2
    go_enter Tryz.func24, Tryz.ntmps24
    go_wp2_with (fail)
    go_loopw [3, 4] (fun kv iv wr => ∃ (j q : Nat), iv = .int .i64 (j : Int) ∧ kv = .int .i64 (q : Int) ∧ j ≤ n.kids.length ∧ Hid (q = 1 + ((n.kids.take j).map cntW).sum) ∧ q ≤ 4096 ∧ Hid (Below w1.heap.size w1 wr)) (fun _ iv _ => 6000 - (intOf iv).toNat)
    case atStart =>
      refine ⟨0, 1, rfl, rfl, Nat.zero_le _, by show _ = _; simp, by decide, ?_⟩
      rw [← HW1.out]
      exact Below.refl _ _
    case round =>
      obtain ⟨j, q, rfl, rfl, hj, HQ, hq4, HBR⟩ := hrel
      have hsr := HBR.out.size
      have HCR := Lib.hid (below_at HBR.out HC1.out)
      have x5 := cell6_5 HCR.out
      have xl := cell_lt HCR.out
      by_cases hlt : j < n.kids.length
      · have hjl : ((j : Int) < (n.kids.length : Int)) := by omega
        have HBW := Lib.hid (HB1.out.trans (HBR.out.mono (by omega)))
        obtain ⟨b1, o, rfl, hSb, hcells⟩ := HA.out (by omega)
        obtain ⟨x, hx⟩ : ∃ x, n.kids[j]? = some x := ⟨_, List.getElem?_eq_getElem hlt⟩
        have hmem := List.mem_of_getElem? hx
        have HXQ := Lib.hid (HKQ.out x hmem)
        obtain ⟨A1, c1, K1, k1, h0, h1, h2, h3, h4, h5, h6, hbl⟩ := kid_cells hcells hx
        have g0 := (HBW.out.cell (p := ⟨b1, o + j * 6, none⟩) hbl).trans h0
        have g1 := (HBW.out.cell (p := ⟨b1, o + j * 6 + 1, none⟩) hbl).trans h1
        have g2 := (HBW.out.cell (p := ⟨b1, o + j * 6 + 2, none⟩) hbl).trans h2
        have g3 := (HBW.out.cell (p := ⟨b1, o + j * 6 + 3, none⟩) hbl).trans h3
        have g4 := (HBW.out.cell (p := ⟨b1, o + j * 6 + 4, none⟩) hbl).trans h4
        have g5 := (HBW.out.cell (p := ⟨b1, o + j * 6 + 5, none⟩) hbl).trans h5
        have H2 := Lib.hid (h6.below HBW.out)
        have htk : q + cntW x = 1 + ((n.kids.take (j + 1)).map cntW).sum := by
          rw [HQ.out, List.take_add_one, hx]
          simp
          omega
        have hle : ((n.kids.take (j + 1)).map cntW).sum ≤ (n.kids.map cntW).sum := by
          have := congrArg (fun l => (l.map cntW).sum) (List.take_append_drop (j + 1) n.kids)
          simp only [List.map_append, List.sum_append] at this
          omega
        obtain ⟨u, hu⟩ : ∃ u, u = cntW x := ⟨_, rfl⟩
        have hqu : q + u ≤ 4096 := by have := HCC.out; omega
        have HTK : Hid (q + u = 1 + ((n.kids.take (j + 1)).map cntW).sum) := by show _ = _; rw [hu]; exact htk
        have HIX := Lib.hid (HIH.out (.agg #[.string ⟨x.op.toArray⟩, .int .i64 x.int, .string ⟨x.text.toArray⟩, .int .i64 x.ty.kind, .slice A1 x.ty.args.length c1, .slice K1 x.kids.length k1]) x wr HXQ.out H2.out)
        rw [← hu] at HIX
        clear h0 h1 h2 h3 h4 h5 h6 hx hmem hcells htk hle hu
        go_wp2_with (fail)
        refine HIX.out.mono ?_
        rintro e' w3 ⟨rfl, hb3⟩
        have HB3 := Lib.hid (HBR.out.trans (hb3.mono hsr))
        clear hb3 g0 g1 g2 g3 g4 g5
        go_wp2_with (fail)
        go_roundw
        case rel => exact ⟨j + 1, q + u, by go_num, by go_num, by omega, HTK, hqu, HB3⟩
        case measure => simp [intOf]; omega
      · have hjl : ¬ ((j : Int) < (n.kids.length : Int)) := by omega
        have HF2 : Hid (q = cntW n) := by
          show _ = _
          rw [HQ.out, List.take_of_length_le (by omega), HCC.out]
        go_wp2_with (fail)
        refine bodyPost_ret (v := .int .i64 (q : Int)) (by simp [results, Tryz.results24, go_sem]) rfl ?_
        exact ⟨by rw [HF2.out], HB1.out.trans (HBR.out.mono (by omega))⟩
end Go.Proofs.YtadbnlnifacblaaGreatDoor
namespace Go.Proofs.YtadbnlnifacblaaGreatDoor
open Go.RowKit
set_option maxRecDepth 100000 in
set_option maxHeartbeats 1000000 in
theorem binds_d (op : List UInt8) (i : Nat) (w : World) : Calls Tryz.prog 95 #[.string ⟨op.toArray⟩, .int .i64 (i : Int)] w fun e w' => e = .returned (.bool (bindsB op i)) ∧ w' = w := by
  by_cases h0 : op = letW
  · have g0 : (op == [108, 101, 116]) = true := by rw [h0]; rfl
    have g1 : (op == [109, 97, 112]) = false := by rw [h0]; rfl
    have g2 : (op == [102, 105, 108, 116, 101, 114]) = false := by rw [h0]; rfl
    have g3 : (op == [102, 111, 108, 100]) = false := by rw [h0]; rfl
    by_cases hi0 : i = 0
    · have gi : ((i : Int) == 0) = true := by simp; omega
      have HR : Hid (bindsB op i = true) := by show _ = _; rw [h0, hi0]; decide
      clear h0 hi0
      go_enter Tryz.func95, Tryz.ntmps95
      go_wp2_with (fail)
      go_ret
      rw [HR.out]
      exact ⟨rfl, rfl⟩
    · have gj0 : ((i : Int) == 0) = false := by simp; omega
      have HR : Hid (bindsB op i = false) := by
        show _ = _
        rw [h0]
        unfold bindsB
        simp [letW, mapW, filterW, foldW, hi0]
      clear h0 hi0
      go_enter Tryz.func95, Tryz.ntmps95
      go_wp2_with (fail)
      go_ret
      rw [HR.out]
      exact ⟨rfl, rfl⟩
  have g0 : (op == [108, 101, 116]) = false := beq_eq_false_iff_ne.2 h0
  by_cases h1 : op = mapW
  · have g1 : (op == [109, 97, 112]) = true := by rw [h1]; rfl
    have g2 : (op == [102, 105, 108, 116, 101, 114]) = false := by rw [h1]; rfl
    have g3 : (op == [102, 111, 108, 100]) = false := by rw [h1]; rfl
    by_cases hi1 : i = 1
    · have gi : ((i : Int) == 1) = true := by simp; omega
      have HR : Hid (bindsB op i = true) := by show _ = _; rw [h1, hi1]; decide
      clear h0 h1 hi1
      go_enter Tryz.func95, Tryz.ntmps95
      go_wp2_with (fail)
      go_ret
      rw [HR.out]
      exact ⟨rfl, rfl⟩
    · have gj1 : ((i : Int) == 1) = false := by simp; omega
      have HR : Hid (bindsB op i = false) := by
        show _ = _
        rw [h1]
        unfold bindsB
        simp [letW, mapW, filterW, foldW, hi1]
      clear h0 h1 hi1
      go_enter Tryz.func95, Tryz.ntmps95
      go_wp2_with (fail)
      go_ret
      rw [HR.out]
      exact ⟨rfl, rfl⟩
  have g1 : (op == [109, 97, 112]) = false := beq_eq_false_iff_ne.2 h1
  by_cases h2 : op = filterW
  · have g2 : (op == [102, 105, 108, 116, 101, 114]) = true := by rw [h2]; rfl
    have g3 : (op == [102, 111, 108, 100]) = false := by rw [h2]; rfl
    by_cases hi1 : i = 1
    · have gi : ((i : Int) == 1) = true := by simp; omega
      have HR : Hid (bindsB op i = true) := by show _ = _; rw [h2, hi1]; decide
      clear h0 h1 h2 hi1
      go_enter Tryz.func95, Tryz.ntmps95
      go_wp2_with (fail)
      go_ret
      rw [HR.out]
      exact ⟨rfl, rfl⟩
    · have gj1 : ((i : Int) == 1) = false := by simp; omega
      have HR : Hid (bindsB op i = false) := by
        show _ = _
        rw [h2]
        unfold bindsB
        simp [letW, mapW, filterW, foldW, hi1]
      clear h0 h1 h2 hi1
      go_enter Tryz.func95, Tryz.ntmps95
      go_wp2_with (fail)
      go_ret
      rw [HR.out]
      exact ⟨rfl, rfl⟩
  have g2 : (op == [102, 105, 108, 116, 101, 114]) = false := beq_eq_false_iff_ne.2 h2
  by_cases h3 : op = foldW
  · have g3 : (op == [102, 111, 108, 100]) = true := by rw [h3]; rfl
    by_cases hi2 : i = 2
    · have gi : ((i : Int) == 2) = true := by simp; omega
      have HR : Hid (bindsB op i = true) := by show _ = _; rw [h3, hi2]; decide
      clear h0 h1 h2 h3 hi2
      go_enter Tryz.func95, Tryz.ntmps95
      go_wp2_with (fail)
      go_ret
      rw [HR.out]
      exact ⟨rfl, rfl⟩
    · have gj2 : ((i : Int) == 2) = false := by simp; omega
      by_cases hi3 : i = 3
      · have gi : ((i : Int) == 3) = true := by simp; omega
        have HR : Hid (bindsB op i = true) := by show _ = _; rw [h3, hi3]; decide
        clear h0 h1 h2 h3 hi2 hi3
        go_enter Tryz.func95, Tryz.ntmps95
        go_wp2_with (fail)
        go_ret
        rw [HR.out]
        exact ⟨rfl, rfl⟩
      · have gj3 : ((i : Int) == 3) = false := by simp; omega
        have HR : Hid (bindsB op i = false) := by
          show _ = _
          rw [h3]
          unfold bindsB
          simp [letW, mapW, filterW, foldW, hi2, hi3]
        clear h0 h1 h2 h3 hi2 hi3
        go_enter Tryz.func95, Tryz.ntmps95
        go_wp2_with (fail)
        go_ret
        rw [HR.out]
        exact ⟨rfl, rfl⟩
  have g3 : (op == [102, 111, 108, 100]) = false := beq_eq_false_iff_ne.2 h3
  have HR : Hid (bindsB op i = false) := by
    show _ = _
    unfold bindsB
    simp [h0, h1, h2, h3]
  clear h0 h1 h2 h3
  go_enter Tryz.func95, Tryz.ntmps95
  go_wp2_with (fail)
  go_ret
  rw [HR.out]
  exact ⟨rfl, rfl⟩
set_option maxRecDepth 100000 in
set_option maxHeartbeats 1000000 in
theorem bound_d (op : List UInt8) (i : Nat) (w : World) : Calls Tryz.prog 96 #[.string ⟨op.toArray⟩, .int .i64 (i : Int)] w fun e w' => e = .returned (.bool (boundB op i)) ∧ w' = w := by
  by_cases h0 : op = letW
  · have g0 : (op == [108, 101, 116]) = true := by rw [h0]; rfl
    have g1 : (op == [109, 97, 112]) = false := by rw [h0]; rfl
    have g2 : (op == [102, 105, 108, 116, 101, 114]) = false := by rw [h0]; rfl
    have g3 : (op == [102, 111, 108, 100]) = false := by rw [h0]; rfl
    by_cases hi2 : i = 2
    · have gi : ((i : Int) == 2) = true := by simp; omega
      have HR : Hid (boundB op i = true) := by show _ = _; rw [h0, hi2]; decide
      clear h0 hi2
      go_enter Tryz.func96, Tryz.ntmps96
      go_wp2_with (fail)
      go_ret
      rw [HR.out]
      exact ⟨rfl, rfl⟩
    · have gj2 : ((i : Int) == 2) = false := by simp; omega
      have HR : Hid (boundB op i = false) := by
        show _ = _
        rw [h0]
        unfold boundB
        simp [letW, mapW, filterW, foldW, hi2]
      clear h0 hi2
      go_enter Tryz.func96, Tryz.ntmps96
      go_wp2_with (fail)
      go_ret
      rw [HR.out]
      exact ⟨rfl, rfl⟩
  have g0 : (op == [108, 101, 116]) = false := beq_eq_false_iff_ne.2 h0
  by_cases h1 : op = mapW
  · have g1 : (op == [109, 97, 112]) = true := by rw [h1]; rfl
    have g2 : (op == [102, 105, 108, 116, 101, 114]) = false := by rw [h1]; rfl
    have g3 : (op == [102, 111, 108, 100]) = false := by rw [h1]; rfl
    by_cases hi2 : i = 2
    · have gi : ((i : Int) == 2) = true := by simp; omega
      have HR : Hid (boundB op i = true) := by show _ = _; rw [h1, hi2]; decide
      clear h0 h1 hi2
      go_enter Tryz.func96, Tryz.ntmps96
      go_wp2_with (fail)
      go_ret
      rw [HR.out]
      exact ⟨rfl, rfl⟩
    · have gj2 : ((i : Int) == 2) = false := by simp; omega
      have HR : Hid (boundB op i = false) := by
        show _ = _
        rw [h1]
        unfold boundB
        simp [letW, mapW, filterW, foldW, hi2]
      clear h0 h1 hi2
      go_enter Tryz.func96, Tryz.ntmps96
      go_wp2_with (fail)
      go_ret
      rw [HR.out]
      exact ⟨rfl, rfl⟩
  have g1 : (op == [109, 97, 112]) = false := beq_eq_false_iff_ne.2 h1
  by_cases h2 : op = filterW
  · have g2 : (op == [102, 105, 108, 116, 101, 114]) = true := by rw [h2]; rfl
    have g3 : (op == [102, 111, 108, 100]) = false := by rw [h2]; rfl
    by_cases hi2 : i = 2
    · have gi : ((i : Int) == 2) = true := by simp; omega
      have HR : Hid (boundB op i = true) := by show _ = _; rw [h2, hi2]; decide
      clear h0 h1 h2 hi2
      go_enter Tryz.func96, Tryz.ntmps96
      go_wp2_with (fail)
      go_ret
      rw [HR.out]
      exact ⟨rfl, rfl⟩
    · have gj2 : ((i : Int) == 2) = false := by simp; omega
      have HR : Hid (boundB op i = false) := by
        show _ = _
        rw [h2]
        unfold boundB
        simp [letW, mapW, filterW, foldW, hi2]
      clear h0 h1 h2 hi2
      go_enter Tryz.func96, Tryz.ntmps96
      go_wp2_with (fail)
      go_ret
      rw [HR.out]
      exact ⟨rfl, rfl⟩
  have g2 : (op == [102, 105, 108, 116, 101, 114]) = false := beq_eq_false_iff_ne.2 h2
  by_cases h3 : op = foldW
  · have g3 : (op == [102, 111, 108, 100]) = true := by rw [h3]; rfl
    by_cases hi4 : i = 4
    · have gi : ((i : Int) == 4) = true := by simp; omega
      have HR : Hid (boundB op i = true) := by show _ = _; rw [h3, hi4]; decide
      clear h0 h1 h2 h3 hi4
      go_enter Tryz.func96, Tryz.ntmps96
      go_wp2_with (fail)
      go_ret
      rw [HR.out]
      exact ⟨rfl, rfl⟩
    · have gj4 : ((i : Int) == 4) = false := by simp; omega
      have HR : Hid (boundB op i = false) := by
        show _ = _
        rw [h3]
        unfold boundB
        simp [letW, mapW, filterW, foldW, hi4]
      clear h0 h1 h2 h3 hi4
      go_enter Tryz.func96, Tryz.ntmps96
      go_wp2_with (fail)
      go_ret
      rw [HR.out]
      exact ⟨rfl, rfl⟩
  have g3 : (op == [102, 111, 108, 100]) = false := beq_eq_false_iff_ne.2 h3
  have HR : Hid (boundB op i = false) := by
    show _ = _
    unfold boundB
    simp [h0, h1, h2, h3]
  clear h0 h1 h2 h3
  go_enter Tryz.func96, Tryz.ntmps96
  go_wp2_with (fail)
  go_ret
  rw [HR.out]
  exact ⟨rfl, rfl⟩
end Go.Proofs.YtadbnlnifacblaaGreatDoor
