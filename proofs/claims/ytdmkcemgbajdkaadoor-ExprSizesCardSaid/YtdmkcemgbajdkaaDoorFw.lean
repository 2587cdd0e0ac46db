/-
Arguments that are terms, and fit: whether they may be gone through: the walk.
-/
import Derived.Test.YtdmkcemgbajdkaaDoorFt
namespace Go.Proofs.YtdmkcemgbajdkaaDoor
open Go.ChangeShapes Go.WideShapes Go.RowKit

/-- The cells of a Kid. -/
theorem kid_cells6 {w : World} {S : Nat → Prop} {d b o j : Nat} {l : List Nd} (hc : ∀ (j : Nat) (a : Nd), l[j]? = some a → ∃ u0 u1 u2 u3 u4 u5, w.cell? ⟨b, o + j * 6, none⟩ = some u0 ∧ w.cell? ⟨b, o + j * 6 + 1, none⟩ = some u1 ∧ w.cell? ⟨b, o + j * 6 + 2, none⟩ = some u2 ∧ w.cell? ⟨b, o + j * 6 + 3, none⟩ = some u3 ∧ w.cell? ⟨b, o + j * 6 + 4, none⟩ = some u4 ∧ w.cell? ⟨b, o + j * 6 + 5, none⟩ = some u5 ∧ NdAt w S d (.agg #[u0, u1, u2, u3, u4, u5]) a) {a : Nd} (h : l[j]? = some a) :
    ∃ A c K k, w.cell? ⟨b, o + j * 6, none⟩ = some (.string ⟨a.op.toArray⟩) ∧ w.cell? ⟨b, o + j * 6 + 1, none⟩ = some (.int .i64 a.int) ∧ w.cell? ⟨b, o + j * 6 + 2, none⟩ = some (.string ⟨a.text.toArray⟩) ∧ w.cell? ⟨b, o + j * 6 + 3, none⟩ = some (.int .i64 a.ty.kind) ∧ w.cell? ⟨b, o + j * 6 + 4, none⟩ = some (.slice A a.ty.args.length c) ∧ w.cell? ⟨b, o + j * 6 + 5, none⟩ = some (.slice K a.kids.length k) ∧
      NdAt w S d (.agg #[.string ⟨a.op.toArray⟩, .int .i64 a.int, .string ⟨a.text.toArray⟩, .int .i64 a.ty.kind, .slice A a.ty.args.length c, .slice K a.kids.length k]) a ∧ b < w.heap.size := by
  obtain ⟨u0, u1, u2, u3, u4, u5, h0, h1, h2, h3, h4, h5, h6⟩ := hc j a h
  have hbl := World.block_lt_of_cell? w _ h0
  obtain ⟨A, c, K, k, he⟩ := h6.form
  injection he with he
  have he' := congrArg Array.toList he
  simp only [List.cons.injEq, and_true] at he'
  obtain ⟨rfl, rfl, rfl, rfl, rfl, rfl⟩ := he'
  exact ⟨A, c, K, k, h0, h1, h2, h3, h4, h5, h6, hbl⟩

set_option maxRecDepth 100000 in
set_option maxHeartbeats 1000000 in
theorem few_any : ∀ (dep d : Nat) (S : Nat → Prop) (L : Nat) (v : Value) (t : Nd) (l : Int) (w : World), dep ≤ 60 → NdAt w S d v t → (∀ b, S b → b ≠ L) → w.heap[L]? = some (.cells #[.int .i64 l] 3 (0, 0)) → 0 ≤ l → l ≤ 5000 →
    Calls Tryd.prog 22 #[v, .pointer (some ⟨L, 0, none⟩), .int .i64 (dep : Int)] w fun e w' => FwOut dep t l L e w' ∧ Only L w w'
  | dep, 0, S, L, v, t, l, w, _, hT, _, _, _, _ => hT.elim
  | dep, d + 1, S, L, v, t, l, w, hdep, hT, hS, hL, hl0, hl1 => by
    have HT := Lib.hid hT
    have HS := Lib.hid hS
    have IH := fun (dep : Nat) => few_any dep d
    have HIH := Lib.hid IH
    obtain ⟨A, c, K, kc, rfl, ⟨dt, hty⟩, hlc, hA⟩ := hT
    have HA := Lib.hid hA
    have HTY := Lib.hid hty
    have hLl := cell_lt hL
    have c0 := cell1_0 hL
    have f0 := cell3_f hL 0
    have z0 := str_len t.op
    have z1 := str_len t.text
    obtain ⟨os, hos⟩ : ∃ os, os = ByteArray.mk t.op.toArray := ⟨_, rfl⟩
    obtain ⟨ts, hts⟩ : ∃ ts, ts = ByteArray.mk t.text.toArray := ⟨_, rfl⟩
    rw [← hos] at z0
    rw [← hts] at z1
    rw [← hos, ← hts]
    have HOS := Lib.hid hos
    have HTS0 := Lib.hid hts
    clear hA hS IH hty hos hts
    by_cases hlz : l = 0
    · subst hlz
      go_enter Tryd.func22, Tryd.ntmps22
      go_wp2_with (fail)
      go_ret
      exact ⟨⟨false, -1, rfl, (Below.heap_alloc _ _ _ (by simpa [World.setCell] using hLl)).trans (one_stored hL _), by omega, by omega, by simp⟩, only_alloc' (Only.set_ L 0 w _) _⟩
    · obtain ⟨m, rfl⟩ : ∃ m, l = m + 1 := ⟨l - 1, by omega⟩
      have hm0 : 0 ≤ m := by omega
      have hmd : decide (m < 0) = false := by simp; omega
      by_cases hdz : dep = 0
      · subst hdz
        go_enter Tryd.func22, Tryd.ntmps22
        go_wp2_with (fail)
        go_ret
        exact ⟨⟨false, m, rfl, (Below.heap_alloc _ _ _ (by simpa [World.setCell] using hLl)).trans (one_stored hL _), by omega, by omega, by simp⟩, only_alloc' (Only.set_ L 0 w _) _⟩
      · obtain ⟨dp, rfl⟩ : ∃ dp, dep = dp + 1 := ⟨dep - 1, by omega⟩
        rw [show ((dp + 1 : Nat) : Int) = (dp : Int) + 1 by omega]
        have hd0 : (((dp : Int) + 1) == 0) = false := by simp; omega
        by_cases ht1 : 10000 < t.text.length
        · have g1 : decide ((10000 : Int) < (ts.size : Int)) = true := by simp; omega
          go_enter Tryd.func22, Tryd.ntmps22
          go_wp2_with (fail)
          go_ret
          exact ⟨⟨false, m, rfl, (Below.heap_alloc _ _ _ (by simpa [World.setCell] using hLl)).trans (one_stored hL _), by omega, by omega, by simp⟩, only_alloc' (Only.set_ L 0 w _) _⟩
        by_cases ho1 : 100 < t.op.length
        · have g1 : decide ((10000 : Int) < (ts.size : Int)) = false := by simp; omega
          have g2 : decide ((100 : Int) < (os.size : Int)) = true := by simp; omega
          go_enter Tryd.func22, Tryd.ntmps22
          go_wp2_with (fail)
          go_ret
          exact ⟨⟨false, m, rfl, (Below.heap_alloc _ _ _ (by simpa [World.setCell] using hLl)).trans (one_stored hL _), by omega, by omega, by simp⟩, only_alloc' (Only.set_ L 0 w _) _⟩
        have g1 : decide ((10000 : Int) < (ts.size : Int)) = false := by simp; omega
        have g2 : decide ((100 : Int) < (os.size : Int)) = false := by simp; omega
        have hne : ∀ b, S b → b ≠ L := HS.out
        have hL1 : Hid (((w.setCell ⟨L, 0, none⟩ (.int .i64 m)).alloc (.cells #[.string os, .int .i64 t.int, .string ts, .int .i64 t.ty.kind, .slice A t.ty.args.length c, .slice K t.kids.length kc] 28)).heap[L]? = some (.cells #[.int .i64 m] 3 (0, 0))) := (Below.heap_alloc _ _ _ (by simpa [World.setCell] using hLl)).trans (one_stored hL _)
        have HO1 : Hid (Only L w ((w.setCell ⟨L, 0, none⟩ (.int .i64 m)).alloc (.cells #[.string os, .int .i64 t.int, .string ts, .int .i64 t.ty.kind, .slice A t.ty.args.length c, .slice K t.kids.length kc] 28))) := only_alloc' (Only.set_ L 0 w _) _
        have hfl := flat_any 30 dt S L _ t.ty m ((w.setCell ⟨L, 0, none⟩ (.int .i64 m)).alloc (.cells #[.string os, .int .i64 t.int, .string ts, .int .i64 t.ty.kind, .slice A t.ty.args.length c, .slice K t.kids.length kc] 28)) (by omega) (HTY.out.only hne HO1.out) hne hL1.out hm0 (by omega)
        have HFL := Lib.hid hfl
        have HC1 : Hid (((w.setCell ⟨L, 0, none⟩ (.int .i64 m)).alloc (.cells #[.string os, .int .i64 t.int, .string ts, .int .i64 t.ty.kind, .slice A t.ty.args.length c, .slice K t.kids.length kc] 28)).heap[w.heap.size]? = some (.cells #[.string os, .int .i64 t.int, .string ts, .int .i64 t.ty.kind, .slice A t.ty.args.length c, .slice K t.kids.length kc] 28 (0, 0))) := heap_new_at (by simp [World.setCell])
        clear z0 z1 hne hfl
        go_enter Tryd.func22, Tryd.ntmps22
        go_wp2_with (fail)
        refine HFL.out.mono ?_
        clear HFL
        rintro e w2 ⟨⟨bb, l1, rfl, hL2, h21, h22, h23⟩, ho2⟩
        have HO2 := Lib.hid (HO1.out.trans ho2)
        have hc2 := (ho2.block w.heap.size (cell_lt HC1.out) (by simp; omega)).trans HC1.out
        have d5 := cell6_5 hc2
        have dl := cell_lt hc2
        clear ho2 HO1 hL1 HC1 hc2
        cases bb with
        | false =>
          go_wp2_with (fail)
          go_ret
          exact ⟨⟨false, l1, rfl, hL2, by omega, by omega, by simp⟩, HO2.out⟩
        | true =>
        obtain ⟨h24, h25⟩ := h23 rfl
        have HNT := Lib.hid h25
        clear h23 h25 hL c0 f0 hmd
        have hsz := HO2.out.size
        go_wp2_with (fail)
        go_loopw [44] (fun i wr => ∃ (j : Nat) (l' : Int), i = .int .i64 j ∧ j ≤ t.kids.length ∧ wr.heap[L]? = some (.cells #[.int .i64 l'] 3 (0, 0)) ∧ 0 ≤ l' ∧ l' + j ≤ m ∧ Hid (Only L w wr) ∧ Hid (∀ a ∈ t.kids.take j, FewN dp a)) (fun i _ => 6000 - (intOf i).toNat)
        case atStart => exact ⟨0, l1, rfl, by omega, hL2, h24, by omega, HO2, fun a ha => by simp at ha⟩
        case round =>
          obtain ⟨j, l', rfl, hj, hLr, hl'0, hl'j, HOR, HN⟩ := hrel
          by_cases hlt : j < t.kids.length
          · obtain ⟨b, o, rfl, hSb, hcells⟩ := HA.out (by omega)
            obtain ⟨a, ha⟩ : ∃ a, t.kids[j]? = some a := ⟨_, List.getElem?_eq_getElem hlt⟩
            obtain ⟨A', c', K', k', h0, h1, h2, h3, h4, h5, hnd, hbl⟩ := kid_cells6 hcells ha
            have hbne := HS.out b hSb
            have hbk : wr.heap[b]? = w.heap[b]? := HOR.out.block b hbl (by simpa using hbne)
            have k0 := (World.cell?_of_block (a := ⟨b, o + j * 6, none⟩) hbk).trans h0
            have k1 := (World.cell?_of_block (a := ⟨b, o + j * 6 + 1, none⟩) hbk).trans h1
            have k2 := (World.cell?_of_block (a := ⟨b, o + j * 6 + 2, none⟩) hbk).trans h2
            have k3 := (World.cell?_of_block (a := ⟨b, o + j * 6 + 3, none⟩) hbk).trans h3
            have k4 := (World.cell?_of_block (a := ⟨b, o + j * 6 + 4, none⟩) hbk).trans h4
            have k5 := (World.cell?_of_block (a := ⟨b, o + j * 6 + 5, none⟩) hbk).trans h5
            have HTS : Hid (t.kids.take (j + 1) = t.kids.take j ++ [a]) := by show _ = _; rw [List.take_add_one, ha]; rfl
            have H2 := Lib.hid (hnd.only HS.out HOR.out)
            have hLL := cell_lt hLr
            clear h0 h1 h2 h3 h4 h5 hcells hbk hnd ha
            go_wp2_with (fail)
            refine (HIH.out dp S L _ a l' _ (by omega) (H2.out.below ((Below.refl _ wr).alloc (Nat.le_refl _) _)) HS.out ((Below.heap_alloc wr _ L (cell_lt hLr)).trans hLr) hl'0 (by omega)).mono ?_
            rintro e w3 ⟨⟨bb, l2, rfl, hL3, h21, h22, h23⟩, ho3⟩
            have HO3 := Lib.hid ((only_alloc' HOR.out _).trans ho3)
            clear ho3
            cases bb with
            | false =>
              go_wp2_with (fail)
              go_ret
              exact ⟨⟨false, l2, rfl, hL3, by omega, by omega, by simp⟩, HO3.out⟩
            | true =>
              obtain ⟨h24, h25⟩ := h23 rfl
              have H25 := Lib.hid h25
              clear h23 h25
              go_wp2_with (fail)
              go_roundw
              case rel => exact ⟨j + 1, l2, by go_num, by omega, hL3, h24, by omega, HO3, by
                show ∀ a ∈ t.kids.take (j + 1), FewN dp a
                rw [HTS.out]
                intro x hx
                rcases List.mem_append.1 hx with hx | hx
                · exact HN.out x hx
                · simp at hx; subst hx; exact H25.out⟩
              case measure => simp [intOf]; omega
          · obtain rfl : j = t.kids.length := by omega
            have hN : ∀ a ∈ t.kids, FewN dp a := by have := HN.out; rwa [List.take_length] at this
            have HNN := Lib.hid hN
            clear hN
            go_wp2_with (fail)
            go_ret
            exact ⟨⟨true, l', rfl, hLr, by omega, by omega, fun _ => ⟨hl'0, by omega, by omega, HNT.out, by omega, HNN.out⟩⟩, HOR.out⟩
end Go.Proofs.YtdmkcemgbajdkaaDoor
