/-
Depth of the document's answer.
-/
import Derived.Test.YtdoadedglpjldaaDoorOf
import Derived.Test.YtdoadedglpjldaaDoorWdc
namespace Go.Proofs.YtdoadedglpjldaaDoor
open Go.RowKit

theorem measure_parts {r q : Nat} {t : Ty} (h : measureT (r + 1) t = some q) : ∃ m, measureL (measureT r) t.args 0 = some m ∧ q = m + 1 := by
  unfold measureT at h
  cases hw : wordK t.kind with
  | none => simp [hw] at h
  | some x =>
    simp only [hw] at h
    split at h
    · obtain ⟨m, hm, rfl⟩ := Option.map_eq_some_iff.1 h
      exact ⟨m, hm, rfl⟩
    · simp at h
theorem measureL_step {f : Ty → Option Nat} {a : Ty} {l : List Ty} {n m : Nat} (h : measureL f (a :: l) n = some m) : ∃ q, f a = some q ∧ measureL f l (max n q) = some m := by
  simp only [measureL] at h
  cases hf : f a with
  | none => simp [hf] at h
  | some q => exact ⟨q, rfl, by simpa [hf] using h⟩
theorem measureL_up {f : Ty → Option Nat} : ∀ {l : List Ty} {n m : Nat}, measureL f l n = some m → n ≤ m
  | [], n, m, h => by simp [measureL] at h; omega
  | a :: l, n, m, h => by
    obtain ⟨q, _, h2⟩ := measureL_step h
    have := measureL_up h2
    omega
set_option maxRecDepth 100000 in
set_option maxHeartbeats 1000000 in
theorem rdepth_any : ∀ (r d q : Nat) (S : Nat → Prop) (v : Value) (t : Ty) (w : World), r ≤ 6 → measureT r t = some q → TyAt w S d v t →
    Calls Tryd.prog 20 #[v] w fun e w' => e = .returned (.int .i64 q) ∧ Below w.heap.size w w'
  | r, 0, q, S, v, t, w, _, _, hT => hT.elim
  | 0, d + 1, q, S, v, t, w, _, hm, hT => by simp [measureT] at hm
  | r + 1, d + 1, q, S, v, t, w, hr6, hm, hT => by
    have hq6 := measureT_le _ _ _ hm
    obtain ⟨x, _, hxa, hxw, hall⟩ := measure_right hm
    obtain ⟨m, hmm, rfl⟩ := measure_parts hm
    have hx2 := words_args x hxw
    have hlen : t.args.length ≤ 2 := by omega
    have IH := rdepth_any r d
    have HIH := Lib.hid IH
    have HM := Lib.hid hmm
    obtain ⟨A, c, rfl, hlc, hA⟩ := hT
    have HA := Lib.hid hA
    have hb1 := (Below.refl w.heap.size w).alloc (Nat.le_refl _) (.cells #[.int .i64 t.kind, .slice A t.args.length c] 29)
    have hn1 := heap_alloc_new w (.cells #[.int .i64 t.kind, .slice A t.args.length c] 29)
    have hz1 := cell_lt hn1
    clear hA IH hall hm hmm hxa hx2 hxw
    go_enter Tryd.func20, Tryd.ntmps20
    go_wp2_with (fail)
    go_loopw [3, 4] (fun nv i wr => ∃ j nn : Nat, i = .int .i64 j ∧ nv = .int .i64 nn ∧ j ≤ t.args.length ∧ Hid (measureL (measureT r) (t.args.drop j) nn = some m) ∧ Below w.heap.size w wr ∧ w.heap.size < wr.heap.size ∧ wr.heap[w.heap.size]? = some (.cells #[.int .i64 t.kind, .slice A t.args.length c] 29 (0, 0))) (fun _ i _ => 3000 - (intOf i).toNat)
    case atStart => exact ⟨0, 0, rfl, rfl, by omega, by show _ = _; rw [List.drop_zero]; exact HM.out, hb1, hz1, hn1⟩
    case round =>
      obtain ⟨j, nn, rfl, rfl, hj, HE, hbr, hsz, hy0⟩ := hrel
      have c0 := cell2_0 hy0
      have c1 := cell2_1 hy0
      have hup := measureL_up HE.out
      by_cases hlt : j < t.args.length
      · obtain ⟨b1, o, rfl, hSb, hcells⟩ := HA.out (by omega)
        obtain ⟨B1, k1, h0, h1, h2, hbl⟩ := arg_cells hcells hlt
        have g0 := (hbr.cell (p := ⟨b1, o + j * 2, none⟩) hbl).trans h0
        have g1 := (hbr.cell (p := ⟨b1, o + j * 2 + 1, none⟩) hbl).trans h1
        have hd : t.args.drop j = t.args[j] :: t.args.drop (j + 1) := List.drop_eq_getElem_cons hlt
        generalize t.args[j] = x at *
        have hE := HE.out
        rw [hd] at hE
        obtain ⟨qx, hqx, hE2⟩ := measureL_step hE
        have hup2 := measureL_up hE2
        have HE2 := Lib.hid hE2
        have HQ := Lib.hid hqx
        have H2 := Lib.hid (h2.below hbr)
        clear h0 h1 h2 hd hcells hE hE2 hqx
        go_wp2_with (fail)
        refine (HIH.out qx _ _ x wr (by omega) HQ.out H2.out).mono ?_
        rintro e w3 ⟨rfl, hb3⟩
        have hb4 := hbr.trans (hb3.mono hbr.size)
        have hs3 := hb3.size
        have hy0' := (hb3.block w.heap.size (by omega)).trans hy0
        by_cases hgt : nn < qx
        · have hdg : decide ((nn : Int) < (qx : Int)) = true := by simp; omega
          have hmx : max nn qx = qx := by omega
          rw [hmx] at HE2
          clear hmx
          go_wp2_with (fail)
          go_roundw
          case rel => exact ⟨j + 1, qx, by go_num, rfl, by omega, HE2, hb4, by omega, hy0'⟩
          case measure => simp [intOf]; omega
        · have hdg : decide ((nn : Int) < (qx : Int)) = false := by simp; omega
          have hmx : max nn qx = nn := by omega
          rw [hmx] at HE2
          clear hmx
          go_wp2_with (fail)
          go_roundw
          case rel => exact ⟨j + 1, nn, by go_num, rfl, by omega, HE2, hb4, by omega, hy0'⟩
          case measure => simp [intOf]; omega
      · have hE := HE.out
        rw [List.drop_of_length_le (by omega)] at hE
        obtain rfl : nn = m := by simpa [measureL] using hE
        clear hE
        go_wp2_with (fail)
        go_ret
        exact ⟨by rw [Int.natCast_add]; rfl, hbr⟩
end Go.Proofs.YtdoadedglpjldaaDoor
