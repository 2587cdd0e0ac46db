/-
Join on both sides; same; one step.
-/
import Derived.Test.YtoplkinlgneidaaTv
set_option linter.unusedVariables false
namespace Go.Proofs.Ytoplkinlgneidaa
open Go.RowKit

/-- Has it passed, or fired a pane? -/
def toldB (p : Bool) (d : List Inf) : Bool := p || decide (0 < d.length)

def joinP (d : List Inf) (fr : Int) (p c : Bool) (tb : Bool) (fr1 : Int) : Stp :=
  if toldB p d = true ∨ tb = true then (none, 100, fr, p, c) else (none, 0, fr + fr1, p, c)

theorem Inv.join {d : List Inf} {fr : Int} {p c : Bool} (h : Inv d fr p c) (tb : Bool) (fr1 : Int) (h1 : 0 ≤ fr1) : Inv (after d (joinP d fr p c tb fr1)) (joinP d fr p c tb fr1).2.2.1 (joinP d fr p c tb fr1).2.2.2.1 (joinP d fr p c tb fr1).2.2.2.2 := by
  unfold joinP after
  split
  · simpa using h
  · rename_i hn
    have hp : p = false := by cases p with | true => exact absurd (.inl rfl) hn | false => rfl
    subst hp
    obtain ⟨hs, hc⟩ := h.early rfl
    subst hc
    have := h.low
    exact ⟨by simpa using h.gd, by simpa using h.early, by simpa using h.open_, (fun e => by cases e), by simpa using h.one, by dsimp only; omega⟩

theorem told_cases {p : Bool} {d : List Inf} (h : toldB p d = true) : p = true ∨ ¬ ((d.length : Int)) = 0 := by
  unfold toldB at h
  rcases Bool.or_eq_true _ _ ▸ h with h | h
  · exact .inl h
  · exact .inr (by have := of_decide_eq_true h; omega)

theorem told_none {p : Bool} {d : List Inf} (h : ¬ toldB p d = true) : p = false ∧ d = [] := by
  unfold toldB at h
  cases p with
  | true => exact absurd rfl h
  | false =>
    refine ⟨rfl, ?_⟩
    cases d with
    | nil => rfl
    | cons x r => exact absurd (by simp) h

theorem pjoin_any (m g : Nat) (E L T : Int) (a : Bool) (d : List Inf) (fr : Int) (p c : Bool) (m' g' : Nat) (d1 : List Inf) (fr1 : Int) (p1 c1 : Bool) (w : World) (h : Mc w m g E L T a d.length (stgL d) fr p c) (h' : Mc w m' g' E L T a d1.length (stgL d1) fr1 p1 c1) (hne : m ≠ m') (hf : 0 ≤ fr) (hf2 : fr ≤ 4611686018427387904) (hv : 0 ≤ fr1) (hv2 : fr1 ≤ 4611686018427387900) :
    Calls Try.prog 13 #[.pointer (some ⟨m, 0, none⟩), .pointer (some ⟨m', 0, none⟩)] w fun e w' => e = .returned (.int .i64 (joinP d fr p c (toldB p1 d1) fr1).2.1) ∧ Mc w' m g E L T a (after d (joinP d fr p c (toldB p1 d1) fr1)).length (stgL (after d (joinP d fr p c (toldB p1 d1) fr1))) (joinP d fr p c (toldB p1 d1) fr1).2.2.1 (joinP d fr p c (toldB p1 d1) fr1).2.2.2.1 (joinP d fr p c (toldB p1 d1) fr1).2.2.2.2 ∧ Only2 m g w w' := by
  unfold joinP
  by_cases h1 : toldB p d = true
  · rw [if_pos (.inl h1)]
    refine (join_no1 m g E L T a _ _ fr p c m' w h'.cells h hne (told_cases h1)).mono fun e w' ⟨he, hw⟩ => ?_
    subst hw
    exact ⟨he, by simpa [after] using h, Only2.refl _ _ _⟩
  · obtain ⟨rfl, rfl⟩ := told_none h1
    by_cases h2 : toldB p1 d1 = true
    · rw [if_pos (.inr h2)]
      refine (join_no2 m g E L T a _ fr c m' g' E L T a _ _ fr1 p1 c1 w h h' hne (told_cases h2)).mono fun e w' ⟨he, hw⟩ => ?_
      subst hw
      exact ⟨he, by simpa [after] using h, Only2.refl _ _ _⟩
    · obtain ⟨rfl, rfl⟩ := told_none h2
      rw [if_neg (by simp [toldB])]
      refine (join_ok m g E L T a _ fr c m' g' E L T a _ fr1 c1 w h h' hne hf hf2 hv hv2).mono fun e w' ⟨he, hM, ho⟩ => ?_
      exact ⟨he, by simpa [after] using hM, ho⟩

set_option maxRecDepth 100000 in
set_option maxHeartbeats 4000000 in
theorem rjoin_any (x B : Nat) (E L T : Int) (a : Bool) (dv : Value) (d : List Inf) (fr : Int) (p c : Bool) (y B' : Nat) (dv1 : Value) (d1 : List Inf) (fr1 : Int) (p1 c1 : Bool) (w : World) (h : Xc w x B E L T a dv d fr p c) (h' : Xc w y B' E L T a dv1 d1 fr1 p1 c1) (hne : x ≠ y) (hf : 0 ≤ fr) (hf2 : fr ≤ 4611686018427387904) (hv : 0 ≤ fr1) (hv2 : fr1 ≤ 4611686018427387900) (hl : d.length ≤ 4611686018427387900) (hl1 : d1.length ≤ 4611686018427387900) :
    Calls Try.prog 24 #[.pointer (some ⟨x, 0, none⟩), .pointer (some ⟨y, 0, none⟩)] w fun e w' => e = .returned (.int .i64 (joinP d fr p c (toldB p1 d1) fr1).2.1) ∧ Xc w' x B E L T a dv (after d (joinP d fr p c (toldB p1 d1) fr1)) (joinP d fr p c (toldB p1 d1) fr1).2.2.1 (joinP d fr p c (toldB p1 d1) fr1).2.2.2.1 (joinP d fr p c (toldB p1 d1) fr1).2.2.2.2 ∧ OnlyR x dv w w' := by
  obtain ⟨A, cp, rfl⟩ := h.slice
  obtain ⟨A1, cp1, rfl⟩ := h'.slice
  have hc := h.cells
  have c4 := cells_at hc 4 (.slice A d.length cp) rfl
  have c5 := cells_at hc 5 (.int .i64 fr) rfl
  have c6 := cells_at hc 6 (.bool p) rfl
  have cf := cells_f hc
  have hxl := cell_lt hc
  have hc' := h'.cells
  have e4 := cells_at hc' 4 (.slice A1 d1.length cp1) rfl
  have e5 := cells_at hc' 5 (.int .i64 fr1) rfl
  have e6 := cells_at hc' 6 (.bool p1) rfl
  have hyl := cell_lt hc'
  have HX := Lib.hid h
  clear hc h hc' h'
  have hend100 : ∀ w' : World, w' = w → Xc w' x B E L T a (.slice A d.length cp) (after d (none, 100, fr, p, c)) fr p c ∧ OnlyR x (.slice A d.length cp) w w' := by
    rintro _ rfl
    exact ⟨by simpa [after] using HX.out, OnlyR.refl _ _ _⟩
  have HE100 := Lib.hid hend100
  clear hend100
  unfold joinP
  cases p with
  | true =>
    rw [if_pos (.inl rfl)]
    go_enter Try.func24, Try.ntmps24
    go_wp2
    go_ret
    exact ⟨rfl, HE100.out _ rfl⟩
  | false =>
    cases p1 with
    | true =>
      rw [if_pos (.inr rfl)]
      go_enter Try.func24, Try.ntmps24
      go_wp2
      go_ret
      exact ⟨rfl, HE100.out _ rfl⟩
    | false =>
      by_cases h0 : 0 < d.length
      · rw [if_pos (.inl (by simp [toldB, h0]))]
        have d0 : decide ((0 : Int) < (d.length : Int)) = true := decide_eq_true (by omega)
        have d0' : decide (0 < d.length) = true := decide_eq_true h0
        go_enter Try.func24, Try.ntmps24
        go_wp2
        go_ret
        exact ⟨rfl, HE100.out _ rfl⟩
      · obtain rfl : d = [] := List.length_eq_zero_iff.1 (by omega)
        by_cases h1 : 0 < d1.length
        · rw [if_pos (.inr (by simp [toldB, h1]))]
          have d0 : decide ((0 : Int) < (d1.length : Int)) = true := decide_eq_true (by omega)
          have d0' : decide (0 < d1.length) = true := decide_eq_true h1
          go_enter Try.func24, Try.ntmps24
          go_wp2
          go_ret
          exact ⟨rfl, HE100.out _ rfl⟩
        · obtain rfl : d1 = [] := List.length_eq_zero_iff.1 (by omega)
          rw [if_neg (by simp [toldB])]
          have hwr : IntKind.i64.wrap (fr + fr1) = fr + fr1 := IntWalk.i64_in _ (by omega)
          clear h0 h1
          go_enter Try.func24, Try.ntmps24
          go_wp2
          go_region
          all_goals
            go_wp2
            go_ret
            exact ⟨rfl, (HX.out.set5 (fr + fr1)).drewN 1, ((OnlyR.refl x _ w).set_ (p := ⟨x, 5, none⟩) (.inl rfl) _).drewN 1⟩

set_option maxRecDepth 100000 in
set_option maxHeartbeats 4000000 in
theorem same_any (Ba Bb : Nat) (V V' : Value) (o : Option Inf) (w : World) (h : Told Ba w V o) (h' : ToldR Bb w V' o) :
    Calls Try.prog 25 #[V, V'] w fun e w' => e = .returned (.bool true) ∧ Below w.heap.size w w' := by
  cases o with
  | none =>
    have h1 : V = .slice none 0 0 := h
    have h2 : V' = .slice none 0 0 := h'
    subst h1; subst h2
    go_enter Try.func25, Try.ntmps25
    go_wp2
    go_loop [13] (fun iv => iv = .int .i64 0) (fun _ => 0)
    case atStart => rfl
    case round =>
      subst hrel
      go_wp2
      go_ret
      exact ⟨rfl, Below.refl _ _⟩
  | some x =>
    obtain ⟨n, t, l⟩ := x
    obtain ⟨b, rfl, h1⟩ := h
    obtain ⟨b', rfl, h2⟩ := h'
    have b0 := cell3_0 h1.2
    have b1 := cell3_1 h1.2
    have b2 := cell3_2 h1.2
    have hbl := cell_lt h1.2
    have r0 := cell3_0 h2.2
    have r1 := cell3_1 h2.2
    have r2 := cell3_2 h2.2
    have hrl := cell_lt h2.2
    have hgu := fun w' => Try.guardR .neq w'
    have hne : ∀ w', (binOp .neq 76 (.agg #[.int .i64 n, .int .i64 t, .bool l]) (.agg #[.int .i64 n, .int .i64 t, .bool l])).run Try.prog w' = .ok (.bool false) w' := fun w' => by rw [Try.neqR]; simp
    clear h1 h2
    go_enter Try.func25, Try.ntmps25
    go_wp2
    go_loopw [13] (fun iv wr => ∃ k : Nat, iv = .int .i64 (k : Int) ∧ k ≤ 1 ∧ Hid (Below w.heap.size w wr)) (fun iv _ => 1 - (intOf iv).toNat)
    case atStart => exact ⟨0, rfl, by omega, Lib.hid (Below.refl _ _)⟩
    case round =>
      obtain ⟨k, rfl, hk, HB⟩ := hrel
      have hsr := HB.out.size
      by_cases hk0 : k = 0
      · subst hk0
        have b0 := (HB.out.cell (p := ⟨b, 0, none⟩) hbl).trans b0
        have b1 := (HB.out.cell (p := ⟨b, 1, none⟩) hbl).trans b1
        have b2 := (HB.out.cell (p := ⟨b, 2, none⟩) hbl).trans b2
        have r0 := (HB.out.cell (p := ⟨b', 0, none⟩) hrl).trans r0
        have r1 := (HB.out.cell (p := ⟨b', 1, none⟩) hrl).trans r1
        have r2 := (HB.out.cell (p := ⟨b', 2, none⟩) hrl).trans r2
        have hbl' : b < wr.heap.size := by omega
        have hrl' : b' < wr.heap.size := by omega
        go_wp2
        go_quiet (fail)
        go_wp2
        go_roundw
        case rel => exact ⟨1, rfl, by omega, Lib.hid (below_drewN HB.out _)⟩
        case measure => simp [intOf]
      · obtain rfl : k = 1 := by omega
        go_wp2
        go_ret
        exact ⟨rfl, HB.out⟩

end Go.Proofs.Ytoplkinlgneidaa
