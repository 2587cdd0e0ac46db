/-
The document's Stage; awake.
-/
import Derived.Test.YtoplkinlgneidaaPr
set_option linter.unusedVariables false
namespace Go.Proofs.Ytoplkinlgneidaa
open Go.RowKit

theorem gd_at {l : List Inf} (h : GdL l) : ∀ (j : Nat) (x : Inf), l[j]? = some x → GdL (l.take j) ∧ Fol (l.take j) x := by
  induction h with
  | nil => intro j x hx; simp at hx
  | @snoc l y hl hy ih =>
    intro j x hx
    rcases Nat.lt_or_ge j l.length with hj | hj
    · rw [List.getElem?_append_left hj] at hx
      rw [List.take_append_of_le_length (by omega)]
      exact ih j x hx
    · have hj2 : j = l.length := by have := (List.getElem?_eq_some_iff.1 hx).1; simp at this; omega
      subst hj2
      rw [List.getElem?_append_right (Nat.le_refl _), Nat.sub_self] at hx
      simp at hx
      subst hx
      rw [List.take_left']
      · exact ⟨hl, hy⟩
      · rfl

theorem stF_cases (t : Int) (b : Bool) : (b = true ∧ stF t b = 3) ∨ (b = false ∧ (stF t b = 0 ∨ stF t b = 1 ∨ stF t b = 2)) := by
  unfold stF
  cases b with
  | true => exact .inl ⟨rfl, rfl⟩
  | false =>
    refine .inr ⟨rfl, ?_⟩
    simp only [Bool.false_eq_true, if_false]
    split
    · exact .inr (.inr rfl)
    · split
      · exact .inr (.inl rfl)
      · exact .inl rfl

theorem stgL_range (l : List Inf) : 0 ≤ stgL l ∧ stgL l ≤ 3 := by
  unfold stgL
  split
  · omega
  · rcases stF_cases (‹Inf›).2.1 (‹Inf›).2.2 with h | ⟨_, h⟩ <;> omega

/-- In a good list: a last pane has been, just if the stage is 3; a pane that is not Early, just if it is not 0. -/
theorem gd_stage {l : List Inf} (h : GdL l) : (stgL l = 3 ↔ ∃ y ∈ l, y.2.2 = true) ∧ (stgL l = 0 ↔ ∀ y ∈ l, y.2.2 = false ∧ y.2.1 = 0) ∧ ∀ y ∈ l, 0 ≤ y.2.1 ∧ y.2.1 ≤ 2 := by
  induction h with
  | nil => simp [stgL]
  | @snoc l x hl hx ih =>
    obtain ⟨h3, h0, hr⟩ := ih
    obtain ⟨_, ho1, ho2, ho3, ho4⟩ := hx
    have hno : ∀ y ∈ l, y.2.2 = false := fun y hy => by
      cases hb : y.2.2 with
      | false => rfl
      | true => exact absurd (h3.2 ⟨y, hy, hb⟩) ho3
    rw [stgL_snoc, stF_eq _ ho1 ho2]
    refine ⟨?_, ?_, ?_⟩
    · constructor
      · intro h
        refine ⟨x, by simp, ?_⟩
        cases hb : x.2.2 with
        | true => rfl
        | false => rw [hb] at h; simp at h; omega
      · rintro ⟨y, hy, hb⟩
        rcases List.mem_append.1 hy with hy | hy
        · rw [hno y hy] at hb; cases hb
        · rw [List.mem_singleton] at hy; subst hy; rw [hb]; rfl
    · constructor
      · intro h
        cases hb : x.2.2 with
        | true => rw [hb] at h; simp at h
        | false =>
          rw [hb] at h
          simp at h
          have hs : stgL l = 0 := by rcases ho4 with e | e; omega; exact e
          intro y hy
          rcases List.mem_append.1 hy with hy | hy
          · exact h0.1 hs y hy
          · rw [List.mem_singleton] at hy; subst hy; exact ⟨hb, h⟩
      · intro h
        obtain ⟨hb, ht⟩ := h x (by simp)
        rw [hb, ht]; rfl
    · intro y hy
      rcases List.mem_append.1 hy with hy | hy
      · exact hr y hy
      · rw [List.mem_singleton] at hy; subst hy; exact ⟨ho1, ho2⟩

/-- Behind a good list the document's answer is the line's. -/
theorem fol_iff {l : List Inf} (h : GdL l) (x : Inf) : FolR l x ↔ Fol l x := by
  obtain ⟨h3, h0, hr⟩ := gd_stage h
  constructor
  · rintro ⟨hi, h1, h2, hb⟩
    refine ⟨hi, h1, h2, fun e => ?_, ?_⟩
    · obtain ⟨y, hy, hl⟩ := h3.1 e
      exact hb y hy (.inl hl)
    · rcases Decidable.em (x.2.1 = 2) with e | e
      · exact .inl e
      · refine .inr (h0.2 fun y hy => ⟨?_, ?_⟩)
        · cases hl : y.2.2 with
          | false => rfl
          | true => exact absurd (.inl hl) (hb y hy)
        · exact Decidable.byContradiction fun ht => hb y hy (.inr ⟨e, ht⟩)
  · rintro ⟨hi, h1, h2, h4, h5⟩
    refine ⟨hi, h1, h2, fun y hy hb => ?_⟩
    rcases hb with hb | ⟨hb, ht⟩
    · exact h4 (h3.2 ⟨y, hy, hb⟩)
    · rcases h5 with e | e
      · exact hb e
      · exact ht (h0.1 e y hy).2

set_option maxRecDepth 100000 in
set_option maxHeartbeats 2000000 in
theorem rstage_any (S : Nat → Prop) (v : Value) (l : List Inf) (w : World) (h : IsAt w S v l) (hl : l.length ≤ 4611686018427387900) (hg : GdL l) :
    Calls Try.prog 26 #[v] w fun e w' => e = .returned (.int .i64 (stgL l)) ∧ w' = w := by
  obtain ⟨a, c, rfl, hlc, hA⟩ := h
  have HA := Lib.hid hA
  have HGD := Lib.hid hg
  clear hA hg
  go_enter Try.func26, Try.ntmps26
  go_wp2
  go_loopw [3, 4] (fun nv iv wr => ∃ j : Nat, iv = .int .i64 (j : Int) ∧ j ≤ l.length ∧ nv = .int .i64 (stgL (l.take j)) ∧ wr = w) (fun _ iv _ => l.length - (intOf iv).toNat)
  case atStart => exact ⟨0, rfl, Nat.zero_le _, by simp [stgL], rfl⟩
  case round =>
    obtain ⟨j, rfl, hj, rfl, rfl⟩ := hrel
    by_cases hlt : j < l.length
    · obtain ⟨bk, o, rfl, hS, hb2, hcells⟩ := HA.out (by omega)
      have hx := List.getElem?_eq_getElem hlt
      obtain ⟨c0, c1, c2⟩ := hcells j _ hx
      have HX := Lib.hid hx
      obtain ⟨_, _, o1, o2, o3, o4⟩ := gd_at HGD.out j _ hx
      have hsr := stgL_range (l.take j)
      have HNX : Hid (stgL (l.take (j + 1)) = stF (l[j]).2.1 (l[j]).2.2) := Lib.hid (by rw [take_snoc hx, stgL_snoc])
      generalize l[j] = x at *
      obtain ⟨x1, x2, x3⟩ := x
      dsimp only at c0 c1 c2 o1 o2 o3 o4
      generalize stgL (l.take j) = s at *
      have hj0' : (0 : Int) ≤ (j : Int) := by omega
      have hj1' : (j : Int) < (l.length : Int) := by omega
      have ds : decide (s < 3) = true := decide_eq_true (by omega)
      have HST : Hid (stF x2 x3 = if x3 = true then 3 else x2) := Lib.hid (stF_eq _ o1 o2)
      clear hx hcells c0
      have HO3 := Lib.hid o3
      have HO4 := Lib.hid o4
      clear o3 o4
      by_cases hgt : s < x2
      · have dg : decide (s < x2) = true := decide_eq_true hgt
        cases x3 with
        | true =>
          go_wp2
          go_roundw
          case rel => exact ⟨j + 1, by go_num, by omega, by rw [HNX.out, HST.out]; rfl, trivial⟩
          case measure => simp [intOf]; omega
        | false =>
          go_wp2
          go_roundw
          case rel => exact ⟨j + 1, by go_num, by omega, by rw [HNX.out, HST.out]; rfl, trivial⟩
          case measure => simp [intOf]; omega
      · have dg : decide (s < x2) = false := decide_eq_false hgt
        have HE : Hid (s = x2) := Lib.hid (by have := HO4.out; have := HO3.out; omega)
        cases x3 with
        | true =>
          go_wp2
          go_roundw
          case rel => exact ⟨j + 1, by go_num, by omega, by rw [HNX.out, HST.out]; rfl, trivial⟩
          case measure => simp [intOf]; omega
        | false =>
          go_wp2
          go_roundw
          case rel => exact ⟨j + 1, by go_num, by omega, by rw [HNX.out, HST.out, HE.out]; rfl, trivial⟩
          case measure => simp [intOf]; omega
    · obtain rfl : j = l.length := by omega
      go_wp2
      go_ret
      rw [List.take_length]
      exact ⟨rfl, rfl⟩

end Go.Proofs.Ytoplkinlgneidaa
