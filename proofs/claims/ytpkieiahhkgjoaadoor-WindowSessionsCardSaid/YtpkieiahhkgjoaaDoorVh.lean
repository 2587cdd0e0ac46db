/-
having and Assign of the program.
-/
import Derived.Test.YtpkieiahhkgjoaaDoorVe
set_option linter.unusedVariables false
namespace Go.Proofs.YtpkieiahhkgjoaaDoor
open Go.RowKit

theorem ws_one {w : World} {g B : Nat} {a b : Int} {t : TypeId} (h : w.heap[g]? = some (.cells #[.int .i64 a, .int .i64 b] t (0, 0))) (hB : B ≤ g) : WsAt w B (.slice (some ⟨g, 0, none⟩) 1 1) [(a, b)] :=
  ⟨_, _, rfl, Nat.le_refl _, fun _ => ⟨g, 0, rfl, hB, cell_lt h, fun j x hx => by
    match j, hx with
    | 0, hx => simp at hx; subst hx; exact ⟨cell2_0 h, cell2_1 h⟩⟩⟩

/-- What a function that tells windows answers. -/
def WOut (B : Nat) (l : List Wn) (e : Ending) (w' : World) : Prop := ∃ v, e = .returned v ∧ WsAt w' B v l

set_option maxHeartbeats 400000 in
theorem having_any (k s p o t : Int) (w : World) (hr : Rgt k s p o) (ht : 0 ≤ t) (ht2 : t ≤ 1048576) :
    Calls Tryd.prog 11 #[.agg #[.int .i64 k, .int .i64 s, .int .i64 p, .int .i64 o], .int .i64 t] w fun e w' => WOut w.heap.size (asg k s p o t) e w' ∧ Below w.heap.size w w' := by
  rcases hr with ⟨rfl, rfl, rfl, rfl⟩ | ⟨rfl, h1, h2, rfl, h3, h4⟩ | ⟨rfl, h1, h2, h3, h4, h5, h6, h7⟩ | ⟨rfl, h1, h2, rfl, rfl⟩
  · go_enter Tryd.func11, Tryd.ntmps11
    go_wp2
    go_ret
    exact ⟨⟨_, rfl, ws_one (heap_new_at (by simp)) (by simp)⟩, ((Below.refl _ _).alloc (Nat.le_refl _) _).alloc (by simp) _⟩
  · have e : asg 1 s 0 o t = ap (fstA o s s t) s s (numA o s s t) := rfl
    rw [e]; clear e
    have H := fun w => ending_any o s s t w h1 (Int.le_refl _) h2 h3 h4 ht ht2
    generalize ap (fstA o s s t) s s (numA o s s t) = l at H ⊢
    have HH := Lib.hid H
    clear H
    go_enter Tryd.func11, Tryd.ntmps11
    go_wp2_with (go_at_call 14; refine (HH.out _).mono ?_; rintro e w1 ⟨⟨v, rfl, hv⟩, hb⟩)
    go_ret
    exact ⟨⟨_, rfl, hv.low (by simp)⟩, ((Below.refl _ _).alloc (Nat.le_refl _) _).trans (hb.mono (by simp))⟩
  · have e : asg 2 s p o t = ap (fstA o p s t) p s (numA o p s t) := rfl
    rw [e]; clear e
    have H := fun w => ending_any o p s t w h1 h3 h4 h6 h7 ht ht2
    generalize ap (fstA o p s t) p s (numA o p s t) = l at H ⊢
    have HH := Lib.hid H
    clear H
    go_enter Tryd.func11, Tryd.ntmps11
    go_wp2_with (go_at_call 14; refine (HH.out _).mono ?_; rintro e w1 ⟨⟨v, rfl, hv⟩, hb⟩)
    go_ret
    exact ⟨⟨_, rfl, hv.low (by simp)⟩, ((Below.refl _ _).alloc (Nat.le_refl _) _).trans (hb.mono (by simp))⟩
  · go_enter Tryd.func11, Tryd.ntmps11
    go_wp2
    go_ret
    exact ⟨⟨_, rfl, ws_one (heap_new_at (by simp)) (by simp)⟩, ((Below.refl _ _).alloc (Nat.le_refl _) _).alloc (by simp) _⟩

/-- What Assign answers. -/
def AOut (B : Nat) (k s p o t : Int) (e : Ending) (w' : World) : Prop :=
  (rgtB k s p o = false ∧ e = .returned (.tuple #[.slice none 0 0, .int .i64 70])) ∨ (rgtB k s p o = true ∧ ¬ (0 ≤ t ∧ t ≤ 1048576) ∧ e = .returned (.tuple #[.slice none 0 0, .int .i64 71])) ∨
  (rgtB k s p o = true ∧ 0 ≤ t ∧ t ≤ 1048576 ∧ ∃ v, e = .returned (.tuple #[v, .int .i64 0]) ∧ WsAt w' B v (asg k s p o t))

theorem rgt_of {k s p o : Int} (h : rgtB k s p o = true) : Rgt k s p o := of_decide_eq_true h

set_option maxHeartbeats 400000 in
theorem assign_any (k s p o t : Int) (w : World) :
    Calls Tryd.prog 6 #[.agg #[.int .i64 k, .int .i64 s, .int .i64 p, .int .i64 o], .int .i64 t] w fun e w' => AOut w.heap.size k s p o t e w' ∧ Below w.heap.size w w' := by
  have HC := fun w => check_any k s p o w
  cases hr : rgtB k s p o with
  | false =>
    rw [hr] at HC
    have e : (if false = true then (0 : Int) else 70) = 70 := rfl
    rw [e] at HC; clear e
    have HR := Lib.hid hr
    clear hr
    go_enter Tryd.func6, Tryd.ntmps6
    go_wp2_with (go_at_call 4; refine (HC _).mono ?_; rintro e w1 ⟨rfl, hb⟩)
    go_ret2
    exact ⟨.inl ⟨HR.out, rfl⟩, ((Below.refl _ _).alloc (Nat.le_refl _) _).trans (hb.mono (by simp))⟩
  | true =>
    rw [hr] at HC
    have e : (if true = true then (0 : Int) else 70) = 0 := rfl
    rw [e] at HC; clear e
    have HR := Lib.hid hr
    clear hr
    by_cases ht : 0 ≤ t ∧ t ≤ 1048576
    · have H := fun w => having_any k s p o t w (rgt_of HR.out) ht.1 ht.2
      have HH := Lib.hid H
      have HT := Lib.hid ht
      clear H ht
      go_enter Tryd.func6, Tryd.ntmps6
      go_wp2_with (first
        | (go_at_call 4; refine (HC _).mono ?_; rintro e w1 ⟨rfl, hb⟩; obtain ⟨hcl, hfl⟩ := bcell hb; have hz : w.heap.size < w1.heap.size := by have := hb.size; simp at this; omega)
        | (go_at_call 10; refine (within_yes t 0 1048576 _ HT.out.1 HT.out.2).mono ?_; rintro e w2 ⟨rfl, rfl⟩)
        | (go_at_call 11; refine (HH.out _).mono ?_; rintro e w2 ⟨⟨v, rfl, hv⟩, hb2⟩))
      go_ret2
      exact ⟨.inr (.inr ⟨HR.out, HT.out.1, HT.out.2, v, rfl, hv.low (by omega)⟩), (((Below.refl _ _).alloc (Nat.le_refl _) _).trans (hb.mono (by simp))).trans (hb2.mono (by omega))⟩
    · have HT := Lib.hid ht
      clear ht
      go_enter Tryd.func6, Tryd.ntmps6
      go_wp2_with (first
        | (go_at_call 4; refine (HC _).mono ?_; rintro e w1 ⟨rfl, hb⟩; obtain ⟨hcl, hfl⟩ := bcell hb; have hz : w.heap.size < w1.heap.size := by have := hb.size; simp at this; omega)
        | (go_at_call 10; refine (within_no t 0 1048576 _ HT.out).mono ?_; rintro e w2 ⟨rfl, rfl⟩))
      go_ret2
      exact ⟨.inr (.inl ⟨HR.out, HT.out, rfl⟩), ((Below.refl _ _).alloc (Nat.le_refl _) _).trans (hb.mono (by simp))⟩

end Go.Proofs.YtpkieiahhkgjoaaDoor
