/-
Depths and texts of a type that is made of others.
-/
import Derived.Test.YtdoadedglpjldaaDoorMk
namespace Go.Proofs.YtdoadedglpjldaaDoor
open Go.RowKit

theorem measureL_congr (f g : Ty → Option Nat) : ∀ (l : List Ty) (m d : Nat), (∀ a ∈ l, ∀ q, f a = some q → q ≤ d → g a = some q) → measureL f l m = some d → measureL g l m = some d ∧ m ≤ d
  | [], m, d, _, h => by simp only [measureL, Option.some.injEq] at h ⊢; omega
  | a :: l, m, d, hc, h => by
    unfold measureL at h ⊢
    cases hfa : f a with
    | none => simp [hfa] at h
    | some e =>
      simp only [hfa] at h
      obtain ⟨h1, h2⟩ := measureL_congr f g l (max m e) d (fun b hb => hc b (List.mem_cons_of_mem _ hb)) h
      rw [hc a (List.mem_cons_self ..) e hfa (by omega)]
      exact ⟨h1, by omega⟩

theorem measure_up : ∀ (r : Nat) (t : Ty) (q : Nat), measureT r t = some q → measureT (r + 1) t = some q
  | 0, t, q, h => by simp [measureT] at h
  | r + 1, t, q, h => by
    unfold measureT at h ⊢
    cases hw : wordK t.kind with
    | none => simp [hw] at h
    | some x =>
      simp only [hw] at h ⊢
      split at h
      · rename_i hx
        obtain ⟨m, hm, rfl⟩ := Option.map_eq_some_iff.1 h
        rw [if_pos hx, (measureL_congr _ (measureT (r + 1)) _ 0 m (fun a _ q hq _ => measure_up r a q hq) hm).1]
        rfl
      · simp at h

theorem measure_down : ∀ (r : Nat) (t : Ty) (q : Nat), measureT (r + 1) t = some q → q ≤ r → measureT r t = some q
  | 0, t, q, h, hq => by
    unfold measureT at h
    cases hw : wordK t.kind with
    | none => simp [hw] at h
    | some x =>
      simp only [hw] at h
      split at h
      · obtain ⟨m, hm, rfl⟩ := Option.map_eq_some_iff.1 h
        omega
      · simp at h
  | r + 1, t, q, h, hq => by
    unfold measureT at h ⊢
    cases hw : wordK t.kind with
    | none => simp [hw] at h
    | some x =>
      simp only [hw] at h ⊢
      split at h
      · rename_i hx
        obtain ⟨m, hm, rfl⟩ := Option.map_eq_some_iff.1 h
        rw [if_pos hx, (measureL_congr _ (measureT r) _ 0 m (fun a _ q hq2 hqm => measure_down r a q hq2 (by omega)) hm).1]
        rfl
      · simp at h

theorem measureL_snoc (f : Ty → Option Nat) : ∀ (l : List Ty) (a : Ty) (m d q : Nat), measureL f l m = some d → f a = some q → measureL f (l ++ [a]) m = some (max d q)
  | [], a, m, d, q, h, hq => by
    simp only [measureL, Option.some.injEq] at h
    subst h
    simp only [List.nil_append, measureL, hq]
  | b :: l, a, m, d, q, h, hq => by
    unfold measureL at h
    simp only [List.cons_append]
    unfold measureL
    cases hfb : f b with
    | none => simp [hfb] at h
    | some e =>
      simp only [hfb] at h ⊢
      exact measureL_snoc f l a _ d q h hq

theorem mk_bad {k : Int} {l : List Ty} {a : Ty} (ha : a ∈ l) (h : measureT 6 a = none) : measureT 6 (.mk k l) = none := by
  cases hm : measureT 6 (.mk k l) with
  | none => rfl
  | some q =>
    obtain ⟨_, _, _, _, hall⟩ := measure_right hm
    obtain ⟨q', hq⟩ := hall a ha
    rw [measure_up 5 a q' hq] at h
    simp at h

theorem mk_good {k : Int} {l : List Ty} {deep : Nat} (hd : measureL (measureT 6) l 0 = some deep) {x : Wd} (hx : wordK k = some x) (hl : (l.length : Int) = x.args) (h6 : deep + 1 ≤ 6) : measureT 6 (.mk k l) = some (deep + 1) ∧ measureL (measureT 5) l 0 = some deep := by
  have h5 := (measureL_congr _ (measureT 5) l 0 deep (fun a _ q hq hqd => measure_down 5 a q hq (by omega)) hd).1
  refine ⟨?_, h5⟩
  have hk1 : (Ty.mk k l).kind = k := rfl
  have hk2 : (Ty.mk k l).args = l := rfl
  unfold measureT
  rw [hk1, hk2, hx]
  simp only
  rw [if_pos hl, h5]
  rfl

theorem mk_no {k : Int} {l : List Ty} {deep : Nat} (hd : measureL (measureT 6) l 0 = some deep) (h : wordK k = none ∨ (∃ x, wordK k = some x ∧ (l.length : Int) ≠ x.args) ∨ 6 < deep + 1) : measureT 6 (.mk k l) = none := by
  cases hm : measureT 6 (.mk k l) with
  | none => rfl
  | some q =>
    obtain ⟨x, hx, hxa, hxw, hall⟩ := measure_right hm
    have hx' : wordK k = some x := hx
    rcases h with h | ⟨y, hy, hne⟩ | h
    · rw [h] at hx'; simp at hx'
    · rw [hx'] at hy
      injection hy with hy
      subst hy
      exact absurd hxa hne
    · have hk1 : (Ty.mk k l).kind = k := rfl
      have hk2 : (Ty.mk k l).args = l := rfl
      obtain ⟨m, hm5⟩ := measureL_some (measureT 5) l 0 hall
      have := (measureL_congr _ (measureT 6) l 0 m (fun a _ q hq _ => measure_up 5 a q hq) hm5).1
      rw [hd] at this
      injection this with this
      have := measureL_le (measureT 5) 5 (measureT_le 5) l 0 m (by omega) hm5
      omega

theorem textL_congr (f g : Ty → List UInt8) : ∀ (l : List Ty) (i : Nat), (∀ a ∈ l, f a = g a) → textL f l i = textL g l i
  | [], _, _ => rfl
  | a :: l, i, h => by
    simp only [textL]
    rw [h a (List.mem_cons_self ..), textL_congr f g l (i + 1) (fun b hb => h b (List.mem_cons_of_mem _ hb))]
theorem text_up : ∀ (r : Nat) (t : Ty) (q : Nat), measureT r t = some q → textT (r + 1) t = textT r t
  | 0, t, q, h => by simp [measureT] at h
  | r + 1, t, q, h => by
    obtain ⟨_, _, _, _, hall⟩ := measure_right h
    have e : textL (textT (r + 1)) t.args 0 = textL (textT r) t.args 0 := textL_congr _ _ _ 0 fun a ha => by
      obtain ⟨q', hq⟩ := hall a ha
      exact text_up r a q' hq
    show ((wordK t.kind).getD zeroWd).name.data.toList ++ textL (textT (r + 1)) t.args 0 ++ (if 0 < t.args.length then [41] else []) = ((wordK t.kind).getD zeroWd).name.data.toList ++ textL (textT r) t.args 0 ++ (if 0 < t.args.length then [41] else [])
    rw [e]
end Go.Proofs.YtdoadedglpjldaaDoor
