/-
Package expr: what is read at a place hangs on the bytes up to where the reading ends: numbers, strings, names.
-/
import Derived.Test.YteebihdgfkmgmaaGreatDoorSp2
namespace Go.Proofs.YteebihdgfkmgmaaGreatDoor
open Go.RowKit

/-- A place that is read as one byte further if f says so of the byte there, and f says no of nothing. -/
theorem step_lo {α : Type} {l l' : List UInt8} {m : Nat} (f : UInt8 → Bool) (g : UInt8 → α) (z : α) (h0 : f 0 = false) : Lo l l' (if f (lkB l m) then (m + 1, g (lkB l m)) else (m, z)) (if f (lkB l' m) then (m + 1, g (lkB l' m)) else (m, z)) := by
  intro hs
  cases hf : f (lkB l m) with
  | true =>
    rw [hf] at hs
    simp only [if_pos] at hs ⊢
    have : lkB l' m = lkB l m := lk_same (hs m (by show m < m + 1; omega))
    rw [this, hf]
    exact ⟨fun _ => rfl, fun _ => rfl⟩
  | false =>
    simp only [Bool.false_eq_true, if_false]
    refine ⟨fun h => ?_, fun h => ?_⟩
    · have : lkB l' m = lkB l m := lk_same h
      rw [this, hf]; rfl
    · rw [lk_none h, h0]; rfl
theorem step_in {α : Type} {l : List UInt8} {m : Nat} (f : UInt8 → Bool) (y z : α) (h0 : f 0 = false) (hm : m ≤ l.length) : In l m (if f (lkB l m) then (m + 1, y) else (m, z)) := by
  cases hf : f (lkB l m) with
  | true =>
    have : m < l.length := lkB_lt (by intro e; rw [e, h0] at hf; cases hf)
    exact ⟨Nat.le_succ m, this⟩
  | false => exact ⟨Nat.le_refl m, hm⟩

theorem skipP_in {l : List UInt8} {m : Nat} (h : m ≤ l.length) : In l m (skip l m, ()) := skip_in h
theorem skipP_lo {l l' : List UInt8} {m : Nat} (hm : m ≤ l.length) : Lo l l' (skip l m, ()) (skip l' m, ()) := skip_lo _ m (Nat.le_refl _) hm

/-- Whatever is read behind blanks. -/
theorem behind_lo {β : Type} {l l' : List UInt8} {m : Nat} {g g' : Nat → Nat × Option β} (hm : m ≤ l.length) (hm' : m ≤ l'.length)
    (hg : ∀ k, k ≤ l.length → Lo l l' (g k) (g' k)) (hi : ∀ k, k ≤ l.length → In l k (g k)) (hi' : ∀ k, k ≤ l'.length → In l' k (g' k)) : Lo l l' (g (skip l m)) (g' (skip l' m)) := by
  have h1 : Lo l l' (skip l m, some ()) (skip l' m, some ()) := fun hs => by
    have := skipP_lo (l := l) (l' := l') hm hs
    exact ⟨fun h => by have := this.1 h; simp only [Prod.mk.injEq, and_true] at this ⊢; exact this, this.2⟩
  exact Lo.bind (q := (skip l m, some ())) (q' := (skip l' m, some ())) (g := fun k _ => g k) (g' := fun k _ => g' k) h1 (skip_in hm').2 (skip_in hm).2 (fun _ _ => hg _ (skip_in hm).2) (fun k _ h => hi k h) (fun k _ h => hi' k h)
theorem behind_in {β : Type} {l : List UInt8} {m : Nat} {g : Nat → Nat × Option β} (hm : m ≤ l.length) (hi : ∀ k, k ≤ l.length → In l k (g k)) : In l m (g (skip l m)) := by
  have h1 := skip_in hm
  have h2 := hi _ h1.2
  exact ⟨Nat.le_trans h1.1 h2.1, h2.2⟩

theorem mark_at (l : List UInt8) (m : Nat) (b : UInt8) : markR l m b = (fun k => if rdB l k b then (k + 1, some ()) else (k, none)) (skip l m) := rfl
theorem rd_lo {l l' : List UInt8} {k : Nat} {b : UInt8} (h0 : b ≠ 0) : Lo l l' (if rdB l k b then (k + 1, some ()) else (k, none)) (if rdB l' k b then (k + 1, some ()) else (k, none)) :=
  step_lo (fun x => decide (x = b)) (fun _ => some ()) none (by simp; exact fun e => h0 e.symm)
theorem rd_in {l : List UInt8} {k : Nat} {b : UInt8} (h0 : b ≠ 0) (hk : k ≤ l.length) : In l k (if rdB l k b then (k + 1, some ()) else (k, none)) :=
  step_in (fun x => decide (x = b)) (some ()) none (by simp; exact fun e => h0 e.symm) hk
theorem mark_lo {l l' : List UInt8} {m : Nat} {b : UInt8} (h0 : b ≠ 0) (hm : m ≤ l.length) (hm' : m ≤ l'.length) : Lo l l' (markR l m b) (markR l' m b) := by
  rw [mark_at, mark_at]
  exact behind_lo (g := fun k => if rdB l k b then (k + 1, some ()) else (k, none)) (g' := fun k => if rdB l' k b then (k + 1, some ()) else (k, none)) hm hm' (fun _ _ => rd_lo h0) (fun _ h => rd_in h0 h) (fun _ h => rd_in h0 h)
theorem mark_in {l : List UInt8} {m : Nat} {b : UInt8} (h0 : b ≠ 0) (hm : m ≤ l.length) : In l m (markR l m b) := by
  rw [mark_at]
  exact behind_in (g := fun k => if rdB l k b then (k + 1, some ()) else (k, none)) hm fun _ h => rd_in h0 h
theorem dig_lo {l l' : List UInt8} {m : Nat} : Lo l l' (digR l m) (digR l' m) := step_lo isDig (fun b => some ((b.toNat : Int) - 48)) none (by decide)
theorem dig_in {l : List UInt8} {m : Nat} (hm : m ≤ l.length) : In l m (digR l m) := step_in isDig _ none (by decide) hm

/-- Numbers. -/
theorem nm_in {l : List UInt8} {neg : Bool} : ∀ (f m n : Nat) (b : Bool), l.length - m ≤ f → m ≤ l.length → In l m (nmF l neg (l.length - m) m n b)
  | f, m, n, b, hf, hm => by
    rw [nm_on]
    split
    · rename_i hc
      have hd : isDig (lkB l m) = true := by simp at hc; exact hc.1
      have hlt : m < l.length := lkB_lt (by intro e; rw [e] at hd; exact absurd hd (by decide))
      match f, hf with
      | 0, hf => omega
      | f + 1, hf =>
        have := nm_in (l := l) (neg := neg) f (m + 1) (10 * n + (lkB l m - 48).toNat) true (by omega) (by omega)
        exact ⟨Nat.le_trans (Nat.le_succ m) this.1, this.2⟩
    · exact ⟨Nat.le_refl _, hm⟩
theorem nm_lo {l l' : List UInt8} {neg : Bool} : ∀ (f m n : Nat) (b : Bool), l.length - m ≤ f → m ≤ l.length → Lo l l' (nmF l neg (l.length - m) m n b) (nmF l' neg (l'.length - m) m n b)
  | f, m, n, b, hf, hm => by
    intro hs
    have hon := nm_on (l := l) (neg := neg) (m := m) (n := n) (begun := b)
    have hon' := nm_on (l := l') (neg := neg) (m := m) (n := n) (begun := b)
    cases hc : (isDig (lkB l m) && !barN neg n b (lkB l m - 48).toNat) with
    | true =>
      rw [hc] at hon
      simp only [if_true] at hon
      have hd : isDig (lkB l m) = true := by simp at hc; exact hc.1
      have hlt : m < l.length := lkB_lt (by intro e; rw [e] at hd; exact absurd hd (by decide))
      match f, hf with
      | 0, hf => omega
      | f + 1, hf =>
        have hin := nm_in (l := l) (neg := neg) f (m + 1) (10 * n + (lkB l m - 48).toNat) true (by omega) (by omega)
        rw [hon] at hs ⊢
        have hb : lkB l' m = lkB l m := lk_same (hs m (by have := hin.1; omega))
        rw [hb, hc] at hon'
        simp only [if_true] at hon'
        rw [hon']
        exact nm_lo f (m + 1) _ true (by omega) (by omega) hs
    | false =>
      rw [hc] at hon
      simp only [Bool.false_eq_true, if_false] at hon
      rw [hon]
      refine ⟨fun h => ?_, fun h => ?_⟩
      · rw [lk_same h, hc] at hon'
        simp only [Bool.false_eq_true, if_false] at hon'
        exact hon'
      · rw [lk_none h, show (isDig 0 && !barN neg n b ((0 : UInt8) - 48).toNat) = false by rw [show isDig 0 = false by decide, Bool.false_and]] at hon'
        simp only [Bool.false_eq_true, if_false] at hon'
        rw [hon']

theorem nx_in {l : List UInt8} {m : Nat} (hm : m ≤ l.length) : m ≤ nx (rdB l m 45) m ∧ nx (rdB l m 45) m ≤ l.length := by
  unfold nx
  cases h : rdB l m 45 with
  | true =>
    have : m < l.length := lkB_lt (by unfold rdB at h; rw [of_decide_eq_true h]; decide)
    exact ⟨Nat.le_succ m, this⟩
  | false => exact ⟨Nat.le_refl _, hm⟩
theorem num_in {l : List UInt8} {m : Nat} (hm : m ≤ l.length) : In l m (numN l m) := by
  have h1 := nx_in hm
  have h2 := nm_in (l := l) (neg := rdB l m 45) _ (nx (rdB l m 45) m) 0 false (Nat.le_refl _) h1.2
  exact ⟨Nat.le_trans h1.1 h2.1, h2.2⟩
theorem num_lo {l l' : List UInt8} {m : Nat} (hm : m ≤ l.length) (hm' : m ≤ l'.length) : Lo l l' (numN l m) (numN l' m) := by
  intro hs
  have h1 := nx_in hm
  have h2 := nm_in (l := l) (neg := rdB l m 45) _ (nx (rdB l m 45) m) 0 false (Nat.le_refl _) h1.2
  have hp : (numN l m).1 = (numS l m).1 := rfl
  have key : lkB l' m = lkB l m → Lo l l' (numS l m) (numS l' m) := fun hb => by
    have hr : rdB l' m 45 = rdB l m 45 := by unfold rdB; rw [hb]
    unfold numS
    rw [hr]
    exact nm_lo _ _ 0 false (Nat.le_refl _) h1.2
  have fin : lkB l' m = lkB l m → (l'[(numN l m).1]? = l[(numN l m).1]? → numN l' m = numN l m) ∧ (l'[(numN l m).1]? = none → (numN l' m).1 = (numN l m).1) := fun hb => by
    have hr : rdB l' m 45 = rdB l m 45 := by unfold rdB; rw [hb]
    have := key hb hs
    refine ⟨fun h => ?_, fun h => this.2 h⟩
    unfold numN
    rw [this.1 h, hr]
  rcases Nat.lt_or_ge m (numN l m).1 with hlt | hge
  · exact fin (lk_same (hs m hlt))
  · have he : (numN l m).1 = m := by have : m ≤ (numN l m).1 := Nat.le_trans h1.1 h2.1; omega
    refine ⟨fun h => ?_, fun h => ?_⟩
    · rw [he] at h
      exact (fin (lk_same h)).1 (by rw [he]; exact h)
    · rw [he] at h ⊢
      have hl := none_le h
      have := num_in (l := l') (m := m) hm'
      have h3 := this.1
      have h4 := this.2
      omega
end Go.Proofs.YteebihdgfkmgmaaGreatDoor

namespace Go.Proofs.YteebihdgfkmgmaaGreatDoor
open Go.RowKit

theorem hex_zero : hexI 0 = none := by decide
/-- One byte further, with what f tells of the byte there. -/
def opF {α : Type} (f : UInt8 → Option α) (l : List UInt8) (m : Nat) : Nat × Option α := match f (lkB l m) with
  | some x => (m + 1, some x)
  | none => (m, none)
theorem opF_some {α : Type} {f : UInt8 → Option α} {l : List UInt8} {m : Nat} {x : α} (h : f (lkB l m) = some x) : opF f l m = (m + 1, some x) := by unfold opF; rw [h]
theorem opF_none {α : Type} {f : UInt8 → Option α} {l : List UInt8} {m : Nat} (h : f (lkB l m) = none) : opF f l m = (m, none) := by unfold opF; rw [h]
/-- One byte further where f tells something of the byte there, and f tells nothing of nothing. -/
theorem opt_lo {α : Type} {l l' : List UInt8} {m : Nat} (f : UInt8 → Option α) (h0 : f 0 = none) : Lo l l' (opF f l m) (opF f l' m) := by
  intro hs
  cases hf : f (lkB l m) with
  | some x =>
    rw [opF_some hf] at hs ⊢
    have : lkB l' m = lkB l m := lk_same (hs m (by show m < m + 1; omega))
    rw [← this] at hf
    rw [opF_some hf]
    exact ⟨fun _ => rfl, fun _ => rfl⟩
  | none =>
    rw [opF_none hf]
    refine ⟨fun h => ?_, fun h => ?_⟩
    · rw [← lk_same h] at hf
      exact opF_none hf
    · rw [opF_none (by rw [lk_none h]; exact h0)]
theorem opt_in {α : Type} {l : List UInt8} {m : Nat} (f : UInt8 → Option α) (h0 : f 0 = none) (hm : m ≤ l.length) : In l m (opF f l m) := by
  cases hf : f (lkB l m) with
  | some x =>
    have : m < l.length := lkB_lt (by intro e; rw [e, h0] at hf; cases hf)
    rw [opF_some hf]
    exact ⟨Nat.le_succ m, this⟩
  | none =>
    rw [opF_none hf]
    exact ⟨Nat.le_refl m, hm⟩
def highF (b : UInt8) : Option Nat := match hexI b with | some h => if smC h then some h else none | none => none
def lowF (h : Nat) (b : UInt8) : Option UInt8 := match hexI b with | some x => if isPl (UInt8.ofNat (16 * h + x)) then none else some (UInt8.ofNat (16 * h + x)) | none => none
theorem cod_two (l : List UInt8) (m : Nat) : codS l m = bindP (opF highF l m) fun k h => opF (lowF h) l k := by
  unfold codS
  cases h1 : hexI (lkB l m) with
  | none => rw [opF_none (by unfold highF; rw [h1])]; rfl
  | some h =>
    simp only
    cases h2 : smC h with
    | false => rw [opF_none (by unfold highF; rw [h1]; simp only [h2]; rfl)]; rfl
    | true =>
      rw [opF_some (x := h) (by unfold highF; rw [h1]; simp only [h2]; rfl)]
      simp only [if_true, bindP]
      cases h3 : hexI (lkB l (m + 1)) with
      | none => rw [opF_none (by unfold lowF; rw [h3])]
      | some x =>
        simp only
        cases h4 : isPl (UInt8.ofNat (16 * h + x)) with
        | true => rw [opF_none (by unfold lowF; rw [h3]; simp only [h4]; rfl)]; rfl
        | false => rw [opF_some (x := UInt8.ofNat (16 * h + x)) (by unfold lowF; rw [h3]; simp only [h4]; rfl)]; rfl
theorem high_zero : highF 0 = none := by decide
theorem low_zero (h : Nat) : lowF h 0 = none := by unfold lowF; rw [hex_zero]
theorem cod_in {l : List UInt8} {m : Nat} (hm : m ≤ l.length) : In l m (codS l m) := by
  rw [cod_two]
  exact In.bind (opt_in highF high_zero hm) fun k h hk => opt_in (lowF h) (low_zero h) hk
theorem cod_lo {l l' : List UInt8} {m : Nat} (hm : m ≤ l.length) (hm' : m ≤ l'.length) : Lo l l' (codS l m) (codS l' m) := by
  rw [cod_two, cod_two]
  exact Lo.bind (opt_lo highF high_zero) (opt_in highF high_zero hm').2 (opt_in highF high_zero hm).2 (fun h _ => opt_lo (lowF h) (low_zero h)) (fun k h hk => opt_in (lowF h) (low_zero h) hk) (fun k h hk => opt_in (lowF h) (low_zero h) hk)

theorem let_in {l : List UInt8} {m : Nat} (hm : m ≤ l.length) : In l m (letS l m) := by
  unfold letS
  split
  · rename_i h
    have hlt : m < l.length := lkB_lt (by rw [h]; decide)
    have := cod_in (l := l) (m := m + 1) hlt
    exact ⟨Nat.le_trans (Nat.le_succ m) this.1, this.2⟩
  · exact step_in isPl (some (lkB l m)) none (by decide) hm
theorem let_more {l : List UInt8} {m m' : Nat} {b : UInt8} (h : letS l m = (m', some b)) (_hm : m ≤ l.length) : m < m' := by
  unfold letS at h
  split at h
  · rename_i h92
    have hlt : m < l.length := lkB_lt (by rw [h92]; decide)
    have := (cod_in (l := l) (m := m + 1) hlt).1
    rw [h] at this
    omega
  · split at h
    · injection h with h1 h2; omega
    · injection h with h1 h2; cases h2
theorem let_lo {l l' : List UInt8} {m : Nat} (hm : m ≤ l.length) (hm' : m ≤ l'.length) : Lo l l' (letS l m) (letS l' m) := by
  intro hs
  have hin := let_in (l := l) hm
  have hin' := let_in (l := l') hm'
  have key : lkB l' m = lkB l m → (l'[(letS l m).1]? = l[(letS l m).1]? → letS l' m = letS l m) ∧ (l'[(letS l m).1]? = none → (letS l' m).1 = (letS l m).1) := fun hb => by
    by_cases h92 : lkB l m = 92
    · have e1 : letS l m = codS l (m + 1) := by unfold letS; rw [if_pos h92]
      have e2 : letS l' m = codS l' (m + 1) := by unfold letS; rw [hb, if_pos h92]
      have hlt : m < l.length := lkB_lt (by rw [h92]; decide)
      have hlt' : m < l'.length := lkB_lt (by rw [hb, h92]; decide)
      rw [e1, e2]
      rw [e1] at hs
      exact cod_lo hlt hlt' hs
    · have e1 : letS l m = (if isPl (lkB l m) then (m + 1, some (lkB l m)) else (m, none)) := by unfold letS; rw [if_neg h92]
      have e2 : letS l' m = (if isPl (lkB l' m) then (m + 1, some (lkB l' m)) else (m, none)) := by unfold letS; rw [if_neg (by rw [hb]; exact h92)]
      rw [e1, e2]
      rw [e1] at hs
      exact step_lo isPl (fun b => some b) none (by decide) hs
  rcases Nat.lt_or_ge m (letS l m).1 with hlt | hge
  · exact key (lk_same (hs m hlt))
  · have he : (letS l m).1 = m := by have := hin.1; omega
    refine ⟨fun h => ?_, fun h => ?_⟩
    · rw [he] at h
      exact (key (lk_same h)).1 (by rw [he]; exact h)
    · rw [he] at h ⊢
      have hl := none_le h
      have h3 := hin'.1
      have h4 := hin'.2
      omega

theorem str_at (l : List UInt8) (f : Nat) (acc : List UInt8) (m : Nat) (hf : acc.length < 256) : strF l (f + 1) acc m = (if lkB l m = 34 then (m + 1, some acc) else bindP (letS l m) fun m' b => strF l f (acc ++ [b]) m') := by
  simp only [strF, bindP, if_pos hf]
  split
  · rfl
  · cases letS l m with
    | mk m' o => cases o <;> rfl
theorem str_full (l : List UInt8) (f : Nat) (acc : List UInt8) (m : Nat) (hf : ¬ acc.length < 256) : strF l (f + 1) acc m = (if decide (lkB l m = 34) then (m + 1, some acc) else (m, none)) := by
  simp only [strF, if_neg hf, decide_eq_true_eq]
theorem str_in {l : List UInt8} : ∀ (f : Nat) (acc : List UInt8) (m : Nat), m ≤ l.length → In l m (strF l f acc m)
  | 0, acc, m, hm => ⟨Nat.le_refl m, hm⟩
  | f + 1, acc, m, hm => by
    by_cases hf : acc.length < 256
    · rw [str_at l f acc m hf]
      split
      · rename_i h
        have hlt : m < l.length := lkB_lt (by rw [h]; decide)
        exact ⟨Nat.le_succ m, hlt⟩
      · exact In.bind (let_in hm) fun k b hk => str_in f (acc ++ [b]) k hk
    · rw [str_full l f acc m hf]
      exact step_in (fun b => decide (b = 34)) (some acc) none (by decide) hm
theorem str_lo {l l' : List UInt8} : ∀ (f : Nat) (acc : List UInt8) (m : Nat), m ≤ l.length → m ≤ l'.length → Lo l l' (strF l f acc m) (strF l' f acc m)
  | 0, acc, m, hm, hm' => Lo.done fun _ => rfl
  | f + 1, acc, m, hm, hm' => by
    by_cases hf : acc.length < 256
    · intro hs
      have hin := str_in (f + 1) acc m hm
      have hin' := str_in (f + 1) acc m hm'
      have key : lkB l' m = lkB l m → (l'[(strF l (f + 1) acc m).1]? = l[(strF l (f + 1) acc m).1]? → strF l' (f + 1) acc m = strF l (f + 1) acc m) ∧ (l'[(strF l (f + 1) acc m).1]? = none → (strF l' (f + 1) acc m).1 = (strF l (f + 1) acc m).1) := fun hb => by
        have e1 := str_at l f acc m hf
        have e2 := str_at l' f acc m hf
        by_cases h34 : lkB l m = 34
        · rw [if_pos h34] at e1
          rw [hb, if_pos h34] at e2
          rw [e1, e2]
          exact ⟨fun _ => rfl, fun _ => rfl⟩
        · rw [if_neg h34] at e1
          rw [hb, if_neg h34] at e2
          rw [e1, e2]
          rw [e1] at hs
          exact Lo.bind (let_lo hm hm') (let_in hm').2 (let_in hm).2 (fun b hb => by
            have h2 : (letS l m).1 ≤ l'.length ∨ l'.length < (letS l m).1 := by omega
            intro hs2
            rcases h2 with h2 | h2
            · exact str_lo f (acc ++ [b]) (letS l m).1 (let_in hm).2 h2 hs2
            · -- l' ends ahead of the place: not so, it is the same up to there
              have hlt : (letS l m).1 - 1 < (strF l f (acc ++ [b]) (letS l m).1).1 := by
                have := (str_in (l := l) f (acc ++ [b]) (letS l m).1 (let_in hm).2).1
                omega
              have h5 := hs2 ((letS l m).1 - 1) hlt
              have h6 : l'[(letS l m).1 - 1]? = none := List.getElem?_eq_none_iff.2 (by omega)
              rw [h6] at h5
              have h7 := none_le h5.symm
              have h8 := (let_in (l := l) hm).2
              omega) (fun k b hk => str_in f (acc ++ [b]) k hk) (fun k b hk => str_in f (acc ++ [b]) k hk) hs
      rcases Nat.lt_or_ge m (strF l (f + 1) acc m).1 with hlt | hge
      · exact key (lk_same (hs m hlt))
      · have he : (strF l (f + 1) acc m).1 = m := by have := hin.1; omega
        refine ⟨fun h => ?_, fun h => ?_⟩
        · rw [he] at h
          exact (key (lk_same h)).1 (by rw [he]; exact h)
        · rw [he] at h ⊢
          have hl := none_le h
          have h3 := hin'.1
          have h4 := hin'.2
          omega
    · rw [str_full l f acc m hf, str_full l' f acc m hf]
      exact step_lo (fun b => decide (b = 34)) (fun _ => some acc) none (by decide)
end Go.Proofs.YteebihdgfkmgmaaGreatDoor

namespace Go.Proofs.YteebihdgfkmgmaaGreatDoor
open Go.RowKit

theorem Lo.far {α : Type} {l l' : List UInt8} {p p' : Nat × α} (h : l'.length < p.1) (hp : p.1 ≤ l.length) : Lo l l' p p' := fun hs => by
  have h1 := hs l'.length h
  rw [List.getElem?_eq_none_iff.2 (Nat.le_refl _)] at h1
  have := none_le h1.symm
  omega
theorem lo_any {α : Type} {l l' : List UInt8} {m : Nat} {p p' : Nat × α} (hi : In l m p) (h : m ≤ l'.length → Lo l l' p p') : Lo l l' p p' := by
  rcases Nat.lt_or_ge l'.length m with h' | h'
  · exact Lo.far (Nat.lt_of_lt_of_le h' hi.1) hi.2
  · exact h h'
theorem lo_first {α : Type} {l l' : List UInt8} {m : Nat} {p p' : Nat × α} (hi : In l m p) (hi' : In l' m p') (key : lkB l' m = lkB l m → Lo l l' p p') : Lo l l' p p' := by
  intro hs
  rcases Nat.lt_or_ge m p.1 with hlt | hge
  · exact key (lk_same (hs m hlt)) hs
  · have he : p.1 = m := by have := hi.1; omega
    refine ⟨fun h => ?_, fun h => ?_⟩
    · have h2 := h
      rw [he] at h2
      exact (key (lk_same h2) hs).1 h
    · rw [he] at h
      have hl := none_le h
      have h3 := hi'.1
      have h4 := hi'.2
      omega

/-- Where the byte is there it is done, else it goes on with g. -/
def elseP {α β γ : Type} (q : Nat × Option α) (y : γ) (g : Nat → Nat × Option γ) (_ : β) : Nat × Option γ := match q with
  | (m, some _) => (m, some y)
  | (m, none) => g m
theorem else_in {α γ : Type} {l : List UInt8} {m : Nat} {q : Nat × Option α} {y : γ} {g : Nat → Nat × Option γ} (hq : In l m q) (hg : ∀ k, k ≤ l.length → In l k (g k)) : In l m (elseP q y g ()) := by
  match q, hq with
  | (k, some x), hq => exact hq
  | (k, none), hq =>
    have := hg k hq.2
    exact ⟨Nat.le_trans hq.1 this.1, this.2⟩
theorem else_lo {α γ : Type} {l l' : List UInt8} {q q' : Nat × Option α} {y : γ} {g g' : Nat → Nat × Option γ} (hq : Lo l l' q q') (hq' : q'.1 ≤ l'.length) (hql : q.1 ≤ l.length)
    (hg : Lo l l' (g q.1) (g' q.1)) (hi : ∀ k, k ≤ l.length → In l k (g k)) (hi' : ∀ k, k ≤ l'.length → In l' k (g' k)) : Lo l l' (elseP q y g ()) (elseP q' y g' ()) := by
  intro hs
  have hle : q.1 ≤ (elseP q y g ()).1 := by
    match q, hql with
    | (k, some x), _ => exact Nat.le_refl _
    | (k, none), hql => exact (hi k hql).1
  have hq0 := hq fun j hj => hs j (Nat.lt_of_lt_of_le hj hle)
  by_cases hsame : l'[q.1]? = l[q.1]?
  · have he := hq0.1 hsame
    subst he
    match q', hg, hs with
    | (k, some x), _, _ => exact ⟨fun _ => rfl, fun _ => rfl⟩
    | (k, none), hg, hs => exact hg hs
  · have hpe : (elseP q y g ()).1 = q.1 := by
      rcases Nat.lt_or_ge q.1 (elseP q y g ()).1 with h | h
      · exact absurd (hs _ h) hsame
      · omega
    rw [hpe]
    refine ⟨fun h => absurd h hsame, fun h => ?_⟩
    have he := hq0.2 h
    have hl := none_le h
    match q', he, hq' with
    | (k, some x), he, _ => exact he
    | (k, none), he, hq' =>
      have := hi' k hq'
      have h1 := this.1
      have h2 := this.2
      have he' : k = q.1 := he
      show (g' k).1 = q.1
      omega

/-- Names. -/
def nmC (n : Nat) : Option UInt8 → Bool
  | none => false
  | some b => isLet b || (decide (0 < n) && (isDig b || decide (b = 95)))
theorem nl_step (x : List UInt8) (f n : Nat) : nlF x (f + 1) n = if nmC n x[n]? then nlF x f (n + 1) else n := by
  rw [show nlF x (f + 1) n = (if n < x.length ∧ (isLet (lkB x n) || (decide (0 < n) && (isDig (lkB x n) || decide (lkB x n = 95)))) = true then nlF x f (n + 1) else n) from rfl]
  rcases Nat.lt_or_ge n x.length with h | h
  · have hx := List.getElem?_eq_getElem h
    have hl : lkB x n = x[n] := lkB_at h
    rw [hx, hl]
    simp only [nmC, h, true_and]
    exact ite_congr rfl (fun _ => rfl) (fun _ => rfl)
  · have hx := List.getElem?_eq_none_iff.2 h
    rw [hx, if_neg (by omega)]
    rfl
theorem nl_same {x x' : List UInt8} : ∀ (f n : Nat), n ≤ x.length → (∀ j, j < nlF x f n → x'[j]? = x[j]?) → (x'[nlF x f n]? = x[nlF x f n]? ∨ x'[nlF x f n]? = none) → nlF x' f n = nlF x f n
  | 0, n, _, _, _ => rfl
  | f + 1, n, hn, hs, he => by
    rw [nl_step] at hs he ⊢
    rw [nl_step]
    cases hc : nmC n x[n]? with
    | true =>
      rw [hc] at hs he
      simp only [if_true] at hs he ⊢
      have hlt : n < x.length := by
        rcases Nat.lt_or_ge n x.length with h | h
        · exact h
        · rw [List.getElem?_eq_none_iff.2 h] at hc; cases hc
      have hge := (nlF_le x f (n + 1) (by omega)).1
      rw [hs n (by omega), hc]
      simp only [if_true]
      exact nl_same f (n + 1) (by omega) hs he
    | false =>
      rw [hc] at hs he
      simp only [Bool.false_eq_true, if_false] at hs he ⊢
      rcases he with he | he
      · rw [he, hc]; rfl
      · rw [he]; rfl
theorem spel_len (l : List UInt8) (m : Nat) : (spel l m).length = nmL (l.drop m) := by
  unfold spel
  rw [List.length_take]
  have := (nmL_le (l.drop m)).1
  omega
theorem spel_in {l : List UInt8} {m : Nat} (hm : m ≤ l.length) : m + (spel l m).length ≤ l.length := by
  rw [spel_len]
  have := (nmL_le (l.drop m)).1
  rw [List.length_drop] at this
  omega
theorem spel_same {l l' : List UInt8} {m : Nat} (hs : ∀ j, j < m + (spel l m).length → l'[j]? = l[j]?) (he : l'[m + (spel l m).length]? = l[m + (spel l m).length]? ∨ l'[m + (spel l m).length]? = none) : spel l' m = spel l m := by
  rw [spel_len] at hs he
  have hk : nmL (l'.drop m) = nmL (l.drop m) := by
    unfold nmL at hs he ⊢
    refine nl_same 16 0 (Nat.zero_le _) (fun j hj => ?_) ?_
    · rw [List.getElem?_drop, List.getElem?_drop]; exact hs _ (by omega)
    · rw [List.getElem?_drop, List.getElem?_drop]; exact he
  unfold spel
  rw [hk]
  apply List.ext_getElem?
  intro j
  rw [List.getElem?_take, List.getElem?_take]
  split
  · rw [List.getElem?_drop, List.getElem?_drop]; exact hs _ (by omega)
  · rfl
theorem name_in {l : List UInt8} {m : Nat} (hm : m ≤ l.length) : In l m (nameR l m) := ⟨Nat.le_add_right _ _, spel_in hm⟩
theorem name_lo {l l' : List UInt8} {m : Nat} : Lo l l' (nameR l m) (nameR l' m) := by
  intro hs
  refine ⟨fun h => ?_, fun h => ?_⟩
  · have := spel_same hs (.inl h)
    unfold nameR
    rw [this]
  · have := spel_same hs (.inr h)
    show m + (spel l' m).length = m + (spel l m).length
    rw [this]

/-- What is asked of layer 2's answer. -/
structure KpOk (kp : List UInt8 → Nat × Option Ty) : Prop where
  le : ∀ x k, kp x = (k, none) → k ≤ x.length
  agree : ∀ x x' k, kp x = (k, none) → (∀ j, j ≤ k → x'[j]? = x[j]?) → kp x' = (k, none)
  trunc : ∀ x k, kp x = (k, none) → (∃ i t, kp (x.take k) = (i, some t)) ∨ kp (x.take k) = (k, none)

theorem typ_in {kp : List UInt8 → Nat × Option Ty} (K : KpOk kp) {l : List UInt8} {m : Nat} (hm : m ≤ l.length) : In l m (typR kp l m) := by
  unfold typR
  cases hk : kp (l.drop m) with
  | mk k o =>
  cases o with
  | some t => exact ⟨hm, Nat.le_refl _⟩
  | none =>
    have := K.le _ _ hk
    rw [List.length_drop] at this
    exact ⟨Nat.le_add_right _ _, by show m + k ≤ l.length; omega⟩
theorem typ_lo {kp : List UInt8 → Nat × Option Ty} (K : KpOk kp) {l l' : List UInt8} {m : Nat} (hm : m ≤ l.length) : Lo l l' (typR kp l m) (typR kp l' m) := by
  intro hs
  cases hk : kp (l.drop m) with
  | mk k o =>
  cases o with
  | some t =>
    have e1 : typR kp l m = (l.length, some t) := by unfold typR; rw [hk]
    rw [e1] at hs ⊢
    have key : l'[l.length]? = none → l' = l := fun h => by
      apply List.ext_getElem?
      intro j
      rcases Nat.lt_or_ge j l.length with hj | hj
      · exact hs j hj
      · rw [List.getElem?_eq_none_iff.2 hj, List.getElem?_eq_none_iff.2 (Nat.le_trans (none_le h) hj)]
    refine ⟨fun h => ?_, fun h => ?_⟩
    · rw [key (by rw [h]; exact List.getElem?_eq_none_iff.2 (Nat.le_refl _)), e1]
    · rw [key h, e1]
  | none =>
    have hkl := K.le _ _ hk
    rw [List.length_drop] at hkl
    have e1 : typR kp l m = (m + k, (kp ((l.drop m).take k)).2) := by unfold typR; rw [hk]
    rw [e1] at hs ⊢
    have htake : (l'.drop m).take k = (l.drop m).take k := by
      apply List.ext_getElem?
      intro j
      rw [List.getElem?_take, List.getElem?_take]
      split
      · rw [List.getElem?_drop, List.getElem?_drop]; exact hs _ (by show m + j < m + k; omega)
      · rfl
    refine ⟨fun h => ?_, fun h => ?_⟩
    · have hk' := K.agree _ (l'.drop m) _ hk fun j hj => by
        rw [List.getElem?_drop, List.getElem?_drop]
        rcases Nat.lt_or_ge j k with h1 | h1
        · exact hs _ (by show m + j < m + k; omega)
        · rw [show j = k by omega]; exact h
      unfold typR
      rw [hk']
      show (m + k, (kp ((l'.drop m).take k)).2) = _
      rw [htake]
    · have hl1 := none_le h
      have hl2 : m + k ≤ l'.length := by
        rcases Nat.lt_or_ge l'.length (m + k) with h1 | h1
        · have h2 := hs l'.length h1
          rw [List.getElem?_eq_none_iff.2 (Nat.le_refl _)] at h2
          have := none_le h2.symm
          omega
        · exact h1
      have hy : l'.drop m = (l.drop m).take k := by
        rw [← htake, List.take_of_length_le]
        rw [List.length_drop]
        have hl1' : l'.length ≤ m + k := hl1
        omega
      unfold typR
      rw [hy]
      rcases K.trunc _ _ hk with ⟨i, t, ht⟩ | ht
      · rw [ht]
        show l'.length = m + k
        have hl1' : l'.length ≤ m + k := hl1
        omega
      · rw [ht]
end Go.Proofs.YteebihdgfkmgmaaGreatDoor

namespace Go.Proofs.YteebihdgfkmgmaaGreatDoor
open Go.RowKit

/-- What is read and then laid into a term. -/
theorem map_in {α β : Type} {l : List UInt8} {m : Nat} {q : Nat × Option α} (h : α → β) (hq : In l m q) : In l m (bindP q fun m' x => (m', some (h x))) := by
  match q, hq with
  | (k, none), hq => exact hq
  | (k, some x), hq => exact hq
theorem map_lo {α β : Type} {l l' : List UInt8} {q q' : Nat × Option α} (h : α → β) (hq : Lo l l' q q') : Lo l l' (bindP q fun m' x => (m', some (h x))) (bindP q' fun m' x => (m', some (h x))) := by
  intro hs
  have hp : ∀ q : Nat × Option α, (bindP q fun m' x => (m', some (h x))).1 = q.1 := fun q => by
    match q with
    | (k, none) => rfl
    | (k, some x) => rfl
  rw [hp] at hs ⊢
  rw [hp]
  have := hq hs
  exact ⟨fun e => by rw [this.1 e], this.2⟩

section
variable {kp : List UInt8 → Nat × Option Ty} (K : KpOk kp)
include K

theorem part_in {f : Nat → Nat × Option Nd} {l : List UInt8} (hf : ∀ k, k ≤ l.length → In l k (f k)) (p : UInt8) {m : Nat} (nd : Nd) (hm : m ≤ l.length) : In l m (partR kp f l p m nd) := by
  unfold partR
  split
  · exact behind_in (g := fun k => bindP (digR l k) fun m' i => (m', some (Nd.mk nd.op i nd.text nd.ty nd.kids))) hm fun k hk => map_in _ (dig_in hk)
  split
  · exact behind_in (g := fun k => bindP (typR kp l k) fun m' t => (m', some (Nd.mk nd.op nd.int nd.text t nd.kids))) hm fun k hk => map_in _ (typ_in K hk)
  split
  · exact behind_in (g := fun k => bindP (nameR l k) fun m' x => (m', some (Nd.mk nd.op nd.int nd.text nd.ty (nd.kids ++ [x])))) hm fun k hk => map_in _ (name_in hk)
  · exact behind_in (g := fun k => bindP (f k) fun m' x => (m', some (Nd.mk nd.op nd.int nd.text nd.ty (nd.kids ++ [x])))) hm fun k hk => map_in _ (hf k hk)
theorem part_lo {f f' : Nat → Nat × Option Nd} {l l' : List UInt8} (hf : ∀ k, k ≤ l.length → In l k (f k)) (hf' : ∀ k, k ≤ l'.length → In l' k (f' k)) (hff : ∀ k, k ≤ l.length → k ≤ l'.length → Lo l l' (f k) (f' k))
    (p : UInt8) {m : Nat} (nd : Nd) (hm : m ≤ l.length) (hm' : m ≤ l'.length) : Lo l l' (partR kp f l p m nd) (partR kp f' l' p m nd) := by
  unfold partR
  by_cases h1 : p = 100
  · rw [if_pos h1, if_pos h1]
    exact behind_lo (g := fun k => bindP (digR l k) fun m' i => (m', some (Nd.mk nd.op i nd.text nd.ty nd.kids))) (g' := fun k => bindP (digR l' k) fun m' i => (m', some (Nd.mk nd.op i nd.text nd.ty nd.kids))) hm hm' (fun k hk => map_lo _ dig_lo) (fun k hk => map_in _ (dig_in hk)) (fun k hk => map_in _ (dig_in hk))
  rw [if_neg h1, if_neg h1]
  by_cases h2 : p = 116
  · rw [if_pos h2, if_pos h2]
    exact behind_lo (g := fun k => bindP (typR kp l k) fun m' t => (m', some (Nd.mk nd.op nd.int nd.text t nd.kids))) (g' := fun k => bindP (typR kp l' k) fun m' t => (m', some (Nd.mk nd.op nd.int nd.text t nd.kids))) hm hm' (fun k hk => map_lo _ (typ_lo K hk)) (fun k hk => map_in _ (typ_in K hk)) (fun k hk => map_in _ (typ_in K hk))
  rw [if_neg h2, if_neg h2]
  by_cases h3 : p = 110
  · rw [if_pos h3, if_pos h3]
    exact behind_lo (g := fun k => bindP (nameR l k) fun m' x => (m', some (Nd.mk nd.op nd.int nd.text nd.ty (nd.kids ++ [x])))) (g' := fun k => bindP (nameR l' k) fun m' x => (m', some (Nd.mk nd.op nd.int nd.text nd.ty (nd.kids ++ [x])))) hm hm' (fun k hk => map_lo _ name_lo) (fun k hk => map_in _ (name_in hk)) (fun k hk => map_in _ (name_in hk))
  rw [if_neg h3, if_neg h3]
  exact behind_lo (g := fun k => bindP (f k) fun m' x => (m', some (Nd.mk nd.op nd.int nd.text nd.ty (nd.kids ++ [x])))) (g' := fun k => bindP (f' k) fun m' x => (m', some (Nd.mk nd.op nd.int nd.text nd.ty (nd.kids ++ [x])))) hm hm' (fun k hk => map_lo _ (lo_any (hf k hk) (hff k hk))) (fun k hk => map_in _ (hf k hk)) (fun k hk => map_in _ (hf' k hk))

omit K in
theorem parts_at (f : Nat → Nat × Option Nd) (l : List UInt8) (least : Nat) (p : UInt8) (ps : List UInt8) (i : Nat) (mark : UInt8) (m : Nat) (nd : Nd) :
    partsR kp f l least (p :: ps) i mark m nd = bindP (markR l m mark) fun m1 _ => bindP (partR kp f l p m1 nd) fun m2 nd' =>
      if least ≤ i + 1 then elseP (markR l m2 41) nd' (fun m3 => partsR kp f l least ps (i + 1) 44 m3 nd') () else partsR kp f l least ps (i + 1) 44 m2 nd' := by
  simp only [partsR, bindP, elseP]
  cases markR l m mark with
  | mk k o =>
  cases o with
  | none => rfl
  | some u =>
    simp only
    cases partR kp f l p k nd with
    | mk k2 o2 =>
    cases o2 with
    | none => rfl
    | some nd' =>
      simp only
      split
      · cases markR l k2 41 with
        | mk k3 o3 => cases o3 <;> rfl
      · rfl
theorem parts_in {f : Nat → Nat × Option Nd} {l : List UInt8} (hf : ∀ k, k ≤ l.length → In l k (f k)) (least : Nat) : ∀ (ps : List UInt8) (i : Nat) (mark : UInt8) (m : Nat) (nd : Nd), mark ≠ 0 → m ≤ l.length → In l m (partsR kp f l least ps i mark m nd)
  | [], i, mark, m, nd, _, hm => ⟨Nat.le_refl m, hm⟩
  | p :: ps, i, mark, m, nd, h0, hm => by
    rw [parts_at]
    refine In.bind (mark_in h0 hm) fun m1 _ h1 => In.bind (part_in K hf p nd h1) fun m2 nd' h2 => ?_
    split
    · exact else_in (mark_in (by decide) h2) fun k hk => parts_in hf least ps (i + 1) 44 k nd' (by decide) hk
    · exact parts_in hf least ps (i + 1) 44 m2 nd' (by decide) h2
theorem parts_lo {f f' : Nat → Nat × Option Nd} {l l' : List UInt8} (hf : ∀ k, k ≤ l.length → In l k (f k)) (hf' : ∀ k, k ≤ l'.length → In l' k (f' k)) (hff : ∀ k, k ≤ l.length → k ≤ l'.length → Lo l l' (f k) (f' k)) (least : Nat) :
    ∀ (ps : List UInt8) (i : Nat) (mark : UInt8) (m : Nat) (nd : Nd), mark ≠ 0 → m ≤ l.length → m ≤ l'.length → Lo l l' (partsR kp f l least ps i mark m nd) (partsR kp f' l' least ps i mark m nd)
  | [], i, mark, m, nd, _, _, _ => Lo.done fun _ => rfl
  | p :: ps, i, mark, m, nd, h0, hm, hm' => by
    rw [parts_at, parts_at]
    have rest : ∀ k nd', k ≤ l.length → Lo l l' (partsR kp f l least ps (i + 1) 44 k nd') (partsR kp f' l' least ps (i + 1) 44 k nd') := fun k nd' hk =>
      lo_any (parts_in K hf least ps (i + 1) 44 k nd' (by decide) hk) fun hk' => parts_lo hf hf' hff least ps (i + 1) 44 k nd' (by decide) hk hk'
    have tail_in : ∀ k nd', k ≤ l.length → In l k (if least ≤ i + 1 then elseP (markR l k 41) nd' (fun m3 => partsR kp f l least ps (i + 1) 44 m3 nd') () else partsR kp f l least ps (i + 1) 44 k nd') := fun k nd' hk => by
      split
      · exact else_in (mark_in (by decide) hk) fun j hj => parts_in K hf least ps (i + 1) 44 j nd' (by decide) hj
      · exact parts_in K hf least ps (i + 1) 44 k nd' (by decide) hk
    have tail_in' : ∀ k nd', k ≤ l'.length → In l' k (if least ≤ i + 1 then elseP (markR l' k 41) nd' (fun m3 => partsR kp f' l' least ps (i + 1) 44 m3 nd') () else partsR kp f' l' least ps (i + 1) 44 k nd') := fun k nd' hk => by
      split
      · exact else_in (mark_in (by decide) hk) fun j hj => parts_in K hf' least ps (i + 1) 44 j nd' (by decide) hj
      · exact parts_in K hf' least ps (i + 1) 44 k nd' (by decide) hk
    refine Lo.bind (mark_lo h0 hm hm') (mark_in h0 hm').2 (mark_in h0 hm).2 (fun _ _ => ?_) (fun k _ hk => In.bind (part_in K hf p nd hk) fun m2 nd' h2 => tail_in m2 nd' h2) (fun k _ hk => In.bind (part_in K hf' p nd hk) fun m2 nd' h2 => tail_in' m2 nd' h2)
    have hk := (mark_in (l := l) (b := mark) h0 hm).2
    generalize (markR l m mark).1 = k at hk
    refine lo_any (In.bind (part_in K hf p nd hk) fun m2 nd' h2 => tail_in m2 nd' h2) fun hk' => ?_
    refine Lo.bind (part_lo K hf hf' hff p nd hk hk') (part_in K hf' p nd hk').2 (part_in K hf p nd hk).2 (fun nd' _ => ?_) (fun j nd' hj => tail_in j nd' hj) (fun j nd' hj => tail_in' j nd' hj)
    have hj := (part_in K hf p nd hk).2
    generalize (partR kp f l p k nd).1 = j at hj
    refine lo_any (tail_in j nd' hj) fun hj' => ?_
    by_cases hl : least ≤ i + 1
    · rw [if_pos hl, if_pos hl]
      exact else_lo (mark_lo (by decide) hj hj') (mark_in (by decide) hj').2 (mark_in (by decide) hj).2 (rest _ nd' (mark_in (by decide) hj).2) (fun a ha => parts_in K hf least ps (i + 1) 44 a nd' (by decide) ha) (fun a ha => parts_in K hf' least ps (i + 1) 44 a nd' (by decide) ha)
    · rw [if_neg hl, if_neg hl]
      exact rest j nd' hj
end
end Go.Proofs.YteebihdgfkmgmaaGreatDoor

namespace Go.Proofs.YteebihdgfkmgmaaGreatDoor
open Go.RowKit

/-- A word, or a name, with what stands behind it; F: its parts. -/
def wordN (t : List UInt8) (last : Bool) (k : Nat) (F : List UInt8 → Nat → Nat × Option Nd) : Nat × Option Nd := match wdP t with
  | none => (k, some (nameN t))
  | some (p, least) => if hasB p 101 && last then (k, none) else if p = [] then (k, some (.mk t 0 [] ty0 [])) else F p least
theorem word_in {l t : List UInt8} {last : Bool} {k : Nat} {F : List UInt8 → Nat → Nat × Option Nd} (hk : k ≤ l.length) (hF : ∀ p least, In l k (F p least)) : In l k (wordN t last k F) := by
  unfold wordN
  split
  · exact ⟨Nat.le_refl _, hk⟩
  · split
    · exact ⟨Nat.le_refl _, hk⟩
    · split
      · exact ⟨Nat.le_refl _, hk⟩
      · exact hF _ _
theorem word_lo {l l' t : List UInt8} {last : Bool} {k : Nat} {F F' : List UInt8 → Nat → Nat × Option Nd} (hF : ∀ p least, Lo l l' (F p least) (F' p least)) : Lo l l' (wordN t last k F) (wordN t last k F') := by
  unfold wordN
  cases wdP t with
  | none => exact Lo.done fun _ => rfl
  | some x =>
    obtain ⟨p, least⟩ := x
    simp only
    split
    · exact Lo.done fun _ => rfl
    · split
      · exact Lo.done fun _ => rfl
      · exact hF p least

theorem strS_in {l : List UInt8} {m : Nat} (hm : m < l.length) : In l m (strN l m) := by
  unfold strN
  have h1 : In l (m + 1) (strS l m) := str_in 257 [] (m + 1) hm
  exact map_in (fun t => Nd.mk textW 0 t ty0 []) ⟨Nat.le_trans (Nat.le_succ m) h1.1, h1.2⟩
theorem strS_lo {l l' : List UInt8} {m : Nat} (hm : m < l.length) (hm' : m < l'.length) : Lo l l' (strN l m) (strN l' m) := by
  unfold strN
  exact map_lo (fun t => Nd.mk textW 0 t ty0 []) (str_lo 257 [] (m + 1) hm hm')

section
variable {kp : List UInt8 → Nat × Option Ty}

theorem expr_at (l : List UInt8) (r m : Nat) : exprR kp l (r + 1) m = (if decide (lkB l m = 45) || isDig (lkB l m) then numN l m else if lkB l m = 34 then strN l m else if isLet (lkB l m) then
    wordN (spel l m) (decide (r = 0)) (m + (spel l m).length) (fun p least => partsR kp (exprR kp l r) l least p 0 40 (m + (spel l m).length) (.mk (spel l m) 0 [] ty0 [])) else (m, none)) := by
  rw [exprR]
  split
  · rfl
  split
  · rfl
  split
  · unfold wordN
    cases wdP (spel l m) with
    | none => rfl
    | some x => obtain ⟨p, least⟩ := x; rfl
  · rfl

variable (K : KpOk kp)
include K
theorem expr_in {l : List UInt8} : ∀ (r m : Nat), m ≤ l.length → In l m (exprR kp l r m)
  | 0, m, hm => ⟨Nat.le_refl m, hm⟩
  | r + 1, m, hm => by
    rw [expr_at]
    split
    · exact num_in hm
    split
    · rename_i h; exact strS_in (lkB_lt (by rw [h]; decide))
    split
    · have hk := spel_in hm
      have := word_in (l := l) (t := spel l m) (last := decide (r = 0)) (F := fun p least => partsR kp (exprR kp l r) l least p 0 40 (m + (spel l m).length) (.mk (spel l m) 0 [] ty0 [])) hk (fun p least => parts_in K (fun k hk => expr_in r k hk) least p 0 40 _ _ (by decide) hk)
      exact ⟨Nat.le_trans (Nat.le_add_right _ _) this.1, this.2⟩
    · exact ⟨Nat.le_refl m, hm⟩
theorem expr_lo {l l' : List UInt8} : ∀ (r m : Nat), m ≤ l.length → m ≤ l'.length → Lo l l' (exprR kp l r m) (exprR kp l' r m)
  | 0, m, _, _ => Lo.done fun _ => rfl
  | r + 1, m, hm, hm' => by
    refine lo_first (expr_in K (r + 1) m hm) (expr_in K (r + 1) m hm') fun hb => ?_
    rw [expr_at, expr_at, hb]
    by_cases h1 : (decide (lkB l m = 45) || isDig (lkB l m)) = true
    · rw [if_pos h1, if_pos h1]; exact num_lo hm hm'
    rw [if_neg h1, if_neg h1]
    by_cases h2 : lkB l m = 34
    · rw [if_pos h2, if_pos h2]
      exact strS_lo (lkB_lt (by rw [h2]; decide)) (lkB_lt (by rw [hb, h2]; decide))
    rw [if_neg h2, if_neg h2]
    by_cases h3 : isLet (lkB l m) = true
    · rw [if_pos h3, if_pos h3]
      intro hs
      have hk := spel_in hm
      have pin : ∀ p least, In l (m + (spel l m).length) (partsR kp (exprR kp l r) l least p 0 40 (m + (spel l m).length) (.mk (spel l m) 0 [] ty0 [])) := fun p least => parts_in K (fun k hk => expr_in K r k hk) least p 0 40 _ _ (by decide) hk
      have hge := (word_in (l := l) (t := spel l m) (last := decide (r = 0)) hk pin).1
      have key : spel l' m = spel l m → Lo l l' (wordN (spel l m) (decide (r = 0)) (m + (spel l m).length) (fun p least => partsR kp (exprR kp l r) l least p 0 40 (m + (spel l m).length) (.mk (spel l m) 0 [] ty0 []))) (wordN (spel l' m) (decide (r = 0)) (m + (spel l' m).length) (fun p least => partsR kp (exprR kp l' r) l' least p 0 40 (m + (spel l' m).length) (.mk (spel l' m) 0 [] ty0 []))) := fun he => by
        rw [he]
        exact word_lo fun p least => lo_any (pin p least) fun hk' => parts_lo K (fun k hk => expr_in K r k hk) (fun k hk => expr_in K r k hk) (fun k hk hk' => expr_lo r k hk hk') least p 0 40 _ _ (by decide) hk hk'
      have hs' : ∀ j, j < m + (spel l m).length → l'[j]? = l[j]? := fun j hj => hs j (Nat.lt_of_lt_of_le hj hge)
      rcases Nat.lt_or_ge (m + (spel l m).length) (wordN (spel l m) (decide (r = 0)) (m + (spel l m).length) (fun p least => partsR kp (exprR kp l r) l least p 0 40 (m + (spel l m).length) (.mk (spel l m) 0 [] ty0 []))).1 with hlt | hle
      · exact key (spel_same hs' (.inl (hs _ hlt))) hs
      · have he : (wordN (spel l m) (decide (r = 0)) (m + (spel l m).length) (fun p least => partsR kp (exprR kp l r) l least p 0 40 (m + (spel l m).length) (.mk (spel l m) 0 [] ty0 []))).1 = m + (spel l m).length := Nat.le_antisymm hle hge
        refine ⟨fun h => ?_, fun h => ?_⟩
        · have h4 := h
          rw [he] at h4
          exact (key (spel_same hs' (.inl h4)) hs).1 h
        · have h4 := h
          rw [he] at h4
          exact (key (spel_same hs' (.inr h4)) hs).2 h
    · rw [if_neg h3, if_neg h3]
      exact Lo.done fun _ => rfl

/-- Whether a text ends there. -/
def endP (l : List UInt8) (n : Nd) (k : Nat) : Nat × Option Nd := if k < l.length then (k, none) else (k, some n)
omit K in
theorem end_in {l : List UInt8} {n : Nd} {k : Nat} (hk : k ≤ l.length) : In l k (endP l n k) := by
  unfold endP
  split <;> exact ⟨Nat.le_refl k, hk⟩
omit K in
theorem end_lo {l l' : List UInt8} {n : Nd} {k : Nat} : Lo l l' (endP l n k) (endP l' n k) := by
  intro hs
  have h1 : ∀ x : List UInt8, (endP x n k).1 = k := fun x => by unfold endP; split <;> rfl
  rw [h1] at hs ⊢
  rw [h1]
  refine ⟨fun h => ?_, fun _ => rfl⟩
  unfold endP
  rcases Nat.lt_or_ge k l.length with h2 | h2
  · have h3 : k < l'.length := by
      rcases Nat.lt_or_ge k l'.length with h3 | h3
      · exact h3
      · rw [List.getElem?_eq_none_iff.2 h3] at h
        have := none_le h.symm
        omega
    rw [if_pos h2, if_pos h3]
  · have h3 : l'.length ≤ k := by
      rw [List.getElem?_eq_none_iff.2 h2] at h
      exact none_le h
    rw [if_neg (by omega), if_neg (by omega)]
theorem parse_in (l : List UInt8) : In l 0 (parseR kp l) := by
  have h0 := skip_in (l := l) (m := 0) (Nat.zero_le _)
  have h1 := expr_in K 24 (skip l 0) h0.2
  have h2 : In l 0 (exprR kp l 24 (skip l 0)) := ⟨Nat.zero_le _, h1.2⟩
  exact In.bind (g := fun m n => endP l n (skip l m)) h2 fun m n hm => behind_in (g := fun k => endP l n k) hm fun k hk => end_in hk
theorem parse_lo (l l' : List UInt8) : Lo l l' (parseR kp l) (parseR kp l') := by
  have e : ∀ x : List UInt8, parseR kp x = bindP (exprR kp x 24 (skip x 0)) fun m n => endP x n (skip x m) := fun _ => rfl
  rw [e, e]
  have hin : ∀ x : List UInt8, In x 0 (exprR kp x 24 (skip x 0)) := fun x => by
    have h0 := skip_in (l := x) (m := 0) (Nat.zero_le _)
    exact ⟨Nat.zero_le _, (expr_in K 24 (skip x 0) h0.2).2⟩
  refine Lo.bind (behind_lo (g := fun k => exprR kp l 24 k) (g' := fun k => exprR kp l' 24 k) (Nat.zero_le _) (Nat.zero_le _) (fun k hk => lo_any (expr_in K 24 k hk) fun hk' => expr_lo K 24 k hk hk') (fun k hk => expr_in K 24 k hk) (fun k hk => expr_in K 24 k hk)) (hin l').2 (hin l).2 (fun n _ => ?_)
    (fun m n hm => behind_in (g := fun k => endP l n k) hm fun k hk => end_in hk) (fun m n hm => behind_in (g := fun k => endP l' n k) hm fun k hk => end_in hk)
  have hk := (hin l).2
  generalize (exprR kp l 24 (skip l 0)).1 = k at hk
  refine lo_any (behind_in (g := fun k => endP l n k) hk fun k hk => end_in hk) fun hk' => ?_
  exact behind_lo (g := fun k => endP l n k) (g' := fun k => endP l' n k) hk hk' (fun _ _ => end_lo) (fun k hk => end_in hk) (fun k hk => end_in hk)

/-- What stands ahead of a fault goes on to some right text, or has its fault where it ends; with the byte at it nothing goes on. -/
theorem parse_prefix {l : List UInt8} {m : Nat} (h : parseR kp l = (m, none)) : m ≤ l.length ∧ (parseR kp (l.take m)).1 = m ∧ ∀ more, m < l.length → parseR kp (l.take (m + 1) ++ more) = (m, none) := by
  have hin := parse_in K l
  rw [h] at hin
  have hm : m ≤ l.length := hin.2
  refine ⟨hm, ?_, fun more hlt => ?_⟩
  · have := parse_lo K l (l.take m)
    rw [h] at this
    exact (this fun j hj => by rw [List.getElem?_take, if_pos hj]).2 (List.getElem?_eq_none_iff.2 (by rw [List.length_take]; exact Nat.min_le_left _ _))
  · have := parse_lo K l (l.take (m + 1) ++ more)
    rw [h] at this
    have hj : ∀ j, j ≤ m → (l.take (m + 1) ++ more)[j]? = l[j]? := fun j hj => by
      rw [List.getElem?_append_left (by rw [List.length_take]; omega), List.getElem?_take, if_pos (by omega)]
    exact (this fun j h => hj j (Nat.le_of_lt h)).1 (hj m (Nat.le_refl _))
omit K in
theorem parse_end {l : List UInt8} {m : Nat} {n : Nd} (h : parseR kp l = (m, some n)) : l.length ≤ m := by
  have e : parseR kp l = bindP (exprR kp l 24 (skip l 0)) fun m n => endP l n (skip l m) := rfl
  rw [e] at h
  cases hq : exprR kp l 24 (skip l 0) with
  | mk k o =>
  rw [hq] at h
  cases o with
  | none => cases h
  | some x =>
    have h' : endP l x (skip l k) = (m, some n) := h
    unfold endP at h'
    split at h'
    · cases h'
    · injection h' with h1 h2; omega
end
end Go.Proofs.YteebihdgfkmgmaaGreatDoor
