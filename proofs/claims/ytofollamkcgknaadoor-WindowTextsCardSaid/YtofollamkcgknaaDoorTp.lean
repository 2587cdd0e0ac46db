/-
Plain facts on numerals and on the texts of windows.
-/
import Derived.Test.YtofollamkcgknaaDoorTt
set_option linter.unusedVariables false
namespace Go.Proofs.YtofollamkcgknaaDoor
open Go.RowKit

theorem dec_len (u : Nat) : 1 ≤ (Lib.decDigits u).length := by rw [Lib.decDigits_length]; exact Lib.nDigits_pos u

theorem dg_val (u j : Nat) : ((Lib.dg u j).toNat : Int) = 48 + ((u / 10 ^ j % 10 : Nat) : Int) := by
  unfold Lib.dg
  have : u / 10 ^ j % 10 < 10 := Nat.mod_lt _ (by decide)
  rw [UInt8.toNat_ofNat']
  omega

theorem dec_get (u j : Nat) (h : j < (Lib.decDigits u).length) : (((Lib.decDigits u)[j]).toNat : Int) = 48 + ((u / 10 ^ ((Lib.decDigits u).length - 1 - j) % 10 : Nat) : Int) := by
  have e := Lib.decDigits_eq u
  have hl := Lib.decDigits_length u
  have h2 : (Lib.decDigits u)[j]? = some (Lib.dg u (Lib.nDigits u - 1 - j)) := by
    rw [e, List.getElem?_map, List.getElem?_range (by omega)]; rfl
  rw [List.getElem?_eq_getElem h] at h2
  injection h2 with h2
  rw [h2, dg_val, hl]

theorem dec_byte (u : Nat) : ∀ c ∈ Lib.decDigits u, 48 ≤ c.toNat ∧ c.toNat ≤ 57 := by
  intro c hc
  obtain ⟨j, hj, rfl⟩ := List.getElem_of_mem hc
  have := dec_get u j hj
  have h2 : u / 10 ^ ((Lib.decDigits u).length - 1 - j) % 10 < 10 := Nat.mod_lt _ (by decide)
  omega

theorem nd_ge (u : Nat) : 1 < Lib.nDigits u → 10 ^ (Lib.nDigits u - 1) ≤ u := by
  induction u using Nat.strongRecOn with
  | _ u ih =>
    intro h
    by_cases hu : u < 10
    · rw [Lib.nDigits_small hu] at h; omega
    · rw [Lib.nDigits_big hu] at h ⊢
      by_cases h1 : 1 < Lib.nDigits (u / 10)
      · have := ih (u / 10) (by omega) h1
        rw [show Lib.nDigits (u / 10) + 1 - 1 = (Lib.nDigits (u / 10) - 1) + 1 by omega, Nat.pow_succ]
        omega
      · rw [show Lib.nDigits (u / 10) + 1 - 1 = 1 by omega]; omega

/-- The first digit of several is no nought. -/
theorem dec_first (u : Nat) (h : 1 < (Lib.decDigits u).length) : ((Lib.decDigits u)[0]'(by omega)).toNat ≠ 48 := by
  have h0 := dec_get u 0 (by omega)
  have hl := Lib.decDigits_length u
  have hlt := Lib.lt_pow_nDigits u
  have hge := nd_ge u (by omega)
  obtain ⟨x, hx⟩ : ∃ x, x = ((Lib.decDigits u)[0]'(by omega)).toNat := ⟨_, rfl⟩
  rw [← hx] at h0 ⊢
  rw [hl, Nat.sub_zero] at h0
  have h3 : 1 ≤ u / 10 ^ (Lib.nDigits u - 1) := (Nat.one_le_div_iff (Nat.pow_pos (by decide))).2 hge
  have h4 : u / 10 ^ (Lib.nDigits u - 1) < 10 := by
    rw [Nat.div_lt_iff_lt_mul (Nat.pow_pos (by decide)), ← Nat.pow_succ', show Nat.succ (Lib.nDigits u - 1) = Lib.nDigits u by have := Lib.nDigits_pos u; omega]
    exact hlt
  omega

theorem dec_end (u : Nat) : u / 10 ^ (Lib.decDigits u).length = 0 := by
  rw [Lib.decDigits_length]
  exact Nat.div_eq_of_lt (Lib.lt_pow_nDigits u)

/-- The number that digits say. -/
def valD (l : List UInt8) : Nat := l.foldl (fun a c => a * 10 + (c.toNat - 48)) 0

theorem valD_dec (u : Nat) : valD (Lib.decDigits u) = u := by
  induction u using Nat.strongRecOn with
  | _ u ih =>
    by_cases h : u < 10
    · rw [Lib.decDigits, dif_pos h]
      simp only [valD, List.foldl_cons, List.foldl_nil]
      rw [UInt8.toNat_ofNat']; omega
    · rw [Lib.decDigits, dif_neg h]
      have := ih (u / 10) (by omega)
      unfold valD at this ⊢
      rw [List.foldl_append, this]
      simp only [List.foldl_cons, List.foldl_nil]
      rw [UInt8.toNat_ofNat']; omega

theorem dec_inj {u v : Nat} (h : Lib.decDigits u = Lib.decDigits v) : u = v := by rw [← valD_dec u, h, valD_dec]

theorem itoa_form (n : Int) : (n < 0 ∧ Lib.itoa n = 45 :: Lib.decDigits n.natAbs) ∨ (0 ≤ n ∧ Lib.itoa n = Lib.decDigits n.toNat) := by
  unfold Lib.itoa
  split
  · exact .inl ⟨by assumption, rfl⟩
  · exact .inr ⟨by omega, rfl⟩

theorem dec_head (u : Nat) : ∃ c r, Lib.decDigits u = c :: r ∧ 48 ≤ c.toNat := by
  cases h : Lib.decDigits u with
  | nil => have := dec_len u; rw [h] at this; simp at this
  | cons c r => exact ⟨c, r, rfl, (dec_byte u c (by rw [h]; simp)).1⟩

theorem itoa_inj {a b : Int} (h : Lib.itoa a = Lib.itoa b) : a = b := by
  rcases itoa_form a with ⟨h1, e1⟩ | ⟨h1, e1⟩ <;> rcases itoa_form b with ⟨h2, e2⟩ | ⟨h2, e2⟩
  · rw [e1, e2] at h; injection h with _ h; have := dec_inj h; omega
  · rw [e1, e2] at h; obtain ⟨c, r, e, hc⟩ := dec_head b.toNat; rw [e] at h; injection h with h _; rw [← h] at hc; simp at hc
  · rw [e1, e2] at h; obtain ⟨c, r, e, hc⟩ := dec_head a.toNat; rw [e] at h; injection h with h _; rw [h] at hc; simp at hc
  · rw [e1, e2] at h; have := dec_inj h; omega

theorem itoa_no (n : Int) : ∀ c ∈ Lib.itoa n, c ≠ 46 := by
  intro c hc e
  subst e
  rcases itoa_form n with ⟨_, e1⟩ | ⟨_, e1⟩ <;> rw [e1] at hc
  · rcases List.mem_cons.1 hc with h | h
    · simp at h
    · have := (dec_byte _ _ h).1; simp at this
  · have := (dec_byte _ _ hc).1; simp at this

theorem split_at {l1 l2 r1 r2 : List UInt8} {d : UInt8} (h1 : ∀ c ∈ l1, c ≠ d) (h2 : ∀ c ∈ l2, c ≠ d) (h : l1 ++ d :: r1 = l2 ++ d :: r2) : l1 = l2 ∧ r1 = r2 := by
  induction l1 generalizing l2 with
  | nil =>
    cases l2 with
    | nil => simp at h; exact ⟨rfl, h⟩
    | cons c r => simp at h; exact absurd h.1.symm (h2 c (by simp))
  | cons a l ih =>
    cases l2 with
    | nil => simp at h; exact absurd h.1 (h1 a (by simp))
    | cons c r =>
      simp at h
      obtain ⟨e1, e2⟩ := ih (fun c hc => h1 c (by simp [hc])) (fun c hc => h2 c (by simp [hc])) h.2
      exact ⟨by rw [h.1, e1], e2⟩

theorem txt_inj {a b c d : Int} (h : txt a b = txt c d) : a = c ∧ b = d := by
  unfold txt at h
  simp only [List.append_assoc, List.cons_append, List.nil_append] at h
  obtain ⟨h1, h2⟩ := split_at (itoa_no a) (itoa_no c) h
  injection h2 with _ h2
  exact ⟨itoa_inj h1, itoa_inj h2⟩

end Go.Proofs.YtofollamkcgknaaDoor
