/-
Plain mathematics of windowings: which are right, and the windows of a time, as a progression.
-/
namespace Go.Proofs.YtpkieiahhkgjoaaDoor

abbrev Wn := Int × Int

/-- Is it a right windowing? -/
def Rgt (k s p o : Int) : Prop :=
  (k = 0 ∧ s = 0 ∧ p = 0 ∧ o = 0) ∨
  (k = 1 ∧ 1 ≤ s ∧ s ≤ 1048576 ∧ p = 0 ∧ 0 ≤ o ∧ o < s) ∨
  (k = 2 ∧ 1 ≤ p ∧ p ≤ 1048576 ∧ p ≤ s ∧ s ≤ 1048576 ∧ s ≤ 16 * p ∧ 0 ≤ o ∧ o < p) ∨
  (k = 3 ∧ 1 ≤ s ∧ s ≤ 1048576 ∧ p = 0 ∧ o = 0)

instance (k s p o : Int) : Decidable (Rgt k s p o) := by unfold Rgt; infer_instance

def rgtB (k s p o : Int) : Bool := decide (Rgt k s p o)

/-- n windows from a on, d apart, s long. -/
def ap (a d s : Int) (n : Nat) : List Wn := (List.range n).map fun (j : Nat) => (a + d * (j : Int), a + d * (j : Int) + s)

theorem ap_length (a d s : Int) (n : Nat) : (ap a d s n).length = n := by simp [ap]

theorem ap_succ (a d s : Int) (n : Nat) : ap a d s (n + 1) = ap a d s n ++ [(a + d * (n : Int), a + d * (n : Int) + s)] := by
  simp [ap, List.range_succ]

theorem ap_get (a d s : Int) (n j : Nat) (h : j < n) : (ap a d s n)[j]? = some (a + d * (j : Int), a + d * (j : Int) + s) := by
  simp [ap, h]

theorem ap_reverse (a d s : Int) (n : Nat) : (ap (a + d * ((n : Int) - 1)) (-d) s n).reverse = ap a d s n := by
  apply List.ext_getElem?
  intro i
  by_cases h : i < n
  · rw [List.getElem?_reverse (by rw [ap_length]; exact h), ap_length, ap_get _ _ _ _ _ (by omega), ap_get _ _ _ _ _ h]
    have e : ((n - 1 - i : Nat) : Int) = (n : Int) - 1 - i := by omega
    rw [e]
    have : a + d * ((n : Int) - 1) + -d * ((n : Int) - 1 - i) = a + d * (i : Int) := by grind
    rw [this]
  · rw [List.getElem?_eq_none (by simp [ap_length]; omega), List.getElem?_eq_none (by simp [ap_length]; omega)]

/-- The first begin behind t - s of those that are d apart, from o. -/
def fstA (o d s t : Int) : Int := t - s + 1 + (o - (t - s + 1)) % d
def numA (o d s t : Int) : Nat := ((t - fstA o d s t) / d).toNat + 1

theorem fstA_in (o d s t : Int) (hd : 1 ≤ d) : t - s < fstA o d s t ∧ fstA o d s t ≤ t - s + d := by
  unfold fstA
  have h1 := Int.emod_nonneg (o - (t - s + 1)) (show d ≠ 0 by omega)
  have h2 := Int.emod_lt_of_pos (o - (t - s + 1)) (show 0 < d by omega)
  omega

/-- What is said of the last one: it begins at t or ahead of it, the one behind it doesn't. -/
theorem lastA (o d s t : Int) (hd : 1 ≤ d) (hs : d ≤ s) : fstA o d s t + d * ((numA o d s t : Int) - 1) ≤ t ∧ t < fstA o d s t + d * (numA o d s t : Int) := by
  have h := fstA_in o d s t hd
  have hq : 0 ≤ (t - fstA o d s t) / d := Int.ediv_nonneg (by omega) (by omega)
  have e : (numA o d s t : Int) = (t - fstA o d s t) / d + 1 := by unfold numA; omega
  have hm := Int.mul_ediv_add_emod (t - fstA o d s t) d
  have h1 := Int.emod_nonneg (t - fstA o d s t) (show d ≠ 0 by omega)
  have h2 := Int.emod_lt_of_pos (t - fstA o d s t) (show 0 < d by omega)
  rw [e]
  constructor
  · rw [show (t - fstA o d s t) / d + 1 - 1 = (t - fstA o d s t) / d by omega]; omega
  · rw [Int.mul_add, Int.mul_one]; omega

theorem fstA_mod (o d s t : Int) : (fstA o d s t - o) % d = 0 := by
  unfold fstA
  have hm := Int.mul_ediv_add_emod (o - (t - s + 1)) d
  have : t - s + 1 + (o - (t - s + 1)) % d - o = d * (-((o - (t - s + 1)) / d)) := by rw [Int.mul_neg]; omega
  rw [this]; exact Int.mul_emod_right _ _

/-- The last begin is the time less what is past of the period. -/
theorem last_eq (o d s t : Int) (hd : 1 ≤ d) (hs : d ≤ s) : fstA o d s t + d * ((numA o d s t : Int) - 1) = t - (t - o) % d := by
  obtain ⟨h1, h2⟩ := lastA o d s t hd hs
  have hm := fstA_mod o d s t
  obtain ⟨q, hq⟩ := Int.dvd_of_emod_eq_zero hm
  have e : d * (numA o d s t : Int) = d * ((numA o d s t : Int) - 1) + d := by grind
  have k : (t - o) % d = t - (fstA o d s t + d * ((numA o d s t : Int) - 1)) := by
    have : t - o = (t - (fstA o d s t + d * ((numA o d s t : Int) - 1))) + d * (q + ((numA o d s t : Int) - 1)) := by rw [Int.mul_add, ← hq]; grind
    rw [this, Int.add_mul_emod_self_left, Int.emod_eq_of_lt (by omega) (by omega)]
  omega

/-- Going back from the last one: the j-th still has the time just if j is less than the number. -/
theorem down_iff (o d s t : Int) (hd : 1 ≤ d) (hs : d ≤ s) (j : Nat) : t < (t - (t - o) % d) + (-d) * (j : Int) + s ↔ j < numA o d s t := by
  have h := fstA_in o d s t hd
  have hl := last_eq o d s t hd hs
  rw [← hl]
  have e : fstA o d s t + d * ((numA o d s t : Int) - 1) + -d * (j : Int) = fstA o d s t + d * ((numA o d s t : Int) - 1 - j) := by grind
  rw [e]
  by_cases hj : j < numA o d s t
  · have : 0 ≤ d * ((numA o d s t : Int) - 1 - j) := Int.mul_nonneg (by omega) (by omega)
    constructor
    · intro _; exact hj
    · intro _; omega
  · have : d * ((numA o d s t : Int) - 1 - j) ≤ d * (-1) := Int.mul_le_mul_of_nonneg_left (by omega) (by omega)
    constructor
    · intro _; omega
    · intro h; omega

/-- Going up from the first one. -/
theorem up_iff (o d s t : Int) (hd : 1 ≤ d) (hs : d ≤ s) (j : Nat) : fstA o d s t + d * (j : Int) ≤ t ↔ j < numA o d s t := by
  obtain ⟨h1, h2⟩ := lastA o d s t hd hs
  by_cases hj : j < numA o d s t
  · have : d * (j : Int) ≤ d * ((numA o d s t : Int) - 1) := Int.mul_le_mul_of_nonneg_left (by omega) (by omega)
    constructor
    · intro _; exact hj
    · intro _; omega
  · have : d * (numA o d s t : Int) ≤ d * (j : Int) := Int.mul_le_mul_of_nonneg_left (by omega) (by omega)
    constructor
    · intro _; omega
    · intro h; omega

theorem numA_le (o d s t : Int) (hd : 1 ≤ d) (hs : d ≤ s) : (numA o d s t : Int) ≤ s := by
  refine Decidable.byContradiction fun hc => ?_
  have h := fstA_in o d s t hd
  have hi := (up_iff o d s t hd hs s.toNat).2 (by omega)
  have e : ((s.toNat : Nat) : Int) = s := by omega
  rw [e] at hi
  have : 1 * s ≤ d * s := Int.mul_le_mul_of_nonneg_right hd (by omega)
  omega

theorem numA_pos (o d s t : Int) : 1 ≤ numA o d s t := by unfold numA; omega

/-- The windows of a time. -/
def asg (k s p o t : Int) : List Wn :=
  if k = 0 then [(0, 1048577)] else if k = 3 then [(t, t + s)] else if k = 1 then ap (fstA o s s t) s s (numA o s s t) else ap (fstA o p s t) p s (numA o p s t)

end Go.Proofs.YtpkieiahhkgjoaaDoor
