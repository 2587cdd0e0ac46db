/-
What is said of the windows of a time: each has it, they are right, in order, at most 16, and all there are.
-/
import Derived.Test.YtofollamkcgknaaDoorOr
set_option linter.unusedVariables false
namespace Go.Proofs.YtofollamkcgknaaDoor
open Go.RowKit

theorem mem_ap {a d s : Int} {n : Nat} {x : Wn} : x ∈ ap a d s n ↔ ∃ j : Nat, j < n ∧ x = (a + d * (j : Int), a + d * (j : Int) + s) := by
  unfold ap
  rw [List.mem_map]
  constructor
  · rintro ⟨j, hj, rfl⟩; exact ⟨j, List.mem_range.1 hj, rfl⟩
  · rintro ⟨j, hj, rfl⟩; exact ⟨j, List.mem_range.2 hj, rfl⟩

/-- The windows of Fixed or Sliding: of those that begin at o and whole d from there just those that have the time. -/
theorem ap_has (o d s t : Int) (hd : 1 ≤ d) (hs : d ≤ s) (x : Wn) : x ∈ ap (fstA o d s t) d s (numA o d s t) ↔ (x.1 - o) % d = 0 ∧ x.2 = x.1 + s ∧ x.1 ≤ t ∧ t < x.2 := by
  have hf := fstA_in o d s t hd
  have hm := fstA_mod o d s t
  rw [mem_ap]
  constructor
  · rintro ⟨j, hj, rfl⟩
    have h1 := (up_iff o d s t hd hs j).2 hj
    have h2 : 0 ≤ d * (j : Int) := Int.mul_nonneg (by omega) (by omega)
    dsimp only
    refine ⟨?_, rfl, h1, by omega⟩
    rw [show fstA o d s t + d * (j : Int) - o = (fstA o d s t - o) + d * (j : Int) by omega, Int.add_mul_emod_self_left]
    exact hm
  · obtain ⟨x1, x2⟩ := x
    rintro ⟨h1, h2, h3, h4⟩
    dsimp only at h1 h2 h3 h4
    obtain ⟨q1, e1⟩ := Int.dvd_of_emod_eq_zero h1
    obtain ⟨q2, e2⟩ := Int.dvd_of_emod_eq_zero hm
    have hq : 0 ≤ q1 - q2 := by
      refine Decidable.byContradiction fun hc => ?_
      have : d * q1 ≤ d * (q2 - 1) := Int.mul_le_mul_of_nonneg_left (by omega) (by omega)
      rw [Int.mul_sub, Int.mul_one] at this
      omega
    have e3 : d * (q1 - q2) = x1 - fstA o d s t := by rw [Int.mul_sub]; omega
    have e4 : (((q1 - q2).toNat : Nat) : Int) = q1 - q2 := by omega
    refine ⟨(q1 - q2).toNat, ?_, ?_⟩
    · rw [← up_iff o d s t hd hs, e4, e3]; omega
    · rw [e4, e3, h2]
      show (x1, x1 + s) = (_, _)
      rw [show fstA o d s t + (x1 - fstA o d s t) = x1 by omega]

theorem ap_16 (o d s t : Int) (hd : 1 ≤ d) (hs : d ≤ s) (h16 : s ≤ 16 * d) : numA o d s t ≤ 16 := by
  refine Decidable.byContradiction fun hc => ?_
  have hf := fstA_in o d s t hd
  have h1 := (up_iff o d s t hd hs 16).2 (by omega)
  have : d * ((16 : Nat) : Int) = 16 * d := by rw [Int.mul_comm]; rfl
  omega

theorem asg_in (k s p o t : Int) (hr : Rgt k s p o) (ht : 0 ≤ t) (ht2 : t ≤ 1048576) (x : Wn) (hx : x ∈ asg k s p o t) : x.1 ≤ t ∧ t < x.2 ∧ Gd x.1 x.2 := by
  unfold Gd
  rcases hr with ⟨rfl, rfl, rfl, rfl⟩ | ⟨rfl, h1, h2, rfl, h3, h4⟩ | ⟨rfl, h1, h2, h3, h4, h5, h6, h7⟩ | ⟨rfl, h1, h2, rfl, rfl⟩
  · have hx : x ∈ [((0 : Int), (1048577 : Int))] := hx
    simp at hx; subst hx; dsimp only; omega
  · have hx : x ∈ ap (fstA o s s t) s s (numA o s s t) := hx
    rw [ap_has o s s t h1 (Int.le_refl _)] at hx
    omega
  · have hx : x ∈ ap (fstA o p s t) p s (numA o p s t) := hx
    rw [ap_has o p s t h1 h3] at hx
    omega
  · have hx : x ∈ [(t, t + s)] := hx
    simp at hx; subst hx; dsimp only; omega

theorem asg_mem (k s p o t u : Int) (hr : Rgt k s p o) (hk : ¬ k = 3) (ht : 0 ≤ t) (ht2 : t ≤ 1048576) (x : Wn) (hx : x ∈ asg k s p o u) : x ∈ asg k s p o t ↔ x.1 ≤ t ∧ t < x.2 := by
  rcases hr with ⟨rfl, rfl, rfl, rfl⟩ | ⟨rfl, h1, h2, rfl, h3, h4⟩ | ⟨rfl, h1, h2, h3, h4, h5, h6, h7⟩ | ⟨rfl, h1, h2, rfl, rfl⟩
  · have hx' : x ∈ [((0 : Int), (1048577 : Int))] := hx
    show x ∈ [((0 : Int), (1048577 : Int))] ↔ _
    simp at hx'; subst hx'; simp; omega
  · have hx : x ∈ ap (fstA o s s u) s s (numA o s s u) := hx
    show x ∈ ap (fstA o s s t) s s (numA o s s t) ↔ _
    rw [ap_has o s s u h1 (Int.le_refl _)] at hx
    rw [ap_has o s s t h1 (Int.le_refl _)]
    omega
  · have hx : x ∈ ap (fstA o p s u) p s (numA o p s u) := hx
    show x ∈ ap (fstA o p s t) p s (numA o p s t) ↔ _
    rw [ap_has o p s u h1 h3] at hx
    rw [ap_has o p s t h1 h3]
    omega
  · exact absurd rfl hk

theorem asg_16 (k s p o t : Int) (hr : Rgt k s p o) : (asg k s p o t).length ≤ 16 := by
  rcases hr with ⟨rfl, rfl, rfl, rfl⟩ | ⟨rfl, h1, h2, rfl, h3, h4⟩ | ⟨rfl, h1, h2, h3, h4, h5, h6, h7⟩ | ⟨rfl, h1, h2, rfl, rfl⟩
  · show [((0 : Int), (1048577 : Int))].length ≤ 16; decide
  · show (ap (fstA o s s t) s s (numA o s s t)).length ≤ 16
    rw [ap_length]; exact ap_16 o s s t h1 (Int.le_refl _) (by omega)
  · show (ap (fstA o p s t) p s (numA o p s t)).length ≤ 16
    rw [ap_length]; exact ap_16 o p s t h1 h3 h5
  · show [(t, t + s)].length ≤ 16; simp

theorem ap_step (a d s : Int) (n j : Nat) (hd : 1 ≤ d) (x y : Wn) (hx : (ap a d s n)[j]? = some x) (hy : (ap a d s n)[j + 1]? = some y) : Ls x y := by
  have hl := (List.getElem?_eq_some_iff.1 hy).1
  rw [ap_length] at hl
  rw [ap_get _ _ _ _ _ (by omega)] at hx
  rw [ap_get _ _ _ _ _ hl] at hy
  injection hx with hx
  injection hy with hy
  subst hx; subst hy
  unfold Ls
  dsimp only
  rw [Int.natCast_add, Int.mul_add]
  omega

theorem asg_step (k s p o t : Int) (hr : Rgt k s p o) (j : Nat) (x y : Wn) (hx : (asg k s p o t)[j]? = some x) (hy : (asg k s p o t)[j + 1]? = some y) : lsB x y = true := by
  apply decide_eq_true
  rcases hr with ⟨rfl, rfl, rfl, rfl⟩ | ⟨rfl, h1, h2, rfl, h3, h4⟩ | ⟨rfl, h1, h2, h3, h4, h5, h6, h7⟩ | ⟨rfl, h1, h2, rfl, rfl⟩
  · have hy : [((0 : Int), (1048577 : Int))][j + 1]? = some y := hy
    simp at hy
  · exact ap_step _ _ _ _ j h1 x y hx hy
  · exact ap_step _ _ _ _ j h1 x y hx hy
  · have hy : [(t, t + s)][j + 1]? = some y := hy
    simp at hy

end Go.Proofs.YtofollamkcgknaaDoor
