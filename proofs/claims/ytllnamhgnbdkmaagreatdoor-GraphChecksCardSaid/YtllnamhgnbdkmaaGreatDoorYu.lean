/-
Stage 11: what is above what.
-/
import Derived.Test.YtllnamhgnbdkmaaGreatDoorJk
set_option linter.unusedVariables false
set_option linter.unusedSimpArgs false
namespace Go.Proofs.YtllnamhgnbdkmaaGreatDoor
open Go.RowKit Go.Shelf Go.Sort

/-- Does a place lead? -/
def fin (l : List Gn) (ends : List Int) (k : Nat) : Bool := marks l ends (l.length - 1 - k) k

theorem marks_iff (l : List Gn) (ends : List Int) : ∀ (m : Nat), m ≤ l.length → ∀ k : Nat, marks l ends m k = true ↔ ((k : Int) ∈ ends ∨ ∃ j, l.length - m ≤ j ∧ j < l.length ∧ fin l ends j = true ∧ (k : Int) ∈ rdAt l j)
  | 0, _, k => by
    unfold marks
    rw [decide_eq_true_eq]
    constructor
    · exact .inl
    · rintro (h | ⟨j, h1, h2, _⟩)
      · exact h
      · omega
  | m + 1, hm, k => by
    have ih := marks_iff l ends m (by omega)
    unfold marks
    rw [Bool.or_eq_true, Bool.and_eq_true, decide_eq_true_eq, ih k]
    have hf : fin l ends (l.length - 1 - m) = marks l ends m (l.length - 1 - m) := by
      unfold fin
      rw [show l.length - 1 - (l.length - 1 - m) = m by omega]
    constructor
    · rintro ((h | ⟨j, h1, h2, h3, h4⟩) | ⟨h1, h2⟩)
      · exact .inl h
      · exact .inr ⟨j, by omega, h2, h3, h4⟩
      · exact .inr ⟨l.length - 1 - m, by omega, by omega, hf ▸ h1, h2⟩
    · rintro (h | ⟨j, h1, h2, h3, h4⟩)
      · exact .inl (.inl h)
      · by_cases e : j = l.length - 1 - m
        · subst e
          exact .inr ⟨hf ▸ h3, h4⟩
        · exact .inl (.inr ⟨j, by omega, h2, h3, h4⟩)
theorem fin_iff {l : List Gn} {ends : List Int} {k : Nat} (hk : k < l.length) : fin l ends k = true ↔ ((k : Int) ∈ ends ∨ ∃ j, k < j ∧ j < l.length ∧ fin l ends j = true ∧ (k : Int) ∈ rdAt l j) := by
  unfold fin
  rw [marks_iff l ends _ (by omega)]
  constructor
  · rintro (h | ⟨j, h1, h2, h3, h4⟩)
    · exact .inl h
    · exact .inr ⟨j, by omega, h2, h3, h4⟩
  · rintro (h | ⟨j, h1, h2, h3, h4⟩)
    · exact .inl h
    · exact .inr ⟨j, by omega, h2, h3, h4⟩
theorem mem_plcs (l : List Gn) (ends : List Int) : ∀ (m : Nat), m ≤ l.length → ∀ x : Int, x ∈ plcs l ends m ↔ ∃ k : Nat, x = (k : Int) ∧ l.length - m ≤ k ∧ k < l.length ∧ fin l ends k = true
  | 0, _, x => by
    unfold plcs
    constructor
    · intro h; cases h
    · rintro ⟨k, _, h1, h2, _⟩; omega
  | m + 1, hm, x => by
    have ih := mem_plcs l ends m (by omega) x
    have hf : fin l ends (l.length - 1 - m) = marks l ends m (l.length - 1 - m) := by
      unfold fin
      rw [show l.length - 1 - (l.length - 1 - m) = m by omega]
    unfold plcs
    split
    · rename_i h
      rw [List.mem_append, ih, List.mem_singleton]
      constructor
      · rintro (⟨k, h1, h2, h3, h4⟩ | rfl)
        · exact ⟨k, h1, by omega, h3, h4⟩
        · exact ⟨_, rfl, by omega, by omega, hf ▸ h⟩
      · rintro ⟨k, h1, h2, h3, h4⟩
        by_cases e : k = l.length - 1 - m
        · exact .inr (by rw [h1, e])
        · exact .inl ⟨k, h1, by omega, h3, h4⟩
    · rename_i h
      rw [ih]
      constructor
      · rintro ⟨k, h1, h2, h3, h4⟩
        exact ⟨k, h1, by omega, h3, h4⟩
      · rintro ⟨k, h1, h2, h3, h4⟩
        refine ⟨k, h1, ?_, h3, h4⟩
        refine Decidable.byContradiction fun hn => h ?_
        have e : k = l.length - 1 - m := by omega
        subst e
        exact hf ▸ h4
theorem mem_lead {l : List Gn} {ends : List Int} {x : Int} : x ∈ leadP l ends ↔ ∃ k : Nat, x = (k : Int) ∧ k < l.length ∧ fin l ends k = true := by
  unfold leadP
  rw [List.mem_reverse, mem_plcs l ends _ (Nat.le_refl _)]
  constructor
  · rintro ⟨k, h1, _, h3, h4⟩
    exact ⟨k, h1, h3, h4⟩
  · rintro ⟨k, h1, h3, h4⟩
    exact ⟨k, h1, by omega, h3, h4⟩

theorem OkG.rd {l : List Gn} (h : OkG l) {i : Nat} {x : Int} (hx : x ∈ rdAt l i) : ∃ k : Nat, x = (k : Int) ∧ k < i ∧ k < l.length ∧ i < l.length := by
  unfold rdAt at hx
  cases hn : l[i]? with
  | none => rw [hn] at hx; cases hx
  | some n =>
    rw [hn] at hx
    have := (h.each i n hn).reads x hx
    exact ⟨x.toNat, by omega, this.2.1, this.2.2.1, (List.getElem?_eq_some_iff.1 hn).1⟩
/-- What is above a node stands ahead of it. -/
theorem above_lt {l : List Gn} (h : OkG l) (i : Nat) : ∀ (m k : Nat), l.length - k ≤ m → k < l.length → fin l (rdAt l i) k = true → k < i
  | 0, k, hm, hk, _ => by omega
  | m + 1, k, hm, hk, hf => by
    rcases (fin_iff hk).1 hf with h1 | ⟨j, h1, h2, h3, h4⟩
    · obtain ⟨k', e, h5, _⟩ := h.rd h1
      omega
    · have := above_lt h i m j (by omega) h2 h3
      omega
/-- What is above what is above a node is above it. -/
theorem above_tr {l : List Gn} (h : OkG l) (i k : Nat) (hk : k < l.length) (hf : fin l (rdAt l i) k = true) : ∀ (m j : Nat), l.length - j ≤ m → j < l.length → fin l (rdAt l k) j = true → fin l (rdAt l i) j = true
  | 0, j, hm, hj, _ => by omega
  | m + 1, j, hm, hj, hg => by
    refine (fin_iff hj).2 (.inr ?_)
    rcases (fin_iff hj).1 hg with h1 | ⟨q, h1, h2, h3, h4⟩
    · obtain ⟨j', e, h5, _⟩ := h.rd h1
      exact ⟨k, by omega, hk, hf, h1⟩
    · exact ⟨q, h1, h2, above_tr h i k hk hf m q (by omega) h2 h3, h4⟩

theorem aboveP_mem {l : List Gn} {i : Nat} (hi : i < l.length) {x : Int} : x ∈ aboveP l (i : Int) ↔ ∃ k : Nat, x = (k : Int) ∧ k < l.length ∧ fin l (rdAt l i) k = true := by
  rw [aboveP_in hi]
  exact mem_lead
/-- What the statement asks of what is above a node. -/
theorem above_ok {l : List Gn} (h : OkG l) {i : Nat} (hi : i < l.length) : ∀ x ∈ aboveP l (i : Int), 0 ≤ x ∧ x < (i : Int) ∧ ∀ y ∈ aboveP l x, y ∈ aboveP l (i : Int) := fun x hx => by
  obtain ⟨k, rfl, h1, h2⟩ := (aboveP_mem hi).1 hx
  have hlt := above_lt h i _ k (Nat.le_refl _) h1 h2
  refine ⟨by omega, by omega, fun y hy => ?_⟩
  obtain ⟨j, rfl, h3, h4⟩ := (aboveP_mem h1).1 hy
  exact (aboveP_mem hi).2 ⟨j, rfl, h3, above_tr h i k h1 h2 _ j (Nat.le_refl _) h3 h4⟩
theorem reads_ok {l : List Gn} (h : OkG l) {i : Nat} (hi : i < l.length) : ∀ x ∈ rdAt l i, x ∈ aboveP l (i : Int) ∧ (i : Int) ∈ usersP l x := fun x hx => by
  obtain ⟨k, rfl, h1, h2, h3⟩ := h.rd hx
  refine ⟨(aboveP_mem hi).2 ⟨k, rfl, h2, (fin_iff h2).2 (.inl hx)⟩, mem_plF.2 ⟨by omega, by omega, ?_⟩⟩
  rw [Int.toNat_natCast]
  exact decide_eq_true hx
theorem users_none {l : List Gn} (h : OkG l) : usersP l (-1) = [] := by
  refine List.eq_nil_iff_forall_not_mem.2 fun x hx => ?_
  obtain ⟨_, _, h3⟩ := mem_plF.1 hx
  obtain ⟨k, e, _⟩ := h.rd (of_decide_eq_true h3)
  omega
/-- What is live. -/
def liveP (l : List Gn) : List Int := leadP l (sinksP l)
theorem live_ok {l : List Gn} (h : OkG l) : ∀ x ∈ liveP l, ∃ k : Nat, x = (k : Int) ∧ k < l.length ∧ (sinkB l k = true ∨ ∃ y ∈ usersP l x, y ∈ liveP l) := fun x hx => by
  obtain ⟨k, rfl, h1, h2⟩ := mem_lead.1 hx
  refine ⟨k, rfl, h1, ?_⟩
  rcases (fin_iff h1).1 h2 with h3 | ⟨j, h3, h4, h5, h6⟩
  · left
    obtain ⟨_, _, h7⟩ := mem_plF.1 h3
    rwa [Int.toNat_natCast] at h7
  · right
    refine ⟨(j : Int), mem_plF.2 ⟨by omega, by omega, ?_⟩, mem_lead.2 ⟨j, rfl, h4, h5⟩⟩
    rw [Int.toNat_natCast]
    exact decide_eq_true h6

end Go.Proofs.YtllnamhgnbdkmaaGreatDoor
