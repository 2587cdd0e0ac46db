/-
Two lists of windows that are apart, with the same times and edges, are the same; inserting, and one step of merging.
-/
import Derived.Test.YtofollamkcgknaaDoorGp
set_option linter.unusedVariables false
namespace Go.Proofs.YtofollamkcgknaaDoor

def Edg (l : List Wn) (e : Int) : Prop := ∃ x ∈ l, x.1 < e ∧ e < x.2

theorem push_edges : ∀ (st : List Wn) (w : Wn), Apt st → GdW w → (∀ x ∈ st, x.2 ≤ w.2) → ∀ e, Edg (pushW st w) e ↔ Edg st e ∨ (w.1 < e ∧ e < w.2)
  | [], w, _, hw, _, e => by simp [pushW, Edg]
  | t :: r, w, hA, hw, hle, e => by
    obtain ⟨hg, hp⟩ := hA
    have hgt := hg t (by simp)
    have htw := hle t (by simp)
    rw [List.pairwise_cons] at hp
    unfold pushW
    by_cases h : w.1 < t.2
    · rw [if_pos h]
      obtain ⟨f, hf⟩ : ∃ f, f = (if w.1 ≤ t.1 then w.1 else t.1) := ⟨_, rfl⟩
      rw [← hf]
      have hf2 : (f = w.1 ∧ w.1 ≤ t.1) ∨ (f = t.1 ∧ t.1 < w.1) := by
        rw [hf]; split
        · exact .inl ⟨rfl, by assumption⟩
        · exact .inr ⟨rfl, by omega⟩
      have hg2 : GdW (f, w.2) := by unfold GdW Gd at *; dsimp only; omega
      rw [push_edges r (f, w.2) ⟨fun x hx => hg x (by simp [hx]), hp.2⟩ hg2 (fun x hx => hle x (by simp [hx])) e]
      unfold GdW Gd at hgt hw
      dsimp only
      constructor
      · rintro (⟨x, hx, h1⟩ | h1)
        · exact .inl ⟨x, by simp [hx], h1⟩
        · by_cases h2 : w.1 < e
          · exact .inr ⟨h2, h1.2⟩
          · exact .inl ⟨t, by simp, by omega, by omega⟩
      · rintro (⟨x, hx, h1⟩ | h1)
        · rcases List.mem_cons.1 hx with rfl | hx
          · exact .inr (by omega)
          · exact .inl ⟨x, hx, h1⟩
        · exact .inr (by omega)
    · rw [if_neg h]
      constructor
      · rintro ⟨x, hx, h1⟩
        rcases List.mem_cons.1 hx with rfl | hx
        · exact .inr h1
        · exact .inl ⟨x, hx, h1⟩
      · rintro (⟨x, hx, h1⟩ | h1)
        · exact ⟨x, by simp at hx ⊢; simp [hx], h1⟩
        · exact ⟨w, by simp, h1⟩

theorem mrgR_edges : ∀ (l st : List Wn), Apt st → (∀ x ∈ l, GdW x) → (l.Pairwise fun a b => leW a b = true) → (∀ x ∈ st, ∀ w ∈ l, x.2 ≤ w.2) → ∀ e, Edg (mrgR st l) e ↔ Edg st e ∨ Edg l e
  | [], st, hA, _, _, _, e => by simp [mrgR, Edg]
  | w :: l, st, hA, hg, hs, hle, e => by
    rw [List.pairwise_cons] at hs
    have hsw := fun x hx => hle x hx w (by simp)
    obtain ⟨k1, k2, _, _⟩ := push_fits st w hA (hg w (by simp)) hsw
    have k3 := push_edges st w hA (hg w (by simp)) hsw e
    have hwl : ∀ y ∈ l, w.2 ≤ y.2 := fun y hy => by
      have := hs.1 y hy
      rw [leW_iff] at this
      unfold Ls at this
      omega
    show Edg (mrgR (pushW st w) l) e ↔ _
    rw [mrgR_edges l (pushW st w) k1 (fun x hx => hg x (by simp [hx])) hs.2 (fun x hx y hy => Int.le_trans (k2 x hx) (hwl y hy)) e, k3]
    constructor
    · rintro ((h | h) | ⟨x, hx, h⟩)
      · exact .inl h
      · exact .inr ⟨w, by simp, h⟩
      · exact .inr ⟨x, by simp [hx], h⟩
    · rintro (h | ⟨x, hx, h⟩)
      · exact .inl (.inl h)
      · rcases List.mem_cons.1 hx with rfl | hx
        · exact .inl (.inr h)
        · exact .inr ⟨x, hx, h⟩

theorem mrg_edges (l : List Wn) (hg : ∀ x ∈ l, GdW x) (e : Int) : Edg (mrg l) e ↔ Edg l e := by
  have hsp := srt_perm l
  have h := mrgR_edges (srt l) [] ⟨fun x hx => by simp at hx, List.Pairwise.nil⟩ (fun x hx => hg x (hsp.mem_iff.1 hx)) (srt_pw l) (fun x hx => by simp at hx) e
  have e1 : Edg (mrg l) e ↔ Edg (mrgR [] (srt l)) e := by simp [Edg, mrg]
  rw [e1, h]
  constructor
  · rintro (⟨x, hx, _⟩ | ⟨x, hx, h⟩)
    · simp at hx
    · exact ⟨x, hsp.mem_iff.1 hx, h⟩
  · rintro ⟨x, hx, h⟩; exact .inr ⟨x, hsp.mem_iff.2 hx, h⟩

/-- Two lists that are apart and in order, with the same times and edges, are the same. -/
theorem apart_unique : ∀ (A B : List Wn), (∀ x ∈ A, GdW x) → (∀ x ∈ B, GdW x) → (A.Pairwise fun x y => x.2 ≤ y.1) → (B.Pairwise fun x y => x.2 ≤ y.1) → (∀ t, Has A t ↔ Has B t) → (∀ e, Edg A e ↔ Edg B e) → A = B
  | [], [], _, _, _, _, _, _ => rfl
  | [], b :: B, _, hb, _, _, hh, _ => by
    have hgb := hb b (by simp)
    unfold GdW Gd at hgb
    obtain ⟨x, hx, _⟩ := (hh b.1).2 ⟨b, by simp, by omega, by omega⟩
    simp at hx
  | a :: A, [], ha, _, _, _, hh, _ => by
    have hga := ha a (by simp)
    unfold GdW Gd at hga
    obtain ⟨x, hx, _⟩ := (hh a.1).1 ⟨a, by simp, by omega, by omega⟩
    simp at hx
  | a :: A, b :: B, ha, hb, pa, pb, hh, he => by
    have hga := ha a (by simp)
    have hgb := hb b (by simp)
    rw [List.pairwise_cons] at pa pb
    unfold GdW Gd at hga hgb
    have l1 : b.1 ≤ a.1 := by
      obtain ⟨x, hx, h1, _⟩ := (hh a.1).1 ⟨a, by simp, by omega, by omega⟩
      rcases List.mem_cons.1 hx with rfl | hx
      · exact h1
      · have := pb.1 x hx; omega
    have l2 : a.1 ≤ b.1 := by
      obtain ⟨x, hx, h1, _⟩ := (hh b.1).2 ⟨b, by simp, by omega, by omega⟩
      rcases List.mem_cons.1 hx with rfl | hx
      · exact h1
      · have := pa.1 x hx; omega
    have r1 : ¬ a.2 < b.2 := fun h => by
      obtain ⟨x, hx, h1, h2⟩ := (he a.2).2 ⟨b, by simp, by omega, h⟩
      rcases List.mem_cons.1 hx with rfl | hx
      · omega
      · have := pa.1 x hx; omega
    have r2 : ¬ b.2 < a.2 := fun h => by
      obtain ⟨x, hx, h1, h2⟩ := (he b.2).1 ⟨a, by simp, by omega, h⟩
      rcases List.mem_cons.1 hx with rfl | hx
      · omega
      · have := pb.1 x hx; omega
    have hab : a = b := Prod.ext (by omega) (by omega)
    subst hab
    have hA : ∀ t, Has A t ↔ Has (a :: A) t ∧ a.2 ≤ t := fun t => by
      constructor
      · rintro ⟨x, hx, h1, h2⟩
        have := pa.1 x hx
        exact ⟨⟨x, by simp [hx], h1, h2⟩, by omega⟩
      · rintro ⟨⟨x, hx, h1, h2⟩, h3⟩
        rcases List.mem_cons.1 hx with rfl | hx
        · omega
        · exact ⟨x, hx, h1, h2⟩
    have hB : ∀ t, Has B t ↔ Has (a :: B) t ∧ a.2 ≤ t := fun t => by
      constructor
      · rintro ⟨x, hx, h1, h2⟩
        have := pb.1 x hx
        exact ⟨⟨x, by simp [hx], h1, h2⟩, by omega⟩
      · rintro ⟨⟨x, hx, h1, h2⟩, h3⟩
        rcases List.mem_cons.1 hx with rfl | hx
        · omega
        · exact ⟨x, hx, h1, h2⟩
    have eA : ∀ t, Edg A t ↔ Edg (a :: A) t ∧ a.2 < t := fun t => by
      constructor
      · rintro ⟨x, hx, h1, h2⟩
        have := pa.1 x hx
        exact ⟨⟨x, by simp [hx], h1, h2⟩, by omega⟩
      · rintro ⟨⟨x, hx, h1, h2⟩, h3⟩
        rcases List.mem_cons.1 hx with rfl | hx
        · omega
        · exact ⟨x, hx, h1, h2⟩
    have eB : ∀ t, Edg B t ↔ Edg (a :: B) t ∧ a.2 < t := fun t => by
      constructor
      · rintro ⟨x, hx, h1, h2⟩
        have := pb.1 x hx
        exact ⟨⟨x, by simp [hx], h1, h2⟩, by omega⟩
      · rintro ⟨⟨x, hx, h1, h2⟩, h3⟩
        rcases List.mem_cons.1 hx with rfl | hx
        · omega
        · exact ⟨x, hx, h1, h2⟩
    rw [apart_unique A B (fun x hx => ha x (by simp [hx])) (fun x hx => hb x (by simp [hx])) pa.2 pb.2 (fun t => by rw [hA, hB, hh]) (fun e => by rw [eA, eB, he])]

theorem mrg_unique {l1 l2 : List Wn} (h1 : ∀ x ∈ l1, GdW x) (h2 : ∀ x ∈ l2, GdW x) (hh : ∀ t, Has l1 t ↔ Has l2 t) (he : ∀ e, Edg l1 e ↔ Edg l2 e) : mrg l1 = mrg l2 := by
  obtain ⟨a1, a2, a3, _⟩ := mrg_fits l1 h1
  obtain ⟨b1, b2, b3, _⟩ := mrg_fits l2 h2
  exact apart_unique _ _ a1 b1 a2 b2 (fun t => by rw [a3, b3, hh]) (fun e => by rw [mrg_edges l1 h1, mrg_edges l2 h2, he])

/-- Sorted, and no two have a time in common: that is the merged list. -/
theorem mrg_done {l : List Wn} (hg : ∀ x ∈ l, GdW x) (hno : ∀ i k (hi : i < (srt l).length) (hk : k < i), ¬ (((srt l)[k]).1 < ((srt l)[i]).2 ∧ ((srt l)[i]).1 < ((srt l)[k]).2)) : srt l = mrg l := by
  have hsp := srt_perm l
  have hgs : ∀ x ∈ srt l, GdW x := fun x hx => hg x (hsp.mem_iff.1 hx)
  obtain ⟨b1, b2, b3, _⟩ := mrg_fits l hg
  refine apart_unique _ _ hgs b1 ?_ b2 (fun t => ?_) (fun e => ?_)
  · rw [List.pairwise_iff_getElem]
    intro k i hk hi hki
    have h1 := hno i k hi hki
    have h2 := List.pairwise_iff_getElem.1 (srt_pw l) k i hk hi hki
    have g1 := hgs _ (List.getElem_mem hk)
    have g2 := hgs _ (List.getElem_mem hi)
    rw [leW_iff] at h2
    unfold Ls at h2
    unfold GdW Gd at g1 g2
    omega
  · rw [b3]
    constructor
    · rintro ⟨x, hx, h⟩; exact ⟨x, hsp.mem_iff.1 hx, h⟩
    · rintro ⟨x, hx, h⟩; exact ⟨x, hsp.mem_iff.2 hx, h⟩
  · rw [mrg_edges l hg]
    constructor
    · rintro ⟨x, hx, h⟩; exact ⟨x, hsp.mem_iff.1 hx, h⟩
    · rintro ⟨x, hx, h⟩; exact ⟨x, hsp.mem_iff.2 hx, h⟩

/-- The first j of a list, but two of them. -/
def rst (s : List Wn) (i k j : Nat) : List Wn := (List.range j).filterMap fun m => if m = i ∨ m = k then none else s[m]?

theorem rst_skip (s : List Wn) (i k j : Nat) (h : j = i ∨ j = k) : rst s i k (j + 1) = rst s i k j := by
  unfold rst
  rw [List.range_succ, List.filterMap_append]
  simp [h]

theorem rst_take (s : List Wn) (i k j : Nat) (h : ¬ (j = i ∨ j = k)) (hj : j < s.length) : rst s i k (j + 1) = rst s i k j ++ [s[j]] := by
  unfold rst
  rw [List.range_succ, List.filterMap_append]
  simp [h, List.getElem?_eq_getElem hj]

theorem rst_len (s : List Wn) (i k : Nat) (hik : k < i) : ∀ j, j ≤ s.length → (rst s i k j).length + (if i < j then 1 else 0) + (if k < j then 1 else 0) = j
  | 0, _ => by simp [rst]
  | j + 1, hj => by
    have ih := rst_len s i k hik j (by omega)
    by_cases h : j = i ∨ j = k
    · rw [rst_skip s i k j h]
      rcases h with h | h <;> (split at ih <;> split at ih <;> split <;> split <;> omega)
    · rw [rst_take s i k j h (by omega)]
      simp only [List.length_append, List.length_cons, List.length_nil]
      split at ih <;> split at ih <;> split <;> split <;> omega

theorem rst_mem (s : List Wn) (i k : Nat) (x : Wn) : x ∈ rst s i k s.length ↔ ∃ m, m < s.length ∧ ¬ (m = i ∨ m = k) ∧ s[m]? = some x := by
  unfold rst
  rw [List.mem_filterMap]
  constructor
  · rintro ⟨m, hm, h⟩
    split at h
    · cases h
    · exact ⟨m, List.mem_range.1 hm, by assumption, h⟩
  · rintro ⟨m, hm, h1, h2⟩
    exact ⟨m, List.mem_range.2 hm, by rw [if_neg h1]; exact h2⟩

/-- One step of merging changes nothing in the end. -/
theorem mrg_step (l : List Wn) (hg : ∀ x ∈ l, GdW x) (i k : Nat) (hi : i < (srt l).length) (hk : k < i) (f u : Int)
    (h1 : ((srt l)[k]).1 < ((srt l)[i]).2) (h2 : ((srt l)[i]).1 < ((srt l)[k]).2)
    (hf : f = if ((srt l)[i]).1 < ((srt l)[k]).1 then ((srt l)[i]).1 else ((srt l)[k]).1) (hu : u = if ((srt l)[k]).2 < ((srt l)[i]).2 then ((srt l)[i]).2 else ((srt l)[k]).2) :
    mrg (rst (srt l) i k (srt l).length ++ [(f, u)]) = mrg l ∧ (∀ x ∈ rst (srt l) i k (srt l).length ++ [(f, u)], GdW x) := by
  have hsp := srt_perm l
  have hgs : ∀ x ∈ srt l, GdW x := fun x hx => hg x (hsp.mem_iff.1 hx)
  have hkl : k < (srt l).length := by omega
  have mk : ∀ x, x ∈ srt l ↔ (x ∈ rst (srt l) i k (srt l).length ∨ x = (srt l)[i] ∨ x = (srt l)[k]) := fun x => by
    rw [rst_mem]
    constructor
    · intro hx
      obtain ⟨m, hm, e⟩ := List.getElem_of_mem hx
      by_cases h : m = i
      · subst h; exact .inr (.inl e.symm)
      · by_cases h' : m = k
        · subst h'; exact .inr (.inr e.symm)
        · exact .inl ⟨m, hm, by omega, by rw [← e]; exact List.getElem?_eq_getElem hm⟩
    · rintro (⟨m, hm, _, e⟩ | e | e)
      · exact List.mem_of_getElem? e
      · rw [e]; exact List.getElem_mem hi
      · rw [e]; exact List.getElem_mem hkl
  have ga := hgs _ (List.getElem_mem hkl)
  have gb := hgs _ (List.getElem_mem hi)
  generalize (srt l)[k] = a at *
  generalize (srt l)[i] = b at *
  generalize rst (srt l) i k (srt l).length = r at *
  unfold GdW Gd at ga gb
  have hf2 : (f = b.1 ∧ b.1 < a.1) ∨ (f = a.1 ∧ a.1 ≤ b.1) := by
    rw [hf]; split
    · exact .inl ⟨rfl, by assumption⟩
    · exact .inr ⟨rfl, by omega⟩
  have hu2 : (u = b.2 ∧ a.2 < b.2) ∨ (u = a.2 ∧ b.2 ≤ a.2) := by
    rw [hu]; split
    · exact .inl ⟨rfl, by assumption⟩
    · exact .inr ⟨rfl, by omega⟩
  clear hf hu
  have hgr : ∀ x ∈ r ++ [(f, u)], GdW x := fun x hx => by
    rcases List.mem_append.1 hx with h | h
    · exact hgs x ((mk x).2 (.inl h))
    · rw [List.mem_singleton] at h; subst h; unfold GdW Gd; dsimp only; omega
  refine ⟨mrg_unique hgr hg (fun t => ?_) (fun e => ?_), hgr⟩
  · constructor
    · rintro ⟨x, hx, h3, h4⟩
      rcases List.mem_append.1 hx with h | h
      · exact ⟨x, hsp.mem_iff.1 ((mk x).2 (.inl h)), h3, h4⟩
      · rw [List.mem_singleton] at h; subst h
        dsimp only at h3 h4
        by_cases h5 : a.1 ≤ t ∧ t < a.2
        · exact ⟨a, hsp.mem_iff.1 ((mk a).2 (.inr (.inr rfl))), h5⟩
        · exact ⟨b, hsp.mem_iff.1 ((mk b).2 (.inr (.inl rfl))), by omega⟩
    · rintro ⟨x, hx, h3, h4⟩
      rcases (mk x).1 (hsp.mem_iff.2 hx) with h | rfl | rfl
      · exact ⟨x, by simp [h], h3, h4⟩
      · exact ⟨(f, u), by simp, by dsimp only; omega⟩
      · exact ⟨(f, u), by simp, by dsimp only; omega⟩
  · constructor
    · rintro ⟨x, hx, h3, h4⟩
      rcases List.mem_append.1 hx with h | h
      · exact ⟨x, hsp.mem_iff.1 ((mk x).2 (.inl h)), h3, h4⟩
      · rw [List.mem_singleton] at h; subst h
        dsimp only at h3 h4
        by_cases h5 : a.1 < e ∧ e < a.2
        · exact ⟨a, hsp.mem_iff.1 ((mk a).2 (.inr (.inr rfl))), h5⟩
        · exact ⟨b, hsp.mem_iff.1 ((mk b).2 (.inr (.inl rfl))), by omega⟩
    · rintro ⟨x, hx, h3, h4⟩
      rcases (mk x).1 (hsp.mem_iff.2 hx) with h | rfl | rfl
      · exact ⟨x, by simp [h], h3, h4⟩
      · exact ⟨(f, u), by simp, by dsimp only; omega⟩
      · exact ⟨(f, u), by simp, by dsimp only; omega⟩

/-- A window put into a list that is in order. -/
def putW : List Wn → Wn → List Wn
  | [], w => [w]
  | x :: r, w => if lsB w x = true then w :: x :: r else x :: putW r w

theorem putW_snoc : ∀ (A : List Wn) (y w : Wn), putW (A ++ [y]) w = if A.any (lsB w) = true then putW A w ++ [y] else A ++ (if lsB w y = true then [w, y] else [y, w])
  | [], y, w => by simp [putW]
  | x :: A, y, w => by
    show (if lsB w x = true then w :: x :: (A ++ [y]) else x :: putW (A ++ [y]) w) = _
    rw [putW_snoc A y w]
    by_cases h : lsB w x = true
    · simp [h, putW]
    · by_cases h2 : A.any (lsB w) = true
      · simp only [h, h2, List.any_cons, putW]; simp
      · simp only [h, h2, List.any_cons, putW]; simp

theorem putW_none : ∀ (A : List Wn) (w : Wn), A.any (lsB w) = false → putW A w = A ++ [w]
  | [], w, _ => rfl
  | x :: A, w, h => by
    rw [List.any_cons, Bool.or_eq_false_iff] at h
    unfold putW
    rw [if_neg (by rw [h.1]; simp), putW_none A w h.2]
    rfl

theorem putW_perm : ∀ (A : List Wn) (w : Wn), (putW A w).Perm (w :: A)
  | [], w => List.Perm.refl _
  | x :: A, w => by
    unfold putW
    split
    · exact List.Perm.refl _
    · exact ((putW_perm A w).cons x).trans (List.Perm.swap w x A)

theorem putW_pw : ∀ (A : List Wn) (w : Wn), (A.Pairwise fun a b => leW a b = true) → (putW A w).Pairwise fun a b => leW a b = true
  | [], w, _ => by simp [putW]
  | x :: A, w, h => by
    have h' := h
    rw [List.pairwise_cons] at h
    unfold putW
    by_cases hx : lsB w x = true
    · rw [if_pos hx, List.pairwise_cons]
      refine ⟨fun y hy => ?_, h'⟩
      have hwx : Ls w x := of_decide_eq_true hx
      rcases List.mem_cons.1 hy with rfl | hy
      · rw [leW_iff]; unfold Ls at *; omega
      · have := h.1 y hy
        rw [leW_iff] at *
        unfold Ls at *
        omega
    · rw [if_neg hx, List.pairwise_cons]
      refine ⟨fun y hy => ?_, putW_pw A w h.2⟩
      rcases List.mem_cons.1 ((putW_perm A w).mem_iff.1 hy) with rfl | hy
      · unfold leW; simpa using hx
      · exact h.1 y hy

theorem srt_fold (l : List Wn) : l.foldl putW [] = srt l := by
  have key : ∀ (l acc : List Wn), (acc.Pairwise fun a b => leW a b = true) → ((l.foldl putW acc).Perm (acc ++ l)) ∧ (l.foldl putW acc).Pairwise fun a b => leW a b = true := by
    intro l
    induction l with
    | nil => intro acc h; simp; exact h
    | cons x l ih =>
      intro acc h
      obtain ⟨p, s⟩ := ih (putW acc x) (putW_pw acc x h)
      refine ⟨p.trans ?_, s⟩
      have := (putW_perm acc x).append_right l
      exact this.trans (by simpa using (List.perm_middle (a := x) (l₁ := acc) (l₂ := l)).symm)
  obtain ⟨p, s⟩ := key l [] List.Pairwise.nil
  exact srt_unique (by simpa using p) s

end Go.Proofs.YtofollamkcgknaaDoor
