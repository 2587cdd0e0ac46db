/-
Plain facts on sorted and merged windows.
-/
import Derived.Test.YtpkieiahhkgjoaaDoorOr
set_option linter.unusedVariables false
namespace Go.Proofs.YtpkieiahhkgjoaaDoor

def leW (x y : Wn) : Bool := !lsB y x

theorem leW_iff (x y : Wn) : leW x y = true ↔ ¬ Ls y x := by
  unfold leW lsB
  simp

theorem leW_trans (a b c : Wn) (h1 : leW a b = true) (h2 : leW b c = true) : leW a c = true := by
  rw [leW_iff] at *
  unfold Ls at *
  omega

theorem leW_total (a b : Wn) : (leW a b || leW b a) = true := by
  by_cases h : Ls b a
  · have : leW b a = true := by rw [leW_iff]; unfold Ls at *; omega
    simp [this]
  · have : leW a b = true := (leW_iff a b).2 h
    simp [this]

theorem leW_anti {a b : Wn} (h1 : leW a b = true) (h2 : leW b a = true) : a = b := by
  rw [leW_iff] at *
  unfold Ls at *
  exact Prod.ext (by omega) (by omega)

def srt (l : List Wn) : List Wn := l.mergeSort leW

theorem srt_perm (l : List Wn) : (srt l).Perm l := List.mergeSort_perm l leW

theorem srt_pw (l : List Wn) : (srt l).Pairwise fun a b => leW a b = true := List.pairwise_mergeSort leW_trans leW_total l

/-- What is sorted and a permutation is the sorted list. -/
theorem srt_unique {l l' : List Wn} (hp : l'.Perm l) (hs : l'.Pairwise fun a b => leW a b = true) : l' = srt l :=
  List.Perm.eq_of_pairwise (fun a b _ _ h1 h2 => leW_anti h1 h2) hs (srt_pw l) (hp.trans (srt_perm l).symm)

theorem srt_of_perm {l l' : List Wn} (h : l.Perm l') : srt l = srt l' := srt_unique ((srt_perm l).trans h) (srt_pw l)

def pushW : List Wn → Wn → List Wn
  | [], w => [w]
  | t :: r, w => if w.1 < t.2 then pushW r (if w.1 ≤ t.1 then w.1 else t.1, w.2) else w :: t :: r

def mrgR (st l : List Wn) : List Wn := l.foldl pushW st

def mrg (l : List Wn) : List Wn := (mrgR [] (srt l)).reverse

def GdW (x : Wn) : Prop := Gd x.1 x.2

/-- Apart and in order: the last one stands first. -/
def Apt (st : List Wn) : Prop := (∀ x ∈ st, GdW x) ∧ st.Pairwise fun x y => y.2 ≤ x.1

def Has (l : List Wn) (t : Int) : Prop := ∃ x ∈ l, x.1 ≤ t ∧ t < x.2

theorem push_fits : ∀ (st : List Wn) (w : Wn), Apt st → GdW w → (∀ x ∈ st, x.2 ≤ w.2) →
    Apt (pushW st w) ∧ (∀ x ∈ pushW st w, x.2 ≤ w.2) ∧ (∀ t, Has (pushW st w) t ↔ Has st t ∨ (w.1 ≤ t ∧ t < w.2)) ∧ (∀ x ∈ pushW st w, x.1 = w.1 ∨ ∃ y ∈ st, y.1 = x.1)
  | [], w, _, hw, _ => by
    refine ⟨⟨fun x hx => ?_, by simp [pushW]⟩, fun x hx => ?_, fun t => ?_, fun x hx => ?_⟩
    · simp [pushW] at hx; subst hx; exact hw
    · simp [pushW] at hx; subst hx; omega
    · simp [pushW, Has]
    · simp [pushW] at hx; subst hx; exact .inl rfl
  | t :: r, w, hA, hw, hle => by
    obtain ⟨hg, hp⟩ := hA
    have hgt := hg t (by simp)
    have htw := hle t (by simp)
    rw [List.pairwise_cons] at hp
    unfold pushW
    by_cases h : w.1 < t.2
    · rw [if_pos h]
      obtain ⟨f, hf⟩ : ∃ f, f = (if w.1 ≤ t.1 then w.1 else t.1) := ⟨_, rfl⟩
      rw [← hf]
      have hf2 : (f = w.1 ∧ w.1 ≤ t.1) ∨ (f = t.1 ∧ t.1 < w.1) := by
        rw [hf]; split
        · exact .inl ⟨rfl, by assumption⟩
        · exact .inr ⟨rfl, by omega⟩
      have hg2 : GdW (f, w.2) := by unfold GdW Gd at *; dsimp only; omega
      obtain ⟨k1, k2, k3, k4⟩ := push_fits r (f, w.2) ⟨fun x hx => hg x (by simp [hx]), hp.2⟩ hg2 (fun x hx => hle x (by simp [hx]))
      refine ⟨k1, k2, fun u => ?_, fun x hx => ?_⟩
      · rw [k3 u]
        unfold GdW Gd at hgt hw
        dsimp only
        constructor
        · rintro (⟨x, hx, h1⟩ | h1)
          · exact .inl ⟨x, by simp [hx], h1⟩
          · by_cases h2 : w.1 ≤ u
            · exact .inr ⟨h2, h1.2⟩
            · exact .inl ⟨t, by simp, by omega, by omega⟩
        · rintro (⟨x, hx, h1⟩ | h1)
          · rcases List.mem_cons.1 hx with rfl | hx
            · exact .inr (by omega)
            · exact .inl ⟨x, hx, h1⟩
          · exact .inr (by omega)
      · rcases k4 x hx with h1 | ⟨y, hy, h1⟩
        · dsimp only at h1
          rcases hf2 with ⟨h2, _⟩ | ⟨h2, _⟩
          · exact .inl (by omega)
          · exact .inr ⟨t, by simp, by omega⟩
        · exact .inr ⟨y, by simp [hy], h1⟩
    · rw [if_neg h]
      refine ⟨⟨fun x hx => ?_, ?_⟩, fun x hx => ?_, fun u => ?_, fun x hx => ?_⟩
      · rcases List.mem_cons.1 hx with rfl | hx
        · exact hw
        · exact hg x hx
      · rw [List.pairwise_cons]
        refine ⟨fun x hx => ?_, ?_⟩
        · rcases List.mem_cons.1 hx with rfl | hx
          · omega
          · have h1 := hp.1 x hx
            unfold GdW Gd at hgt
            omega
        · rw [List.pairwise_cons]; exact hp
      · rcases List.mem_cons.1 hx with rfl | hx
        · omega
        · exact hle x hx
      · constructor
        · rintro ⟨x, hx, h1⟩
          rcases List.mem_cons.1 hx with rfl | hx
          · exact .inr h1
          · exact .inl ⟨x, hx, h1⟩
        · rintro (⟨x, hx, h1⟩ | h1)
          · exact ⟨x, by simp at hx ⊢; simp [hx], h1⟩
          · exact ⟨w, by simp, h1⟩
      · rcases List.mem_cons.1 hx with rfl | hx
        · exact .inl rfl
        · exact .inr ⟨x, hx, rfl⟩

theorem mrgR_fits : ∀ (l st : List Wn), Apt st → (∀ x ∈ l, GdW x) → (l.Pairwise fun a b => leW a b = true) → (∀ x ∈ st, ∀ w ∈ l, x.2 ≤ w.2) →
    Apt (mrgR st l) ∧ (∀ t, Has (mrgR st l) t ↔ Has st t ∨ Has l t) ∧ (∀ x ∈ mrgR st l, (∃ y ∈ l, y.1 = x.1) ∨ ∃ y ∈ st, y.1 = x.1)
  | [], st, hA, _, _, _ => ⟨hA, fun t => by simp [mrgR, Has], fun x hx => .inr ⟨x, hx, rfl⟩⟩
  | w :: l, st, hA, hg, hs, hle => by
    rw [List.pairwise_cons] at hs
    obtain ⟨k1, k2, k3, k4⟩ := push_fits st w hA (hg w (by simp)) (fun x hx => hle x hx w (by simp))
    have hwl : ∀ y ∈ l, w.2 ≤ y.2 := fun y hy => by
      have := hs.1 y hy
      rw [leW_iff] at this
      unfold Ls at this
      omega
    obtain ⟨m1, m2, m3⟩ := mrgR_fits l (pushW st w) k1 (fun x hx => hg x (by simp [hx])) hs.2 (fun x hx y hy => Int.le_trans (k2 x hx) (hwl y hy))
    refine ⟨m1, fun t => ?_, fun x hx => ?_⟩
    · show Has (mrgR (pushW st w) l) t ↔ _
      rw [m2 t, k3 t]
      constructor
      · rintro ((h | h) | ⟨x, hx, h⟩)
        · exact .inl h
        · exact .inr ⟨w, by simp, h⟩
        · exact .inr ⟨x, by simp [hx], h⟩
      · rintro (h | ⟨x, hx, h⟩)
        · exact .inl (.inl h)
        · rcases List.mem_cons.1 hx with rfl | hx
          · exact .inl (.inr h)
          · exact .inr ⟨x, hx, h⟩
    · rcases m3 x hx with ⟨y, hy, h⟩ | ⟨y, hy, h⟩
      · exact .inl ⟨y, by simp [hy], h⟩
      · rcases k4 y hy with h2 | ⟨z, hz, h2⟩
        · exact .inl ⟨w, by simp, by omega⟩
        · exact .inr ⟨z, hz, by omega⟩

/-- What is said of merged windows. -/
theorem mrg_fits (l : List Wn) (hg : ∀ x ∈ l, GdW x) : (∀ x ∈ mrg l, GdW x) ∧ ((mrg l).Pairwise fun x y => x.2 ≤ y.1) ∧ (∀ t, Has (mrg l) t ↔ Has l t) ∧ (∀ x ∈ mrg l, ∃ y ∈ l, y.1 = x.1) := by
  have hsp := srt_perm l
  obtain ⟨h1, h2, h3⟩ := mrgR_fits (srt l) [] ⟨fun x hx => by simp at hx, List.Pairwise.nil⟩ (fun x hx => hg x (hsp.mem_iff.1 hx)) (srt_pw l) (fun x hx => by simp at hx)
  refine ⟨fun x hx => h1.1 x (by simpa [mrg] using hx), ?_, fun t => ?_, fun x hx => ?_⟩
  · unfold mrg
    rw [List.pairwise_reverse]
    exact h1.2
  · have e : Has (mrg l) t ↔ Has (mrgR [] (srt l)) t := by simp [Has, mrg]
    rw [e, h2 t]
    constructor
    · rintro (⟨x, hx, _⟩ | ⟨x, hx, h⟩)
      · simp at hx
      · exact ⟨x, hsp.mem_iff.1 hx, h⟩
    · rintro ⟨x, hx, h⟩; exact .inr ⟨x, hsp.mem_iff.2 hx, h⟩
  · rcases h3 x (by simpa [mrg] using hx) with ⟨y, hy, h⟩ | ⟨y, hy, _⟩
    · exact ⟨y, hsp.mem_iff.1 hy, h⟩
    · simp at hy

theorem mrg_perm {l l' : List Wn} (h : l.Perm l') : mrg l = mrg l' := by unfold mrg; rw [srt_of_perm h]

theorem mrgR_apart : ∀ (l st : List Wn), (l.Pairwise fun x y => x.2 ≤ y.1) → (∀ x ∈ st, ∀ w ∈ l, x.2 ≤ w.1) → mrgR st l = l.reverse ++ st
  | [], st, _, _ => by simp [mrgR]
  | w :: l, st, hp, hle => by
    rw [List.pairwise_cons] at hp
    have e : pushW st w = w :: st := by
      cases st with
      | nil => rfl
      | cons t r => unfold pushW; rw [if_neg (by have := hle t (by simp) w (by simp); omega)]
    show mrgR (pushW st w) l = _
    rw [e, mrgR_apart l (w :: st) hp.2 (fun x hx y hy => by
      rcases List.mem_cons.1 hx with rfl | hx
      · exact hp.1 y hy
      · exact hle x hx y (by simp [hy]))]
    simp

theorem mrg_again (l : List Wn) (hg : ∀ x ∈ l, GdW x) : mrg (mrg l) = mrg l := by
  obtain ⟨h1, h2, _, _⟩ := mrg_fits l hg
  generalize mrg l = m at *
  have hs : m = srt m := srt_unique (List.Perm.refl m) (by
    refine h2.imp_of_mem (fun {x y} hx hy h => ?_)
    rw [leW_iff]
    have a := h1 x hx
    have b := h1 y hy
    unfold GdW Gd at a b
    unfold Ls
    omega)
  unfold mrg
  rw [← hs, mrgR_apart m [] h2 (fun x hx => by simp at hx)]
  simp

end Go.Proofs.YtpkieiahhkgjoaaDoor
