/-
Session windows of sorted times, merged: the runs; and inserting a time into sorted times.
-/
import Derived.Test.YtpkieiahhkgjoaaDoorGp
set_option linter.unusedVariables false
namespace Go.Proofs.YtpkieiahhkgjoaaDoor

/-- The window of a time, at a gap. -/
def sesW (g t : Int) : Wn := (t, t + g)

/-- The runs of sorted times: the run that is open began at f, and p is its last time. -/
def runs (g f p : Int) : List Int → List Wn
  | [] => [(f, p + g)]
  | t :: r => if g ≤ t - p then (f, p + g) :: runs g t t r else runs g f t r

def runsOf (g : Int) : List Int → List Wn
  | [] => []
  | t :: r => runs g t t r

/-- The run that is open stands first, and ends after its last time. -/
theorem runs_head (g : Int) : ∀ (r : List Int) (f p : Int), (p :: r).Pairwise (· ≤ ·) → ∃ q tl, runs g f p r = (f, q + g) :: tl ∧ p ≤ q
  | [], f, p, _ => ⟨p, [], rfl, Int.le_refl _⟩
  | t :: r, f, p, h => by
    rw [List.pairwise_cons] at h
    unfold runs
    split
    · exact ⟨p, _, rfl, Int.le_refl _⟩
    · obtain ⟨q, tl, h1, h2⟩ := runs_head g r f t h.2
      exact ⟨q, tl, h1, Int.le_trans (h.1 t (by simp)) h2⟩

theorem mrgR_runs (g : Int) (hg : 1 ≤ g) : ∀ (r : List Int) (f p : Int) (st : List Wn), f ≤ p → (p :: r).Pairwise (· ≤ ·) → (∀ x ∈ st.head?, x.2 ≤ f) →
    (mrgR ((f, p + g) :: st) (r.map (sesW g))).reverse = st.reverse ++ runs g f p r
  | [], f, p, st, _, _, _ => by simp [mrgR, runs]
  | t :: r, f, p, st, hf, hs, hst => by
    rw [List.pairwise_cons] at hs
    have hpt := hs.1 t (by simp)
    show (mrgR (pushW ((f, p + g) :: st) (sesW g t)) (r.map (sesW g))).reverse = _
    unfold runs
    by_cases h : g ≤ t - p
    · have e : pushW ((f, p + g) :: st) (sesW g t) = (t, t + g) :: (f, p + g) :: st := by
        show (if t < p + g then _ else _) = _
        rw [if_neg (by omega)]
        rfl
      rw [e, if_pos h, mrgR_runs g hg r t t ((f, p + g) :: st) (Int.le_refl _) hs.2 (fun x hx => by simp at hx; subst hx; show p + g ≤ t; omega)]
      simp
    · have e : pushW ((f, p + g) :: st) (sesW g t) = (f, t + g) :: st := by
        show (if t < p + g then pushW st ((if t ≤ f then t else f), t + g) else _) = _
        rw [if_pos (by omega)]
        have e2 : (if t ≤ f then t else f) = f := by split <;> omega
        rw [e2]
        cases st with
        | nil => rfl
        | cons x st =>
          have := hst x (by simp)
          show (if f < x.2 then _ else _) = _
          rw [if_neg (by omega)]
      rw [e, if_neg h, mrgR_runs g hg r f t st (by omega) hs.2 hst]

theorem sesW_sorted (g : Int) {l : List Int} (h : l.Pairwise (· ≤ ·)) : (l.map (sesW g)).Pairwise fun a b => leW a b = true := by
  rw [List.pairwise_map]
  refine h.imp fun {a b} hab => ?_
  rw [leW_iff]
  unfold Ls sesW
  dsimp only
  omega

theorem mrg_runs (g : Int) (hg : 1 ≤ g) {ws : List Wn} {l : List Int} (hs : l.Pairwise (· ≤ ·)) (hp : ws.Perm (l.map (sesW g))) : mrg ws = runsOf g l := by
  rw [mrg_perm hp]
  unfold mrg
  rw [← srt_unique (List.Perm.refl _) (sesW_sorted g hs)]
  cases l with
  | nil => rfl
  | cons t r =>
    have := mrgR_runs g hg r t t [] (Int.le_refl _) hs (fun x hx => by simp at hx)
    exact this

/-- A time put where it belongs. -/
theorem ins_sorted {l : List Int} (hs : l.Pairwise (· ≤ ·)) (t : Int) (at_ : Nat) (hat : at_ ≤ l.length) (hhi : ∀ k (h : k < l.length), at_ ≤ k → t < l[k]) (hlo : ∀ k, k + 1 = at_ → (h : k < l.length) → l[k] ≤ t) :
    (l.take at_ ++ t :: l.drop at_).Pairwise (· ≤ ·) ∧ (l.take at_ ++ t :: l.drop at_).Perm (t :: l) := by
  have hlow : ∀ k (h : k < l.length), k < at_ → l[k] ≤ t := fun k h hk => by
    obtain ⟨m, hm⟩ : ∃ m, m + 1 = at_ := ⟨at_ - 1, by omega⟩
    have h1 := hlo m hm (by omega)
    rcases Nat.lt_or_ge k m with h2 | h2
    · exact Int.le_trans (List.pairwise_iff_getElem.1 hs k m h (by omega) h2) h1
    · obtain rfl : k = m := by omega
      exact h1
  refine ⟨?_, ?_⟩
  · rw [List.pairwise_append]
    refine ⟨hs.sublist (List.take_sublist _ _), ?_, ?_⟩
    · rw [List.pairwise_cons]
      refine ⟨fun x hx => ?_, hs.sublist (List.drop_sublist _ _)⟩
      obtain ⟨k, hk, rfl⟩ := List.mem_iff_getElem.1 hx
      rw [List.getElem_drop]
      exact Int.le_of_lt (hhi _ _ (by omega))
    · intro x hx y hy
      obtain ⟨k, hk, rfl⟩ := List.mem_iff_getElem.1 hx
      rw [List.getElem_take]
      have hk2 : k < at_ := by rw [List.length_take] at hk; omega
      have hxt := hlow k (by omega) hk2
      rcases List.mem_cons.1 hy with rfl | hy
      · exact hxt
      · obtain ⟨m, hm, rfl⟩ := List.mem_iff_getElem.1 hy
        rw [List.getElem_drop]
        have := hhi (at_ + m) (by rw [List.length_drop] at hm; omega) (by omega)
        omega
  · refine List.perm_middle.trans ?_
    rw [List.take_append_drop]

/-- How far the walk over the sorted times has come: pre are the runs that are closed. -/
def RunAt (g : Int) (l : List Int) (m : List Wn) (i k : Nat) : Prop :=
  ∃ (pre : List Wn) (f : Int), pre.length = k ∧ ∃ (hi : 0 < i) (hl : i ≤ l.length), f ≤ l[i - 1] ∧ m = pre ++ runs g f (l[i - 1]) (l.drop i)

theorem run_first (g : Int) {l : List Int} (h : 0 < l.length) : RunAt g l (runsOf g l) 1 0 := by
  cases l with
  | nil => simp at h
  | cons t r => exact ⟨[], t, rfl, by omega, by simp, Int.le_refl _, by simp [runsOf]⟩

theorem runAt_get {g : Int} {l : List Int} {m : List Wn} {i k : Nat} (hg : 1 ≤ g) (hs : l.Pairwise (· ≤ ·)) (h : RunAt g l m i k) :
    ∃ (hi : i - 1 < l.length) (hk : k < m.length), (m[k]).1 ≤ l[i - 1] ∧ l[i - 1] < (m[k]).2 ∧ (i = l.length → k + 1 = m.length ∧ (m[k]).2 = l[i - 1] + g) := by
  obtain ⟨pre, f, rfl, hi, hl, hf, rfl⟩ := h
  have hi1 : i - 1 < l.length := by omega
  have hd : l.drop (i - 1) = l[i - 1] :: l.drop i := by
    rw [List.drop_eq_getElem_cons hi1, show i - 1 + 1 = i by omega]
  have hsd : (l[i - 1] :: l.drop i).Pairwise (· ≤ ·) := by rw [← hd]; exact hs.sublist (List.drop_sublist _ _)
  obtain ⟨q, tl, hr, hq⟩ := runs_head g (l.drop i) f (l[i - 1]) hsd
  have hget : ∀ hk : pre.length < (pre ++ runs g f (l[i - 1]) (l.drop i)).length, (pre ++ runs g f (l[i - 1]) (l.drop i))[pre.length] = (f, q + g) := fun hk => by
    simp [hr]
  refine ⟨hi1, by rw [hr]; simp, ?_, ?_, ?_⟩
  · rw [hget]; exact hf
  · rw [hget]; show l[i - 1] < q + g; omega
  · intro e
    have hn : l.drop i = [] := by rw [e]; simp
    rw [hn] at hr
    rw [hget]
    have e3 : [(f, l[i - 1] + g)] = (f, q + g) :: tl := hr
    injection e3 with e1 e2
    injection e1 with _ e1
    exact ⟨by rw [hn]; simp [runs], e1.symm⟩

theorem run_more {g : Int} {l : List Int} {m : List Wn} {i k : Nat} (h : RunAt g l m i k) (hs : l.Pairwise (· ≤ ·)) (hi : i < l.length) :
    (g ≤ l[i] - l[i - 1] → ∃ hk : k < m.length, (m[k]).2 = l[i - 1] + g ∧ RunAt g l m (i + 1) (k + 1) ∧ (∀ hk1 : k + 1 < m.length, (m[k + 1]).1 = l[i])) ∧
    (¬ g ≤ l[i] - l[i - 1] → RunAt g l m (i + 1) k) := by
  obtain ⟨pre, f, rfl, hi0, hl, hf, rfl⟩ := h
  have hd : l.drop i = l[i] :: l.drop (i + 1) := List.drop_eq_getElem_cons hi
  have hle : l[i - 1] ≤ l[i] := List.pairwise_iff_getElem.1 hs (i - 1) i (by omega) hi (by omega)
  have hsd : (l[i] :: l.drop (i + 1)).Pairwise (· ≤ ·) := by rw [← hd]; exact hs.sublist (List.drop_sublist _ _)
  constructor
  · intro h
    have e : runs g f (l[i - 1]) (l.drop i) = (f, l[i - 1] + g) :: runs g (l[i]) (l[i]) (l.drop (i + 1)) := by
      rw [hd]; show (if _ then _ else _) = _; rw [if_pos h]
    obtain ⟨q, tl, hr, hq⟩ := runs_head g (l.drop (i + 1)) (l[i]) (l[i]) hsd
    refine ⟨by rw [e]; simp, by simp [e], ⟨pre ++ [(f, l[i - 1] + g)], l[i], by simp, by omega, by omega, by simp, by rw [e]; simp⟩, fun hk1 => ?_⟩
    simp [e, hr]
  · intro h
    refine ⟨pre, f, rfl, by omega, by omega, by simp; omega, ?_⟩
    rw [hd]
    show pre ++ (if _ then _ else _) = _
    rw [if_neg h]
    simp

end Go.Proofs.YtpkieiahhkgjoaaDoor
