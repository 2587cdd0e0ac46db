/-
Stage 11: the document's numbers: plain.
-/
import Derived.Test.YtllnamhgnbdkmaaGreatDoorYo
set_option linter.unusedVariables false
set_option linter.unusedSimpArgs false
namespace Go.Proofs.YtllnamhgnbdkmaaGreatDoor
open Go.RowKit Go.Shelf
def valD (l : List UInt8) : Nat := l.foldl (fun a b => a * 10 + (b.toNat - 48)) 0
def dig (b : UInt8) : Prop := 48 ≤ b.toNat ∧ b.toNat ≤ 57
theorem valD_snoc (l : List UInt8) (b : UInt8) : valD (l ++ [b]) = valD l * 10 + (b.toNat - 48) := by simp [valD]
theorem snoc_ind {P : List UInt8 → Prop} (h0 : P []) (h1 : ∀ l b, P l → P (l ++ [b])) (l : List UInt8) : P l := by
  have : ∀ n (l : List UInt8), l.length = n → P l := by
    intro n
    induction n with
    | zero => intro l h; rw [List.length_eq_zero_iff.1 h]; exact h0
    | succ n ih =>
      intro l h
      have hne : l ≠ [] := fun e => by subst e; simp at h
      rw [← List.dropLast_concat_getLast hne]
      exact h1 _ _ (ih _ (by rw [List.length_dropLast]; omega))
  exact this _ l rfl
theorem valD_lt (l : List UInt8) : (∀ b ∈ l, dig b) → valD l < 10 ^ l.length := by
  induction l using snoc_ind with
  | h0 => intro _; simp [valD]
  | h1 l b ih =>
    intro h
    have h1 := ih fun x hx => h x (by simp [hx])
    have h2 := h b (by simp)
    unfold dig at h2
    rw [valD_snoc, List.length_append, List.length_singleton, Nat.pow_succ]
    omega
theorem dec_valD (l : List UInt8) : (∀ b ∈ l, dig b) → l ≠ [] → (1 < l.length → l[0]? ≠ some 48) → Lib.decDigits (valD l) = l := by
  induction l using snoc_ind with
  | h0 => intro _ h; exact absurd rfl h
  | h1 l b ih =>
    intro h _ hz
    have hb := h b (by simp)
    unfold dig at hb
    have e48 : UInt8.ofNat (48 + (b.toNat - 48)) = b := by
      apply UInt8.toNat_inj.1
      rw [UInt8.toNat_ofNat']
      have := b.toNat_lt
      omega
    rw [valD_snoc]
    by_cases h0 : l = []
    · subst h0
      rw [Lib.decDigits]
      have : valD [] = 0 := rfl
      rw [this, Nat.zero_mul, Nat.zero_add, dif_pos (by omega), e48]
      rfl
    · have hl : 0 < l.length := List.length_pos_iff.2 h0
      have h2 := ih (fun x hx => h x (by simp [hx])) h0 (fun h1 => by
        have := hz (by simp; omega)
        rwa [List.getElem?_append_left (by omega)] at this)
      have h3 := hz (by simp; omega)
      rw [List.getElem?_append_left (by omega)] at h3
      have hp : 0 < valD l := by
        rcases Nat.eq_zero_or_pos (valD l) with h4 | h4
        · rw [h4] at h2
          rw [← h2] at h3
          exact absurd (by rw [Lib.decDigits]; rfl) h3
        · exact h4
      rw [Lib.decDigits, dif_neg (by omega), show (valD l * 10 + (b.toNat - 48)) / 10 = valD l by omega, show (valD l * 10 + (b.toNat - 48)) % 10 = b.toNat - 48 by omega, h2, e48]
theorem valD_dec (u : Nat) : valD (Lib.decDigits u) = u := by
  induction u using Nat.strongRecOn with
  | _ u ih =>
    rw [Lib.decDigits]
    split
    · rename_i h
      show 0 * 10 + ((UInt8.ofNat (48 + u)).toNat - 48) = u
      rw [UInt8.toNat_ofNat']
      omega
    · rename_i h
      rw [valD_snoc, ih (u / 10) (by omega), UInt8.toNat_ofNat']
      omega
def KM (k : Nat) (m : Int) : Prop := m = 10 ^ k - 1 ∧ k ≤ 7 ∧ 1 ≤ k
theorem km3 : KM 3 999 := ⟨by decide, by decide, by decide⟩
theorem km7 : KM 7 9999999 := ⟨by decide, by decide, by decide⟩
theorem goodN_yes {k : Nat} {m : Int} (hk : KM k m) {x : List UInt8} (h1 : 1 ≤ x.length) (h2 : x.length ≤ k) (h3 : ¬ (1 < x.length ∧ x[0]? = some 48)) (h4 : ∀ b ∈ x, dig b) : goodN x m = some (valD x : Int) := by
  obtain ⟨rfl, hk, hk1⟩ := hk
  have e := dec_valD x h4 (fun e => by subst e; simp at h1) (fun h e => h3 ⟨h, e⟩)
  have hl := valD_lt x h4
  have h5 : 10 ^ x.length ≤ 10 ^ k := Nat.pow_le_pow_right (by decide) h2
  have h6 : 10 ^ k ≤ 10 ^ 7 := Nat.pow_le_pow_right (by decide) hk
  have e2 : Lib.itoa (valD x : Int) = x := by rw [Lib.itoa_nonneg, e]
  have h7 : ((10 : Int) ^ k) = ((10 ^ k : Nat) : Int) := by simp
  have := goodN_itoa (v := (valD x : Int)) (m := 10 ^ k - 1) (by omega) (by rw [h7]; omega) (by rw [h7]; omega)
  rwa [e2] at this
theorem goodN_what {k : Nat} {m : Int} (hk : KM k m) {x : List UInt8} {v : Int} (h : goodN x m = some v) : 1 ≤ x.length ∧ x.length ≤ k ∧ ¬ (1 < x.length ∧ x[0]? = some 48) ∧ ∀ b ∈ x, dig b := by
  obtain ⟨rfl, hk, hk1⟩ := hk
  obtain ⟨e, h0, h1⟩ := goodN_back h
  obtain ⟨u, rfl⟩ := Int.eq_ofNat_of_zero_le h0
  rw [Lib.itoa_nonneg] at e
  subst e
  have hl := Lib.decDigits_length u
  have h7 : ((10 : Int) ^ k) = ((10 ^ k : Nat) : Int) := by simp
  have hu : u < 10 ^ k := by rw [h7] at h1; have : 0 < 10 ^ k := Nat.pow_pos (by decide); omega
  have hp := Lib.nDigits_pos u
  refine ⟨by omega, ?_, ?_, dec_byte u⟩
  · rcases Nat.lt_or_ge 1 (Lib.nDigits u) with h2 | h2
    · have h3 := nd_ge u h2
      refine Decidable.byContradiction fun hn => ?_
      have h4 : 10 ^ k ≤ 10 ^ (Lib.nDigits u - 1) := Nat.pow_le_pow_right (by decide) (by omega)
      omega
    · omega
  · rintro ⟨h2, h3⟩
    have h4 := nd_ge u (by omega)
    have h5 := dec_get u 0 (by omega)
    rw [List.getElem?_eq_getElem (by omega)] at h3
    rw [Option.some.inj h3] at h5
    have e48 : ((48 : UInt8).toNat : Int) = 48 := by decide
    rw [e48, hl] at h5
    have h6 : u < 10 ^ Lib.nDigits u := by
      have := valD_lt (Lib.decDigits u) (dec_byte u)
      have h8 : valD (Lib.decDigits u) = u := valD_dec u
      rwa [h8, hl] at this
    have h9 : u / 10 ^ (Lib.nDigits u - 1) < 10 := by
      rw [Nat.div_lt_iff_lt_mul (Nat.pow_pos (by decide)), Nat.mul_comm, ← Nat.pow_succ]
      rwa [show Nat.succ (Lib.nDigits u - 1) = Lib.nDigits u by omega]
    have h10 : 1 ≤ u / 10 ^ (Lib.nDigits u - 1) := by
      rw [Nat.le_div_iff_mul_le (Nat.pow_pos (by decide))]
      omega
    rw [Nat.sub_zero] at h5
    omega
theorem first_mem {c : UInt8} : ∀ {s : List UInt8}, c ∈ s → ∃ a b, (∀ x ∈ a, x ≠ c) ∧ s = a ++ c :: b
  | x :: s, h => by
    by_cases hx : x = c
    · exact ⟨[], s, by simp, by rw [hx]; rfl⟩
    · obtain ⟨a, b, ha, e⟩ := first_mem (List.mem_of_ne_of_mem (Ne.symm hx) h)
      exact ⟨x :: a, b, fun y hy => by rcases List.mem_cons.1 hy with rfl | hy; exact hx; exact ha y hy, by rw [e]; rfl⟩
theorem cut_cases (s : List UInt8) (c : UInt8) : (Lib.cut s [c] = (s, [], false) ∧ ∀ x ∈ s, x ≠ c) ∨ ∃ a b, s = a ++ c :: b ∧ (∀ x ∈ a, x ≠ c) ∧ Lib.cut s [c] = (a, b, true) := by
  by_cases h : c ∈ s
  · obtain ⟨a, b, ha, e⟩ := first_mem h
    exact Or.inr ⟨a, b, e, ha, by rw [e]; exact cut_at ha⟩
  · have hx : ∀ x ∈ s, x ≠ c := fun x hx e => h (e ▸ hx)
    refine Or.inl ⟨?_, hx⟩
    unfold Lib.cut
    rw [index_none hx, if_neg (by decide)]
theorem cut_no (s : List UInt8) (c : UInt8) : ∀ x ∈ (Lib.cut s [c]).1, x ≠ c := by
  rcases cut_cases s c with ⟨e, h⟩ | ⟨a, b, _, h, e⟩ <;> rw [e] <;> exact h
theorem cutR_lt (s : List UInt8) (c : UInt8) (h : (Lib.cut s [c]).2.2 = true) : (Lib.cut s [c]).2.1.length < s.length := by
  rcases cut_cases s c with ⟨e, _⟩ | ⟨a, b, e0, _, e⟩
  · rw [e] at h; cases h
  · rw [e, e0]; simp; omega
theorem cutR_le (s : List UInt8) (c : UInt8) : (Lib.cut s [c]).1.length ≤ s.length ∧ (Lib.cut s [c]).2.1.length ≤ s.length := by
  rcases cut_cases s c with ⟨e, _⟩ | ⟨a, b, e0, _, e⟩
  · rw [e]; simp
  · rw [e, e0]; simp; omega
theorem splitK_cut (c : UInt8) (k : Nat) (s : List UInt8) : Lib.splitK [c] 0 (k + 1) s = if (Lib.cut s [c]).2.2 = true then (Lib.cut s [c]).1 :: Lib.splitK [c] 0 k (Lib.cut s [c]).2.1 else [s] := by
  rcases cut_cases s c with ⟨e, h⟩ | ⟨a, b, e0, h, e⟩
  · rw [e, Lib.splitK, index_none h]
    rfl
  · rw [e, e0, Lib.splitK, index_at h, if_neg (by simp)]
    simp
theorem splitK_big (c : UInt8) : ∀ (k : Nat) (s : List UInt8), s.length ≤ k → Lib.splitK [c] 0 k s = Lib.splitK [c] 0 (k + 1) s
  | 0, s, h => by
    obtain rfl := List.length_eq_zero_iff.1 (Nat.le_zero.1 h)
    rw [splitK_cut]
    rfl
  | k + 1, s, h => by
    rw [splitK_cut, splitK_cut]
    split
    · rename_i hc
      have := cutR_lt s c hc
      rw [splitK_big c k _ (by omega)]
    · rfl
theorem splitK_sat (c : UInt8) (s : List UInt8) (j : Nat) : Lib.splitK [c] 0 (s.length + j) s = Lib.splitK [c] 0 s.length s := by
  induction j with
  | zero => rfl
  | succ j ih => rw [← ih, ← Nat.add_assoc, ← splitK_big c _ s (by omega)]
theorem splitN_K (c : UInt8) (s : List UInt8) (n : Nat) : Lib.splitN s [c] (n + 1) = Lib.splitK [c] 0 n s := by
  unfold Lib.splitN
  by_cases h : n ≤ s.length
  · rw [show min (n + 1) (s.length + 1) - 1 = n by omega]
  · rw [show min (n + 1) (s.length + 1) - 1 = s.length by omega, show n = s.length + (n - s.length) by omega, splitK_sat]
def numsR (m : Int) (c : UInt8) : Nat → List UInt8 → Option (List Int)
  | 0, _ => none
  | f + 1, s => (goodN (Lib.cut s [c]).1 m).bind fun v => if (Lib.cut s [c]).2.2 = true then (numsR m c f (Lib.cut s [c]).2.1).map (v :: ·) else some [v]
def numsP (m : Int) (c : UInt8) (s : List UInt8) : Option (List Int) := numsR m c (s.length + 1) s
theorem numsR_more (m : Int) (c : UInt8) : ∀ (f : Nat) (s : List UInt8), s.length < f → numsR m c f s = numsR m c (f + 1) s
  | 0, s, h => by omega
  | f + 1, s, h => by
    rw [numsR, numsR]
    by_cases hc : (Lib.cut s [c]).2.2 = true
    · have := cutR_lt s c hc
      simp only [if_pos hc]
      rw [numsR_more m c f _ (by omega)]
    · simp only [if_neg hc]
theorem numsR_fuel (m : Int) (c : UInt8) (s : List UInt8) (j : Nat) : numsR m c (s.length + 1 + j) s = numsP m c s := by
  induction j with
  | zero => rfl
  | succ j ih => rw [← ih, ← Nat.add_assoc, ← numsR_more m c _ s (by omega)]
theorem numsP_eq (m : Int) (c : UInt8) (s : List UInt8) : numsP m c s = (goodN (Lib.cut s [c]).1 m).bind fun v => if (Lib.cut s [c]).2.2 = true then (numsP m c (Lib.cut s [c]).2.1).map (v :: ·) else some [v] := by
  unfold numsP
  conv => lhs; rw [numsR]
  by_cases hc : (Lib.cut s [c]).2.2 = true
  · have := cutR_lt s c hc
    simp only [if_pos hc]
    have e : numsR m c s.length (Lib.cut s [c]).2.1 = numsP m c (Lib.cut s [c]).2.1 := by
      have h2 := numsR_fuel m c (Lib.cut s [c]).2.1 (s.length - 1 - (Lib.cut s [c]).2.1.length)
      rwa [show (Lib.cut s [c]).2.1.length + 1 + (s.length - 1 - (Lib.cut s [c]).2.1.length) = s.length by omega] at h2
    rw [e]
    rfl
  · simp only [if_neg hc]
theorem numsP_len {m : Int} {c : UInt8} : ∀ {n : Nat} {s : List UInt8} {l : List Int}, s.length ≤ n → numsP m c s = some l → 1 ≤ l.length ∧ l.length ≤ s.length + 1
  | 0, s, l, hn, h => by
    obtain rfl := List.length_eq_zero_iff.1 (Nat.le_zero.1 hn)
    rw [numsP_eq] at h
    cases hg : goodN (Lib.cut [] [c]).1 m with
    | none => rw [hg] at h; cases h
    | some v => rw [hg, Option.bind_some] at h; have e : (Lib.cut [] [c]).2.2 = false := rfl; rw [e] at h; cases h; simp
  | n + 1, s, l, hn, h => by
    rw [numsP_eq] at h
    cases hg : goodN (Lib.cut s [c]).1 m with
    | none => rw [hg] at h; cases h
    | some v =>
      rw [hg, Option.bind_some] at h
      by_cases hc : (Lib.cut s [c]).2.2 = true
      · have := cutR_lt s c hc
        rw [if_pos hc] at h
        cases hr : numsP m c (Lib.cut s [c]).2.1 with
        | none => rw [hr] at h; cases h
        | some r =>
          rw [hr] at h
          cases h
          have := numsP_len (n := n) (by omega) hr
          simp only [List.length_cons]
          omega
      · rw [if_neg hc] at h
        cases h
        simp
def allM (m : Int) : List (List UInt8) → Option (List Int)
  | [] => some []
  | p :: l => (goodN p m).bind fun v => (allM m l).map (v :: ·)
theorem allM_G : ∀ l, allM 999 l = allG l
  | [] => rfl
  | p :: l => by rw [allM, allG, allM_G l]
theorem allM_len {m : Int} : ∀ {ps : List (List UInt8)} {l : List Int}, allM m ps = some l → l.length = ps.length
  | [], l, h => by cases h; rfl
  | p :: ps, l, h => by
    rw [allM] at h
    cases hg : goodN p m with
    | none => rw [hg] at h; cases h
    | some v =>
      rw [hg, Option.bind_some] at h
      cases hr : allM m ps with
      | none => rw [hr] at h; cases h
      | some r =>
        rw [hr] at h
        cases h
        simp [allM_len hr]
def fewP (k : Nat) : Option (List Int) → Option (List Int)
  | some l => if l.length ≤ k then some l else none
  | none => none
theorem fewP_some (k : Nat) (l : List Int) : fewP k (some l) = if l.length ≤ k then some l else none := rfl
theorem goodN_no {k : Nat} {m : Int} (hk : KM k m) {c : UInt8} (hc : ¬ dig c) {x : List UInt8} (h : c ∈ x) : goodN x m = none := by
  cases hg : goodN x m with
  | none => rfl
  | some v => exact absurd ((goodN_what hk hg).2.2.2 c h) hc
theorem cut_mem {s : List UInt8} {c : UInt8} (h : (Lib.cut s [c]).2.2 = true) : c ∈ s := by
  rcases cut_cases s c with ⟨e, _⟩ | ⟨a, b, e0, _, e⟩
  · rw [e] at h; cases h
  · rw [e0]; simp
theorem cut_self {s : List UInt8} {c : UInt8} (h : (Lib.cut s [c]).2.2 = false) : (Lib.cut s [c]).1 = s := by
  rcases cut_cases s c with ⟨e, _⟩ | ⟨a, b, e0, _, e⟩
  · rw [e]
  · rw [e] at h; cases h
theorem allM_split {q : Nat} {m : Int} (hq : KM q m) {c : UInt8} (hc : ¬ dig c) : ∀ (k : Nat) (s : List UInt8), allM m (Lib.splitK [c] 0 k s) = fewP (k + 1) (numsP m c s)
  | 0, s => by
    rw [Lib.splitK, allM, allM, numsP_eq]
    cases hh : (Lib.cut s [c]).2.2 with
    | true =>
      rw [goodN_no hq hc (cut_mem hh), Option.bind_none]
      cases hg : goodN (Lib.cut s [c]).1 m with
      | none => rfl
      | some v =>
        rw [Option.bind_some, if_pos rfl]
        cases hr : numsP m c (Lib.cut s [c]).2.1 with
        | none => rfl
        | some r =>
          have := (numsP_len (Nat.le_refl _) hr).1
          show none = fewP 1 (some (v :: r))
          rw [fewP_some, if_neg (by simp only [List.length_cons]; omega)]
    | false =>
      rw [cut_self hh]
      cases hg : goodN s m with
      | none => rfl
      | some v =>
        rw [Option.bind_some, Option.bind_some, if_neg (by decide)]
        rfl
  | k + 1, s => by
    rw [splitK_cut, numsP_eq]
    cases hh : (Lib.cut s [c]).2.2 with
    | true =>
      rw [if_pos rfl, allM, allM_split hq hc k]
      cases hg : goodN (Lib.cut s [c]).1 m with
      | none => rfl
      | some v =>
        rw [Option.bind_some, Option.bind_some, if_pos rfl]
        cases hr : numsP m c (Lib.cut s [c]).2.1 with
        | none => rfl
        | some r =>
          show (fewP (k + 1) (some r)).map (v :: ·) = fewP (k + 1 + 1) (some (v :: r))
          rw [fewP_some, fewP_some]
          by_cases hl : r.length ≤ k + 1
          · rw [if_pos hl, if_pos (by simp only [List.length_cons]; omega)]; rfl
          · rw [if_neg hl, if_neg (by simp only [List.length_cons]; omega)]; rfl
    | false =>
      rw [if_neg (by decide), allM, allM, cut_self hh]
      cases hg : goodN s m with
      | none => rfl
      | some v =>
        rw [Option.bind_some, Option.bind_some, if_neg (by decide)]
        show some [v] = fewP (k + 1 + 1) (some [v])
        rw [fewP_some, if_pos (by simp)]
theorem numsP_one {m : Int} {c : UInt8} {x : List UInt8} (h : ∀ b ∈ x, b ≠ c) : numsP m c x = (goodN x m).map fun v => [v] := by
  have e : Lib.cut x [c] = (x, [], false) := by
    rcases cut_cases x c with ⟨e, _⟩ | ⟨a, b, e0, _, e⟩
    · exact e
    · exact absurd rfl (h c (by rw [e0]; simp))
  rw [numsP_eq, e]
  cases goodN x m <;> rfl
theorem not_dig44 : ¬ dig 44 := by unfold dig; decide
theorem not_dig32 : ¬ dig 32 := by unfold dig; decide
theorem placesP_nums (s : List UInt8) : placesP s = (numsP 999 44 s).bind fun l => if l.length ≤ 4 ∧ risG l = true then some l else none := by
  unfold placesP
  rw [splitN_K 44 s 4, ← allM_G, allM_split km3 not_dig44]
  cases numsP 999 44 s with
  | none => rfl
  | some l =>
    rw [Option.bind_some]
    rw [fewP_some]
    by_cases h : l.length ≤ 4 + 1
    · rw [if_pos h]; rfl
    · rw [if_neg h, if_neg (by omega)]; rfl
theorem numsP_single {q : Nat} {m : Int} (hq : KM q m) {c : UInt8} (hc : ¬ dig c) {s : List UInt8} {v : Int} : goodN s m = some v ↔ numsP m c s = some [v] := by
  have h := allM_split hq hc 0 s
  rw [Lib.splitK, allM, allM] at h
  constructor
  · intro e
    rw [e] at h
    cases hn : numsP m c s with
    | none => rw [hn] at h; cases h
    | some l =>
      rw [hn] at h
      rw [fewP_some] at h
      split at h
      · exact h.symm
      · cases h
  · intro e
    rw [e] at h
    cases hg : goodN s m with
    | none => rw [hg] at h; cases h
    | some u =>
      rw [hg] at h
      have h : some [u] = some [v] := h
      injection h with h
      injection h with h
      rw [h]
end Go.Proofs.YtllnamhgnbdkmaaGreatDoor
set_option linter.unusedVariables false
set_option linter.unusedSimpArgs false
namespace Go.Proofs.YtllnamhgnbdkmaaGreatDoor
open Go.RowKit Go.Shelf
theorem ba_to (s : List UInt8) (k : Nat) : (ByteArray.mk s.toArray).extract 0 k = ⟨(s.take k).toArray⟩ := by
  apply ByteArray.ext
  simp [ByteArray.data_extract]
theorem ba_from (s : List UInt8) (k : Nat) : (ByteArray.mk s.toArray).extract k s.length = ⟨(s.drop k).toArray⟩ := by
  apply ByteArray.ext
  simp [ByteArray.data_extract]
  rw [List.take_of_length_le (by simp)]
theorem cut_here {s : List UInt8} {c : UInt8} {j : Nat} (hj : j < s.length) (h : ∀ x ∈ s.take j, x ≠ c) (e : s[j] = c) : Lib.cut s [c] = (s.take j, s.drop (j + 1), true) := by
  have : s = s.take j ++ c :: s.drop (j + 1) := by
    rw [← e, ← List.drop_eq_getElem_cons hj, List.take_append_drop]
  conv => lhs; rw [this]
  exact cut_at h
theorem cut_not {s : List UInt8} {c : UInt8} (h : ∀ x ∈ s, x ≠ c) : Lib.cut s [c] = (s, [], false) := by
  rcases cut_cases s c with ⟨e, _⟩ | ⟨a, b, e0, _, e⟩
  · exact e
  · exact absurd rfl (h c (by rw [e0]; simp))
set_option maxRecDepth 100000 in
set_option maxHeartbeats 1000000 in
theorem rcut_any (s : List UInt8) (c : UInt8) (w : World) (hbig : s.length ≤ 1000000) :
    Calls Tryz.prog 58 #[.string ⟨s.toArray⟩, .int .u8 (c.toNat : Int)] w fun e w' => e = .returned (.tuple #[.string ⟨(Lib.cut s [c]).1.toArray⟩, .string ⟨(Lib.cut s [c]).2.1.toArray⟩, .bool (Lib.cut s [c]).2.2]) ∧ ∃ m, w' = w.drewN m := by
  have hsz : (ByteArray.mk s.toArray).size = s.length := by simp [ByteArray.size]
  have hto := ba_to s
  have hfr := ba_from s
  obtain ⟨B, hB, hsz, hget⟩ : ∃ B : ByteArray, ByteArray.mk s.toArray = B ∧ B.size = s.length ∧ ∀ j (h : j < B.size) (h2 : j < s.length), B[j] = s[j] := ⟨_, rfl, hsz, fun j h h2 => by simp [ByteArray.getElem_eq_getElem_data]⟩
  rw [hB] at hto hfr ⊢
  have HB := Lib.hid hB
  clear hB
  have hbB : B.size ≤ 1000000 := by omega
  have HSZ := Lib.hid hsz
  have HG := Lib.hid hget
  have HTO := Lib.hid hto
  have HFR := Lib.hid hfr
  clear hsz hget hbig hto hfr
  go_enter Tryz.func58, Tryz.ntmps58
  go_wp2_with (fail)
  go_loopw [7] (fun i wr => ∃ (j : Nat), i = .int .i64 j ∧ j ≤ B.size ∧ Hid (∀ x ∈ s.take j, x ≠ c) ∧ w = wr) (fun i _ => B.size - (intOf i).toNat)
  case atStart => exact ⟨0, rfl, Nat.zero_le _, Lib.hid (by simp), rfl⟩
  case round =>
    obtain ⟨j, rfl, hj, HR, rfl⟩ := hrel
    by_cases hlt : j < B.size
    · have hjl : (j : Int) < (B.size : Int) := by omega
      have hjs : j < s.length := by have := HSZ.out; omega
      have hbj := HG.out j hlt hjs
      by_cases hc : s[j] = c
      · have HC := Lib.hid (cut_here hjs HR.out hc)
        have e1 : ((B[j].toNat : Int) == (c.toNat : Int)) = true := by rw [hbj, hc]; simp
        have f0 : (0 : Int) ≤ (j : Int) := by omega
        have f1 : (j : Int) ≤ (B.size : Int) := by omega
        have f3 : (0 : Int) ≤ ((j + 1 : Nat) : Int) := by omega
        have f4 : ((j + 1 : Nat) : Int) ≤ (B.size : Int) := by omega
        clear hbj hc hjs
        go_wp2_with (fail)
        go_quiet (fail)
        go_wp2_with (fail)
        refine bodyPost_ret (v := .tuple #[.string (B.extract 0 j), .string (B.extract (j + 1) B.size), .bool true]) (by simp [results, Tryz.results58, go_sem]) rfl ?_
        rw [HC.out]
        refine ⟨?_, nq, rfl⟩
        rw [← HTO.out j, ← HFR.out (j + 1), HSZ.out]
      · have HE : Hid (∀ x ∈ s.take (j + 1), x ≠ c) := Lib.hid (by
          rw [List.take_add_one, List.getElem?_eq_getElem hjs]
          intro x hx
          rcases List.mem_append.1 hx with h | h
          · exact HR.out x h
          · obtain rfl : x = s[j] := by simpa using h
            exact hc)
        have e1 : ((B[j].toNat : Int) == (c.toNat : Int)) = false := by
          rw [hbj]
          simp
          intro e
          exact hc (UInt8.toNat_inj.1 (by omega))
        clear hbj hc hjs
        go_wp2_with (fail)
        go_roundw
        case rel => exact ⟨j + 1, by go_num, by omega, HE, trivial⟩
        case measure => simp [intOf]; omega
    · obtain rfl : j = B.size := by omega
      have HC : Hid (Lib.cut s [c] = (s, [], false)) := Lib.hid (cut_not (by have := HR.out; rwa [HSZ.out, List.take_length] at this))
      have hjl : ¬ ((B.size : Int) < (B.size : Int)) := by omega
      go_wp2_with (fail)
      refine bodyPost_ret (v := .tuple #[.string B, .string ⟨#[]⟩, .bool false]) (by simp [results, Tryz.results58, go_sem]) rfl ?_
      rw [HC.out]
      exact ⟨by rw [← HB.out], 0, rfl⟩
end Go.Proofs.YtllnamhgnbdkmaaGreatDoor
set_option linter.unusedVariables false
set_option linter.unusedSimpArgs false
namespace Go.Proofs.YtllnamhgnbdkmaaGreatDoor
open Go.RowKit Go.Shelf
theorem parseT_nil : (Knd.parseT []).2 = none := by kernel_rfl
theorem lineR_none {q : List UInt8 → Option (List Int)} {s : List UInt8} (h : ∀ o ∈ gops, o.word ≠ (Lib.cut s [32]).1) : lineR q s = none := by
  unfold lineR
  have e : (gops.find? fun x => x.word == (Lib.cut s [32]).1) = none := by
    rw [List.find?_eq_none]
    intro o ho
    simpa using h o ho
  rw [e]
  rfl
theorem lineR_op {q : List UInt8 → Option (List Int)} {s : List UInt8} {o : Gop} (ho : o ∈ gops) (h : (Lib.cut s [32]).1 = o.word) : lineR q s = opR q (Lib.cut s [32]).2.1 (some o) := by
  have hf : ∀ o ∈ gops, (gops.find? fun x => x.word == o.word) = some o := by decide
  unfold lineR
  rw [h, hf o ho]
theorem opR_some (q : List UInt8 → Option (List Int)) (r : List UInt8) (o : Gop) (n : Nat) (h : o.parts = ((n + 1 : Nat) : Int)) : opR q r (some o) = if (Lib.splitK [32] 0 n r).length < n + 1 then none else nodeP q o.number (Lib.splitK [32] 0 n r) := by
  unfold opR
  dsimp only
  rw [h, Int.toNat_natCast, splitN_K]
  by_cases hl : (Lib.splitK [32] 0 n r).length < n + 1
  · rw [if_pos hl, if_pos (by omega)]
  · rw [if_neg hl, if_neg (by omega)]
theorem op1_eq (q : List UInt8 → Option (List Int)) (r : List UInt8) : opR q r (some gop1) = node1 r := by
  rw [opR_some q r gop1 0 rfl]; rfl
theorem op5_eq (q : List UInt8 → Option (List Int)) (r : List UInt8) : opR q r (some gop5) = node5 q r := by
  rw [opR_some q r gop5 0 rfl]; rfl
theorem op6_eq (q : List UInt8 → Option (List Int)) (r : List UInt8) : opR q r (some gop6) = node6 r := by
  rw [opR_some q r gop6 0 rfl]; rfl
theorem op2_eq (q : List UInt8 → Option (List Int)) (r : List UInt8) : opR q r (some gop2) = if (Lib.cut r [32]).2.2 = true ∧ (Lib.cut (Lib.cut r [32]).2.1 [32]).2.2 = true then node2 q (Lib.cut r [32]).1 (Lib.cut (Lib.cut r [32]).2.1 [32]).1 (Lib.cut (Lib.cut r [32]).2.1 [32]).2.1 else none := by
  rw [opR_some q r gop2 2 rfl, splitK_cut, splitK_cut, Lib.splitK]
  by_cases h1 : (Lib.cut r [32]).2.2 = true
  · rw [if_pos h1]
    by_cases h2 : (Lib.cut (Lib.cut r [32]).2.1 [32]).2.2 = true
    · rw [if_pos h2, if_neg (by simp), if_pos ⟨h1, h2⟩]; rfl
    · rw [if_neg h2, if_pos (by simp), if_neg (fun h => h2 h.2)]
  · rw [if_neg h1, if_pos (by simp), if_neg (fun h => h1 h.1)]
theorem op4_eq (q : List UInt8 → Option (List Int)) (r r1 r2 r3 r4 r5 : List UInt8) (e1 : (Lib.cut r [32]).2.1 = r1) (e2 : (Lib.cut r1 [32]).2.1 = r2) (e3 : (Lib.cut r2 [32]).2.1 = r3) (e4 : (Lib.cut r3 [32]).2.1 = r4) (e5 : (Lib.cut r4 [32]).2.1 = r5) : opR q r (some gop4) = if (Lib.cut r [32]).2.2 = true ∧ (Lib.cut r1 [32]).2.2 = true ∧ (Lib.cut r2 [32]).2.2 = true ∧ (Lib.cut r3 [32]).2.2 = true ∧ (Lib.cut r4 [32]).2.2 = true then node4 (Lib.cut r [32]).1 (Lib.cut r1 [32]).1 (Lib.cut r2 [32]).1 (Lib.cut r3 [32]).1 (Lib.cut r4 [32]).1 r5 else none := by
  rw [opR_some q r gop4 5 rfl, splitK_cut, splitK_cut, splitK_cut, splitK_cut, splitK_cut, Lib.splitK, e1, e2, e3, e4, e5]
  by_cases h1 : (Lib.cut r [32]).2.2 = true
  · rw [if_pos h1]
    by_cases h2 : (Lib.cut r1 [32]).2.2 = true
    · rw [if_pos h2]
      by_cases h3 : (Lib.cut r2 [32]).2.2 = true
      · rw [if_pos h3]
        by_cases h4 : (Lib.cut r3 [32]).2.2 = true
        · rw [if_pos h4]
          by_cases h5 : (Lib.cut r4 [32]).2.2 = true
          · rw [if_pos h5, if_neg (by simp), if_pos ⟨h1, h2, h3, h4, h5⟩]; rfl
          · rw [if_neg h5, if_pos (by simp), if_neg (fun h => h5 h.2.2.2.2)]
        · rw [if_neg h4, if_pos (by simp), if_neg (fun h => h4 h.2.2.2.1)]
      · rw [if_neg h3, if_pos (by simp), if_neg (fun h => h3 h.2.2.1)]
    · rw [if_neg h2, if_pos (by simp), if_neg (fun h => h2 h.2.1)]
  · rw [if_neg h1, if_pos (by simp), if_neg (fun h => h1 h.1)]
def win4 (i : Int) : List Int → Option Gn
  | [a, b, c, d] => some { gz 3 with ins := [i], f0 := a, f1 := b, f2 := c, f3 := d }
  | _ => none
theorem node3_all (p0 p1 p2 p3 p4 : List UInt8) : node3 p0 p1 p2 p3 p4 = (goodN p0 999).bind fun i => (allM 9999999 [p1, p2, p3, p4]).bind (win4 i) := by
  unfold node3
  simp only [allM]
  cases goodN p0 999 <;> cases goodN p1 9999999 <;> cases goodN p2 9999999 <;> cases goodN p3 9999999 <;> cases goodN p4 9999999 <;> rfl
theorem win4_len {i : Int} {l : List Int} (h : l.length ≠ 4) : win4 i l = none := by
  unfold win4
  split
  · exact absurd rfl h
  · rfl
theorem op3_eq (q : List UInt8 → Option (List Int)) (r : List UInt8) : opR q r (some gop3) = if (Lib.cut r [32]).2.2 = true then (goodN (Lib.cut r [32]).1 999).bind fun i => (numsP 9999999 32 (Lib.cut r [32]).2.1).bind (win4 i) else none := by
  rw [opR_some q r gop3 4 rfl, splitK_cut]
  by_cases h1 : (Lib.cut r [32]).2.2 = true
  · rw [if_pos h1, if_pos h1]
    generalize (Lib.cut r [32]).1 = a
    generalize (Lib.cut r [32]).2.1 = r1
    have hs := allM_split km7 not_dig32 3 r1
    have hle : (Lib.splitK [32] 0 3 r1).length ≤ 4 := by
      rw [splitK_cut]
      split
      · rw [splitK_cut]
        split
        · rw [splitK_cut]
          split
          · rw [Lib.splitK]; simp
          · simp
        · simp
      · simp
    generalize Lib.splitK [32] 0 3 r1 = ps at *
    have hw : ∀ i, (numsP 9999999 32 r1).bind (win4 i) = (allM 9999999 ps).bind (win4 i) := by
      intro i
      rw [hs]
      cases numsP 9999999 32 r1 with
      | none => rfl
      | some l =>
        rw [fewP_some]
        by_cases hl : l.length ≤ 3 + 1
        · rw [if_pos hl]
        · rw [if_neg hl, Option.bind_some, win4_len (by omega)]; rfl
    simp only [hw]
    by_cases hp : ps.length = 4
    · obtain ⟨p1, p2, p3, p4, rfl⟩ : ∃ p1 p2 p3 p4, ps = [p1, p2, p3, p4] := by
        match ps, hp with
        | [p1, p2, p3, p4], _ => exact ⟨p1, p2, p3, p4, rfl⟩
      rw [if_neg (by simp)]
      exact node3_all a p1 p2 p3 p4
    · rw [if_pos (by rw [List.length_cons]; omega)]
      cases goodN a 999 with
      | none => rfl
      | some i =>
        rw [Option.bind_some]
        cases hm : allM 9999999 ps with
        | none => rfl
        | some l => rw [Option.bind_some, win4_len (by rw [allM_len hm]; exact hp)]
  · rw [if_neg h1, if_neg h1]
    rfl
theorem lineR_blank {s : List UInt8} (h : (Lib.cut s [32]).2.2 = false) : lineR placesP s = none := by
  have hr : (Lib.cut s [32]).2.1 = [] := by
    rcases cut_cases s 32 with ⟨e, _⟩ | ⟨a, b, e0, _, e⟩
    · rw [e]
    · rw [e] at h; cases h
  have hg : goodN [] 999 = none := by
    cases hg : goodN [] 999 with
    | none => rfl
    | some v => exact absurd (goodN_what km3 hg).1 (by simp)
  have hc : Lib.cut [] [32] = ([], [], false) := by
    rcases cut_cases [] 32 with ⟨e, _⟩ | ⟨a, b, e0, _, e⟩
    · exact e
    · simp at e0
  by_cases hw : ∃ o ∈ gops, o.word = (Lib.cut s [32]).1
  · obtain ⟨o, ho, hw⟩ := hw
    rw [lineR_op ho hw.symm, hr]
    simp only [gops, List.mem_cons, List.not_mem_nil, or_false] at ho
    rcases ho with rfl | rfl | rfl | rfl | rfl | rfl
    · rw [op1_eq]; unfold node1; rw [parseT_nil]
    · rw [op2_eq, hc]; rfl
    · rw [op3_eq, hc]; rfl
    · rw [op4_eq placesP [] [] [] [] [] [] (by rw [hc]) (by rw [hc]) (by rw [hc]) (by rw [hc]) (by rw [hc]), hc]; rfl
    · rw [op5_eq]; unfold node5; rw [placesP_nums, numsP_eq]
      have : Lib.cut [] [44] = ([], [], false) := by
        rcases cut_cases [] 44 with ⟨e, _⟩ | ⟨a, b, e0, _, e⟩
        · exact e
        · simp at e0
      rw [this, hg]; rfl
    · rw [op6_eq]; unfold node6; rw [hg]
  · exact lineR_none fun o ho e => hw ⟨o, ho, e⟩
end Go.Proofs.YtllnamhgnbdkmaaGreatDoor
