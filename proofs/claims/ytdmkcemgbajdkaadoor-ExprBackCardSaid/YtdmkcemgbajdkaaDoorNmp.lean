/-
Package expr: numbers, written and read back: the pure part.
-/
import Derived.Test.YtdmkcemgbajdkaaDoorStp
namespace Go.Proofs.YtdmkcemgbajdkaaDoor
open Go.RowKit

/-- The value of digits, behind those of n. -/
def foldD (n : Nat) (l : List UInt8) : Nat := l.foldl (fun a b => 10 * a + (b - 48).toNat) n
theorem foldD_cons (n : Nat) (b : UInt8) (l : List UInt8) : foldD n (b :: l) = foldD (10 * n + (b - 48).toNat) l := rfl
theorem foldD_snoc (n : Nat) (l : List UInt8) (b : UInt8) : foldD n (l ++ [b]) = 10 * foldD n l + (b - 48).toNat := by simp [foldD]
theorem foldD_ge : ∀ (l : List UInt8) (n : Nat), n ≤ foldD n l
  | [], n => Nat.le_refl n
  | b :: l, n => by
    have := foldD_ge l (10 * n + (b - 48).toNat)
    rw [foldD_cons]
    omega
theorem dig_val : ∀ i : Fin 10, isDig (UInt8.ofNat (48 + i.val)) = true ∧ (UInt8.ofNat (48 + i.val) - 48).toNat = i.val := by decide
theorem dig_of {k : Nat} (h : k < 10) : isDig (UInt8.ofNat (48 + k)) = true ∧ (UInt8.ofNat (48 + k) - 48).toNat = k := dig_val ⟨k, h⟩
/-- The digits of a number that is not 0. -/
theorem digits_form (u : Nat) (h : 0 < u) : ∃ d rest, Lib.decDigits u = d :: rest ∧ isDig d = true ∧ (d - 48).toNat ≠ 0 ∧ (∀ b ∈ rest, isDig b = true) ∧ foldD (d - 48).toNat rest = u := by
  induction u using Nat.strongRecOn with
  | _ u ih =>
    by_cases h10 : u < 10
    · obtain ⟨h1, h2⟩ := dig_of h10
      exact ⟨UInt8.ofNat (48 + u), [], by rw [Lib.decDigits, dif_pos h10], h1, by omega, (fun b hb => by cases hb), h2⟩
    · obtain ⟨d, rest, e, h1, h2, h3, h4⟩ := ih (u / 10) (by omega) (by omega)
      obtain ⟨g1, g2⟩ := dig_of (Nat.mod_lt u (by decide : 0 < 10))
      refine ⟨d, rest ++ [UInt8.ofNat (48 + u % 10)], by rw [Lib.decDigits, dif_neg h10, e]; rfl, h1, h2, fun b hb => ?_, ?_⟩
      · rcases List.mem_append.1 hb with hb | hb
        · exact h3 b hb
        · rcases List.mem_cons.1 hb with rfl | hb
          · exact g1
          · cases hb
      · rw [foldD_snoc, h4, g2]
        omega

theorem num_go {l : List UInt8} {neg : Bool} : ∀ (rest : List UInt8) (f m n : Nat), l.drop m = rest → (∀ b ∈ rest, isDig b = true) → n ≠ 0 → foldD n rest ≤ mostN neg → rest.length ≤ f → nmF l neg f m n true = (m + rest.length, foldD n rest, true)
  | [], 0, m, n, _, _, _, _, _ => rfl
  | [], f + 1, m, n, h, _, _, _, _ => by
    have h0 : lkB l m = 0 := lkB_end (by have := congrArg List.length h; simp at this; omega)
    rw [nmF, h0]
    rfl
  | b :: rest, 0, m, n, _, _, _, _, hf => absurd hf (by simp)
  | b :: rest, f + 1, m, n, h, hd, hn, hm, hf => by
    have hb : lkB l m = b := by
      have : l[m]? = some b := by rw [← Nat.add_zero m, ← List.getElem?_drop, h]; rfl
      unfold lkB
      rw [this]
      rfl
    have hdr : l.drop (m + 1) = rest := by rw [← List.drop_drop, h]; rfl
    rw [foldD_cons] at hm ⊢
    have hge := foldD_ge rest (10 * n + (b - 48).toNat)
    have hbar : barN neg n true (b - 48).toNat = false := by
      unfold barN
      have h1 : decide (n = 0) = false := by simp [hn]
      rw [h1, Bool.false_and, Bool.false_or, decide_eq_false_iff_not]
      omega
    rw [nmF, hb, hd b (List.mem_cons_self ..), hbar]
    rw [if_pos (by rfl), num_go rest f (m + 1) (10 * n + (b - 48).toNat) hdr (fun c hc => hd c (List.mem_cons_of_mem _ hc)) (by omega) hm (by simpa using hf)]
    simp
    omega
/-- The digits of a number, read. -/
theorem num_digits {l : List UInt8} {neg : Bool} {u m f : Nat} (h : l.drop m = Lib.decDigits u) (hu : u ≤ mostN neg) (hn : neg = true → 0 < u) (hf : (Lib.decDigits u).length ≤ f) : nmF l neg f m 0 false = (m + (Lib.decDigits u).length, u, true) := by
  by_cases h0 : u = 0
  · subst h0
    have hneg : neg = false := by
      cases neg with
      | true => exact absurd (hn rfl) (by decide)
      | false => rfl
    subst hneg
    have e : Lib.decDigits 0 = [48] := by rw [Lib.decDigits, dif_pos (by decide)]; rfl
    rw [e] at h hf ⊢
    have hb : lkB l m = 48 := by
      have : l[m]? = some 48 := by rw [← Nat.add_zero m, ← List.getElem?_drop, h]; rfl
      unfold lkB
      rw [this]
      rfl
    have hend : lkB l (m + 1) = 0 := lkB_end (by have := congrArg List.length h; simp at this; omega)
    match f, hf with
    | f + 1, _ =>
      rw [nmF, hb, if_pos (by decide)]
      cases f with
      | zero => rfl
      | succ f => rw [nmF, hend]; rfl
  · obtain ⟨d, rest, e, h1, h2, h3, h4⟩ := digits_form u (by omega)
    rw [e] at h hf ⊢
    have hb : lkB l m = d := by
      have : l[m]? = some d := by rw [← Nat.add_zero m, ← List.getElem?_drop, h]; rfl
      unfold lkB
      rw [this]
      rfl
    have hdr : l.drop (m + 1) = rest := by rw [← List.drop_drop, h]; rfl
    match f, hf with
    | f + 1, hf =>
      have hbar : barN neg 0 false (d - 48).toNat = false := by
        unfold barN
        have h5 : decide ((d - 48).toNat = 0) = false := by simp [h2]
        rw [h5]
        simp
      rw [nmF, hb, h1, hbar, if_pos (by rfl)]
      rw [num_go rest f (m + 1) (10 * 0 + (d - 48).toNat) hdr h3 (by omega) (by rw [Nat.mul_zero, Nat.zero_add, h4]; exact hu) (by simpa using hf), Nat.mul_zero, Nat.zero_add, h4]
      simp
      omega

def ndI (n : Int) : Nd := .mk intW n [] ty0 []
theorem rg_I {n : Int} (h0 : -9223372036854775808 ≤ n) (h1 : n ≤ 9223372036854775807) : RgN 24 (ndI n) := ⟨h0, h1, (by decide : (0 : Nat) ≤ 1000000), fun k hk => by cases hk⟩
theorem show_num {n : Int} (h0 : -9223372036854775808 ≤ n) (h1 : n ≤ 9223372036854775807) : showW (ndI n) = some (Lib.itoa n, 1) := by
  have e : termW 24 (ndI n) ([], 0) = some (Lib.itoa n, 1) := by
    rw [termW_op 23 (ndI n) [] 0 (by simp), if_pos (show (ndI n).op = intW from rfl)]
    rfl
  have := itoa_le n h0 h1
  unfold showW
  rw [e]
  simp only
  rw [if_neg (by omega)]

/-- A number's digits: how they begin. -/
theorem itoa_form (n : Int) : (n < 0 ∧ Lib.itoa n = 45 :: Lib.decDigits n.natAbs) ∨ (0 ≤ n ∧ Lib.itoa n = Lib.decDigits n.toNat) := by
  unfold Lib.itoa
  split
  · exact .inl ⟨by assumption, rfl⟩
  · exact .inr ⟨by omega, rfl⟩
theorem digits_head (u : Nat) : ∃ d rest, Lib.decDigits u = d :: rest ∧ isDig d = true ∧ ∀ b ∈ rest, isDig b = true := by
  by_cases h : u = 0
  · exact ⟨48, [], by rw [h, Lib.decDigits, dif_pos (by decide)]; rfl, by decide, (fun b hb => by cases hb)⟩
  · obtain ⟨d, rest, e, h1, _, h3, _⟩ := digits_form u (by omega)
    exact ⟨d, rest, e, h1, h3⟩
theorem dig_range {b : UInt8} (h : isDig b = true) : 48 ≤ b.toNat ∧ b.toNat ≤ 57 := by
  unfold isDig at h
  simp at h
  exact h
theorem digN {b : UInt8} (h : isDig b = true) : b ≠ 45 ∧ b ≠ 32 ∧ (decide (b = 45) || isDig b) = true := by
  have := dig_range h
  exact ⟨fun e => by rw [e] at this; exact absurd this (by decide), fun e => by rw [e] at this; exact absurd this (by decide), by rw [h, Bool.or_true]⟩
theorem num_S {n : Int} (h0 : -9223372036854775808 ≤ n) (h1 : n ≤ 9223372036854775807) : numN (Lib.itoa n) 0 = ((Lib.itoa n).length, some (ndI n)) ∧ (decide (lkB (Lib.itoa n) 0 = 45) || isDig (lkB (Lib.itoa n) 0)) = true ∧ lkB (Lib.itoa n) 0 ≠ 32 := by
  rcases itoa_form n with ⟨hn, e⟩ | ⟨hn, e⟩
  · have hs : numS (Lib.itoa n) 0 = ((Lib.itoa n).length, n.natAbs, true) := by
      rw [e]
      have := num_digits (l := 45 :: Lib.decDigits n.natAbs) (neg := true) (u := n.natAbs) (m := 1) (f := (45 :: Lib.decDigits n.natAbs).length - 1) rfl (by show _ ≤ 9223372036854775808; omega) (fun _ => by omega) (by simp)
      unfold numS
      have hr : rdB (45 :: Lib.decDigits n.natAbs) 0 45 = true := rfl
      rw [hr]
      show nmF _ true ((45 :: Lib.decDigits n.natAbs).length - 1) 1 0 false = _
      rw [this]
      simp
      omega
    have h45 : lkB (Lib.itoa n) 0 = 45 := by rw [e]; rfl
    refine ⟨?_, by rw [h45]; rfl, by rw [h45]; decide⟩
    unfold numN
    rw [hs]
    have hr : rdB (Lib.itoa n) 0 45 = true := by unfold rdB; rw [h45]; rfl
    rw [hr]
    have hv : numV true n.natAbs = n := by unfold numV; simp; omega
    simp only [if_true, hv]
    rfl
  · obtain ⟨d, rest, ed, hd, _⟩ := digits_head n.toNat
    have hl0 : lkB (Lib.itoa n) 0 = d := by rw [e, ed]; rfl
    obtain ⟨g1, g2, g3⟩ := digN hd
    have hr : rdB (Lib.itoa n) 0 45 = false := by unfold rdB; rw [hl0]; simp [g1]
    have hs : numS (Lib.itoa n) 0 = ((Lib.itoa n).length, n.toNat, true) := by
      have := num_digits (l := Lib.itoa n) (neg := false) (u := n.toNat) (m := 0) (f := (Lib.itoa n).length) (by rw [e]; rfl) (by show _ ≤ 9223372036854775807; omega) (fun h => by cases h) (by rw [e]; exact Nat.le_refl _)
      unfold numS
      rw [hr]
      show nmF _ false ((Lib.itoa n).length - 0) 0 0 false = _
      rw [Nat.sub_zero, this, Nat.zero_add, e]
    refine ⟨?_, by rw [hl0]; exact g3, by rw [hl0]; exact g2⟩
    unfold numN
    rw [hs, hr]
    have hv : numV false n.toNat = n := by unfold numV; simp; omega
    simp only [if_true, hv]
    rfl
theorem parse_num {n : Int} (h0 : -9223372036854775808 ≤ n) (h1 : n ≤ 9223372036854775807) : ∃ m, parseR Knd.parseT (Lib.itoa n) = (m, some (ndI n)) := by
  obtain ⟨e1, e2, e3⟩ := num_S h0 h1
  have hs : skip (Lib.itoa n) 0 = 0 := skip_off e3
  have he : exprR Knd.parseT (Lib.itoa n) 24 (skip (Lib.itoa n) 0) = ((Lib.itoa n).length, some (ndI n)) := by
    rw [hs, exprR, if_pos e2, e1]
  refine ⟨(Lib.itoa n).length, ?_⟩
  unfold parseR
  rw [he]
  show (if skip (Lib.itoa n) (Lib.itoa n).length < (Lib.itoa n).length then _ else _) = _
  rw [skip_same (Nat.le_refl _), if_neg (by omega)]
/-- One nought ahead of a number. -/
theorem parse_nought {n : Int} (hn : 0 < n) : parseR Knd.parseT (48 :: Lib.itoa n) = (1, none) := by
  have e : Lib.itoa n = Lib.decDigits n.toNat := by
    rcases itoa_form n with ⟨h, _⟩ | ⟨_, e⟩
    · omega
    · exact e
  obtain ⟨d, rest, ed, hd, _⟩ := digits_head n.toNat
  rw [e, ed]
  obtain ⟨g1, g2, g3⟩ := digN hd
  have l1 : lkB (48 :: d :: rest) 1 = d := rfl
  have l0 : lkB (48 :: d :: rest) 0 = 48 := rfl
  have hnum : numS (48 :: d :: rest) 0 = (1, 0, true) := by
    unfold numS
    have hr : rdB (48 :: d :: rest) 0 45 = false := rfl
    rw [hr]
    show nmF _ false ((48 :: d :: rest).length - 0) 0 0 false = _
    simp only [List.length_cons, Nat.sub_zero]
    rw [nmF, l0, if_pos (by decide), nmF, l1, hd]
    rfl
  have he : exprR Knd.parseT (48 :: d :: rest) 24 (skip (48 :: d :: rest) 0) = (1, some (ndI 0)) := by
    rw [skip_off (by rw [l0]; decide), exprR, if_pos (by rw [l0]; decide)]
    unfold numN
    rw [hnum]
    rfl
  unfold parseR
  rw [he]
  show (if skip (48 :: d :: rest) 1 < (48 :: d :: rest).length then _ else _) = _
  rw [skip_off (by rw [l1]; exact g2), if_pos (by simp)]

/-- What the digits up to a place come to, a sign left out. -/
def dvN (l : List UInt8) : Nat := l.foldl (fun a b => if b = 45 then a else 10 * a + (b - 48).toNat) 0
theorem dvN_snoc (l : List UInt8) (b : UInt8) : dvN (l ++ [b]) = if b = 45 then dvN l else 10 * dvN l + (b - 48).toNat := by simp [dvN]
theorem dv_ge : ∀ (m : List UInt8) (n : Nat), n ≤ m.foldl (fun a b => if b = 45 then a else 10 * a + (b - 48).toNat) n
  | [], n => Nat.le_refl n
  | b :: m, n => by
    have := dv_ge m (if b = 45 then n else 10 * n + (b - 48).toNat)
    have h2 : n ≤ (if b = 45 then n else 10 * n + (b - 48).toNat) := by split <;> omega
    rw [List.foldl_cons]
    exact Nat.le_trans h2 this
theorem dvN_le (l m : List UInt8) : dvN l ≤ dvN (l ++ m) := by
  unfold dvN
  rw [List.foldl_append]
  exact dv_ge m _
theorem dv_fold : ∀ (l : List UInt8) (n : Nat), (∀ b ∈ l, isDig b = true) → l.foldl (fun a b => if b = 45 then a else 10 * a + (b - 48).toNat) n = foldD n l
  | [], n, _ => rfl
  | b :: l, n, h => by
    have hb := (digN (h b (List.mem_cons_self ..))).1
    simp only [List.foldl_cons, if_neg hb]
    exact dv_fold l _ fun c hc => h c (List.mem_cons_of_mem _ hc)
theorem dv_digits (u : Nat) : dvN (Lib.decDigits u) = u := by
  by_cases h : u = 0
  · rw [h, Lib.decDigits, dif_pos (by decide)]; rfl
  · obtain ⟨d, rest, e, h1, _, h3, h4⟩ := digits_form u (by omega)
    rw [e]
    unfold dvN
    rw [dv_fold (d :: rest) 0 (fun b hb => by
      rcases List.mem_cons.1 hb with rfl | hb
      · exact h1
      · exact h3 b hb), foldD_cons, Nat.mul_zero, Nat.zero_add, h4]
theorem dv_itoa (n : Int) : dvN (Lib.itoa n) = n.natAbs := by
  rcases itoa_form n with ⟨hn, e⟩ | ⟨hn, e⟩
  · rw [e]
    have : dvN (45 :: Lib.decDigits n.natAbs) = dvN (Lib.decDigits n.natAbs) := rfl
    rw [this, dv_digits]
  · rw [e, dv_digits]
    omega
/-- Each byte is a digit, or the sign ahead. -/
theorem itoa_bytes (n : Int) (j : Nat) (b : UInt8) (h : (Lib.itoa n)[j]? = some b) : (b = 45 ∧ j = 0) ∨ (b ≠ 45 ∧ 48 ≤ b.toNat ∧ b.toNat ≤ 57) := by
  have key : ∀ u, ∀ c ∈ Lib.decDigits u, isDig c = true := fun u c hc => by
    obtain ⟨d, rest, e, h1, h2⟩ := digits_head u
    rw [e] at hc
    rcases List.mem_cons.1 hc with rfl | hc
    · exact h1
    · exact h2 c hc
  rcases itoa_form n with ⟨hn, e⟩ | ⟨hn, e⟩
  · rw [e] at h
    cases j with
    | zero => exact .inl ⟨by simpa using h.symm, rfl⟩
    | succ j =>
      have := key _ b (List.mem_of_getElem? (by simpa using h))
      exact .inr ⟨(digN this).1, dig_range this⟩
  · rw [e] at h
    have := key _ b (List.mem_of_getElem? h)
    exact .inr ⟨(digN this).1, dig_range this⟩
theorem itoa_sign (n : Int) : (lkB (Lib.itoa n) 0 = 45) ↔ n < 0 := by
  rcases itoa_form n with ⟨hn, e⟩ | ⟨hn, e⟩
  · rw [e]
    exact ⟨fun _ => hn, fun _ => rfl⟩
  · obtain ⟨d, rest, ed, hd, _⟩ := digits_head n.toNat
    rw [e, ed]
    exact ⟨fun h => absurd h (digN hd).1, fun h => by omega⟩
theorem itoa_20 {n : Int} (h0 : -9223372036854775808 ≤ n) (h1 : n ≤ 9223372036854775807) : (Lib.itoa n).length ≤ 20 := by
  rcases itoa_form n with ⟨hn, e⟩ | ⟨hn, e⟩
  · rw [e, List.length_cons, Lib.decDigits_length]
    have := nDig_le 18 n.natAbs (by omega)
    omega
  · rw [e, Lib.decDigits_length]
    have := nDig_le 18 n.toNat (by omega)
    omega
end Go.Proofs.YtdmkcemgbajdkaaDoor
