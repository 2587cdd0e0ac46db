/-
Package expr: strings, written and read back: the pure part.
-/
import Derived.Test.YtadbnlnifacblaaGreatDoorWu
import Derived.Test.YtadbnlnifacblaaGreatDoorRp
import Derived.Test.YtadbnlnifacblaaGreatDoorOf
namespace Go.Proofs.YtadbnlnifacblaaGreatDoor
open Go.RowKit
theorem byte_all (Q : UInt8 → Bool) (h : (List.range 256).all (fun i => Q (UInt8.ofNat i)) = true) (b : UInt8) : Q b = true := by
  have hb : b = UInt8.ofNat b.toNat := by simp
  rw [hb]
  exact List.all_eq_true.1 h b.toNat (List.mem_range.2 b.toNat_lt)
theorem quo_one (b : UInt8) : (isPl b || (decide (hexI (hexD (b.toNat / 16)) = some (b.toNat / 16)) && (smC (b.toNat / 16) && (decide (hexI (hexD (b.toNat % 16)) = some (b.toNat % 16)) && decide (UInt8.ofNat (16 * (b.toNat / 16) + b.toNat % 16) = b))))) = true :=
  byte_all (fun b => isPl b || (decide (hexI (hexD (b.toNat / 16)) = some (b.toNat / 16)) && (smC (b.toNat / 16) && (decide (hexI (hexD (b.toNat % 16)) = some (b.toNat % 16)) && decide (UInt8.ofNat (16 * (b.toNat / 16) + b.toNat % 16) = b))))) (by decide +kernel) b
theorem plain_not (b : UInt8) : (!isPl b || (decide (b ≠ 34) && decide (b ≠ 92))) = true :=
  byte_all (fun b => !isPl b || (decide (b ≠ 34) && decide (b ≠ 92))) (by decide +kernel) b
theorem let_quo {l : List UInt8} {m : Nat} {b : UInt8} {rest : List UInt8} (h : l.drop m = quoB b ++ rest) : letS l m = (m + (quoB b).length, some b) ∧ lkB l m ≠ 34 := by
  have hat : ∀ (j : Nat) (c : UInt8), (quoB b ++ rest)[j]? = some c → lkB l (m + j) = c := fun j c hc => by
    have : l[m + j]? = some c := by rw [← List.getElem?_drop, h, hc]
    unfold lkB
    rw [this]
    rfl
  cases hp : isPl b with
  | true =>
    have hq : quoB b = [b] := by unfold quoB; rw [hp]; rfl
    rw [hq] at hat ⊢
    have h0 := hat 0 b rfl
    have hn := plain_not b
    rw [hp] at hn
    simp only [Bool.not_true, Bool.false_or, Bool.and_eq_true, decide_eq_true_eq] at hn
    rw [Nat.add_zero] at h0
    refine ⟨?_, by rw [h0]; exact hn.1⟩
    unfold letS
    rw [h0, if_neg hn.2, hp]
    rfl
  | false =>
    have hq : quoB b = [92, hexD (b.toNat / 16), hexD (b.toNat % 16)] := by unfold quoB; rw [hp]; rfl
    rw [hq] at hat ⊢
    have h0 := hat 0 92 rfl
    have h1 := hat 1 _ rfl
    have h2 := hat 2 _ rfl
    have hn := quo_one b
    rw [hp] at hn
    simp only [Bool.false_or, Bool.and_eq_true, decide_eq_true_eq] at hn
    obtain ⟨g1, g2, g3, g4⟩ := hn
    rw [Nat.add_zero] at h0
    refine ⟨?_, by rw [h0]; decide⟩
    unfold letS
    rw [h0, if_pos rfl]
    unfold codS
    rw [h1, g1]
    simp only
    rw [if_pos g2, show m + 1 + 1 = m + 2 from rfl, h2, g3]
    simp only
    rw [g4, hp]
    rfl
theorem str_quo {l : List UInt8} : ∀ (u acc : List UInt8) (m f : Nat) (rest : List UInt8), l.drop m = quoL u ++ 34 :: rest → acc.length + u.length ≤ 256 → u.length < f → strF l f acc m = (m + (quoL u).length + 1, some (acc ++ u))
  | [], acc, m, f + 1, rest, h, _, _ => by
    have h0 : lkB l m = 34 := by
      have : l[m]? = some 34 := by rw [← Nat.add_zero m, ← List.getElem?_drop, h]; rfl
      unfold lkB
      rw [this]
      rfl
    unfold strF
    rw [if_pos h0]
    simp [quoL]
  | b :: u, acc, m, f + 1, rest, h, hl, hf => by
    have hq : quoL (b :: u) = quoB b ++ quoL u := by simp [quoL]
    rw [hq, List.append_assoc] at h
    obtain ⟨h1, h2⟩ := let_quo h
    simp only [List.length_cons] at hl hf
    unfold strF
    rw [if_neg h2, if_pos (by omega), h1]
    simp only
    have hd : l.drop (m + (quoB b).length) = quoL u ++ 34 :: rest := by
      rw [← List.drop_drop, h, List.drop_left]
    rw [str_quo u (acc ++ [b]) (m + (quoB b).length) f rest hd (by simp; omega) (by omega), hq]
    simp
    omega
  | [], _, _, 0, _, _, _, h => absurd h (Nat.not_lt_zero _)
  | _ :: _, _, _, 0, _, _, _, h => absurd h (Nat.not_lt_zero _)
theorem skip_same {l : List UInt8} {m : Nat} (h : l.length ≤ m) : skip l m = m := skip_off (by rw [lkB_end h]; decide)
end Go.Proofs.YtadbnlnifacblaaGreatDoor
namespace Go.Proofs.YtadbnlnifacblaaGreatDoor
open Go.RowKit
def foldD (n : Nat) (l : List UInt8) : Nat := l.foldl (fun a b => 10 * a + (b - 48).toNat) n
theorem foldD_cons (n : Nat) (b : UInt8) (l : List UInt8) : foldD n (b :: l) = foldD (10 * n + (b - 48).toNat) l := rfl
theorem foldD_snoc (n : Nat) (l : List UInt8) (b : UInt8) : foldD n (l ++ [b]) = 10 * foldD n l + (b - 48).toNat := by simp [foldD]
theorem foldD_ge : ∀ (l : List UInt8) (n : Nat), n ≤ foldD n l
  | [], n => Nat.le_refl n
  | b :: l, n => by
    have := foldD_ge l (10 * n + (b - 48).toNat)
    rw [foldD_cons]
    omega
theorem dig_val : ∀ i : Fin 10, isDig (UInt8.ofNat (48 + i.val)) = true ∧ (UInt8.ofNat (48 + i.val) - 48).toNat = i.val := by decide
theorem dig_of {k : Nat} (h : k < 10) : isDig (UInt8.ofNat (48 + k)) = true ∧ (UInt8.ofNat (48 + k) - 48).toNat = k := dig_val ⟨k, h⟩
theorem digits_form (u : Nat) (h : 0 < u) : ∃ d rest, Lib.decDigits u = d :: rest ∧ isDig d = true ∧ (d - 48).toNat ≠ 0 ∧ (∀ b ∈ rest, isDig b = true) ∧ foldD (d - 48).toNat rest = u := by
  induction u using Nat.strongRecOn with
  | _ u ih =>
    by_cases h10 : u < 10
    · obtain ⟨h1, h2⟩ := dig_of h10
      exact ⟨UInt8.ofNat (48 + u), [], by rw [Lib.decDigits, dif_pos h10], h1, by omega, (fun b hb => by cases hb), h2⟩
    · obtain ⟨d, rest, e, h1, h2, h3, h4⟩ := ih (u / 10) (by omega) (by omega)
      obtain ⟨g1, g2⟩ := dig_of (Nat.mod_lt u (by decide : 0 < 10))
      refine ⟨d, rest ++ [UInt8.ofNat (48 + u % 10)], by rw [Lib.decDigits, dif_neg h10, e]; rfl, h1, h2, fun b hb => ?_, ?_⟩
      · rcases List.mem_append.1 hb with hb | hb
        · exact h3 b hb
        · rcases List.mem_cons.1 hb with rfl | hb
          · exact g1
          · cases hb
      · rw [foldD_snoc, h4, g2]
        omega
theorem itoa_form (n : Int) : (n < 0 ∧ Lib.itoa n = 45 :: Lib.decDigits n.natAbs) ∨ (0 ≤ n ∧ Lib.itoa n = Lib.decDigits n.toNat) := by
  unfold Lib.itoa
  split
  · exact .inl ⟨by assumption, rfl⟩
  · exact .inr ⟨by omega, rfl⟩
theorem digits_head (u : Nat) : ∃ d rest, Lib.decDigits u = d :: rest ∧ isDig d = true ∧ ∀ b ∈ rest, isDig b = true := by
  by_cases h : u = 0
  · exact ⟨48, [], by rw [h, Lib.decDigits, dif_pos (by decide)]; rfl, by decide, (fun b hb => by cases hb)⟩
  · obtain ⟨d, rest, e, h1, _, h3, _⟩ := digits_form u (by omega)
    exact ⟨d, rest, e, h1, h3⟩
theorem dig_range {b : UInt8} (h : isDig b = true) : 48 ≤ b.toNat ∧ b.toNat ≤ 57 := by
  unfold isDig at h
  simp at h
  exact h
theorem digN {b : UInt8} (h : isDig b = true) : b ≠ 45 ∧ b ≠ 32 ∧ (decide (b = 45) || isDig b) = true := by
  have := dig_range h
  exact ⟨fun e => by rw [e] at this; exact absurd this (by decide), fun e => by rw [e] at this; exact absurd this (by decide), by rw [h, Bool.or_true]⟩
end Go.Proofs.YtadbnlnifacblaaGreatDoor
namespace Go.Proofs.YtadbnlnifacblaaGreatDoor
open Go.RowKit
def strp : Bool → List UInt8 → List UInt8
  | _, [] => []
  | true, c :: l => c :: strp (decide (c ≠ 34)) l
  | false, c :: l => if c = 32 then strp false l else c :: strp (decide (c = 34)) l
theorem strp_len : ∀ (x : List UInt8) (b : Bool), (strp b x).length ≤ x.length
  | [], b => by cases b <;> exact Nat.le_refl _
  | c :: x, true => by simp only [strp, List.length_cons]; have := strp_len x (decide (c ≠ 34)); omega
  | c :: x, false => by
    simp only [strp]
    split
    · have := strp_len x false
      simp only [List.length_cons]; omega
    · simp only [List.length_cons]; have := strp_len x (decide (c = 34)); omega
theorem strp_plain : ∀ (t y : List UInt8), (∀ c ∈ t, c ≠ 32 ∧ c ≠ 34) → strp false (t ++ y) = t ++ strp false y
  | [], y, _ => rfl
  | c :: t, y, h => by
    obtain ⟨h1, h2⟩ := h c (List.mem_cons_self ..)
    simp only [List.cons_append, strp, if_neg h1, decide_eq_false h2, strp_plain t y (fun d hd => h d (List.mem_cons_of_mem _ hd))]
theorem strp_in : ∀ (t y : List UInt8), (∀ c ∈ t, c ≠ 34) → strp true (t ++ y) = t ++ strp true y
  | [], y, _ => rfl
  | c :: t, y, h => by
    have h2 := h c (List.mem_cons_self ..)
    simp only [List.cons_append, strp, decide_eq_true h2, strp_in t y (fun d hd => h d (List.mem_cons_of_mem _ hd))]
def Eat (l : List UInt8) (m k : Nat) (t : List UInt8) : Prop := strp false (l.drop m) = t ++ strp false (l.drop k)
theorem Eat.refl (l : List UInt8) (m : Nat) : Eat l m m [] := rfl
theorem Eat.trans {l : List UInt8} {m k j : Nat} {t u : List UInt8} (h : Eat l m k t) (g : Eat l k j u) : Eat l m j (t ++ u) := by
  unfold Eat at *
  rw [h, g, List.append_assoc]
theorem drop_lk {l : List UInt8} {m : Nat} {b : UInt8} (h : lkB l m = b) (h0 : b ≠ 0) : l.drop m = b :: l.drop (m + 1) := by
  have hlt : m < l.length := lkB_lt (by rw [h]; exact h0)
  rw [List.drop_eq_getElem_cons hlt, ← h, lkB_at hlt]
theorem eat_one {l : List UInt8} {m : Nat} {b : UInt8} (h : lkB l m = b) (h0 : b ≠ 0) (h1 : b ≠ 32) (h2 : b ≠ 34) : Eat l m (m + 1) [b] := by
  unfold Eat
  rw [drop_lk h h0]
  exact strp_plain [b] _ (fun c hc => by rcases List.mem_cons.1 hc with rfl | hc; exact ⟨h1, h2⟩; cases hc)
theorem eat_skF (l : List UInt8) : ∀ (f m : Nat), Eat l m (skF l f m) []
  | 0, m => rfl
  | f + 1, m => by
    simp only [skF]
    split
    · rename_i hb
      have := eat_skF l f (m + 1)
      unfold Eat at this ⊢
      rw [drop_lk hb (by decide), ← this]
      rfl
    · rfl
theorem eat_skip (l : List UInt8) (m : Nat) : Eat l m (skip l m) [] := eat_skF l _ m
theorem eat_run {l : List UInt8} {m k : Nat} {t : List UInt8} (h : l.drop m = t ++ l.drop k) (ht : ∀ c ∈ t, c ≠ 32 ∧ c ≠ 34) : Eat l m k t := by
  unfold Eat
  rw [h]
  exact strp_plain t _ ht
theorem digit_of {b : UInt8} (h : isDig b = true) : b = UInt8.ofNat (48 + (b - 48).toNat) ∧ (b - 48).toNat < 10 := by
  have := byte_all (fun b => !isDig b || (decide (b = UInt8.ofNat (48 + (b - 48).toNat)) && decide ((b - 48).toNat < 10))) (by decide +kernel) b
  simp only [h, Bool.not_true, Bool.false_or, Bool.and_eq_true, decide_eq_true_eq] at this
  exact this
theorem dec_snoc {n d : Nat} (hn : n ≠ 0) (hd : d < 10) : Lib.decDigits (10 * n + d) = Lib.decDigits n ++ [UInt8.ofNat (48 + d)] := by
  rw [Lib.decDigits, dif_neg (by omega), show (10 * n + d) / 10 = n by omega, show (10 * n + d) % 10 = d by omega]
theorem dec_one {d : Nat} (hd : d < 10) : Lib.decDigits d = [UInt8.ofNat (48 + d)] := by
  rw [Lib.decDigits, dif_pos hd]
theorem nm_back {l : List UInt8} {neg : Bool} : ∀ (f m n k n' : Nat) (b : Bool), nmF l neg f m n true = (k, n', b) → n ≠ 0 → n ≤ mostN neg →
    ∃ ds, l.drop m = ds ++ l.drop k ∧ (∀ c ∈ ds, isDig c = true) ∧ Lib.decDigits n' = Lib.decDigits n ++ ds ∧ n' ≠ 0 ∧ n' ≤ mostN neg
  | 0, m, n, k, n', b, h, hn, hm => by
    simp only [nmF, Prod.mk.injEq] at h
    obtain ⟨rfl, rfl, rfl⟩ := h
    exact ⟨[], rfl, fun c hc => (by cases hc), by simp, hn, hm⟩
  | f + 1, m, n, k, n', b, h, hn, hm => by
    rw [nmF] at h
    split at h
    · rename_i hc
      simp only [Bool.and_eq_true, Bool.not_eq_true'] at hc
      obtain ⟨hdg, hbar⟩ := hc
      obtain ⟨e, hlt⟩ := digit_of hdg
      unfold barN at hbar
      simp only [Bool.or_eq_false_iff, decide_eq_false_iff_not] at hbar
      have hb2 := hbar.2
      obtain ⟨ds, h1, h2, h3, h4, h5⟩ := nm_back f (m + 1) _ k n' b h (by omega) (by have := mostN neg; unfold mostN at *; cases neg <;> simp at * <;> omega)
      have hne : lkB l m ≠ 0 := fun e0 => by rw [e0] at hdg; exact absurd hdg (by decide)
      refine ⟨lkB l m :: ds, by rw [drop_lk rfl hne, h1]; rfl, fun c hc => ?_, ?_, h4, h5⟩
      · rcases List.mem_cons.1 hc with rfl | hc
        · exact hdg
        · exact h2 c hc
      · rw [h3, dec_snoc hn hlt, ← e]
        simp
    · simp only [Prod.mk.injEq] at h
      obtain ⟨rfl, rfl, rfl⟩ := h
      exact ⟨[], rfl, fun c hc => (by cases hc), by simp, hn, hm⟩
theorem nm_first {l : List UInt8} {neg : Bool} {f m k n' : Nat} (h : nmF l neg f m 0 false = (k, n', true)) :
    ∃ ds, l.drop m = ds ++ l.drop k ∧ (∀ c ∈ ds, isDig c = true) ∧ Lib.decDigits n' = ds ∧ n' ≤ mostN neg ∧ (neg = true → n' ≠ 0) := by
  cases f with
  | zero => simp [nmF] at h
  | succ f =>
    rw [nmF] at h
    split at h
    · rename_i hc
      simp only [Bool.and_eq_true, Bool.not_eq_true'] at hc
      obtain ⟨hdg, hbar⟩ := hc
      obtain ⟨e, hlt⟩ := digit_of hdg
      have hne : lkB l m ≠ 0 := fun e0 => by rw [e0] at hdg; exact absurd hdg (by decide)
      rw [Nat.mul_zero, Nat.zero_add] at h
      by_cases hd0 : (lkB l m - 48).toNat = 0
      · rw [hd0] at h e
        have hng : neg = false := by
          cases neg with
          | false => rfl
          | true => unfold barN at hbar; rw [hd0] at hbar; simp at hbar
        subst hng
        have hk : nmF l false f (m + 1) 0 true = (m + 1, 0, true) := by
          cases f with
          | zero => rfl
          | succ f =>
            rw [nmF, if_neg]
            unfold barN
            simp
        rw [hk] at h
        simp only [Prod.mk.injEq, and_true] at h
        obtain ⟨rfl, rfl⟩ := h
        refine ⟨[lkB l m], by rw [drop_lk rfl hne]; rfl, fun c hc => ?_, by rw [dec_one (by decide), ← e], by omega, fun h => by cases h⟩
        rcases List.mem_cons.1 hc with rfl | hc
        · exact hdg
        · cases hc
      · obtain ⟨ds, h1, h2, h3, h4, h5⟩ := nm_back f (m + 1) _ k n' true h hd0 (by unfold mostN; cases neg <;> simp <;> omega)
        refine ⟨lkB l m :: ds, by rw [drop_lk rfl hne, h1]; rfl, fun c hc => ?_, by rw [h3, dec_one hlt, ← e]; rfl, h5, fun _ => h4⟩
        rcases List.mem_cons.1 hc with rfl | hc
        · exact hdg
        · exact h2 c hc
    · simp at h
theorem dig_plain {c : UInt8} (h : isDig c = true) : c ≠ 32 ∧ c ≠ 34 := by
  have := byte_all (fun b => !isDig b || (decide (b ≠ 32) && decide (b ≠ 34))) (by decide +kernel) c
  simp only [h, Bool.not_true, Bool.false_or, Bool.and_eq_true, decide_eq_true_eq] at this
  exact this
theorem num_back {l : List UInt8} {m k : Nat} {n : Nd} (h : numN l m = (k, some n)) : ∃ v, n = .mk intW v [] ty0 [] ∧ -9223372036854775808 ≤ v ∧ v ≤ 9223372036854775807 ∧ Eat l m k (Lib.itoa v) := by
  unfold numN at h
  obtain ⟨h1, h2⟩ := Prod.mk.inj h
  split at h2
  · rename_i hb
    injection h2 with h2
    cases hq : numS l m with
    | mk k0 q =>
      obtain ⟨n0, b0⟩ := q
      rw [hq] at h1 h2 hb
      simp only at h1 h2 hb
      subst hb; subst h1; subst h2
      unfold numS at hq
      obtain ⟨ds, g1, g2, g3, g4, g5⟩ := nm_first hq
      refine ⟨_, rfl, ?_⟩
      cases hr : rdB l m 45 with
      | false =>
        rw [hr] at g1 g4
        have hv : numV false n0 = (n0 : Int) := rfl
        have hi : Lib.itoa (n0 : Int) = Lib.decDigits n0 := by
          unfold Lib.itoa
          rw [if_neg (by omega)]
          simp
        have h4 : n0 ≤ 9223372036854775807 := g4
        rw [hv, hi, g3]
        exact ⟨by omega, by omega, eat_run g1 (fun c hc => dig_plain (g2 c hc))⟩
      | true =>
        rw [hr] at g1 g4 g5
        have hn0 := g5 rfl
        have hv : numV true n0 = -(n0 : Int) := rfl
        have hi : Lib.itoa (-(n0 : Int)) = 45 :: Lib.decDigits n0 := by
          unfold Lib.itoa
          rw [if_pos (by omega)]
          simp
        have h4 : n0 ≤ 9223372036854775808 := g4
        have h45 : lkB l m = 45 := by unfold rdB at hr; simpa using hr
        rw [hv, hi, g3]
        refine ⟨by omega, by omega, ?_⟩
        have := (eat_one h45 (by decide) (by decide) (by decide)).trans (eat_run (k := k0) (t := ds) g1 (fun c hc => dig_plain (g2 c hc)))
        exact this
  · cases h2
theorem hex_back (c : UInt8) (h : Nat) (e : hexI c = some h) : h < 16 ∧ hexD h = c := by
  have := byte_all (fun b => match hexI b with | none => true | some h => decide (h < 16) && decide (hexD h = b)) (by decide +kernel) c
  rw [e] at this
  simpa using this
theorem hex_ne {c : UInt8} {h : Nat} (e : hexI c = some h) : c ≠ 0 := fun e0 => by rw [e0, hex_zero] at e; cases e
theorem let_back {l : List UInt8} {m k : Nat} {b : UInt8} (h : letS l m = (k, some b)) : l.drop m = quoB b ++ l.drop k := by
  unfold letS at h
  split at h
  · rename_i h92
    unfold codS at h
    split at h
    · simp at h
    · rename_i hi e1
      split at h
      · split at h
        · simp at h
        · rename_i x e2
          split at h
          · simp at h
          · rename_i hp
            simp only [Prod.mk.injEq, Option.some.injEq] at h
            obtain ⟨rfl, rfl⟩ := h
            obtain ⟨a1, a2⟩ := hex_back _ _ e1
            obtain ⟨b1, b2⟩ := hex_back _ _ e2
            have hq : quoB (UInt8.ofNat (16 * hi + x)) = [92, hexD hi, hexD x] := by
              unfold quoB
              rw [if_neg hp]
              have ht : (UInt8.ofNat (16 * hi + x)).toNat = 16 * hi + x := by
                rw [UInt8.toNat_ofNat']
                omega
              rw [ht, show (16 * hi + x) / 16 = hi by omega, show (16 * hi + x) % 16 = x by omega]
            rw [hq, a2, b2, drop_lk h92 (by decide), drop_lk rfl (hex_ne e1), drop_lk rfl (hex_ne e2)]
            rfl
      · simp at h
  · split at h
    · rename_i hp
      simp only [Prod.mk.injEq, Option.some.injEq] at h
      obtain ⟨rfl, rfl⟩ := h
      have hq : quoB (lkB l m) = [lkB l m] := by unfold quoB; rw [if_pos hp]
      rw [hq]
      exact drop_lk rfl (fun e0 => by rw [e0] at hp; exact absurd hp (by decide))
    · simp at h
theorem strF_back {l : List UInt8} : ∀ (f m k : Nat) (acc t : List UInt8), strF l f acc m = (k, some t) → acc.length ≤ 256 → ∃ u, t = acc ++ u ∧ t.length ≤ 256 ∧ l.drop m = quoL u ++ 34 :: l.drop k
  | 0, m, k, acc, t, h, _ => by simp [strF] at h
  | f + 1, m, k, acc, t, h, hl => by
    unfold strF at h
    split at h
    · rename_i h34
      simp only [Prod.mk.injEq, Option.some.injEq] at h
      obtain ⟨rfl, rfl⟩ := h
      exact ⟨[], by simp, hl, by simp [quoL]; exact drop_lk h34 (by decide)⟩
    · split at h
      · rename_i hlt
        split at h
        · simp at h
        · rename_i m' b e
          obtain ⟨u, h1, h2, h3⟩ := strF_back f m' k (acc ++ [b]) t h (by simp; omega)
          refine ⟨b :: u, by rw [h1]; simp, h2, ?_⟩
          rw [let_back e, h3]
          simp [quoL]
      · simp at h
theorem quo_in (b : UInt8) : ∀ c ∈ quoB b, c ≠ 34 := by
  have := byte_all (fun b => (quoB b).all fun c => decide (c ≠ 34)) (by decide +kernel) b
  intro c hc
  have := List.all_eq_true.1 this c hc
  simpa using this
theorem quoL_in (t : List UInt8) : ∀ c ∈ quoL t, c ≠ 34 := by
  intro c hc
  unfold quoL at hc
  obtain ⟨b, _, hb⟩ := List.mem_flatMap.1 hc
  exact quo_in b c hb
theorem str_back {l : List UInt8} {m k : Nat} {n : Nd} (h34 : lkB l m = 34) (h : strN l m = (k, some n)) : ∃ t, n = .mk textW 0 t ty0 [] ∧ t.length ≤ 256 ∧ Eat l m k (quoS t) := by
  unfold strN bindP at h
  split at h
  · simp at h
  · rename_i m' t e
    simp only [Prod.mk.injEq, Option.some.injEq] at h
    obtain ⟨rfl, rfl⟩ := h
    unfold strS at e
    obtain ⟨u, h1, h2, h3⟩ := strF_back _ _ _ _ _ e (by simp)
    rw [List.nil_append] at h1
    subst h1
    refine ⟨t, rfl, h2, ?_⟩
    unfold Eat
    rw [drop_lk h34 (by decide), h3]
    show 34 :: strp true (quoL t ++ 34 :: l.drop m') = _
    rw [strp_in _ _ (quoL_in t)]
    simp [quoS, strp]
theorem nl_chars (x : List UInt8) : ∀ (f n j : Nat) (c : UInt8), n ≤ j → j < nlF x f n → x[j]? = some c → ∃ i, nmC i (some c) = true
  | 0, n, j, c, h1, h2, _ => by simp only [nlF] at h2; omega
  | f + 1, n, j, c, h1, h2, hc => by
    rw [nl_step] at h2
    split at h2
    · rename_i hn
      by_cases hj : j = n
      · subst hj
        rw [hc] at hn
        exact ⟨_, hn⟩
      · exact nl_chars x f (n + 1) j c (by omega) h2 hc
    · omega
theorem nmC_plain {i : Nat} {c : UInt8} (h : nmC i (some c) = true) : c ≠ 32 ∧ c ≠ 34 ∧ c ≠ 44 ∧ c ≠ 41 ∧ c ≠ 40 := by
  have := byte_all (fun b => !(isLet b || (isDig b || decide (b = 95))) || (decide (b ≠ 32) && (decide (b ≠ 34) && (decide (b ≠ 44) && (decide (b ≠ 41) && decide (b ≠ 40)))))) (by decide +kernel) c
  have h2 : (isLet c || (isDig c || decide (c = 95))) = true := by
    unfold nmC at h
    simp only [Bool.or_eq_true, Bool.and_eq_true, decide_eq_true_eq] at h ⊢
    rcases h with h | ⟨_, h⟩
    · exact .inl h
    · exact .inr h
  simp only [h2, Bool.not_true, Bool.false_or, Bool.and_eq_true, decide_eq_true_eq] at this
  exact this
theorem nm_plain {t : List UInt8} (h : nmL t = t.length) : ∀ c ∈ t, c ≠ 32 ∧ c ≠ 34 := fun c hc => by
  obtain ⟨j, hj, e⟩ := List.getElem_of_mem hc
  obtain ⟨i, hi⟩ := nl_chars t 16 0 j c (Nat.zero_le _) (by show j < nmL t; omega) (by rw [List.getElem?_eq_getElem hj, e])
  exact ⟨(nmC_plain hi).1, (nmC_plain hi).2.1⟩
theorem spel_nm (l : List UInt8) (m : Nat) : nmL (spel l m) = (spel l m).length := by
  rw [spel_len]
  refine nl_same 16 0 (Nat.zero_le _) (fun j hj => ?_) (.inr ?_)
  · have hj' : j < nmL (l.drop m) := hj
    unfold spel
    rw [List.getElem?_take, if_pos hj']
  · refine List.getElem?_eq_none_iff.2 ?_
    show (spel l m).length ≤ nmL (l.drop m)
    rw [spel_len]
    exact Nat.le_refl _
theorem spel_drop (l : List UInt8) (m : Nat) : l.drop m = spel l m ++ l.drop (m + (spel l m).length) := by
  have : l.drop m = (l.drop m).take (nmL (l.drop m)) ++ (l.drop m).drop (nmL (l.drop m)) := (List.take_append_drop _ _).symm
  rw [List.drop_drop] at this
  rw [spel_len]
  exact this
theorem eat_spel (l : List UInt8) (m : Nat) : Eat l m (m + (spel l m).length) (spel l m) := eat_run (spel_drop l m) (nm_plain (spel_nm l m))
theorem words_plain : ∀ x ∈ Knd.words, ∀ c ∈ x.name.data.toList, c ≠ 32 ∧ c ≠ 34 := by decide
theorem textL_plain (f : Ty → List UInt8) : ∀ (l : List Ty) (i : Nat), (∀ a ∈ l, ∀ c ∈ f a, c ≠ 32 ∧ c ≠ 34) → ∀ c ∈ Knd.textL f l i, c ≠ 32 ∧ c ≠ 34
  | [], i, _, c, hc => by cases hc
  | a :: l, i, h, c, hc => by
    rcases List.mem_cons.1 hc with rfl | hc
    · unfold Knd.aheadB
      split <;> decide
    · rcases List.mem_append.1 hc with hc | hc
      · exact h a (List.mem_cons_self ..) c hc
      · exact textL_plain f l (i + 1) (fun b hb => h b (List.mem_cons_of_mem _ hb)) c hc
theorem textT_plain : ∀ (r : Nat) (t : Ty) (q : Nat), Knd.measureT r t = some q → ∀ c ∈ Knd.textT r t, c ≠ 32 ∧ c ≠ 34
  | 0, t, q, h, c, hc => by cases hc
  | r + 1, t, q, h, c, hc => by
    obtain ⟨x, hx, _, hw, hall⟩ := Knd.measure_right h
    unfold Knd.textT at hc
    rw [hx] at hc
    rcases List.mem_append.1 hc with hc | hc
    · rcases List.mem_append.1 hc with hc | hc
      · exact words_plain x hw c hc
      · exact textL_plain _ t.args 0 (fun a ha => by obtain ⟨q', hq'⟩ := hall a ha; exact textT_plain r a q' hq') c hc
    · split at hc
      · rcases List.mem_cons.1 hc with rfl | hc
        · decide
        · cases hc
      · cases hc
theorem typ_back {l : List UInt8} {m k : Nat} {t : Ty} (h : typR Knd.parseT l m = (k, some t)) : (∃ q, Knd.measureT 6 t = some q) ∧ Eat l m k (Knd.textT 6 t) := by
  unfold typR at h
  split at h
  · rename_i k0 t0 e
    simp only [Prod.mk.injEq, Option.some.injEq] at h
    obtain ⟨rfl, rfl⟩ := h
    obtain ⟨e1, q, hq⟩ := Knd.parse_back e
    refine ⟨⟨q, hq⟩, eat_run ?_ (textT_plain 6 _ q hq)⟩
    rw [e1, List.drop_length, List.append_nil]
  · rename_i k0 e
    simp only [Prod.mk.injEq] at h
    obtain ⟨rfl, h2⟩ := h
    cases hp : Knd.parseT ((l.drop m).take k0) with
    | mk k1 o =>
      rw [hp] at h2
      simp only at h2
      subst h2
      obtain ⟨e1, q, hq⟩ := Knd.parse_back hp
      refine ⟨⟨q, hq⟩, eat_run ?_ (textT_plain 6 _ q hq)⟩
      rw [e1, ← List.drop_drop, List.take_append_drop]
def Good (r : Nat) (l : List UInt8) (m k : Nat) (n : Nd) : Prop :=
  RgN r n ∧ ∃ t c, Eat l m k t ∧ ∀ s : StW, s.1.length + t.length ≤ 4096 → termW r n s = some (s.1 ++ t, s.2 + c)
theorem bare_0 : bareN 0 [] ty0 [] = true := rfl
theorem good_name {r : Nat} {t : List UInt8} (h : isNm t = true) : RgN (r + 1) (nameN t) ∧ ∀ s : StW, s.1.length + t.length ≤ 4096 → termW (r + 1) (nameN t) s = some (s.1 ++ t, s.2 + 1) := by
  have hle := name_le h
  refine ⟨⟨(by decide : (-9223372036854775808 : Int) ≤ 0), (by decide : (0 : Int) ≤ 9223372036854775807), (by show t.length ≤ 1000000; omega), fun k hk => by cases hk⟩, fun s hs => ?_⟩
  rw [show s = (s.1, s.2) from rfl, termW_op r (nameN t) s.1 s.2 (by omega), if_neg (show ¬ (nameN t).op = intW from (by decide : ¬ nameW = intW)), if_neg (show ¬ (nameN t).op = textW from (by decide : ¬ nameW = textW)), if_pos (show (nameN t).op = nameW from rfl), if_pos (show isNm (nameN t).text = true from h)]
  rfl
theorem parts_good {r : Nat} {l : List UInt8} {least : Nat} (hf : ∀ m k n, exprR Knd.parseT l (r + 1) m = (k, some n) → Good (r + 1) l m k n) :
    ∀ (ps : List UInt8) (i : Nat) (mark : UInt8) (m k : Nat) (nd n : Nd), (∀ p ∈ ps, p = 101 ∨ p = 110) → (mark = 40 ∨ mark = 44) → partsR Knd.parseT (exprR Knd.parseT l (r + 1)) l least ps i mark m nd = (k, some n) →
    ∃ kids, n = .mk nd.op nd.int nd.text nd.ty (nd.kids ++ kids) ∧ 1 ≤ kids.length ∧ kids.length ≤ ps.length ∧ least ≤ i + kids.length ∧ (∀ x ∈ kids, RgN (r + 1) x) ∧
      ∃ t c, Eat l m k t ∧ ∀ s : StW, s.1.length + t.length ≤ 4096 → kidsW (termW (r + 1)) kids ps mark s = some (s.1 ++ t, s.2 + c)
  | [], i, mark, m, k, nd, n, _, _, h => by simp [partsR] at h
  | p :: ps, i, mark, m, k, nd, n, hps, hmk, h => by
    unfold partsR at h
    -- the mark
    cases hq : markR l m mark with
    | mk m1 o1 =>
    rw [hq] at h
    cases o1 with
    | none => simp [bindP] at h
    | some u1 =>
    have hmark : Eat l m m1 [mark] := by
      unfold markR at hq
      split at hq
      · rename_i hb
        simp only [Prod.mk.injEq] at hq
        obtain ⟨rfl, _⟩ := hq
        have hb' : lkB l (skip l m) = mark := by unfold rdB at hb; simpa using hb
        have := (eat_skip l m).trans (eat_one hb' (by rcases hmk with rfl | rfl <;> decide) (by rcases hmk with rfl | rfl <;> decide) (by rcases hmk with rfl | rfl <;> decide))
        exact this
      · simp at hq
    simp only [bindP] at h
    -- the part
    cases hp : partR Knd.parseT (exprR Knd.parseT l (r + 1)) l p m1 nd with
    | mk m2 o2 =>
    rw [hp] at h
    cases o2 with
    | none => simp at h
    | some nd' =>
    have hpart : ∃ kid t c, nd' = .mk nd.op nd.int nd.text nd.ty (nd.kids ++ [kid]) ∧ ¬ (p = 110 ∧ kid.op ≠ nameW) ∧ RgN (r + 1) kid ∧ Eat l m1 m2 t ∧ ∀ s : StW, s.1.length + t.length ≤ 4096 → termW (r + 1) kid s = some (s.1 ++ t, s.2 + c) := by
      unfold partR at hp
      rcases hps p (List.mem_cons_self ..) with rfl | rfl
      · rw [if_neg (by decide), if_neg (by decide), if_neg (by decide)] at hp
        unfold bindP at hp
        split at hp
        · simp at hp
        · rename_i m3 kid e
          simp only [Prod.mk.injEq, Option.some.injEq] at hp
          obtain ⟨rfl, rfl⟩ := hp
          obtain ⟨hr, t, c, h1, h2⟩ := hf _ _ _ e
          exact ⟨kid, t, c, rfl, fun h => absurd h.1 (by decide), hr, (eat_skip l m1).trans h1, h2⟩
      · rw [if_neg (by decide), if_neg (by decide), if_pos rfl] at hp
        unfold bindP at hp
        split at hp
        · simp at hp
        · rename_i m3 kid e
          simp only [Prod.mk.injEq, Option.some.injEq] at hp
          obtain ⟨rfl, rfl⟩ := hp
          unfold nameR at e
          simp only [Prod.mk.injEq] at e
          obtain ⟨rfl, e2⟩ := e
          split at e2
          · rename_i hn
            injection e2 with e2
            subst e2
            obtain ⟨h1, h2⟩ := good_name (r := r) hn
            exact ⟨_, _, 1, rfl, fun h => h.2 rfl, h1, (eat_skip l m1).trans (eat_spel l _), h2⟩
          · cases e2
    obtain ⟨kid, t, c, rfl, hnm, hrg, heat, hw⟩ := hpart
    simp only at h
    have key : ∀ (k' : Nat) (kids : List Nd) (t' : List UInt8) (c' : Nat), (∀ s : StW, s.1.length + t'.length ≤ 4096 → kidsW (termW (r + 1)) kids ps 44 s = some (s.1 ++ t', s.2 + c')) → ∀ s : StW, s.1.length + ([mark] ++ (t ++ t')).length ≤ 4096 → kidsW (termW (r + 1)) (kid :: kids) (p :: ps) mark s = some (s.1 ++ ([mark] ++ (t ++ t')), s.2 + (c + c')) := by
      intro _ kids t' c' hk s hs
      simp only [List.length_append, List.length_cons, List.length_nil] at hs
      rw [kidsW, if_neg hnm, hw (s.1 ++ [mark], s.2) (by simp; omega)]
      simp only
      rw [hk (s.1 ++ [mark] ++ t, s.2 + c) (by simp; omega)]
      simp [Nat.add_assoc]
    split at h
    · rename_i hle
      cases hq3 : markR l m2 41 with
      | mk m3 o3 =>
      rw [hq3] at h
      cases o3 with
      | some u3 =>
        simp only [Prod.mk.injEq, Option.some.injEq] at h
        obtain ⟨rfl, rfl⟩ := h
        have hend : Eat l m2 m3 [41] := by
          unfold markR at hq3
          split at hq3
          · rename_i hb
            simp only [Prod.mk.injEq] at hq3
            obtain ⟨rfl, _⟩ := hq3
            have hb' : lkB l (skip l m2) = 41 := by unfold rdB at hb; simpa using hb
            exact (eat_skip l m2).trans (eat_one hb' (by decide) (by decide) (by decide))
          · simp at hq3
        refine ⟨[kid], rfl, by simp, by simp, hle, fun x hx => ?_, _, _, hmark.trans (heat.trans hend), key m3 [] [41] 0 (fun s _ => rfl)⟩
        rcases List.mem_cons.1 hx with rfl | hx
        · exact hrg
        · cases hx
      | none =>
        simp only at h
        have hm3 : Eat l m2 m3 [] := by
          unfold markR at hq3
          split at hq3
          · simp at hq3
          · simp only [Prod.mk.injEq] at hq3
            obtain ⟨rfl, _⟩ := hq3
            exact eat_skip l m2
        obtain ⟨kids, h1, h2, h3, h4, h5, t', c', h6, h7⟩ := parts_good hf ps (i + 1) 44 m3 k _ n (fun q hq => hps q (List.mem_cons_of_mem _ hq)) (.inr rfl) h
        refine ⟨kid :: kids, by rw [h1]; simp [Nd.op, Nd.int, Nd.text, Nd.ty, Nd.kids], by simp, by simp; omega, by simp; omega, fun x hx => ?_, _, _, hmark.trans (heat.trans (hm3.trans h6)), key m3 kids t' c' h7⟩
        rcases List.mem_cons.1 hx with rfl | hx
        · exact hrg
        · exact h5 x hx
    · obtain ⟨kids, h1, h2, h3, h4, h5, t', c', h6, h7⟩ := parts_good hf ps (i + 1) 44 m2 k _ n (fun q hq => hps q (List.mem_cons_of_mem _ hq)) (.inr rfl) h
      refine ⟨kid :: kids, by rw [h1]; simp [Nd.op, Nd.int, Nd.text, Nd.ty, Nd.kids], by simp, by simp; omega, by simp; omega, fun x hx => ?_, _, _, hmark.trans (heat.trans h6), key m2 kids t' c' h7⟩
      rcases List.mem_cons.1 hx with rfl | hx
      · exact hrg
      · exact h5 x hx
theorem mark_back {l : List UInt8} {m k : Nat} {b : UInt8} (h : markR l m b = (k, some ())) (h0 : b ≠ 0) (h1 : b ≠ 32) (h2 : b ≠ 34) : Eat l m k [b] := by
  unfold markR at h
  split at h
  · rename_i hb
    simp only [Prod.mk.injEq] at h
    obtain ⟨rfl, _⟩ := h
    have hb' : lkB l (skip l m) = b := by unfold rdB at hb; simpa using hb
    exact (eat_skip l m).trans (eat_one hb' h0 h1 h2)
  · simp at h
theorem part_one {f : Nat → Nat × Option Nd} {l : List UInt8} {p : UInt8} {m k : Nat} {nd n : Nd} (h : partsR Knd.parseT f l 1 [p] 0 40 m nd = (k, some n)) : ∃ m1 m2, Eat l m m1 [40] ∧ partR Knd.parseT f l p m1 nd = (m2, some n) ∧ Eat l m2 k [41] := by
  unfold partsR at h
  cases hq : markR l m 40 with
  | mk m1 o1 =>
  rw [hq] at h
  cases o1 with
  | none => simp [bindP] at h
  | some u1 =>
  simp only [bindP] at h
  cases hp : partR Knd.parseT f l p m1 nd with
  | mk m2 o2 =>
  rw [hp] at h
  cases o2 with
  | none => simp at h
  | some nd' =>
  simp only at h
  rw [if_pos (by decide)] at h
  cases hq3 : markR l m2 41 with
  | mk m3 o3 =>
  rw [hq3] at h
  cases o3 with
  | none => simp [partsR] at h
  | some u3 =>
    simp only [Prod.mk.injEq, Option.some.injEq] at h
    obtain ⟨rfl, rfl⟩ := h
    exact ⟨m1, m2, mark_back hq (by decide) (by decide) (by decide), hp, mark_back hq3 (by decide) (by decide) (by decide)⟩
theorem itoa_dig : ∀ b : UInt8, (!isDig b || decide (Lib.itoa ((b.toNat : Int) - 48) = [b])) = true := by
  intro b
  cases h : isDig b with
  | false => rfl
  | true =>
    obtain ⟨e, hlt⟩ := digit_of h
    obtain ⟨h1, h2⟩ := dig_range h
    have e2 : ((b.toNat : Int) - 48) = (((b.toNat - 48 : Nat)) : Int) := by omega
    have e3 : b = UInt8.ofNat (48 + (b.toNat - 48)) := by rw [show 48 + (b.toNat - 48) = b.toNat by omega]; simp
    have : Lib.itoa ((b.toNat : Int) - 48) = [b] := by
      rw [e2]
      unfold Lib.itoa
      rw [if_neg (by omega), Int.toNat_natCast, dec_one (by omega), ← e3]
    rw [this]
    simp
def wdOkB (x : List UInt8 × List UInt8) : Bool := decide (x.2 = []) || (decide (x.2 = [100]) || (decide (x.2 = [116]) || (hasB x.2 101 && (x.2.all fun p => decide (p = 101) || decide (p = 110)))))
theorem wdL_ok : (wdL.all wdOkB) = true := by decide +kernel
theorem wd_cases {t p : List UInt8} {least : Nat} (h : wdP t = some (p, least)) : (p = [] ∧ least = 0) ∨ (p = [100] ∧ least = 1) ∨ (p = [116] ∧ least = 1) ∨ (hasB p 101 = true ∧ (∀ q ∈ p, q = 101 ∨ q = 110) ∧ 1 ≤ least ∧ least ≤ p.length) := by
  unfold wdP at h
  split at h
  · injection h with h
    injection h with h1 h2
    subst h1; subst h2
    exact .inr (.inr (.inr ⟨by decide +kernel, fun q hq => .inl (List.eq_of_mem_replicate hq), by decide, by decide⟩))
  · obtain ⟨x, hx, e⟩ := Option.map_eq_some_iff.1 h
    injection e with h1 h2
    subst h1; subst h2
    have := List.all_eq_true.1 wdL_ok x (List.mem_of_find?_eq_some hx)
    unfold wdOkB at this
    simp only [Bool.or_eq_true, Bool.and_eq_true, decide_eq_true_eq, List.all_eq_true] at this
    rcases this with h | h | h | ⟨h, g⟩
    · exact .inl ⟨h, by rw [h]; rfl⟩
    · exact .inr (.inl ⟨h, by rw [h]; rfl⟩)
    · exact .inr (.inr (.inl ⟨h, by rw [h]; rfl⟩))
    · refine .inr (.inr (.inr ⟨h, g, ?_, Nat.le_refl _⟩))
      cases hp : x.2 with
      | nil => rw [hp] at h; exact absurd h (by decide)
      | cons a b => simp
theorem no_int : wdP intW = none := by decide +kernel
theorem no_text : wdP textW = none := by decide +kernel
theorem no_name : wdP nameW = none := by decide +kernel
theorem word_op {t : List UInt8} {x : List UInt8 × Nat} (h : wdP t = some x) : t ≠ intW ∧ t ≠ textW ∧ t ≠ nameW :=
  ⟨fun e => (by rw [e, no_int] at h; cases h), fun e => (by rw [e, no_text] at h; cases h), fun e => (by rw [e, no_name] at h; cases h)⟩
theorem term_word {r : Nat} {n : Nd} {x : List UInt8 × Nat} (h : wdP n.op = some x) (s : StW) (hs : s.1.length ≤ 4096) : termW (r + 1) n s = wordP (termW r) x.1 x.2 n (s.1, s.2 + 1) := by
  obtain ⟨h1, h2, h3⟩ := word_op h
  rw [show s = (s.1, s.2) from rfl, termW_op r n s.1 s.2 (by omega), if_neg h1, if_neg h2, if_neg h3]
  unfold wordW
  rw [h]
theorem expr_good (l : List UInt8) : ∀ (r m k : Nat) (n : Nd), exprR Knd.parseT l r m = (k, some n) → Good r l m k n
  | 0, m, k, n, h => by simp [exprR] at h
  | r + 1, m, k, n, h => by
    rw [exprR] at h
    split at h
    · obtain ⟨v, rfl, h0, h1, he⟩ := num_back h
      refine ⟨⟨h0, h1, (by decide : (0 : Nat) ≤ 1000000), fun k hk => by cases hk⟩, _, 1, he, fun s hs => ?_⟩
      rw [show s = (s.1, s.2) from rfl, termW_op r _ s.1 s.2 (by omega), if_pos (show Nd.op (.mk intW v [] ty0 []) = intW from rfl)]
      rfl
    · split at h
      · rename_i h34
        obtain ⟨t, rfl, ht, he⟩ := str_back h34 h
        refine ⟨⟨(by decide : (-9223372036854775808 : Int) ≤ 0), (by decide : (0 : Int) ≤ 9223372036854775807), (by show t.length ≤ 1000000; omega), fun k hk => by cases hk⟩, _, 1, he, fun s hs => ?_⟩
        rw [show s = (s.1, s.2) from rfl, termW_op r _ s.1 s.2 (by omega), if_neg (show ¬ Nd.op (.mk textW 0 t ty0 []) = intW from (by decide : ¬ textW = intW)), if_pos (show Nd.op (.mk textW 0 t ty0 []) = textW from rfl), if_neg (show ¬ 256 < (Nd.mk textW 0 t ty0 []).text.length from (by show ¬ 256 < t.length; omega))]
        rfl
      · split at h
        · rename_i hlet
          split at h
          · rename_i hw
            simp only [Prod.mk.injEq, Option.some.injEq] at h
            obtain ⟨rfl, rfl⟩ := h
            have hn : isNm (spel l m) = true := by
              unfold isNm
              rw [hw]
              simp only [spel_nm, decide_true, Bool.and_true, Option.isNone_none]
              refine decide_eq_true fun e => ?_
              have h0 : lkB l m ≠ 0 := fun e0 => by rw [e0] at hlet; exact absurd hlet (by decide)
              have hlen : nmL (l.drop m) = 0 := by rw [← spel_len, e]; rfl
              rw [drop_lk rfl h0] at hlen
              unfold nmL at hlen
              rw [nl_step] at hlen
              have : nmC 0 (lkB l m :: l.drop (m + 1))[0]? = true := by show (isLet (lkB l m) || _) = true; rw [hlet]; rfl
              rw [this, if_pos rfl] at hlen
              have h3 : 1 ≤ nlF (lkB l m :: l.drop (m + 1)) 15 (0 + 1) := (nlF_le (lkB l m :: l.drop (m + 1)) 15 1 (by simp)).1
              omega
            obtain ⟨h1, h2⟩ := good_name (r := r) hn
            exact ⟨h1, _, 1, eat_spel l m, h2⟩
          · rename_i p least hw
            split at h
            · simp at h
            · rename_i hlast
              split at h
              · rename_i hp
                simp only [Prod.mk.injEq, Option.some.injEq] at h
                obtain ⟨rfl, rfl⟩ := h
                subst hp
                have hsp := (spel_le l m)
                refine ⟨⟨(by decide : (-9223372036854775808 : Int) ≤ 0), (by decide : (0 : Int) ≤ 9223372036854775807), (by decide : (0 : Nat) ≤ 1000000), fun k hk => by cases hk⟩, _, 1, eat_spel l m, fun s hs => ?_⟩
                rw [term_word (n := .mk (spel l m) 0 [] ty0 []) hw s (by omega)]
                rfl
              · rename_i hp
                rcases wd_cases hw with ⟨h1, _⟩ | ⟨rfl, rfl⟩ | ⟨rfl, rfl⟩ | ⟨h1, h2, h3, h4⟩
                · exact absurd h1 hp
                · obtain ⟨m1, m2, e1, e2, e3⟩ := part_one h
                  unfold partR at e2
                  rw [if_pos rfl] at e2
                  unfold bindP at e2
                  split at e2
                  · simp at e2
                  · rename_i m3 v e
                    simp only [Prod.mk.injEq, Option.some.injEq] at e2
                    obtain ⟨rfl, rfl⟩ := e2
                    unfold digR at e
                    split at e
                    · rename_i hd
                      simp only [Prod.mk.injEq, Option.some.injEq] at e
                      obtain ⟨rfl, rfl⟩ := e
                      obtain ⟨g1, g2⟩ := dig_range hd
                      obtain ⟨g3, g4⟩ := dig_plain hd
                      have hi := itoa_dig (lkB l (skip l m1))
                      rw [hd] at hi
                      simp only [Bool.not_true, Bool.false_or, decide_eq_true_eq] at hi
                      have e4 : Eat l m1 (skip l m1 + 1) [lkB l (skip l m1)] := (eat_skip l m1).trans (eat_one rfl (fun e0 => by rw [e0] at hd; exact absurd hd (by decide)) g3 g4)
                      refine ⟨⟨(by show (-9223372036854775808 : Int) ≤ ((lkB l (skip l m1)).toNat : Int) - 48; omega), (by show ((lkB l (skip l m1)).toNat : Int) - 48 ≤ 9223372036854775807; omega), (by decide : (0 : Nat) ≤ 1000000), fun k hk => by cases hk⟩, _, 1, (eat_spel l m).trans (e1.trans (e4.trans e3)), fun s hs => ?_⟩
                      show termW (r + 1) (.mk (spel l m) (((lkB l (skip l m1)).toNat : Int) - 48) [] ty0 []) s = _
                      rw [term_word (n := .mk (spel l m) (((lkB l (skip l m1)).toNat : Int) - 48) [] ty0 []) hw s (by omega)]
                      unfold wordP
                      rw [if_neg (by decide), if_pos (by decide), if_neg (show ¬ ((Nd.mk (spel l m) (((lkB l (skip l m1)).toNat : Int) - 48) [] ty0 []).int < 0 ∨ 9 < (Nd.mk (spel l m) (((lkB l (skip l m1)).toNat : Int) - 48) [] ty0 []).int) from (by show ¬ (((lkB l (skip l m1)).toNat : Int) - 48 < 0 ∨ 9 < ((lkB l (skip l m1)).toNat : Int) - 48); omega)), if_pos (by rfl)]
                      show some (s.1 ++ spel l m ++ ([40] ++ Lib.itoa (((lkB l (skip l m1)).toNat : Int) - 48) ++ [41]), s.2 + 1) = _
                      rw [hi]
                      simp
                    · simp at e
                · obtain ⟨m1, m2, e1, e2, e3⟩ := part_one h
                  unfold partR at e2
                  rw [if_neg (by decide), if_pos rfl] at e2
                  unfold bindP at e2
                  split at e2
                  · simp at e2
                  · rename_i m3 v e
                    simp only [Prod.mk.injEq, Option.some.injEq] at e2
                    obtain ⟨rfl, rfl⟩ := e2
                    obtain ⟨⟨q, hq⟩, e4⟩ := typ_back e
                    refine ⟨⟨(by decide : (-9223372036854775808 : Int) ≤ 0), (by decide : (0 : Int) ≤ 9223372036854775807), (by decide : (0 : Nat) ≤ 1000000), fun k hk => by cases hk⟩, _, 1, (eat_spel l m).trans (e1.trans (((eat_skip l m1).trans e4).trans e3)), fun s hs => ?_⟩
                    show termW (r + 1) (.mk (spel l m) 0 [] v []) s = _
                    rw [term_word (n := .mk (spel l m) 0 [] v []) hw s (by omega)]
                    unfold wordP
                    rw [if_neg (by decide), if_neg (by decide), if_pos (by decide), if_pos (show (Knd.measureT 6 (Nd.mk (spel l m) 0 [] v []).ty).isSome = true from (by show (Knd.measureT 6 v).isSome = true; rw [hq]; rfl)), if_pos (by rfl)]
                    show some (s.1 ++ spel l m ++ ([40] ++ Knd.textT 6 v ++ [41]), s.2 + 1) = _
                    simp
                · match r, hlast, h with
                  | 0, hlast, h => rw [h1] at hlast; exact absurd rfl hlast
                  | r + 1, _, h =>
                    obtain ⟨kids, g1, g2, g3, g4, g5, t, c, g6, g7⟩ := parts_good (fun m k n => expr_good l (r + 1) m k n) p 0 40 _ k _ n h2 (.inl rfl) h
                    have g1' : n = .mk (spel l m) 0 [] ty0 kids := g1
                    subst g1'
                    refine ⟨⟨(by decide : (-9223372036854775808 : Int) ≤ 0), (by decide : (0 : Int) ≤ 9223372036854775807), (by decide : (0 : Nat) ≤ 1000000), g5⟩, _, c + 1, (eat_spel l m).trans g6, fun s hs => ?_⟩
                    rw [term_word (n := .mk (spel l m) 0 [] ty0 kids) hw s (by omega)]
                    unfold wordP
                    simp only [List.length_append] at hs
                    rw [if_pos h1, if_neg (show ¬ ((Nd.mk (spel l m) 0 [] ty0 kids).kids.length < least ∨ p.length < (Nd.mk (spel l m) 0 [] ty0 kids).kids.length) from (by show ¬ (kids.length < least ∨ p.length < kids.length); omega))]
                    show ((kidsW (termW (r + 1)) kids p 40 (s.1 ++ spel l m, s.2 + 1)).bind fun s' => if bareN 0 [] ty0 [] then some s' else none) = _
                    rw [g7 (s.1 ++ spel l m, s.2 + 1) (by simp; omega)]
                    simp [bare_0]
                    omega
        · simp at h
theorem parse_good {l : List UInt8} {k : Nat} {n : Nd} (h : parseR Knd.parseT l = (k, some n)) (hl : l.length ≤ 4096) : RgN 24 n ∧ ∃ c, showW n = some (strp false l, c) := by
  unfold parseR at h
  unfold bindP at h
  split at h
  · simp at h
  · rename_i m n' e
    simp only at h
    split at h
    · simp at h
    · rename_i hend
      simp only [Prod.mk.injEq, Option.some.injEq] at h
      obtain ⟨rfl, rfl⟩ := h
      obtain ⟨hr, t, c, he, hw⟩ := expr_good l 24 _ _ _ e
      have h1 : strp false l = t := by
        have := (eat_skip l 0).trans (he.trans (eat_skip l m))
        unfold Eat at this
        rw [List.drop_zero, List.drop_eq_nil_of_le (by omega : l.length ≤ skip l m)] at this
        simpa [strp] using this
      have hlen := strp_len l false
      rw [h1] at hlen
      refine ⟨hr, c, ?_⟩
      unfold showW
      rw [hw ([], 0) (by simp; omega)]
      simp only [List.nil_append]
      rw [if_neg (by omega), h1, Nat.zero_add]
theorem lk_drop {l x : List UInt8} {m : Nat} (h : l.drop m = x) : lkB l m = (x.head?).getD 0 := by
  unfold lkB
  rw [← h, List.head?_drop]
theorem lk_cons {l x : List UInt8} {m : Nat} {c : UInt8} (h : l.drop m = c :: x) : lkB l m = c := lk_drop h
def Fol (rest : List UInt8) : Prop := ∀ c, rest.head? = some c → c = 44 ∨ c = 41
def Fow (rest : List UInt8) : Prop := ∀ c, rest.head? = some c → c = 44 ∨ c = 41 ∨ c = 40
theorem Fol.w {rest : List UInt8} (h : Fol rest) : Fow rest := fun c hc => (h c hc).elim .inl (fun x => .inr (.inl x))
theorem fol_nil : Fol [] := fun c h => by cases h
theorem nl_ends {x rest : List UInt8} (hr : Fow rest) : ∀ (f n : Nat), n ≤ x.length → nlF x f n = x.length → nlF (x ++ rest) f n = x.length
  | 0, n, hn, h => h
  | f + 1, n, hn, h => by
    rw [nl_step] at h ⊢
    rcases Nat.lt_or_ge n x.length with hlt | hge
    · rw [List.getElem?_append_left hlt]
      split at h
      · rename_i hc
        rw [if_pos hc]
        exact nl_ends hr f (n + 1) hlt h
      · omega
    · have e : n = x.length := by omega
      subst e
      rw [List.getElem?_append_right (Nat.le_refl _), Nat.sub_self]
      rw [if_neg]
      intro hc
      cases hq : rest with
      | nil => rw [hq] at hc; exact absurd hc (by simp [nmC])
      | cons c y =>
        rw [hq] at hc
        obtain ⟨_, _, g1, g2, g3⟩ := nmC_plain (i := x.length) (c := c) hc
        rcases hr c (by rw [hq]; rfl) with e | e | e
        · exact g1 e
        · exact g2 e
        · exact g3 e
theorem spel_at {l t rest : List UInt8} {m : Nat} (h : l.drop m = t ++ rest) (ht : nmL t = t.length) (hr : Fow rest) : spel l m = t := by
  unfold spel
  rw [h]
  have : nmL (t ++ rest) = t.length := nl_ends hr 16 0 (Nat.zero_le _) ht
  rw [this, List.take_left]
theorem nm_first_let {c : UInt8} {t : List UInt8} (h : nmL (c :: t) = (c :: t).length) : isLet c = true := by
  unfold nmL at h
  rw [nl_step] at h
  split at h
  · rename_i hc
    have : nmC 0 (some c) = true := hc
    unfold nmC at this
    simpa using this
  · simp at h
theorem let_plain {c : UInt8} (h : isLet c = true) : (decide (c = 45) || isDig c) = false ∧ c ≠ 34 ∧ c ≠ 32 ∧ c ≠ 0 := by
  have := byte_all (fun b => !isLet b || (!(decide (b = 45) || isDig b) && (decide (b ≠ 34) && (decide (b ≠ 32) && decide (b ≠ 0))))) (by decide +kernel) c
  simp only [h, Bool.not_true, Bool.false_or, Bool.and_eq_true, decide_eq_true_eq, Bool.not_eq_true'] at this
  exact this
theorem fol_dig {rest : List UInt8} (h : Fol rest) : isDig ((rest.head?).getD 0) = false := by
  cases rest with
  | nil => rfl
  | cons c y =>
    rcases h c rfl with e | e
    · subst e; exact (by decide : isDig 44 = false)
    · subst e; exact (by decide : isDig 41 = false)
theorem num_go2 {l r2 : List UInt8} {neg : Bool} (hr : Fol r2) : ∀ (ds : List UInt8) (f m n : Nat), l.drop m = ds ++ r2 → (∀ b ∈ ds, isDig b = true) → n ≠ 0 → foldD n ds ≤ mostN neg → ds.length ≤ f → nmF l neg f m n true = (m + ds.length, foldD n ds, true)
  | [], 0, m, n, _, _, _, _, _ => rfl
  | [], f + 1, m, n, h, _, _, _, _ => by
    rw [nmF, lk_drop h, List.nil_append, fol_dig hr]
    rfl
  | b :: rest, 0, m, n, _, _, _, _, hf => absurd hf (by simp)
  | b :: rest, f + 1, m, n, h, hd, hn, hm, hf => by
    have hb : lkB l m = b := lk_cons h
    have hdr : l.drop (m + 1) = rest ++ r2 := by rw [← List.drop_drop, h]; rfl
    rw [foldD_cons] at hm ⊢
    have hge := foldD_ge rest (10 * n + (b - 48).toNat)
    have hbar : barN neg n true (b - 48).toNat = false := by
      unfold barN
      have h1 : decide (n = 0) = false := by simp [hn]
      rw [h1, Bool.false_and, Bool.false_or, decide_eq_false_iff_not]
      omega
    rw [nmF, hb, hd b (List.mem_cons_self ..), hbar]
    rw [if_pos (by rfl), num_go2 hr rest f (m + 1) (10 * n + (b - 48).toNat) hdr (fun c hc => hd c (List.mem_cons_of_mem _ hc)) (by omega) hm (by simpa using hf)]
    simp
    omega
theorem num_digits2 {l r2 : List UInt8} {neg : Bool} {u m f : Nat} (hr : Fol r2) (h : l.drop m = Lib.decDigits u ++ r2) (hu : u ≤ mostN neg) (hn : neg = true → 0 < u) (hf : (Lib.decDigits u).length ≤ f) : nmF l neg f m 0 false = (m + (Lib.decDigits u).length, u, true) := by
  by_cases h0 : u = 0
  · subst h0
    have hneg : neg = false := by
      cases neg with
      | true => exact absurd (hn rfl) (by decide)
      | false => rfl
    subst hneg
    have e : Lib.decDigits 0 = [48] := by rw [Lib.decDigits, dif_pos (by decide)]; rfl
    rw [e] at h hf ⊢
    have hb : lkB l m = 48 := lk_cons h
    have hend : isDig (lkB l (m + 1)) = false := by
      rw [lk_drop (x := r2) (by rw [← List.drop_drop, h]; rfl)]
      exact fol_dig hr
    match f, hf with
    | f + 1, _ =>
      rw [nmF, hb, if_pos (by decide)]
      cases f with
      | zero => rfl
      | succ f => rw [nmF, hend]; rfl
  · obtain ⟨d, rest, e, h1, h2, h3, h4⟩ := digits_form u (by omega)
    rw [e] at h hf ⊢
    have hb : lkB l m = d := lk_cons h
    have hdr : l.drop (m + 1) = rest ++ r2 := by rw [← List.drop_drop, h]; rfl
    match f, hf with
    | f + 1, hf =>
      have hbar : barN neg 0 false (d - 48).toNat = false := by
        unfold barN
        have h5 : decide ((d - 48).toNat = 0) = false := by simp [h2]
        rw [h5]
        simp
      rw [nmF, hb, h1, hbar, if_pos (by rfl)]
      rw [num_go2 hr rest f (m + 1) (10 * 0 + (d - 48).toNat) hdr h3 (by omega) (by rw [Nat.mul_zero, Nat.zero_add, h4]; exact hu) (by simpa using hf), Nat.mul_zero, Nat.zero_add, h4]
      simp
      omega
theorem num_read {l r2 : List UInt8} {m : Nat} {v : Int} (hr : Fol r2) (h0 : -9223372036854775808 ≤ v) (h1 : v ≤ 9223372036854775807) (h : l.drop m = Lib.itoa v ++ r2) :
    numN l m = (m + (Lib.itoa v).length, some (.mk intW v [] ty0 [])) ∧ (decide (lkB l m = 45) || isDig (lkB l m)) = true := by
  have hlen := congrArg List.length h
  simp only [List.length_drop, List.length_append] at hlen
  rcases itoa_form v with ⟨hn, e⟩ | ⟨hn, e⟩
  · rw [e] at h hlen ⊢
    have h45 : lkB l m = 45 := lk_cons h
    have hdr : l.drop (m + 1) = Lib.decDigits v.natAbs ++ r2 := by rw [← List.drop_drop, h]; rfl
    have hrd : rdB l m 45 = true := by unfold rdB; rw [h45]; rfl
    simp only [List.length_cons] at hlen
    have hs : numS l m = (m + 1 + (Lib.decDigits v.natAbs).length, v.natAbs, true) := by
      unfold numS
      rw [hrd]
      exact num_digits2 (neg := true) hr hdr (by show _ ≤ 9223372036854775808; omega) (fun _ => by omega) (by show _ ≤ l.length - (m + 1); omega)
    refine ⟨?_, by rw [h45]; rfl⟩
    unfold numN
    rw [hs, hrd]
    have hv : numV true v.natAbs = v := by unfold numV; simp; omega
    simp only [if_true, hv, List.length_cons, Prod.mk.injEq, and_true]
    omega
  · obtain ⟨d, rest, ed, hd, _⟩ := digits_head v.toNat
    rw [e] at h hlen ⊢
    have hl0 : lkB l m = d := lk_cons (by rw [h, ed]; rfl)
    obtain ⟨g1, g2, g3⟩ := digN hd
    have hrd : rdB l m 45 = false := by unfold rdB; rw [hl0]; simp [g1]
    have hs : numS l m = (m + (Lib.decDigits v.toNat).length, v.toNat, true) := by
      unfold numS
      rw [hrd]
      exact num_digits2 (neg := false) hr h (by show _ ≤ 9223372036854775807; omega) (fun h => by cases h) (by show _ ≤ l.length - m; omega)
    refine ⟨?_, by rw [hl0]; exact g3⟩
    unfold numN
    rw [hs, hrd]
    have hv : numV false v.toNat = v := by unfold numV; simp; omega
    simp only [if_true, hv]
theorem typ_read {l r2 : List UInt8} {m q : Nat} {t : Ty} (hq : Knd.measureT 6 t = some q) (h : l.drop m = Knd.textT 6 t ++ 41 :: r2) : typR Knd.parseT l m = (m + (Knd.textT 6 t).length, some t) := by
  have h1 : Knd.parseT (Knd.textT 6 t ++ 41 :: r2) = ((Knd.textT 6 t).length, none) := by
    unfold Knd.parseT
    rw [Knd.read_text 6 t q _ hq]
    simp
  unfold typR
  rw [h, h1]
  simp only
  rw [List.take_left, Knd.parse_text hq]
theorem bare_back {i : Int} {t : List UInt8} {ty : Ty} {kids : List Nd} (h : bareN i t ty kids = true) : i = 0 ∧ t = [] ∧ ty = ty0 ∧ kids = [] := by
  unfold bareN at h
  simp only [Bool.and_eq_true, decide_eq_true_eq] at h
  obtain ⟨h1, h2, h3, h4, h5⟩ := h
  refine ⟨h1, h2, ?_, List.eq_nil_of_length_eq_zero h5⟩
  cases ty with
  | mk k a =>
    have : a = [] := List.eq_nil_of_length_eq_zero h4
    subst this
    have : k = 0 := h3
    subst this
    rfl
theorem term_name {r : Nat} {n : Nd} {s s' : StW} (h : termW r n s = some s') (hn : n.op = nameW) : ∃ t, n = nameN t ∧ isNm t = true ∧ s'.1 = s.1 ++ t := by
  cases r with
  | zero => simp [termW] at h
  | succ r =>
    unfold termW at h
    rw [hn] at h
    split at h
    · cases h
    · rw [if_neg (by decide), if_neg (by decide), if_pos rfl] at h
      split at h
      · rename_i h1
        split at h
        · rename_i h2
          injection h with h
          subst h
          obtain ⟨g1, _, g2, g3⟩ := bare_back h2
          refine ⟨n.text, ?_, h1, rfl⟩
          cases n with
          | mk o i t ty k =>
            simp only [Nd.op, Nd.int, Nd.ty, Nd.kids, Nd.text] at *
            subst g1; subst g2; subst g3; subst hn
            rfl
        · cases h
      · cases h
theorem nm_of {t : List UInt8} (h : isNm t = true) : t ≠ [] ∧ nmL t = t.length ∧ wdP t = none := by
  unfold isNm at h
  simp only [Bool.and_eq_true, decide_eq_true_eq, Option.isNone_iff_eq_none] at h
  exact ⟨h.1.1, h.1.2, h.2⟩
def Beg (t : List UInt8) : Prop := ∃ c y, t = c :: y ∧ c ≠ 32
def RdOk (r : Nat) : Prop := ∀ (n : Nd) (s s' : StW), RgN r n → termW r n s = some s' → ∃ t, s'.1 = s.1 ++ t ∧ Beg t ∧ ∀ (l : List UInt8) (m : Nat) (rest : List UInt8), l.drop m = t ++ rest → Fol rest → exprR Knd.parseT l r m = (m + t.length, some n)
theorem skip_beg {l t y : List UInt8} {m : Nat} (h : l.drop m = t ++ y) (hb : Beg t) : skip l m = m := by
  obtain ⟨c, z, rfl, hc⟩ := hb
  exact skip_off (by rw [lk_cons h]; exact hc)
theorem mark_read {l y : List UInt8} {m : Nat} {b : UInt8} (h : l.drop m = b :: y) (hb : b ≠ 32) : markR l m b = (m + 1, some ()) := by
  have hl := lk_cons h
  unfold markR
  rw [skip_off (by rw [hl]; exact hb)]
  unfold rdB
  rw [hl]
  simp
theorem mark_not {l y : List UInt8} {m : Nat} {b c : UInt8} (h : l.drop m = c :: y) (hb : c ≠ 32) (hn : c ≠ b) : markR l m b = (m, none) := by
  have hl := lk_cons h
  unfold markR
  rw [skip_off (by rw [hl]; exact hb)]
  unfold rdB
  rw [hl]
  simp [hn]
theorem kids_read {r : Nat} (hf : RdOk r) (least : Nat) : ∀ (kids : List Nd) (ps : List UInt8) (i : Nat) (mark : UInt8) (s s' : StW), kids ≠ [] → (∀ x ∈ kids, RgN r x) → least ≤ i + kids.length → (∀ p ∈ ps, p = 101 ∨ p = 110) → (mark = 40 ∨ mark = 44) → kidsW (termW r) kids ps mark s = some s' →
    ∃ t, s'.1 = s.1 ++ mark :: t ∧ ∀ (l : List UInt8) (m : Nat) (rest : List UInt8) (nd : Nd), l.drop m = mark :: t ++ rest → partsR Knd.parseT (exprR Knd.parseT l r) l least ps i mark m nd = (m + (t.length + 1), some (.mk nd.op nd.int nd.text nd.ty (nd.kids ++ kids)))
  | [], _, _, _, _, _, h, _, _, _, _, _ => absurd rfl h
  | n :: kids, [], i, mark, s, s', _, _, _, _, _, h => by simp [kidsW] at h
  | n :: kids, p :: ps, i, mark, s, s', _, hrg, hle, hps, hmk, h => by
    unfold kidsW at h
    split at h
    · cases h
    · rename_i hnm
      split at h
      · cases h
      · rename_i s2 e
        obtain ⟨t1, h1, hb1, hr1⟩ := hf n _ s2 (hrg n (List.mem_cons_self ..)) e
        simp only at h1
        have h32 : mark ≠ 32 := by rcases hmk with rfl | rfl <;> decide
        -- the part
        have hpart : ∀ (l : List UInt8) (m : Nat) (rest : List UInt8) (nd : Nd), l.drop m = t1 ++ rest → Fol rest → partR Knd.parseT (exprR Knd.parseT l r) l p m nd = (m + t1.length, some (.mk nd.op nd.int nd.text nd.ty (nd.kids ++ [n]))) := by
          intro l m rest nd hd hfo
          have hsk := skip_beg hd hb1
          unfold partR
          rcases hps p (List.mem_cons_self ..) with rfl | rfl
          · rw [if_neg (by decide), if_neg (by decide), if_neg (by decide), hsk, hr1 l m rest hd hfo]
            rfl
          · have hop : n.op = nameW := by
              rcases Decidable.em (n.op = nameW) with hh | hh
              · exact hh
              · exact absurd ⟨rfl, hh⟩ hnm
            obtain ⟨t, rfl, hn, ht⟩ := term_name e hop
            have : t = t1 := by
              simp only at ht
              rw [h1] at ht
              exact (List.append_cancel_left ht).symm
            subst this
            obtain ⟨_, g2, _⟩ := nm_of hn
            rw [if_neg (by decide), if_neg (by decide), if_pos rfl, hsk]
            unfold nameR
            rw [spel_at hd g2 hfo.w, if_pos hn]
            rfl
        cases kids with
        | nil =>
          simp only [kidsW, Option.some.injEq] at h
          subst h
          refine ⟨t1 ++ [41], by simp [h1], fun l m rest nd hd => ?_⟩
          have hd' : l.drop m = mark :: (t1 ++ (41 :: rest)) := by rw [hd]; simp
          have hd1 : l.drop (m + 1) = t1 ++ (41 :: rest) := by rw [← List.drop_drop, hd']; rfl
          have hd2 : l.drop (m + 1 + t1.length) = 41 :: rest := by rw [← List.drop_drop, hd1, List.drop_left]
          unfold partsR
          rw [mark_read hd' h32]
          simp only [bindP]
          rw [hpart l (m + 1) (41 :: rest) nd hd1 (fun c hc => .inr (by injection hc with hc; exact hc.symm))]
          simp only
          rw [if_pos (by simpa using hle), mark_read hd2 (by decide)]
          simp
          omega
        | cons n2 kids =>
          obtain ⟨t2, g1, g2⟩ := kids_read hf least (n2 :: kids) ps (i + 1) 44 s2 s' (by simp) (fun x hx => hrg x (List.mem_cons_of_mem _ hx)) (by simp at hle ⊢; omega) (fun q hq => hps q (List.mem_cons_of_mem _ hq)) (.inr rfl) h
          refine ⟨t1 ++ (44 :: t2), by rw [g1, h1]; simp, fun l m rest nd hd => ?_⟩
          have hd' : l.drop m = mark :: (t1 ++ (44 :: t2 ++ rest)) := by rw [hd]; simp
          have hd1 : l.drop (m + 1) = t1 ++ (44 :: t2 ++ rest) := by rw [← List.drop_drop, hd']; rfl
          have hd2 : l.drop (m + 1 + t1.length) = 44 :: t2 ++ rest := by rw [← List.drop_drop, hd1, List.drop_left]
          unfold partsR
          rw [mark_read hd' h32]
          simp only [bindP]
          rw [hpart l (m + 1) (44 :: t2 ++ rest) nd hd1 (fun c hc => .inl (by injection hc with hc; exact hc.symm))]
          simp only
          have hgo := g2 l (m + 1 + t1.length) rest (.mk nd.op nd.int nd.text nd.ty (nd.kids ++ [n])) hd2
          split
          · rw [mark_not hd2 (by decide) (by decide)]
            simp only
            rw [hgo]
            simp [Nd.op, Nd.int, Nd.text, Nd.ty, Nd.kids]
            omega
          · rw [hgo]
            simp [Nd.op, Nd.int, Nd.text, Nd.ty, Nd.kids]
            omega
theorem wdN_nm : (wdL.all fun x => decide (nmL x.1 = x.1.length)) = true := by decide +kernel
theorem wd_nm {t : List UInt8} {x : List UInt8 × Nat} (h : wdP t = some x) : nmL t = t.length := by
  unfold wdP at h
  by_cases hl : t = listW
  · rw [hl]; decide
  · rw [if_neg hl] at h
    cases hf : wdL.find? (fun x => decide (x.1 = t)) with
    | none => rw [hf] at h; cases h
    | some y =>
      have h1 := List.all_eq_true.1 wdN_nm y (List.mem_of_find?_eq_some hf)
      have h2 := List.find?_some hf
      simp only [decide_eq_true_eq] at h1 h2
      rw [← h2]
      exact h1
theorem expr_spelt {l t rest : List UInt8} {m r : Nat} (h : l.drop m = t ++ rest) (hne : t ≠ []) (ht : nmL t = t.length) (hr : Fow rest) : Beg t ∧ exprR Knd.parseT l (r + 1) m = (match wdP t with
      | none => (m + t.length, some (nameN t))
      | some (p, least) => if hasB p 101 && decide (r = 0) then (m + t.length, none)
        else if p = [] then (m + t.length, some (.mk t 0 [] ty0 []))
        else partsR Knd.parseT (exprR Knd.parseT l r) l least p 0 40 (m + t.length) (.mk t 0 [] ty0 [])) := by
  have hs := spel_at h ht hr
  cases t with
  | nil => exact absurd rfl hne
  | cons c y =>
    have hl := nm_first_let ht
    obtain ⟨g1, g2, g3, g4⟩ := let_plain hl
    have hc : lkB l m = c := lk_cons h
    refine ⟨⟨c, y, rfl, g3⟩, ?_⟩
    rw [exprR, hc, g1, if_neg (by decide), if_neg g2, if_pos hl, hs]
    cases wdP (c :: y) with
    | none => rfl
    | some x => rfl
theorem expr_read : ∀ r : Nat, RdOk r
  | 0 => fun n s s' _ h => by simp [termW] at h
  | r + 1 => fun n s s' hrg h => by
    obtain ⟨r0, r1, _, rk⟩ := hrg
    unfold termW at h
    split at h
    · cases h
    · split at h
      · rename_i hop
        split at h
        · rename_i hb
          injection h with h
          subst h
          obtain ⟨_, g1, g2, g3⟩ := bare_back hb
          obtain ⟨d, y, hy, _⟩ : ∃ d y, Lib.itoa n.int = d :: y ∧ d ≠ 32 := by
            rcases itoa_form n.int with ⟨_, e⟩ | ⟨_, e⟩
            · exact ⟨_, _, e, by decide⟩
            · obtain ⟨d, rest, ed, hd, _⟩ := digits_head n.int.toNat
              exact ⟨d, rest, by rw [e, ed], (digN hd).2.1⟩
          refine ⟨Lib.itoa n.int, rfl, ⟨d, y, hy, by assumption⟩, fun l m rest hd hfo => ?_⟩
          obtain ⟨e1, e2⟩ := num_read hfo r0 r1 hd
          rw [exprR, if_pos e2, e1]
          cases n with
          | mk o i t ty k =>
            simp only [Nd.op, Nd.int, Nd.ty, Nd.kids, Nd.text] at *
            subst g1; subst g2; subst g3; subst hop
            rfl
        · cases h
      · split at h
        · rename_i hni hop
          split at h
          · cases h
          · rename_i hlen
            split at h
            · rename_i hb
              injection h with h
              subst h
              obtain ⟨g1, _, g2, g3⟩ := bare_back hb
              refine ⟨quoS n.text, rfl, ⟨34, _, rfl, by decide⟩, fun l m rest hd hfo => ?_⟩
              have hd0 : l.drop m = 34 :: (quoL n.text ++ 34 :: rest) := by rw [hd]; simp [quoS]
              have h34 : lkB l m = 34 := lk_cons hd0
              have hd1 : l.drop (m + 1) = quoL n.text ++ 34 :: rest := by rw [← List.drop_drop, hd0]; rfl
              have hs : strS l m = (m + (quoS n.text).length, some n.text) := by
                unfold strS
                rw [str_quo n.text [] (m + 1) 257 rest hd1 (by simp; omega) (by omega)]
                simp [quoS]
                omega
              rw [exprR, if_neg (by rw [h34]; decide), if_pos h34]
              unfold strN
              rw [hs]
              cases n with
              | mk o i t ty k =>
                simp only [Nd.op, Nd.int, Nd.ty, Nd.kids, Nd.text] at *
                subst g1; subst g2; subst g3; subst hop
                rfl
            · cases h
        · split at h
          · rename_i hop
            have hT : termW (r + 1) n s = some s' := by
              unfold termW
              rw [if_neg (by assumption), if_neg (by assumption), if_neg (by assumption), if_pos hop]
              exact h
            obtain ⟨t, rfl, hn, ht⟩ := term_name hT hop
            obtain ⟨q1, q2, q3⟩ := nm_of hn
            have hbeg : Beg t := (expr_spelt (l := t) (m := 0) (r := 0) (rest := []) (by simp) q1 q2 fol_nil.w).1
            refine ⟨t, ht, hbeg, fun l m rest hd hfo => ?_⟩
            rw [(expr_spelt hd q1 q2 hfo.w).2, q3]
          · unfold wordW at h
            split at h
            · cases h
            · rename_i p least hw
              have q2 := wd_nm hw
              have q1 : n.op ≠ [] := fun e => by have := wd_pos hw; rw [e] at this; exact absurd this (by decide)
              have hbeg : Beg n.op := (expr_spelt (l := n.op) (m := 0) (r := 0) (rest := []) (by simp) q1 q2 fol_nil.w).1
              obtain ⟨c0, y0, hc0, hc1⟩ := hbeg
              unfold wordP at h
              simp only at h
              rcases wd_cases hw with ⟨rfl, rfl⟩ | ⟨rfl, rfl⟩ | ⟨rfl, rfl⟩ | ⟨h1, h2, h3, h4⟩
              · rw [if_neg (by decide), if_neg (by decide), if_neg (by decide)] at h
                split at h
                · rename_i hb
                  injection h with h
                  subst h
                  obtain ⟨g1, g2, g3, g4⟩ := bare_back hb
                  refine ⟨n.op, rfl, ⟨c0, y0, hc0, hc1⟩, fun l m rest hd hfo => ?_⟩
                  rw [(expr_spelt hd q1 q2 hfo.w).2, hw]
                  cases n with
                  | mk o i t ty k =>
                    simp only [Nd.op, Nd.int, Nd.ty, Nd.kids, Nd.text] at *
                    subst g1; subst g2; subst g3; subst g4
                    rfl
                · cases h
              · rw [if_neg (by decide), if_pos (by decide)] at h
                split at h
                · cases h
                · rename_i hrange
                  split at h
                  · rename_i hb
                    injection h with h
                    subst h
                    obtain ⟨_, g2, g3, g4⟩ := bare_back hb
                    obtain ⟨u, hu, hu9⟩ : ∃ u : Nat, n.int = (u : Int) ∧ u < 10 := ⟨n.int.toNat, by omega, by omega⟩
                    have hit : Lib.itoa n.int = [UInt8.ofNat (48 + u)] := by
                      rw [hu]
                      unfold Lib.itoa
                      rw [if_neg (by omega), Int.toNat_natCast, dec_one hu9]
                    obtain ⟨k1, k2⟩ := dig_of hu9
                    refine ⟨n.op ++ ([40] ++ Lib.itoa n.int ++ [41]), by simp, ⟨c0, y0 ++ ([40] ++ Lib.itoa n.int ++ [41]), by rw [hc0]; rfl, hc1⟩, fun l m rest hd hfo => ?_⟩
                    rw [hit] at hd ⊢
                    have hd0 : l.drop m = n.op ++ (40 :: UInt8.ofNat (48 + u) :: 41 :: rest) := by rw [hd]; simp
                    rw [(expr_spelt hd0 q1 q2 (fun c hc => .inr (.inr (by injection hc with hc; exact hc.symm)))).2, hw]
                    simp only
                    rw [if_neg (by simp [show hasB [100] 101 = false by decide]), if_neg (by decide)]
                    have hd1 : l.drop (m + n.op.length) = 40 :: UInt8.ofNat (48 + u) :: 41 :: rest := by rw [← List.drop_drop, hd0, List.drop_left]
                    have hd2 : l.drop (m + n.op.length + 1) = UInt8.ofNat (48 + u) :: 41 :: rest := by rw [← List.drop_drop, hd1]; rfl
                    have hd3 : l.drop (m + n.op.length + 1 + 1) = 41 :: rest := by rw [← List.drop_drop, hd2]; rfl
                    have hlk : lkB l (m + n.op.length + 1) = UInt8.ofNat (48 + u) := lk_cons hd2
                    have hsk : skip l (m + n.op.length + 1) = m + n.op.length + 1 := skip_off (by rw [hlk]; exact (dig_plain k1).1)
                    have hdg : digR l (m + n.op.length + 1) = (m + n.op.length + 1 + 1, some n.int) := by
                      unfold digR
                      rw [hlk, if_pos k1, hu]
                      have := (dig_range k1).1
                      have e : (UInt8.ofNat (48 + u)).toNat = 48 + u := by rw [UInt8.toNat_ofNat']; omega
                      rw [e]
                      simp
                      omega
                    unfold partsR
                    rw [mark_read hd1 (by decide)]
                    simp only [bindP]
                    unfold partR
                    rw [if_pos rfl, hsk, hdg]
                    simp only [bindP]
                    rw [if_pos (by decide), mark_read hd3 (by decide)]
                    simp only [List.length_append, List.length_cons, List.length_nil, Prod.mk.injEq, Option.some.injEq]
                    refine ⟨by omega, ?_⟩
                    cases n with
                    | mk o i t ty k =>
                      simp only [Nd.op, Nd.int, Nd.ty, Nd.kids, Nd.text] at *
                      subst g2; subst g3; subst g4
                      rfl
                  · cases h
              · rw [if_neg (by decide), if_neg (by decide), if_pos (by decide)] at h
                split at h
                · rename_i hsome
                  obtain ⟨q, hq⟩ := Option.isSome_iff_exists.1 hsome
                  split at h
                  · rename_i hb
                    injection h with h
                    subst h
                    obtain ⟨g1, g2, _, g4⟩ := bare_back hb
                    refine ⟨n.op ++ ([40] ++ Knd.textT 6 n.ty ++ [41]), by simp, ⟨c0, y0 ++ ([40] ++ Knd.textT 6 n.ty ++ [41]), by rw [hc0]; rfl, hc1⟩, fun l m rest hd hfo => ?_⟩
                    have hd0 : l.drop m = n.op ++ (40 :: (Knd.textT 6 n.ty ++ 41 :: rest)) := by rw [hd]; simp
                    rw [(expr_spelt hd0 q1 q2 (fun c hc => .inr (.inr (by injection hc with hc; exact hc.symm)))).2, hw]
                    simp only
                    rw [if_neg (by simp [show hasB [116] 101 = false by decide]), if_neg (by decide)]
                    have hd1 : l.drop (m + n.op.length) = 40 :: (Knd.textT 6 n.ty ++ 41 :: rest) := by rw [← List.drop_drop, hd0, List.drop_left]
                    have hd2 : l.drop (m + n.op.length + 1) = Knd.textT 6 n.ty ++ 41 :: rest := by rw [← List.drop_drop, hd1]; rfl
                    have hd3 : l.drop (m + n.op.length + 1 + (Knd.textT 6 n.ty).length) = 41 :: rest := by rw [← List.drop_drop, hd2, List.drop_left]
                    have hsk : skip l (m + n.op.length + 1) = m + n.op.length + 1 := by
                      refine skip_off ?_
                      cases htx : Knd.textT 6 n.ty with
                      | nil => rw [lk_cons (by rw [hd2, htx]; rfl)]; decide
                      | cons c y =>
                        rw [lk_cons (by rw [hd2, htx]; rfl)]
                        exact (textT_plain 6 n.ty q hq c (by rw [htx]; exact List.mem_cons_self ..)).1
                    unfold partsR
                    rw [mark_read hd1 (by decide)]
                    simp only [bindP]
                    unfold partR
                    rw [if_neg (by decide), if_pos rfl, hsk, typ_read hq hd2]
                    simp only [bindP]
                    rw [if_pos (by decide), mark_read hd3 (by decide)]
                    simp only [List.length_append, List.length_cons, List.length_nil, Prod.mk.injEq, Option.some.injEq]
                    refine ⟨by omega, ?_⟩
                    cases n with
                    | mk o i t ty k =>
                      simp only [Nd.op, Nd.int, Nd.ty, Nd.kids, Nd.text] at *
                      subst g1; subst g2; subst g4
                      rfl
                  · cases h
                · cases h
              · rw [if_pos h1] at h
                split at h
                · cases h
                · rename_i hk
                  obtain ⟨s2, e1, e2⟩ := Option.bind_eq_some_iff.1 h
                  split at e2
                  · rename_i hb
                    injection e2 with e2
                    subst e2
                    obtain ⟨g1, g2, g3, _⟩ := bare_back hb
                    have hkne : n.kids ≠ [] := fun e => by rw [e] at hk; simp at hk; omega
                    match r, rk, e1 with
                    | 0, _, e1 =>
                      cases hkk : n.kids with
                      | nil => exact absurd hkk hkne
                      | cons a b =>
                        cases p with
                        | nil => exact absurd h1 (by decide)
                        | cons p0 p =>
                          rw [hkk] at e1
                          unfold kidsW at e1
                          split at e1
                          · cases e1
                          · simp [termW] at e1
                    | r + 1, rk, e1 =>
                      obtain ⟨t, g5, g6⟩ := kids_read (expr_read (r + 1)) least n.kids p 0 40 _ s2 hkne rk (by omega) h2 (.inl rfl) e1
                      refine ⟨n.op ++ 40 :: t, by rw [g5]; simp, ⟨c0, y0 ++ 40 :: t, by rw [hc0]; rfl, hc1⟩, fun l m rest hd hfo => ?_⟩
                      have hd0 : l.drop m = n.op ++ (40 :: t ++ rest) := by rw [hd]; simp
                      rw [(expr_spelt hd0 q1 q2 (fun c hc => .inr (.inr (by injection hc with hc; exact hc.symm)))).2, hw]
                      have hd1 : l.drop (m + n.op.length) = 40 :: t ++ rest := by rw [← List.drop_drop, hd0, List.drop_left]
                      simp only
                      rw [if_neg (by simp), if_neg (fun e => by rw [e] at h1; exact absurd h1 (by decide)), g6 l _ rest _ hd1]
                      simp only [List.length_append, List.length_cons, Prod.mk.injEq, Option.some.injEq]
                      refine ⟨by omega, ?_⟩
                      cases n with
                      | mk o i t ty k =>
                        simp only [Nd.op, Nd.int, Nd.ty, Nd.kids, Nd.text] at *
                        subst g1; subst g2; subst g3
                        rfl
                  · cases e2
theorem show_read {n : Nd} {t : List UInt8} {c : Nat} (hr : RgN 24 n) (h : showW n = some (t, c)) : ∃ k, parseR Knd.parseT t = (k, some n) := by
  unfold showW at h
  split at h
  · cases h
  · rename_i s e
    split at h
    · cases h
    · injection h with h
      subst h
      obtain ⟨t', h1, h2, h3⟩ := expr_read 24 n ([], 0) _ hr e
      simp only [List.nil_append] at h1
      subst h1
      have hsk : skip t 0 = 0 := skip_beg (y := []) (by simp) h2
      refine ⟨t.length, ?_⟩
      unfold parseR
      rw [hsk, h3 t 0 [] (by simp) fol_nil, Nat.zero_add]
      show (if skip t t.length < t.length then _ else _) = _
      rw [skip_same (Nat.le_refl _), if_neg (by omega)]
end Go.Proofs.YtadbnlnifacblaaGreatDoor
