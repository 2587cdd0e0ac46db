/-
Package expr: a term's text, as plain functions.
-/
import Derived.Test.YtdmkcemgbajdkaaDoorWb
import Derived.Test.YtdmkcemgbajdkaaDoorSp2
namespace Go.Proofs.YtdmkcemgbajdkaaDoor
open Go.RowKit

def nameW : List UInt8 := [110, 97, 109, 101]
/-- Whether nothing of these is set. -/
def bareN (i : Int) (t : List UInt8) (ty : Ty) (kids : List Nd) : Bool := decide (i = 0) && (decide (t = []) && (decide (ty.kind = 0) && (decide (ty.args.length = 0) && decide (kids.length = 0))))
def hexD (i : Nat) : UInt8 := if i < 10 then UInt8.ofNat (48 + i) else UInt8.ofNat (87 + i)
def quoB (b : UInt8) : List UInt8 := if isPl b then [b] else [92, hexD (b.toNat / 16), hexD (b.toNat % 16)]
def quoL (t : List UInt8) : List UInt8 := t.flatMap quoB
def quoS (t : List UInt8) : List UInt8 := 34 :: (quoL t ++ [34])

abbrev StW := List UInt8 × Nat
/-- The Kids behind a word, from one on; f: a term. -/
def kidsW (f : Nd → StW → Option StW) : List Nd → List UInt8 → UInt8 → StW → Option StW
  | [], _, _, s => some (s.1 ++ [41], s.2)
  | _ :: _, [], _, _ => none
  | n :: l, p :: ps, mark, s => if p = 110 ∧ n.op ≠ nameW then none else match f n (s.1 ++ [mark], s.2) with
    | none => none
    | some s' => kidsW f l ps 44 s'
/-- What a term that begins with a word with these parts writes. -/
def wordP (f : Nd → StW → Option StW) (p : List UInt8) (least : Nat) (n : Nd) (s : StW) : Option StW :=
  if hasB p 101 then (if n.kids.length < least ∨ p.length < n.kids.length then none else (kidsW f n.kids p 40 (s.1 ++ n.op, s.2)).bind fun s' => if bareN n.int n.text n.ty [] then some s' else none)
  else if hasB p 100 then (if n.int < 0 ∨ 9 < n.int then none else if bareN 0 n.text n.ty n.kids then some (s.1 ++ n.op ++ ([40] ++ Lib.itoa n.int ++ [41]), s.2) else none)
  else if hasB p 116 then (if (Knd.measureT 6 n.ty).isSome then (if bareN n.int n.text ty0 n.kids then some (s.1 ++ n.op ++ ([40] ++ Knd.textT 6 n.ty ++ [41]), s.2) else none) else none)
  else if bareN n.int n.text n.ty n.kids then some (s.1 ++ n.op, s.2) else none
/-- What a term that begins with a word writes. -/
def wordW (f : Nd → StW → Option StW) (n : Nd) (s : StW) : Option StW := match wdP n.op with
  | none => none
  | some (p, least) => wordP f p least n s
/-- What is written of a term that is at most so deep: all that is written behind it, and how many nodes are counted. -/
def termW : Nat → Nd → StW → Option StW
  | 0, _, _ => none
  | r + 1, n, s => if 4096 < s.1.length then none
    else if n.op = intW then (if bareN 0 n.text n.ty n.kids then some (s.1 ++ Lib.itoa n.int, s.2 + 1) else none)
    else if n.op = textW then (if 256 < n.text.length then none else if bareN n.int [] n.ty n.kids then some (s.1 ++ quoS n.text, s.2 + 1) else none)
    else if n.op = nameW then (if isNm n.text then (if bareN n.int [] n.ty n.kids then some (s.1 ++ n.text, s.2 + 1) else none) else none)
    else wordW (termW r) n (s.1, s.2 + 1)
/-- What is written of a term, and how many nodes it has. -/
def showW (n : Nd) : Option StW := match termW 24 n ([], 0) with
  | none => none
  | some s => if 4096 < s.1.length then none else some s

theorem nDig_le : ∀ (k u : Nat), u < 10 ^ (k + 1) → Lib.nDigits u ≤ k + 1
  | 0, u, h => by rw [Lib.nDigits_small (by simpa using h)]; omega
  | k + 1, u, h => by
    by_cases h10 : u < 10
    · rw [Lib.nDigits_small h10]; omega
    · rw [Lib.nDigits_big h10]
      rw [Nat.pow_succ] at h
      have := nDig_le k (u / 10) (by omega)
      omega
theorem digits_le (n : Nat) (h : n < 10 ^ 20) : (Lib.decDigits n).length ≤ 20 := by
  rw [Lib.decDigits_length]
  exact nDig_le 19 n h
theorem itoa_le (n : Int) (h0 : -9223372036854775808 ≤ n) (h1 : n ≤ 9223372036854775807) : (Lib.itoa n).length ≤ 21 := by
  unfold Lib.itoa
  split
  · rw [List.length_cons]
    have := digits_le n.natAbs (by omega)
    omega
  · have := digits_le n.toNat (by omega)
    omega
theorem quoL_le : ∀ t : List UInt8, (quoL t).length ≤ 3 * t.length
  | [] => by simp [quoL]
  | b :: t => by
    have := quoL_le t
    have hb : (quoB b).length ≤ 3 := by unfold quoB; split <;> simp
    unfold quoL at *
    rw [List.flatMap_cons, List.length_append, List.length_cons]
    omega
theorem name_le {t : List UInt8} (h : isNm t = true) : t.length ≤ 16 := by
  unfold isNm at h
  simp only [Bool.and_eq_true, decide_eq_true_eq] at h
  have := nmL_le t
  omega

/-- All ints of a term are ints, all texts such as a program can hold. -/
def RgN : Nat → Nd → Prop
  | 0, _ => True
  | r + 1, n => -9223372036854775808 ≤ n.int ∧ n.int ≤ 9223372036854775807 ∧ n.text.length ≤ 1000000 ∧ ∀ k ∈ n.kids, RgN r k

theorem kidsW_len {f : Nd → StW → Option StW} {F : Nat} : ∀ (l : List Nd) (p : List UInt8) (mark : UInt8) (s s' : StW), (∀ n ∈ l, ∀ s s', f n s = some s' → s'.1.length ≤ F) → s.1.length ≤ F → kidsW f l p mark s = some s' → s'.1.length ≤ F + 1
  | [], _, _, s, s', _, hs, h => by
    simp only [kidsW, Option.some.injEq] at h
    subst h
    simp
    omega
  | _ :: _, [], _, _, _, _, _, h => by simp [kidsW] at h
  | n :: l, p :: ps, mark, s, s', hf, hs, h => by
    unfold kidsW at h
    split at h
    · cases h
    · split at h
      · cases h
      · rename_i s2 h2
        exact kidsW_len l ps 44 s2 s' (fun m hm => hf m (List.mem_cons_of_mem _ hm)) (hf n (List.mem_cons_self ..) _ _ h2) h

theorem wdN_len : (wdL.all fun x => decide (x.1.length ≤ 16)) = true := by decide +kernel
theorem wd_le {t : List UInt8} {x : List UInt8 × Nat} (h : wdP t = some x) : t.length ≤ 16 := by
  unfold wdP at h
  by_cases hl : t = listW
  · rw [hl]; decide
  · rw [if_neg hl] at h
    cases hf : wdL.find? (fun x => decide (x.1 = t)) with
    | none => rw [hf] at h; cases h
    | some y =>
      have h1 := List.all_eq_true.1 wdN_len y (List.mem_of_find?_eq_some hf)
      have h2 := List.find?_some hf
      simp only [decide_eq_true_eq] at h1 h2
      rw [← h2]
      exact h1

theorem wordW_len {f : Nd → StW → Option StW} {F : Nat} {n : Nd} {s s' : StW} (hF : 4900 ≤ F) (hs : s.1.length ≤ 4096) (hr : -9223372036854775808 ≤ n.int ∧ n.int ≤ 9223372036854775807) (hf : ∀ k ∈ n.kids, ∀ s s', f k s = some s' → s'.1.length ≤ F) (h : wordW f n s = some s') : s'.1.length ≤ F + 1 := by
  unfold wordW at h
  cases hw : wdP n.op with
  | none => rw [hw] at h; cases h
  | some x =>
    obtain ⟨p, least⟩ := x
    have ho := wd_le hw
    rw [hw] at h
    simp only [wordP] at h
    by_cases h1 : hasB p 101 = true
    · rw [if_pos h1] at h
      split at h
      · cases h
      · obtain ⟨s2, h2, h⟩ := Option.bind_eq_some_iff.1 h
        split at h
        · injection h with h
          subst h
          exact kidsW_len n.kids p 40 _ _ hf (by simp; omega) h2
        · cases h
    · rw [if_neg h1] at h
      by_cases h3 : hasB p 100 = true
      · rw [if_pos h3] at h
        split at h
        · cases h
        · split at h
          · injection h with h
            subst h
            have := itoa_le n.int hr.1 hr.2
            simp
            omega
          · cases h
      · rw [if_neg h3] at h
        by_cases h4 : hasB p 116 = true
        · rw [if_pos h4] at h
          split at h
          · rename_i hq
            obtain ⟨q, hq⟩ := Option.isSome_iff_exists.1 hq
            split at h
            · injection h with h
              subst h
              have := Knd.textT_small 6 n.ty q hq
              simp
              omega
            · cases h
          · cases h
        · rw [if_neg h4] at h
          split at h
          · injection h with h
            subst h
            simp
            omega
          · cases h

theorem termW_len : ∀ (r : Nat) (n : Nd) (s s' : StW), RgN r n → termW r n s = some s' → s'.1.length ≤ 4900 + r
  | 0, n, s, s', _, h => by simp [termW] at h
  | r + 1, n, s, s', hr, h => by
    obtain ⟨r0, r1, _, rk⟩ := hr
    unfold termW at h
    split at h
    · cases h
    · rename_i hs
      split at h
      · split at h
        · injection h with h
          subst h
          have := itoa_le n.int r0 r1
          simp
          omega
        · cases h
      · split at h
        · split at h
          · cases h
          · split at h
            · injection h with h
              subst h
              have := quoL_le n.text
              simp [quoS]
              omega
            · cases h
        · split at h
          · split at h
            · rename_i hn
              split at h
              · injection h with h
                subst h
                have := name_le hn
                simp
                omega
              · cases h
            · cases h
          · have := wordW_len (F := 4900 + r) (by omega) (by simp; omega) ⟨r0, r1⟩ (fun k hk s s' hk' => termW_len r k s s' (rk k hk) hk') h
            omega

theorem itoa_pos (n : Int) : 1 ≤ (Lib.itoa n).length := by
  have h := fun u => Lib.nDigits_pos u
  unfold Lib.itoa
  split
  · simp
  · rw [Lib.decDigits_length]; exact h _
theorem wdN_pos : (wdL.all fun x => decide (1 ≤ x.1.length)) = true := by decide +kernel
theorem wd_pos {t : List UInt8} {x : List UInt8 × Nat} (h : wdP t = some x) : 1 ≤ t.length := by
  unfold wdP at h
  by_cases hl : t = listW
  · rw [hl]; decide
  · rw [if_neg hl] at h
    cases hf : wdL.find? (fun x => decide (x.1 = t)) with
    | none => rw [hf] at h; cases h
    | some y =>
      have h1 := List.all_eq_true.1 wdN_pos y (List.mem_of_find?_eq_some hf)
      have h2 := List.find?_some hf
      simp only [decide_eq_true_eq] at h1 h2
      rw [← h2]
      exact h1
theorem name_pos {t : List UInt8} (h : isNm t = true) : 1 ≤ t.length := by
  unfold isNm at h
  simp only [Bool.and_eq_true, decide_eq_true_eq] at h
  cases t with
  | nil => exact absurd rfl h.1.1
  | cons a l => simp
theorem kidsW_cnt {f : Nd → StW → Option StW} : ∀ (l : List Nd) (p : List UInt8) (mark : UInt8) (s s' : StW), (∀ n ∈ l, ∀ s s', f n s = some s' → s.2 ≤ s.1.length → s'.2 ≤ s'.1.length) → s.2 ≤ s.1.length → kidsW f l p mark s = some s' → s'.2 ≤ s'.1.length
  | [], _, _, s, s', _, hs, h => by
    simp only [kidsW, Option.some.injEq] at h
    subst h
    simp
    omega
  | _ :: _, [], _, _, _, _, _, h => by simp [kidsW] at h
  | n :: l, p :: ps, mark, s, s', hf, hs, h => by
    unfold kidsW at h
    split at h
    · cases h
    · split at h
      · cases h
      · rename_i s2 h2
        exact kidsW_cnt l ps 44 s2 s' (fun m hm => hf m (List.mem_cons_of_mem _ hm)) (hf n (List.mem_cons_self ..) _ _ h2 (by simp; omega)) h
theorem wordW_cnt {f : Nd → StW → Option StW} {n : Nd} {s s' : StW} (hs : s.2 ≤ s.1.length + 1) (hf : ∀ k ∈ n.kids, ∀ s s', f k s = some s' → s.2 ≤ s.1.length → s'.2 ≤ s'.1.length) (h : wordW f n s = some s') : s'.2 ≤ s'.1.length := by
  unfold wordW at h
  cases hw : wdP n.op with
  | none => rw [hw] at h; cases h
  | some x =>
    obtain ⟨p, least⟩ := x
    have ho := wd_pos hw
    rw [hw] at h
    simp only [wordP] at h
    by_cases h1 : hasB p 101 = true
    · rw [if_pos h1] at h
      split at h
      · cases h
      · obtain ⟨s2, h2, h⟩ := Option.bind_eq_some_iff.1 h
        split at h
        · injection h with h
          subst h
          exact kidsW_cnt n.kids p 40 _ _ hf (by simp; omega) h2
        · cases h
    · rw [if_neg h1] at h
      by_cases h3 : hasB p 100 = true
      · rw [if_pos h3] at h
        split at h
        · cases h
        · split at h
          · injection h with h
            subst h
            simp
            omega
          · cases h
      · rw [if_neg h3] at h
        by_cases h4 : hasB p 116 = true
        · rw [if_pos h4] at h
          split at h
          · split at h
            · injection h with h
              subst h
              simp
              omega
            · cases h
          · cases h
        · rw [if_neg h4] at h
          split at h
          · injection h with h
            subst h
            simp
            omega
          · cases h
theorem termW_cnt : ∀ (r : Nat) (n : Nd) (s s' : StW), termW r n s = some s' → s.2 ≤ s.1.length → s'.2 ≤ s'.1.length
  | 0, n, s, s', h, _ => by simp [termW] at h
  | r + 1, n, s, s', h, hs => by
    unfold termW at h
    split at h
    · cases h
    · split at h
      · split at h
        · injection h with h
          subst h
          have := itoa_pos n.int
          simp
          omega
        · cases h
      · split at h
        · split at h
          · cases h
          · split at h
            · injection h with h
              subst h
              simp [quoS]
              omega
            · cases h
        · split at h
          · split at h
            · rename_i hn
              split at h
              · injection h with h
                subst h
                have := name_pos hn
                simp
                omega
              · cases h
            · cases h
          · exact wordW_cnt (by simp; omega) (fun k _ s s' hk' hs' => termW_cnt r k s s' hk' hs') h
end Go.Proofs.YtdmkcemgbajdkaaDoor
