/-
Package expr: strings, written and read back: the pure part.
-/
import Derived.Test.YtdmkcemgbajdkaaDoorWv
import Derived.Test.YtdmkcemgbajdkaaDoorRp
namespace Go.Proofs.YtdmkcemgbajdkaaDoor
open Go.RowKit

theorem byte_all (Q : UInt8 → Bool) (h : (List.range 256).all (fun i => Q (UInt8.ofNat i)) = true) (b : UInt8) : Q b = true := by
  have hb : b = UInt8.ofNat b.toNat := by simp
  rw [hb]
  exact List.all_eq_true.1 h b.toNat (List.mem_range.2 b.toNat_lt)
/-- A byte that is written in digits is read back. -/
theorem quo_one (b : UInt8) : (isPl b || (decide (hexI (hexD (b.toNat / 16)) = some (b.toNat / 16)) && (smC (b.toNat / 16) && (decide (hexI (hexD (b.toNat % 16)) = some (b.toNat % 16)) && decide (UInt8.ofNat (16 * (b.toNat / 16) + b.toNat % 16) = b))))) = true :=
  byte_all (fun b => isPl b || (decide (hexI (hexD (b.toNat / 16)) = some (b.toNat / 16)) && (smC (b.toNat / 16) && (decide (hexI (hexD (b.toNat % 16)) = some (b.toNat % 16)) && decide (UInt8.ofNat (16 * (b.toNat / 16) + b.toNat % 16) = b))))) (by decide +kernel) b
theorem plain_not (b : UInt8) : (!isPl b || (decide (b ≠ 34) && decide (b ≠ 92))) = true :=
  byte_all (fun b => !isPl b || (decide (b ≠ 34) && decide (b ≠ 92))) (by decide +kernel) b
theorem quo_print (b : UInt8) : ((quoB b).all fun c => decide (32 ≤ c.toNat) && decide (c.toNat ≤ 126)) = true :=
  byte_all (fun b => (quoB b).all fun c => decide (32 ≤ c.toNat) && decide (c.toNat ≤ 126)) (by decide +kernel) b

/-- One byte, read back. -/
theorem let_quo {l : List UInt8} {m : Nat} {b : UInt8} {rest : List UInt8} (h : l.drop m = quoB b ++ rest) : letS l m = (m + (quoB b).length, some b) ∧ lkB l m ≠ 34 := by
  have hat : ∀ (j : Nat) (c : UInt8), (quoB b ++ rest)[j]? = some c → lkB l (m + j) = c := fun j c hc => by
    have : l[m + j]? = some c := by rw [← List.getElem?_drop, h, hc]
    unfold lkB
    rw [this]
    rfl
  cases hp : isPl b with
  | true =>
    have hq : quoB b = [b] := by unfold quoB; rw [hp]; rfl
    rw [hq] at hat ⊢
    have h0 := hat 0 b rfl
    have hn := plain_not b
    rw [hp] at hn
    simp only [Bool.not_true, Bool.false_or, Bool.and_eq_true, decide_eq_true_eq] at hn
    rw [Nat.add_zero] at h0
    refine ⟨?_, by rw [h0]; exact hn.1⟩
    unfold letS
    rw [h0, if_neg hn.2, hp]
    rfl
  | false =>
    have hq : quoB b = [92, hexD (b.toNat / 16), hexD (b.toNat % 16)] := by unfold quoB; rw [hp]; rfl
    rw [hq] at hat ⊢
    have h0 := hat 0 92 rfl
    have h1 := hat 1 _ rfl
    have h2 := hat 2 _ rfl
    have hn := quo_one b
    rw [hp] at hn
    simp only [Bool.false_or, Bool.and_eq_true, decide_eq_true_eq] at hn
    obtain ⟨g1, g2, g3, g4⟩ := hn
    rw [Nat.add_zero] at h0
    refine ⟨?_, by rw [h0]; decide⟩
    unfold letS
    rw [h0, if_pos rfl]
    unfold codS
    rw [h1, g1]
    simp only
    rw [if_pos g2, show m + 1 + 1 = m + 2 from rfl, h2, g3]
    simp only
    rw [g4, hp]
    rfl

theorem str_quo {l : List UInt8} : ∀ (u acc : List UInt8) (m f : Nat) (rest : List UInt8), l.drop m = quoL u ++ 34 :: rest → acc.length + u.length ≤ 256 → u.length < f → strF l f acc m = (m + (quoL u).length + 1, some (acc ++ u))
  | [], acc, m, f + 1, rest, h, _, _ => by
    have h0 : lkB l m = 34 := by
      have : l[m]? = some 34 := by rw [← Nat.add_zero m, ← List.getElem?_drop, h]; rfl
      unfold lkB
      rw [this]
      rfl
    unfold strF
    rw [if_pos h0]
    simp [quoL]
  | b :: u, acc, m, f + 1, rest, h, hl, hf => by
    have hq : quoL (b :: u) = quoB b ++ quoL u := by simp [quoL]
    rw [hq, List.append_assoc] at h
    obtain ⟨h1, h2⟩ := let_quo h
    simp only [List.length_cons] at hl hf
    unfold strF
    rw [if_neg h2, if_pos (by omega), h1]
    simp only
    have hd : l.drop (m + (quoB b).length) = quoL u ++ 34 :: rest := by
      rw [← List.drop_drop, h, List.drop_left]
    rw [str_quo u (acc ++ [b]) (m + (quoB b).length) f rest hd (by simp; omega) (by omega), hq]
    simp
    omega
  | [], _, _, 0, _, _, _, h => absurd h (Nat.not_lt_zero _)
  | _ :: _, _, _, 0, _, _, _, h => absurd h (Nat.not_lt_zero _)

def ndS (t : List UInt8) : Nd := .mk textW 0 t ty0 []
theorem show_str {t : List UInt8} (h : t.length ≤ 256) : showW (ndS t) = some (quoS t, 1) := by
  have h3 := quoL_le t
  have e : termW 24 (ndS t) ([], 0) = some (quoS t, 1) := by
    rw [termW_op 23 (ndS t) [] 0 (by simp), if_neg (show ¬ (ndS t).op = intW from (by decide : ¬ textW = intW)), if_pos (show (ndS t).op = textW from rfl), if_neg (by show ¬ 256 < t.length; omega)]
    rfl
  unfold showW
  rw [e]
  simp only
  rw [if_neg (by simp [quoS]; omega)]
theorem show_long {t : List UInt8} (h : 256 < t.length) : showW (ndS t) = none := by
  have e : termW 24 (ndS t) ([], 0) = none := by
    rw [termW_op 23 (ndS t) [] 0 (by simp), if_neg (show ¬ (ndS t).op = intW from (by decide : ¬ textW = intW)), if_pos (show (ndS t).op = textW from rfl), if_pos (show 256 < (ndS t).text.length from h)]
  unfold showW
  rw [e]
theorem skip_same {l : List UInt8} {m : Nat} (h : l.length ≤ m) : skip l m = m := skip_off (by rw [lkB_end h]; decide)
theorem parse_str {t : List UInt8} (h : t.length ≤ 256) : ∃ m, parseR Knd.parseT (quoS t) = (m, some (ndS t)) := by
  have h0 : lkB (quoS t) 0 = 34 := rfl
  have hs : skip (quoS t) 0 = 0 := skip_off (by rw [h0]; decide)
  have hstr : strS (quoS t) 0 = ((quoS t).length, some t) := by
    have := str_quo (l := quoS t) t [] 1 257 [] (by simp [quoS]) (by simp; omega) (by omega)
    unfold strS
    rw [this]
    simp [quoS]
    omega
  have he : exprR Knd.parseT (quoS t) 24 (skip (quoS t) 0) = ((quoS t).length, some (ndS t)) := by
    rw [hs, exprR, if_neg (by rw [h0]; decide), if_pos h0]
    unfold strN
    rw [hstr]
    rfl
  refine ⟨(quoS t).length, ?_⟩
  unfold parseR
  rw [he]
  show (if skip (quoS t) (quoS t).length < (quoS t).length then _ else _) = _
  rw [skip_same (Nat.le_refl _), if_neg (by omega)]
theorem quo_len (b : UInt8) : 1 ≤ (quoB b).length := by unfold quoB; split <;> simp
theorem quoL_ge : ∀ t : List UInt8, t.length ≤ (quoL t).length
  | [] => by simp [quoL]
  | b :: t => by
    have := quoL_ge t
    have := quo_len b
    have hq : quoL (b :: t) = quoB b ++ quoL t := by simp [quoL]
    rw [hq, List.length_append, List.length_cons]
    omega
theorem quoS_print (t : List UInt8) : ∀ c ∈ quoS t, 32 ≤ c.toNat ∧ c.toNat ≤ 126 := by
  intro c hc
  unfold quoS at hc
  rcases List.mem_cons.1 hc with rfl | hc
  · decide
  · rcases List.mem_append.1 hc with hc | hc
    · unfold quoL at hc
      obtain ⟨b, _, hb⟩ := List.mem_flatMap.1 hc
      have := List.all_eq_true.1 (quo_print b) c hb
      simp only [Bool.and_eq_true, decide_eq_true_eq] at this
      exact this
    · rcases List.mem_cons.1 hc with rfl | hc
      · decide
      · cases hc
theorem rg_S {t : List UInt8} (h : t.length ≤ 1000000) : RgN 24 (ndS t) := ⟨(by decide : (-9223372036854775808 : Int) ≤ 0), (by decide : (0 : Int) ≤ 9223372036854775807), h, fun k hk => by cases hk⟩
end Go.Proofs.YtdmkcemgbajdkaaDoor
