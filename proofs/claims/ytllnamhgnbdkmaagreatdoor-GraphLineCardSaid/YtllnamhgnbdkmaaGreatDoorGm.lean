/-
Stage 11: the document's Read is the program's reading of a line.
-/
import Derived.Test.YtllnamhgnbdkmaaGreatDoorGi
import Derived.Test.YtllnamhgnbdkmaaGreatDoorGj
import Derived.Test.YtllnamhgnbdkmaaGreatDoorGk
import Derived.Test.YtllnamhgnbdkmaaGreatDoorGc
import Derived.Test.YtllnamhgnbdkmaaGreatDoorYh
set_option linter.unusedVariables false
set_option linter.unusedSimpArgs false
namespace Go.Proofs.YtllnamhgnbdkmaaGreatDoor
open Go.RowKit Go.Shelf Go.Sort
theorem rread_op2 (s rest : List UInt8) (w : World) (h : RdC s [101, 97, 99, 104] rest true) :
    Calls Tryz.prog 38 #[.string ⟨s.toArray⟩] w fun e w' => LineOut w w' e (opR placesP rest (some gop2)) := by
  have h1 := oneC rest h.len
  have hq := op2_eq placesP rest
  have hle := (cutR_le rest 32).2
  generalize hg : goodN (Lib.cut rest [32]).1 999 = g at *
  generalize (Lib.cut rest [32]).1 = a at *
  generalize (Lib.cut rest [32]).2.2 = ok1 at *
  generalize (Lib.cut rest [32]).2.1 = r1 at *
  by_cases hno : ok1 = false ∨ g = none
  · refine rread_each_no s rest r1 ok1 g w _ h h1 hno ?_
    rw [hq]
    rcases hno with rfl | rfl
    · rfl
    · unfold node2
      rw [hg]
      split <;> rfl
  · obtain ⟨v, rfl⟩ : ∃ v, g = some v := by cases g with
      | none => exact absurd (.inr rfl) hno
      | some v => exact ⟨v, rfl⟩
    obtain rfl : ok1 = true := by cases ok1 with
      | false => exact absurd (.inl rfl) hno
      | true => rfl
    have hrl := h.len
    have hcl := cutR_le r1 32
    have h2 := fun W => rcut_any r1 32 W (by omega)
    obtain ⟨x, text, ok2, hcut⟩ : ∃ x text ok2, Lib.cut r1 [32] = (x, text, ok2) := ⟨_, _, _, rfl⟩
    rw [hcut] at hq hcl h2
    dsimp only at hq hcl h2
    rw [node2_of hg] at hq
    rw [show ((32 : UInt8).toNat : Int) = 32 from rfl] at h2
    by_cases hx : x = [45]
    · subst hx
      refine rread_each_dash s rest r1 text ok2 v w _ h h1 h2 (by omega) ?_
      rw [hq]
      cases ok2 with
      | false => rfl
      | true =>
        rw [if_pos ⟨rfl, rfl⟩]
        unfold sidesP
        rw [if_pos rfl, Option.bind_some]
        cases isTx text <;> rfl
    · rw [sides_nums x hx] at hq
      have hxb : (x == [45]) = false := by simpa using hx
      have hnu := fun W => rnums_any 3 999 km3 x 44 W (by omega)
      rw [show ((44 : UInt8).toNat : Int) = 44 from rfl] at hnu
      cases hn : numsP 999 44 x with
      | none =>
        rw [hn] at hq hnu
        refine rread_each_none s rest r1 x text ok2 v w _ hxb h h1 h2 (by omega) hnu ?_
        rw [hq]
        split <;> rfl
      | some l =>
        have hll := numsP_len (Nat.le_refl _) hn
        rw [hn] at hq hnu
        refine rread_each_some s rest r1 x text ok2 v l _ (by omega) w _ hxb h h1 h2 (by omega) hnu rfl ?_
        rw [hq]
        cases ok2 with
        | false => rfl
        | true =>
          rw [if_pos ⟨rfl, rfl⟩, Option.bind_some]
          by_cases h5 : l.length ≤ 4 ∧ risG l = true
          · rw [if_pos h5, Option.bind_some, h5.2, Bool.true_and, decide_eq_true (by omega)]
            cases isTx text <;> rfl
          · rw [if_neg h5, Option.bind_none]
            have : (risG l && decide ((1 : Int) ≤ l.length ∧ (l.length : Int) ≤ 4)) = false := by
              cases hr : risG l with
              | false => rfl
              | true => rw [Bool.true_and]; exact decide_eq_false (fun h => h5 ⟨by omega, hr⟩)
            rw [this]
            rfl
theorem rread_op3 (s rest : List UInt8) (w : World) (h : RdC s [119, 105, 110, 100, 111, 119] rest true) :
    Calls Tryz.prog 38 #[.string ⟨s.toArray⟩] w fun e w' => LineOut w w' e (opR placesP rest (some gop3)) := by
  have h1 := oneC rest h.len
  have hq := op3_eq placesP rest
  have hle := (cutR_le rest 32).2
  generalize goodN (Lib.cut rest [32]).1 999 = g at *
  generalize (Lib.cut rest [32]).2.2 = ok1 at *
  generalize (Lib.cut rest [32]).2.1 = r1 at *
  by_cases hno : ok1 = false ∨ g = none
  · refine rread_window_no s rest r1 ok1 g w _ h h1 hno ?_
    rw [hq]
    rcases hno with rfl | rfl
    · rfl
    · split <;> rfl
  · obtain ⟨v, rfl⟩ : ∃ v, g = some v := by cases g with
      | none => exact absurd (.inr rfl) hno
      | some v => exact ⟨v, rfl⟩
    obtain rfl : ok1 = true := by cases ok1 with
      | false => exact absurd (.inl rfl) hno
      | true => rfl
    have hrl := h.len
    rw [if_pos rfl, Option.bind_some] at hq
    have hnu := fun W => rnums_any 7 9999999 km7 r1 32 W (by omega)
    rw [show ((32 : UInt8).toNat : Int) = 32 from rfl] at hnu
    cases hn : numsP 9999999 32 r1 with
    | none =>
      rw [hn] at hq hnu
      exact rread_window_none s rest r1 v w _ h h1 hnu hq
    | some l =>
      rw [hn, Option.bind_some] at hq
      rw [hn] at hnu
      by_cases hl : l.length = 4
      · match l, hl with
        | [x0, x1, x2, x3], _ => exact rread_window_four s rest r1 v w _ h h1 x0 x1 x2 x3 hnu hq
      · exact rread_window_len s rest r1 v w _ h h1 l hl hnu (by rw [hq, win4_len hl])
theorem rread_op4 (s rest : List UInt8) (w : World) (h : RdC s [103, 114, 111, 117, 112] rest true) :
    Calls Tryz.prog 38 #[.string ⟨s.toArray⟩] w fun e w' => LineOut w w' e (opR placesP rest (some gop4)) := by
  have h1 := oneC rest h.len
  have hq := op4_grp placesP rest
  have hle := (cutR_le rest 32).2
  generalize goodN (Lib.cut rest [32]).1 999 = g at *
  generalize (Lib.cut rest [32]).2.2 = ok1 at *
  generalize (Lib.cut rest [32]).2.1 = r1 at *
  by_cases hno : ok1 = false ∨ g = none
  · refine rread_group_no s rest r1 ok1 g w _ h h1 hno ?_
    rw [hq]
    rcases hno with rfl | rfl
    · rfl
    · split <;> rfl
  · obtain ⟨v, rfl⟩ : ∃ v, g = some v := by cases g with
      | none => exact absurd (.inr rfl) hno
      | some v => exact ⟨v, rfl⟩
    obtain rfl : ok1 = true := by cases ok1 with
      | false => exact absurd (.inl rfl) hno
      | true => rfl
    rw [hq, if_pos rfl, Option.bind_some]
    exact rread_group s rest r1 v w h h1 (by have := h.len; omega)
theorem rread_any (s : List UInt8) (w : World) (hs : s.length ≤ 900000) :
    Calls Tryz.prog 38 #[.string ⟨s.toArray⟩] w fun e w' => LineOut w w' e (lineR placesP s) := by
  have hcl := cutR_le s 32
  have hC : ∀ word rest ok, Lib.cut s [32] = (word, rest, ok) → RdC s word rest ok := fun word rest ok hcut => by
    rw [hcut] at hcl
    refine ⟨fun W => ?_, by have := hcl.2; dsimp only at this; omega⟩
    have := rcut_any s 32 W (by omega)
    rw [hcut] at this
    exact this
  obtain ⟨word, rest, ok, hcut⟩ : ∃ word rest ok, Lib.cut s [32] = (word, rest, ok) := ⟨_, _, _, rfl⟩
  have h := hC word rest ok hcut
  cases ok with
  | false => exact rread_blank s word rest w _ h (lineR_blank (by rw [hcut]))
  | true =>
    have hop : ∀ o ∈ gops, word = o.word → lineR placesP s = opR placesP rest (some o) := fun o ho e => by
      have := lineR_op (q := placesP) (s := s) ho (by rw [hcut]; exact e)
      rwa [hcut] at this
    by_cases h1 : word = [115, 111, 117, 114, 99, 101]
    · subst h1
      rw [hop gop1 (by decide) rfl, op1_eq]
      exact rread_source s rest w h
    by_cases h2 : word = [101, 97, 99, 104]
    · subst h2
      rw [hop gop2 (by decide) rfl]
      exact rread_op2 s rest w h
    by_cases h3 : word = [119, 105, 110, 100, 111, 119]
    · subst h3
      rw [hop gop3 (by decide) rfl]
      exact rread_op3 s rest w h
    by_cases h4 : word = [103, 114, 111, 117, 112]
    · subst h4
      rw [hop gop4 (by decide) rfl]
      exact rread_op4 s rest w h
    by_cases h5 : word = [102, 108, 97, 116, 116, 101, 110]
    · subst h5
      rw [hop gop5 (by decide) rfl, op5_eq]
      exact rread_flatten s rest w h
    by_cases h6 : word = [115, 105, 110, 107]
    · subst h6
      rw [hop gop6 (by decide) rfl, op6_eq]
      exact rread_sink s rest w h
    refine rread_none s word rest w _ h (by simpa using h1) (by simpa using h2) (by simpa using h3) (by simpa using h4) (by simpa using h5) (by simpa using h6) (lineR_none fun o ho e => ?_)
    rw [hcut] at e
    dsimp only at e
    simp only [gops, List.mem_cons, List.not_mem_nil, or_false] at ho
    rcases ho with rfl | rfl | rfl | rfl | rfl | rfl
    · exact h1 e.symm
    · exact h2 e.symm
    · exact h3 e.symm
    · exact h4 e.symm
    · exact h5 e.symm
    · exact h6 e.symm
end Go.Proofs.YtllnamhgnbdkmaaGreatDoor
set_option linter.unusedVariables false
set_option linter.unusedSimpArgs false
namespace Go.Proofs.YtllnamhgnbdkmaaGreatDoor
open Go.RowKit Go.Shelf
theorem nar_meas : ∀ (r : Nat) (t : Ty) (q j : Nat), Knd.measureT r t = some q → Lw.Nar (r + j) t
  | 0, t, q, j, h => by simp [Knd.measureT] at h
  | r + 1, t, q, j, h => by
    obtain ⟨x, _, hxa, hxw, hall⟩ := Knd.measure_right h
    have hx2 := Knd.words_args x hxw
    rw [show r + 1 + j = (r + j) + 1 by omega]
    exact ⟨by omega, fun a ha => by
      obtain ⟨q', hq⟩ := hall a ha
      exact nar_meas r a q' j hq⟩
theorem nar_tyZ : Lw.Nar 30 tyZ := ⟨by decide, fun a ha => by cases ha⟩
theorem isTx_len {s : List UInt8} (h : isTx s = true) : s.length ≤ 1000 := by
  unfold isTx at h
  simp only [Bool.and_eq_true, decide_eq_true_eq] at h
  omega
theorem places_len {s : List UInt8} {l : List Int} (h : placesP s = some l) : l.length ≤ 4 := (placesP_some h).2.1
theorem nodeP_small {o : Gop} (ho : o ∈ gops) {ps : List (List UInt8)} (hn : (ps.length : Int) = o.parts) {n : Gn} (h : nodeP placesP o.number ps = some n) : SmN n := by
  simp only [gops, List.mem_cons, List.not_mem_nil, or_false] at ho
  rcases ho with rfl | rfl | rfl | rfl | rfl | rfl
  · match ps, hn with
    | [p0], _ =>
      have h : node1 p0 = some n := h
      unfold node1 at h
      cases hq : (Knd.parseT p0).2 with
      | none => rw [hq] at h; cases h
      | some t =>
        rw [hq] at h
        cases h
        obtain ⟨_, q, h2⟩ := Knd.parse_back (Prod.ext rfl hq : Knd.parseT p0 = ((Knd.parseT p0).1, some t))
        exact ⟨by simp [gz], by simp [gz], by simp [gz], nar_meas 6 t q 24 h2⟩
  · match ps, hn with
    | [p0, p1, p2], _ =>
      have h : node2 placesP p0 p1 p2 = some n := h
      unfold node2 at h
      split at h
      · rename_i i s e0 e1 e2
        cases h
        have hs : s.length ≤ 4 := by
          unfold sidesP at e1
          split at e1
          · cases e1; simp
          · exact places_len e1
        exact ⟨by simp, by simp only; omega, by have := isTx_len e2; simp only; omega, nar_tyZ⟩
      · cases h
  · match ps, hn with
    | [p0, p1, p2, p3, p4], _ =>
      have h : node3 p0 p1 p2 p3 p4 = some n := h
      unfold node3 at h
      split at h
      · cases h; exact ⟨by simp, by simp [gz], by simp [gz], nar_tyZ⟩
      · cases h
  · match ps, hn with
    | [p0, p1, p2, p3, p4, p5], _ =>
      have h : node4 p0 p1 p2 p3 p4 p5 = some n := h
      unfold node4 at h
      split at h
      · rename_i e2
        cases h
        exact ⟨by simp, by simp [gz], by have := isTx_len e2; simp only; omega, nar_tyZ⟩
      · cases h
  · match ps, hn with
    | [p0], _ =>
      have h : node5 placesP p0 = some n := h
      unfold node5 at h
      split at h
      · rename_i s e
        cases h
        exact ⟨by have := places_len e; simp only; omega, by simp [gz], by simp [gz], nar_tyZ⟩
      · cases h
  · match ps, hn with
    | [p0], _ =>
      have h : node6 p0 = some n := h
      unfold node6 at h
      split at h
      · cases h; exact ⟨by simp, by simp [gz], by simp [gz], nar_tyZ⟩
      · cases h
theorem lineR_small {line : List UInt8} {n : Gn} (h : lineR placesP line = some n) : SmN n := by
  unfold lineR at h
  cases hf : gops.find? fun x => x.word == (Lib.cut line [32]).1 with
  | none => rw [hf] at h; cases h
  | some o =>
    rw [hf] at h
    have hm := List.mem_of_find?_eq_some hf
    obtain ⟨g1, g2, g3⟩ := gops_parts o hm
    unfold opR at h
    dsimp only at h
    split at h
    · cases h
    · rename_i hlt
      have hfew := splitK_few [32] (min o.parts.toNat ((Lib.cut line [32]).2.1.length + 1) - 1) (Lib.cut line [32]).2.1
      have hlen : ((Lib.splitN (Lib.cut line [32]).2.1 [32] o.parts.toNat).length : Int) = o.parts := by
        unfold Lib.splitN at hlt ⊢
        omega
      exact nodeP_small hm hlen h
theorem chk_take (l : List Gn) : chkAll (l.take 33) = chkAll l := by
  rcases Nat.lt_or_ge 32 l.length with h | h
  · unfold chkAll
    rw [if_pos (.inr (by rw [List.length_take]; omega)), if_pos (.inr h)]
  · rw [List.take_of_length_le (by omega)]
theorem chk_few {l : List Gn} (h : (chkAll l).2 = 0) : l.length ≤ 32 := by
  refine Decidable.byContradiction fun hn => ?_
  unfold chkAll at h
  rw [if_pos (.inr (by omega))] at h
  cases h
theorem parseP_of {q : List UInt8 → Option (List Int)} {s : List UInt8} {k : Nat} {l : List Gn} (h : rdLines q s.length s = (k, some l)) : parseP q s = if (chkAll l).2 = 0 then (0, 0, l) else ((chkAll l).1, (chkAll l).2, []) := by
  unfold parseP
  rw [h]
  dsimp only
  rw [chk_take]
  by_cases hc : (chkAll l).2 = 0
  · rw [if_pos hc, if_pos hc, List.take_of_length_le (by have := chk_few hc; omega)]
  · rw [if_neg hc, if_neg hc]
theorem rdLines_more {q : List UInt8 → Option (List Int)} {line : List UInt8} (hl : ∀ b ∈ line, b ≠ 10) : ∀ (l : List Gn) (f : Nat), (∀ n ∈ l, lineR q (lineP n) = some n ∧ ∀ b ∈ lineP n, b ≠ 10) → (textP l ++ line ++ [10]).length ≤ f → rdLines q f (textP l ++ line ++ [10]) = match lineR q line with
    | some n => (l.length + 1, some (l ++ [n]))
    | none => (l.length, none)
  | [], f, _, hf => by
    cases f with
    | zero => simp at hf
    | succ f =>
      have e : textP [] ++ line ++ [10] = line ++ 10 :: [] := by simp [textP]
      rw [e]
      unfold rdLines
      rw [if_neg (by simp), cut_at hl]
      dsimp only
      cases lineR q line with
      | none => rfl
      | some n => cases f <;> rfl
  | n :: l, f, h, hf => by
    have ht : textP (n :: l) ++ line ++ [10] = lineP n ++ 10 :: (textP l ++ line ++ [10]) := by simp [textP]
    rw [ht] at hf ⊢
    simp only [List.length_append, List.length_cons] at hf
    obtain ⟨h1, h2⟩ := h n (by simp)
    cases f with
    | zero => omega
    | succ f =>
      unfold rdLines
      rw [if_neg (by simp), cut_at h2]
      dsimp only
      rw [h1, rdLines_more hl l f (fun m hm => h m (List.mem_cons_of_mem _ hm)) (by simp only [List.length_append, List.length_cons]; omega)]
      cases lineR q line <;> rfl
end Go.Proofs.YtllnamhgnbdkmaaGreatDoor
