/-
Package expr: the names that stand free in a term: the pure part.
-/
import Derived.Test.YteebihdgfkmgmaaGreatDoorSp2
import Derived.Lib.SlicesCompact
namespace Go.Proofs.YteebihdgfkmgmaaGreatDoor
open Go.RowKit

/-- What stands behind a word. -/
def partsN (op : List UInt8) : List UInt8 := match wdP op with
  | none => []
  | some (p, _) => p
/-- The names that stand free in Kids from one on; f: in one of them. -/
def freeK (f : Nd → List (List UInt8) → List (List UInt8)) : List Nd → List UInt8 → List (List UInt8) → List (List UInt8) → List (List UInt8) → List (List UInt8)
  | [], _, _, _, names => names
  | _ :: _, [], _, _, names => names
  | k :: l, p :: ps, b, own, names => if p = 110 then freeK f l ps b (own ++ [k.text]) names
      else freeK f l ps b own (names ++ f k (if l.isEmpty then b ++ own else b))
/-- The names that stand free in a term where these are bound. -/
def freeT : Nat → Nd → List (List UInt8) → List (List UInt8)
  | 0, _, _ => []
  | r + 1, n, b => if n.op = nameW then (if n.text ∈ b then [] else [n.text]) else freeK (freeT r) n.kids (partsN n.op) b [] []

theorem freeK_mem {f : Nd → List (List UInt8) → List (List UInt8)} (hf : ∀ k b s, s ∈ f k b ↔ s ∈ f k [] ∧ s ∉ b) : ∀ (l : List Nd) (ps : List UInt8) (b own names : List (List UInt8)) (s : List UInt8),
    s ∈ freeK f l ps b own names ↔ s ∈ names ∨ (s ∈ freeK f l ps [] own [] ∧ s ∉ b)
  | [], _, _, _, _, _ => by simp [freeK]
  | _ :: _, [], _, _, _, _ => by simp [freeK]
  | k :: l, p :: ps, b, own, names, s => by
    by_cases hp : p = 110
    · simp only [freeK, if_pos hp]
      exact freeK_mem hf l ps b (own ++ [k.text]) names s
    · simp only [freeK, if_neg hp]
      have h1 := freeK_mem hf l ps b own (names ++ f k (if l.isEmpty then b ++ own else b)) s
      have h2 := freeK_mem hf l ps [] own ([] ++ f k (if l.isEmpty then [] ++ own else [])) s
      have e1 := hf k (if l.isEmpty then b ++ own else b) s
      have e2 := hf k (if l.isEmpty then [] ++ own else []) s
      rw [h1, h2]
      simp only [List.mem_append, List.not_mem_nil, not_false_eq_true, and_true, List.nil_append] at *
      cases hl : l.isEmpty
      · rw [hl] at e1 e2
        simp only [Bool.false_eq_true, if_false, List.not_mem_nil, not_false_eq_true, and_true] at e1 e2 ⊢
        rw [e1]
        constructor
        · rintro ((h | h) | h)
          · exact .inl h
          · exact .inr ⟨.inl h.1, h.2⟩
          · exact .inr ⟨.inr h.1, h.2⟩
        · rintro (h | ⟨h | h, hb⟩)
          · exact .inl (.inl h)
          · exact .inl (.inr ⟨h, hb⟩)
          · exact .inr ⟨h, hb⟩
      · rw [hl] at e1 e2
        simp only [if_true, List.mem_append] at e1 e2 ⊢
        rw [e1, e2]
        constructor
        · rintro ((h | h) | h)
          · exact .inl h
          · exact .inr ⟨.inl ⟨h.1, fun hh => h.2 (.inr hh)⟩, fun hh => h.2 (.inl hh)⟩
          · exact .inr ⟨.inr h.1, h.2⟩
        · rintro (h | ⟨h | h, hb⟩)
          · exact .inl (.inl h)
          · exact .inl (.inr ⟨h.1, fun hh => hh.elim hb h.2⟩)
          · exact .inr ⟨h, hb⟩
theorem freeT_mem : ∀ (r : Nat) (n : Nd) (b : List (List UInt8)) (s : List UInt8), s ∈ freeT r n b ↔ s ∈ freeT r n [] ∧ s ∉ b
  | 0, _, _, _ => by simp [freeT]
  | r + 1, n, b, s => by
    by_cases hn : n.op = nameW
    · simp only [freeT, if_pos hn, List.not_mem_nil, if_false]
      by_cases hb : n.text ∈ b
      · rw [if_pos hb]
        constructor
        · intro h; cases h
        · rintro ⟨h, h'⟩
          rw [List.mem_singleton] at h
          subst h
          exact absurd hb h'
      · rw [if_neg hb]
        constructor
        · intro h
          rw [List.mem_singleton] at h
          subst h
          exact ⟨List.mem_singleton_self _, hb⟩
        · exact fun h => h.1
    · simp only [freeT, if_neg hn]
      have h := freeK_mem (f := freeT r) (fun k b s => freeT_mem r k b s) n.kids (partsN n.op) b [] [] s
      simp only [List.not_mem_nil, false_or] at h
      exact h

theorem kidsW_each {f : Nd → StW → Option StW} : ∀ (l : List Nd) (p : List UInt8) (mark : UInt8) (s s' : StW), kidsW f l p mark s = some s' → ∀ k ∈ l, ∃ s s', f k s = some s'
  | [], _, _, _, _, _ => fun k hk => by cases hk
  | _ :: _, [], _, _, _, h => by simp [kidsW] at h
  | n :: l, p :: ps, mark, s, s', h => by
    unfold kidsW at h
    split at h
    · cases h
    · split at h
      · cases h
      · rename_i s2 h2
        intro k hk
        rcases List.mem_cons.1 hk with rfl | hk
        · exact ⟨_, _, h2⟩
        · exact kidsW_each l ps 44 s2 s' h k hk
theorem bare_kids {i : Int} {t : List UInt8} {ty : Ty} {l : List Nd} (h : bareN i t ty l = true) : l = [] := by
  unfold bareN at h
  simp only [Bool.and_eq_true, decide_eq_true_eq] at h
  exact List.eq_nil_of_length_eq_zero h.2.2.2.2
/-- A right term that is no name has no more Kids than may stand behind its word, and each of them is written. -/
theorem termW_kids {r : Nat} {n : Nd} {s s' : StW} (h : termW (r + 1) n s = some s') (hn : n.op ≠ nameW) : n.kids.length ≤ (partsN n.op).length ∧ ∀ k ∈ n.kids, ∃ s s', termW r k s = some s' := by
  have nil : n.kids = [] → n.kids.length ≤ (partsN n.op).length ∧ ∀ k ∈ n.kids, ∃ s s', termW r k s = some s' := fun e => by
    rw [e]
    exact ⟨Nat.zero_le _, fun k hk => by cases hk⟩
  unfold termW at h
  split at h
  · cases h
  · split at h
    · split at h
      · rename_i hb
        exact nil (bare_kids hb)
      · cases h
    · split at h
      · split at h
        · cases h
        · split at h
          · rename_i hb
            exact nil (bare_kids hb)
          · cases h
      · unfold wordW at h
        split at h
        · cases h
        · rename_i p least hw
          have hp : partsN n.op = p := by unfold partsN; rw [hw]
          unfold wordP at h
          split at h
          · split at h
            · cases h
            · rename_i hl
              obtain ⟨s2, h2, _⟩ := Option.bind_eq_some_iff.1 h
              rw [hp]
              exact ⟨by omega, kidsW_each _ _ _ _ _ h2⟩
          · split at h
            · split at h
              · cases h
              · split at h
                · rename_i hb
                  exact nil (bare_kids hb)
                · cases h
            · split at h
              · split at h
                · split at h
                  · rename_i hb
                    exact nil (bare_kids hb)
                  · cases h
                · cases h
              · split at h
                · rename_i hb
                  exact nil (bare_kids hb)
                · cases h
theorem freeK_same {f g : Nd → List (List UInt8) → List (List UInt8)} : ∀ (l : List Nd) (ps : List UInt8) (b own names : List (List UInt8)), (∀ k ∈ l, ∀ b, f k b = g k b) → freeK f l ps b own names = freeK g l ps b own names
  | [], _, _, _, _, _ => rfl
  | _ :: _, [], _, _, _, _ => rfl
  | k :: l, p :: ps, b, own, names, h => by
    have hl : ∀ k ∈ l, ∀ b, f k b = g k b := fun k hk => h k (List.mem_cons_of_mem _ hk)
    simp only [freeK]
    rw [h k (List.mem_cons_self ..), freeK_same l ps b _ _ hl, freeK_same l ps b _ _ hl]
theorem freeT_more : ∀ (r : Nat) (n : Nd), (∃ s s', termW r n s = some s') → ∀ r', r ≤ r' → ∀ b, freeT r' n b = freeT r n b
  | 0, n, ⟨s, s', h⟩ => by simp [termW] at h
  | r + 1, n, ⟨s, s', h⟩ => fun r' hr b => by
    obtain ⟨r', rfl⟩ : ∃ x, r' = x + 1 := ⟨r' - 1, by omega⟩
    by_cases hn : n.op = nameW
    · simp only [freeT, if_pos hn]
    · simp only [freeT, if_neg hn]
      have hk := (termW_kids h hn).2
      exact freeK_same _ _ _ _ _ fun k hm b => freeT_more r k (hk k hm) r' (by omega) b
theorem showW_term {n : Nd} (h : (showW n).isSome = true) : ∃ s s', termW 24 n s = some s' := by
  unfold showW at h
  split at h
  · cases h
  · rename_i s hs
    exact ⟨_, _, hs⟩
theorem freeK_all {f : Nd → List (List UInt8) → List (List UInt8)} {P : List UInt8 → Prop} : ∀ (l : List Nd) (ps : List UInt8) (b own names : List (List UInt8)), (∀ k ∈ l, ∀ b, ∀ x ∈ f k b, P x) → (∀ x ∈ names, P x) → ∀ x ∈ freeK f l ps b own names, P x
  | [], _, _, _, _, _, hn => hn
  | _ :: _, [], _, _, _, _, hn => hn
  | k :: l, p :: ps, b, own, names, hf, hn => by
    have hl : ∀ k ∈ l, ∀ b, ∀ x ∈ f k b, P x := fun k hk => hf k (List.mem_cons_of_mem _ hk)
    simp only [freeK]
    split
    · exact freeK_all l ps b _ names hl hn
    · refine freeK_all l ps b own _ hl fun x hx => ?_
      rcases List.mem_append.1 hx with hx | hx
      · exact hn x hx
      · exact hf k (List.mem_cons_self ..) _ x hx
/-- What stands free are names. -/
theorem freeT_names : ∀ (r : Nat) (n : Nd) (b : List (List UInt8)), (∃ s s', termW r n s = some s') → ∀ x ∈ freeT r n b, isNm x = true
  | 0, _, _, ⟨s, s', h⟩ => by simp [termW] at h
  | r + 1, n, b, ⟨s, s', h⟩ => by
    by_cases hn : n.op = nameW
    · simp only [freeT, if_pos hn]
      intro x hx
      split at hx
      · cases hx
      · rw [List.mem_singleton] at hx
        subst hx
        unfold termW at h
        rw [hn] at h
        rw [if_neg (show ¬ nameW = intW by decide), if_neg (show ¬ nameW = textW by decide), if_pos rfl] at h
        split at h
        · cases h
        · split at h
          · assumption
          · cases h
    · simp only [freeT, if_neg hn]
      have hk := (termW_kids h hn).2
      exact freeK_all _ _ _ _ _ (fun k hm b x hx => freeT_names r k b (hk k hm) x hx) (fun x hx => by cases hx)

theorem freeK_cnt {f : Nd → List (List UInt8) → List (List UInt8)} {g : Nd → StW → Option StW} : ∀ (l : List Nd) (ps : List UInt8) (mark : UInt8) (s s' : StW) (b own names : List (List UInt8)), (∀ k ∈ l, ∀ s s', g k s = some s' → ∀ b, (f k b).length + s.2 ≤ s'.2) → kidsW g l ps mark s = some s' →
    (freeK f l ps b own names).length + s.2 ≤ s'.2 + names.length
  | [], _, _, s, s', _, _, names, _, h => by
    simp only [kidsW, Option.some.injEq] at h
    subst h
    simp only [freeK]
    omega
  | _ :: _, [], _, _, _, _, _, _, _, h => by simp [kidsW] at h
  | k :: l, p :: ps, mark, s, s', b, own, names, hf, h => by
    unfold kidsW at h
    split at h
    · cases h
    · split at h
      · cases h
      · rename_i s2 h2
        have hl : ∀ k ∈ l, ∀ s s', g k s = some s' → ∀ b, (f k b).length + s.2 ≤ s'.2 := fun k hk => hf k (List.mem_cons_of_mem _ hk)
        have hk := fun b => hf k (List.mem_cons_self ..) _ _ h2 b
        simp only [freeK]
        split
        · have h3 := freeK_cnt l ps 44 s2 s' b (own ++ [k.text]) names hl h
          have h4 := hk b
          simp only at h4
          omega
        · have h3 := freeK_cnt l ps 44 s2 s' b own (names ++ f k (if l.isEmpty then b ++ own else b)) hl h
          have h4 := hk (if l.isEmpty then b ++ own else b)
          rw [List.length_append] at h3
          simp only at h4
          omega
theorem freeT_cnt : ∀ (r : Nat) (n : Nd) (s s' : StW) (b : List (List UInt8)), termW r n s = some s' → (freeT r n b).length + s.2 ≤ s'.2
  | 0, _, s, s', _, h => by simp [termW] at h
  | r + 1, n, s, s', b, h => by
    have nil : n.op ≠ nameW → n.kids = [] → s'.2 = s.2 + 1 → (freeT (r + 1) n b).length + s.2 ≤ s'.2 := fun hn hk hs => by
      simp only [freeT, if_neg hn, hk, freeK]
      simp
      omega
    unfold termW at h
    split at h
    · cases h
    · split at h
      · rename_i ho
        split at h
        · rename_i hb
          injection h with h
          exact nil (by rw [ho]; decide) (bare_kids hb) (by rw [← h])
        · cases h
      · split at h
        · rename_i ho
          split at h
          · cases h
          · split at h
            · rename_i hb
              injection h with h
              exact nil (by rw [ho]; decide) (bare_kids hb) (by rw [← h])
            · cases h
        · split at h
          · rename_i hn
            split at h
            · split at h
              · injection h with h
                subst h
                simp only [freeT, if_pos hn]
                split
                · simp
                · simp; omega
              · cases h
            · cases h
          · rename_i hn
            unfold wordW at h
            split at h
            · cases h
            · rename_i p least hw
              have hp : partsN n.op = p := by unfold partsN; rw [hw]
              unfold wordP at h
              split at h
              · split at h
                · cases h
                · obtain ⟨s2, h2, h3⟩ := Option.bind_eq_some_iff.1 h
                  split at h3
                  · injection h3 with h3
                    subst h3
                    have := freeK_cnt (f := freeT r) n.kids p 40 _ _ b [] [] (fun k _ s s' hk b => freeT_cnt r k s s' b hk) h2
                    simp only [freeT, if_neg hn, hp]
                    simp only [List.length_nil] at this
                    omega
                  · cases h3
              · split at h
                · split at h
                  · cases h
                  · split at h
                    · rename_i hb
                      injection h with h
                      exact nil hn (bare_kids hb) (by rw [← h])
                    · cases h
                · split at h
                  · split at h
                    · split at h
                      · rename_i hb
                        injection h with h
                        exact nil hn (bare_kids hb) (by rw [← h])
                      · cases h
                    · cases h
                  · split at h
                    · rename_i hb
                      injection h with h
                      exact nil hn (bare_kids hb) (by rw [← h])
                    · cases h
/-- A right term has no more free names than its text has bytes. -/
theorem free_few {n : Nd} (h : (showW n).isSome = true) (b : List (List UInt8)) : (freeT 24 n b).length ≤ 4096 := by
  unfold showW at h
  split at h
  · cases h
  · rename_i s hs
    split at h
    · cases h
    · have h1 := freeT_cnt 24 n _ _ b hs
      have h2 := termW_cnt 24 n _ _ hs (by simp)
      simp only at h1
      omega
/-- The names that are told. -/
def freeL (n : Nd) : List (List UInt8) := Lib.compact ((freeT 24 n []).mergeSort fun x y => decide (x ≤ y))

def letW : List UInt8 := [108, 101, 116]
/-- A let. -/
def letN (name : List UInt8) (e n : Nd) : Nd := .mk letW 0 [] ty0 [.mk nameW 0 name ty0 [], e, n]
theorem parts_let : partsN letW = [110, 101, 101] := by decide +kernel
theorem let_name : letW ≠ nameW := by decide
/-- What stands free in a let. -/
theorem free_let {name : List UInt8} {e n : Nd} (h : (showW (letN name e n)).isSome = true) (s : List UInt8) :
    s ∈ freeT 24 (letN name e n) [] ↔ s ∈ freeT 24 e [] ∨ (s ∈ freeT 24 n [] ∧ s ≠ name) := by
  obtain ⟨s1, s2, ht⟩ := showW_term h
  obtain ⟨_, hk⟩ := termW_kids (r := 23) ht let_name
  have he := freeT_more 23 e (hk e (by simp [letN, Nd.kids])) 24 (by omega) []
  have hn := freeT_more 23 n (hk n (by simp [letN, Nd.kids])) 24 (by omega) []
  have hm := freeT_mem 23 n [name] s
  rw [he, hn]
  have hl : freeT 24 (letN name e n) [] = freeT 23 e [] ++ freeT 23 n [name] := by
    show freeT (23 + 1) (letN name e n) [] = _
    unfold freeT
    rw [if_neg (show (letN name e n).op ≠ nameW from let_name)]
    show freeK (freeT 23) [.mk nameW 0 name ty0 [], e, n] (partsN letW) [] [] [] = _
    rw [parts_let]
    have hg : ∀ f : Nd → List (List UInt8) → List (List UInt8), freeK f [.mk nameW 0 name ty0 [], e, n] [110, 101, 101] [] [] [] = f e [] ++ f n [name] := fun f => by simp [freeK, Nd.text]
    exact hg _
  rw [hl, List.mem_append, hm]
  simp
end Go.Proofs.YteebihdgfkmgmaaGreatDoor
