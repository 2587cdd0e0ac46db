/-
Package expr: what the document's names, has and Free answer with, and that this is what stands free: the pure part.
-/
import Derived.Test.YtadbnlnifacblaaGreatDoorStp
import Derived.Test.YtadbnlnifacblaaGreatDoorFrx
namespace Go.Proofs.YtadbnlnifacblaaGreatDoor
open Go.RowKit
def mapW : List UInt8 := [109, 97, 112]
def filterW : List UInt8 := [102, 105, 108, 116, 101, 114]
def foldW : List UInt8 := [102, 111, 108, 100]
def bindsB (op : List UInt8) (i : Nat) : Bool := (decide (op = letW) && decide (i = 0)) || ((decide (op = mapW) || decide (op = filterW)) && decide (i = 1)) || (decide (op = foldW) && (decide (i = 2) || decide (i = 3)))
def boundB (op : List UInt8) (i : Nat) : Bool := ((decide (op = letW) || decide (op = mapW) || decide (op = filterW)) && decide (i = 2)) || (decide (op = foldW) && decide (i = 4))
def bdK (op name : List UInt8) : List Nd → Nat → Bool → Bool
  | [], _, b => b
  | k :: l, i, b => bdK op name l (i + 1) (b || (bindsB op i && decide (k.text = name)))
def hasK (f : Nd → Bool) (op : List UInt8) (bd : Bool) : List Nd → Nat → Bool
  | [], _ => false
  | k :: l, i => (!bindsB op i && (!(bd && boundB op i) && f k)) || hasK f op bd l (i + 1)
def hasD (name : List UInt8) : Nat → Nd → Bool
  | 0, _ => false
  | r + 1, n => if n.op = nameW then decide (n.text = name) else hasK (hasD name r) n.op (bdK n.op name n.kids 0 false) n.kids 0
theorem wdN_n : (wdL.all fun x => decide (110 ∈ x.2 → x.1 = letW ∨ x.1 = mapW ∨ x.1 = filterW ∨ x.1 = foldW)) = true := by decide +kernel
theorem wd_n {t p : List UInt8} {least : Nat} (h : wdP t = some (p, least)) (hp : 110 ∈ p) : t = letW ∨ t = mapW ∨ t = filterW ∨ t = foldW := by
  unfold wdP at h
  split at h
  · injection h with h
    injection h with h1 h2
    rw [← h1] at hp
    have := List.eq_of_mem_replicate hp
    exact absurd this (by decide)
  · obtain ⟨x, hx, e⟩ := Option.map_eq_some_iff.1 h
    injection e with h1 h2
    have h3 := List.find?_some hx
    have h4 : x.1 = t := of_decide_eq_true h3
    have h5 := List.all_eq_true.1 wdN_n x (List.mem_of_find?_eq_some hx)
    rw [← h4]
    exact of_decide_eq_true h5 (by rw [h1]; exact hp)
theorem parts_no_n {op : List UInt8} (h : ¬ (op = letW ∨ op = mapW ∨ op = filterW ∨ op = foldW)) : ∀ q ∈ partsN op, q ≠ 110 := by
  intro q hq e
  subst e
  unfold partsN at hq
  split at hq
  · cases hq
  · rename_i hw
    exact h (wd_n hw hq)
theorem freeK_plain {f : Nd → List (List UInt8) → List (List UInt8)} {x : List UInt8} : ∀ (l : List Nd) (ps : List UInt8) (names : List (List UInt8)), (∀ q ∈ ps, q ≠ 110) → l.length ≤ ps.length → (x ∈ freeK f l ps [] [] names ↔ x ∈ names ∨ ∃ k ∈ l, x ∈ f k [])
  | [], _, names, _, _ => by simp [freeK]
  | _ :: _, [], _, _, h => by simp at h
  | k :: l, p :: ps, names, hp, hl => by
    rw [freeK, if_neg (hp p (List.mem_cons_self ..))]
    have : (if l.isEmpty then ([] : List (List UInt8)) ++ [] else []) = [] := by split <;> rfl
    rw [this, freeK_plain l ps _ (fun q hq => hp q (List.mem_cons_of_mem _ hq)) (by simpa using hl), List.mem_append]
    constructor
    · rintro ((h | h) | ⟨k', hk, h⟩)
      · exact .inl h
      · exact .inr ⟨k, List.mem_cons_self .., h⟩
      · exact .inr ⟨k', List.mem_cons_of_mem _ hk, h⟩
    · rintro (h | ⟨k', hk, h⟩)
      · exact .inl (.inl h)
      · rcases List.mem_cons.1 hk with rfl | hk
        · exact .inl (.inr h)
        · exact .inr ⟨k', hk, h⟩
theorem binds_other {op : List UInt8} (h : ¬ (op = letW ∨ op = mapW ∨ op = filterW ∨ op = foldW)) (i : Nat) : bindsB op i = false ∧ boundB op i = false := by
  have h1 : decide (op = letW) = false := decide_eq_false fun e => h (.inl e)
  have h2 : decide (op = mapW) = false := decide_eq_false fun e => h (.inr (.inl e))
  have h3 : decide (op = filterW) = false := decide_eq_false fun e => h (.inr (.inr (.inl e)))
  have h4 : decide (op = foldW) = false := decide_eq_false fun e => h (.inr (.inr (.inr e)))
  unfold bindsB boundB
  rw [h1, h2, h3, h4]
  exact ⟨rfl, rfl⟩
theorem hasK_other {f : Nd → Bool} {op : List UInt8} {bd : Bool} (h : ¬ (op = letW ∨ op = mapW ∨ op = filterW ∨ op = foldW)) : ∀ (l : List Nd) (i : Nat), hasK f op bd l i = l.any f
  | [], _ => rfl
  | k :: l, i => by
    obtain ⟨h1, h2⟩ := binds_other h i
    rw [hasK, h1, h2, hasK_other h l (i + 1)]
    simp
theorem termW_least {r : Nat} {n : Nd} {s s' : StW} {p : List UInt8} {least : Nat} (h : termW (r + 1) n s = some s') (hw : wdP n.op = some (p, least)) (h101 : hasB p 101 = true) : least ≤ n.kids.length ∧ n.kids.length ≤ p.length := by
  obtain ⟨g1, g2, g3⟩ := word_op hw
  rw [termW] at h
  split at h
  · cases h
  · unfold wordW at h
    rw [hw] at h
    simp only at h
    unfold wordP at h
    rw [if_pos h101] at h
    split at h
    · cases h
    · omega
theorem wdr_let : wdP letW = some ([110, 101, 101], 3) := by decide +kernel
theorem wdr_map : wdP mapW = some ([101, 110, 101], 3) := by decide +kernel
theorem wdr_filter : wdP filterW = some ([101, 110, 101], 3) := by decide +kernel
theorem wdr_fold : wdP foldW = some ([101, 101, 110, 110, 101], 5) := by decide +kernel
theorem three {l : List Nd} (h : 3 ≤ l.length) (g : l.length ≤ 3) : ∃ a b c, l = [a, b, c] := by
  match l, h, g with
  | [a, b, c], _, _ => exact ⟨a, b, c, rfl⟩
theorem five {l : List Nd} (h : 5 ≤ l.length) (g : l.length ≤ 5) : ∃ a b c d e, l = [a, b, c, d, e] := by
  match l, h, g with
  | [a, b, c, d, e], _, _ => exact ⟨a, b, c, d, e, rfl⟩
theorem b_let : bindsB letW 0 = true ∧ bindsB letW 1 = false ∧ bindsB letW 2 = false ∧ boundB letW 1 = false ∧ boundB letW 2 = true := by decide
theorem b_map : bindsB mapW 0 = false ∧ bindsB mapW 1 = true ∧ bindsB mapW 2 = false ∧ boundB mapW 0 = false ∧ boundB mapW 2 = true := by decide
theorem b_filter : bindsB filterW 0 = false ∧ bindsB filterW 1 = true ∧ bindsB filterW 2 = false ∧ boundB filterW 0 = false ∧ boundB filterW 2 = true := by decide
theorem b_fold : bindsB foldW 0 = false ∧ bindsB foldW 1 = false ∧ bindsB foldW 2 = true ∧ bindsB foldW 3 = true ∧ bindsB foldW 4 = false ∧ boundB foldW 0 = false ∧ boundB foldW 1 = false ∧ boundB foldW 4 = true := by decide
theorem not_in1 (a x : List UInt8) : (!decide (a = x)) = true ↔ x ∉ [a] := by
  rw [Bool.not_eq_true', decide_eq_false_iff_not, List.mem_singleton]
  exact ⟨fun h e => h e.symm, fun h e => h e.symm⟩
theorem not_in2 (a b x : List UInt8) : (!(decide (a = x) || decide (b = x))) = true ↔ x ∉ [a, b] := by
  rw [Bool.not_eq_true', Bool.or_eq_false_iff, decide_eq_false_iff_not, decide_eq_false_iff_not, List.mem_cons, List.mem_singleton]
  exact ⟨fun h e => e.elim (fun e => h.1 e.symm) (fun e => h.2 e.symm), fun h => ⟨fun e => h (.inl e.symm), fun e => h (.inr e.symm)⟩⟩
theorem has_free (name : List UInt8) : ∀ (r : Nat) (n : Nd), (∃ s s', termW r n s = some s') → (hasD name r n = true ↔ name ∈ freeT r n [])
  | 0, _, h => by
    obtain ⟨s, s', h⟩ := h
    simp [termW] at h
  | r + 1, n, ⟨s, s', h⟩ => by
    by_cases hn : n.op = nameW
    · rw [hasD, freeT, if_pos hn, if_pos hn]
      simp [eq_comm]
    · obtain ⟨hl, hk⟩ := termW_kids h hn
      rw [hasD, freeT, if_neg hn, if_neg hn]
      have IH : ∀ k ∈ n.kids, (hasD name r k = true ↔ name ∈ freeT r k []) := fun k hk' => has_free name r k (hk k hk')
      have IB : ∀ (k : Nd) (b : List (List UInt8)), name ∈ freeT r k b ↔ name ∈ freeT r k [] ∧ name ∉ b := fun k b => freeT_mem r k b name
      have parts : ∀ {p least}, wdP n.op = some (p, least) → partsN n.op = p := fun hw => by unfold partsN; rw [hw]
      by_cases h4 : n.op = letW ∨ n.op = mapW ∨ n.op = filterW ∨ n.op = foldW
      · rcases h4 with e | e | e | e
        · have hw : wdP n.op = some ([110, 101, 101], 3) := by rw [e]; exact wdr_let
          obtain ⟨g1, g2⟩ := termW_least h hw (by decide)
          obtain ⟨a, b, c, hab⟩ := three g1 g2
          rw [hab] at IH ⊢
          obtain ⟨q1, q2, q3, q4, q5⟩ := b_let
          have i1 := IH b (by simp)
          have i2 := IH c (by simp)
          have e1 : hasK (hasD name r) letW (bdK letW name [a, b, c] 0 false) [a, b, c] 0 = (hasD name r b || (!decide (a.text = name) && hasD name r c)) := by
            simp [bdK, hasK, q1, q2, q3, q4, q5]
          have e2 : freeK (freeT r) [a, b, c] [110, 101, 101] [] [] [] = freeT r b [] ++ freeT r c [a.text] := by simp [freeK]
          rw [parts hw, e, e1, e2, List.mem_append, IB c, Bool.or_eq_true, Bool.and_eq_true, i1, i2, not_in1]
          exact or_congr Iff.rfl and_comm
        · have hw : wdP n.op = some ([101, 110, 101], 3) := by rw [e]; exact wdr_map
          obtain ⟨g1, g2⟩ := termW_least h hw (by decide)
          obtain ⟨a, b, c, hab⟩ := three g1 g2
          rw [hab] at IH ⊢
          obtain ⟨q1, q2, q3, q4, q5⟩ := b_map
          have i1 := IH a (by simp)
          have i2 := IH c (by simp)
          have e1 : hasK (hasD name r) mapW (bdK mapW name [a, b, c] 0 false) [a, b, c] 0 = (hasD name r a || (!decide (b.text = name) && hasD name r c)) := by
            simp [bdK, hasK, q1, q2, q3, q4, q5]
          have e2 : freeK (freeT r) [a, b, c] [101, 110, 101] [] [] [] = freeT r a [] ++ freeT r c [b.text] := by simp [freeK]
          rw [parts hw, e, e1, e2, List.mem_append, IB c, Bool.or_eq_true, Bool.and_eq_true, i1, i2, not_in1]
          exact or_congr Iff.rfl and_comm
        · have hw : wdP n.op = some ([101, 110, 101], 3) := by rw [e]; exact wdr_filter
          obtain ⟨g1, g2⟩ := termW_least h hw (by decide)
          obtain ⟨a, b, c, hab⟩ := three g1 g2
          rw [hab] at IH ⊢
          obtain ⟨q1, q2, q3, q4, q5⟩ := b_filter
          have i1 := IH a (by simp)
          have i2 := IH c (by simp)
          have e1 : hasK (hasD name r) filterW (bdK filterW name [a, b, c] 0 false) [a, b, c] 0 = (hasD name r a || (!decide (b.text = name) && hasD name r c)) := by
            simp [bdK, hasK, q1, q2, q3, q4, q5]
          have e2 : freeK (freeT r) [a, b, c] [101, 110, 101] [] [] [] = freeT r a [] ++ freeT r c [b.text] := by simp [freeK]
          rw [parts hw, e, e1, e2, List.mem_append, IB c, Bool.or_eq_true, Bool.and_eq_true, i1, i2, not_in1]
          exact or_congr Iff.rfl and_comm
        · have hw : wdP n.op = some ([101, 101, 110, 110, 101], 5) := by rw [e]; exact wdr_fold
          obtain ⟨g1, g2⟩ := termW_least h hw (by decide)
          obtain ⟨a, b, c, d, f, hab⟩ := five g1 g2
          rw [hab] at IH ⊢
          obtain ⟨q1, q2, q3, q4, q5, q6, q7, q8⟩ := b_fold
          have i1 := IH a (by simp)
          have i2 := IH b (by simp)
          have i3 := IH f (by simp)
          have e1 : hasK (hasD name r) foldW (bdK foldW name [a, b, c, d, f] 0 false) [a, b, c, d, f] 0 = (hasD name r a || (hasD name r b || (!(decide (c.text = name) || decide (d.text = name)) && hasD name r f))) := by
            simp [bdK, hasK, q1, q2, q3, q4, q5, q6, q7, q8]
          have e2 : freeK (freeT r) [a, b, c, d, f] [101, 101, 110, 110, 101] [] [] [] = freeT r a [] ++ (freeT r b [] ++ freeT r f [c.text, d.text]) := by simp [freeK]
          rw [parts hw, e, e1, e2, List.mem_append, List.mem_append, IB f, Bool.or_eq_true, Bool.or_eq_true, Bool.and_eq_true, i1, i2, i3, not_in2]
          exact or_congr Iff.rfl (or_congr Iff.rfl and_comm)
      · rw [hasK_other h4, freeK_plain n.kids (partsN n.op) [] (parts_no_n h4) hl, List.any_eq_true]
        simp only [List.not_mem_nil, false_or]
        exact ⟨fun ⟨k, h1, h2⟩ => ⟨k, h1, (IH k h1).1 h2⟩, fun ⟨k, h1, h2⟩ => ⟨k, h1, (IH k h1).2 h2⟩⟩
theorem hasD_some {name : List UInt8} : ∀ (r : Nat) (n : Nd), hasD name (r + 1) n = true → n.op ≠ nameW → ∃ k ∈ n.kids, hasD name r k = true := by
  intro r n h hn
  rw [hasD, if_neg hn] at h
  have : ∀ (l : List Nd) (i : Nat) (bd : Bool), hasK (hasD name r) n.op bd l i = true → ∃ k ∈ l, hasD name r k = true := by
    intro l
    induction l with
    | nil => intro i bd h; cases h
    | cons k l ih =>
      intro i bd h
      rw [hasK, Bool.or_eq_true] at h
      rcases h with h | h
      · simp only [Bool.and_eq_true] at h
        exact ⟨k, List.mem_cons_self .., h.2.2⟩
      · obtain ⟨k', h1, h2⟩ := ih _ _ h
        exact ⟨k', List.mem_cons_of_mem _ h1, h2⟩
  exact this _ _ _ h
def insD (t : List UInt8) : List (List UInt8) → Bool → List (List UInt8)
  | [], put => if put then [] else [t]
  | x :: l, put => if (put || decide (x = t)) = false ∧ t < x then t :: x :: insD t l true else x :: insD t l (put || decide (x = t))
def namesD : Nat → Nd → List (List UInt8) → List (List UInt8)
  | 0, _, l => l
  | r + 1, n, l => if n.op = nameW then insD n.text l false else n.kids.foldl (fun l k => namesD r k l) l
abbrev Rise (l : List (List UInt8)) : Prop := l.Pairwise (· < ·)
theorem insD_put (t : List UInt8) : ∀ l, insD t l true = l
  | [] => rfl
  | x :: l => by
    rw [insD, if_neg (by simp), Bool.true_or, insD_put t l]
theorem ins_mem {t : List UInt8} : ∀ (l : List (List UInt8)) (x : List UInt8), x ∈ insD t l false ↔ x = t ∨ x ∈ l
  | [], x => by simp [insD]
  | y :: l, x => by
    rw [insD]
    split
    · rw [insD_put]
      simp
    · cases hy : decide (y = t) with
      | true =>
        have := of_decide_eq_true hy
        rw [Bool.false_or, insD_put]
        simp [this]
      | false =>
        rw [Bool.false_or, List.mem_cons, ins_mem l x, List.mem_cons]
        constructor
        · rintro (h | h | h)
          · exact .inr (.inl h)
          · exact .inl h
          · exact .inr (.inr h)
        · rintro (h | h | h)
          · exact .inr (.inl h)
          · exact .inl h
          · exact .inr (.inr h)
theorem lt_tri {a b : List UInt8} (h : ¬ a < b) (g : a ≠ b) : b < a := by
  have : b ≤ a := h
  rcases List.le_iff_lt_or_eq.1 this with h | h
  · exact h
  · exact absurd h.symm g
theorem ins_rise {t : List UInt8} : ∀ (l : List (List UInt8)), Rise l → Rise (insD t l false)
  | [], _ => by simp [insD, Rise]
  | y :: l, h => by
    obtain ⟨h1, h2⟩ := List.pairwise_cons.1 h
    rw [insD]
    split
    · rename_i hc
      rw [insD_put]
      exact List.pairwise_cons.2 ⟨fun z hz => by
        rcases List.mem_cons.1 hz with rfl | hz
        · exact hc.2
        · exact List.lt_trans hc.2 (h1 z hz), h⟩
    · rename_i hc
      cases hy : decide (y = t) with
      | true =>
        rw [Bool.false_or, insD_put]
        exact h
      | false =>
        rw [Bool.false_or]
        rw [hy] at hc
        have hlt : y < t := lt_tri (fun g => hc ⟨rfl, g⟩) (fun e => by rw [e] at hy; simp at hy)
        exact List.pairwise_cons.2 ⟨fun z hz => by
          rcases (ins_mem l z).1 hz with rfl | hz
          · exact hlt
          · exact h1 z hz, ins_rise l h2⟩
theorem names_rise : ∀ (r : Nat) (n : Nd) (l : List (List UInt8)), Rise l → Rise (namesD r n l)
  | 0, _, _, h => h
  | r + 1, n, l, h => by
    rw [namesD]
    split
    · exact ins_rise l h
    · have : ∀ (ks : List Nd) (l : List (List UInt8)), Rise l → Rise (ks.foldl (fun l k => namesD r k l) l) := by
        intro ks
        induction ks with
        | nil => intro l h; exact h
        | cons k ks ih => intro l h; exact ih _ (names_rise r k l h)
      exact this _ _ h
theorem names_keep : ∀ (r : Nat) (n : Nd) (l : List (List UInt8)) (x : List UInt8), x ∈ l → x ∈ namesD r n l
  | 0, _, _, _, h => h
  | r + 1, n, l, x, h => by
    rw [namesD]
    split
    · exact (ins_mem l x).2 (.inr h)
    · have : ∀ (ks : List Nd) (l : List (List UInt8)), x ∈ l → x ∈ (ks.foldl (fun l k => namesD r k l) l) := by
        intro ks
        induction ks with
        | nil => intro l h; exact h
        | cons k ks ih => intro l h; exact ih _ (names_keep r k l x h)
      exact this _ _ h
theorem has_names {name : List UInt8} : ∀ (r : Nat) (n : Nd) (l : List (List UInt8)), hasD name r n = true → name ∈ namesD r n l
  | 0, _, _, h => by cases h
  | r + 1, n, l, h => by
    by_cases hn : n.op = nameW
    · rw [hasD, if_pos hn] at h
      rw [namesD, if_pos hn]
      exact (ins_mem l name).2 (.inl (of_decide_eq_true h).symm)
    · obtain ⟨k, hk, h2⟩ := hasD_some r n h hn
      rw [namesD, if_neg hn]
      have : ∀ (ks : List Nd) (l : List (List UInt8)), k ∈ ks → name ∈ (ks.foldl (fun l k => namesD r k l) l) := by
        intro ks
        induction ks with
        | nil => intro l h; cases h
        | cons k' ks ih =>
          intro l h
          rcases List.mem_cons.1 h with rfl | h
          · have h3 : ∀ (ks : List Nd) (l : List (List UInt8)), name ∈ l → name ∈ (ks.foldl (fun l k => namesD r k l) l) := by
              intro ks
              induction ks with
              | nil => intro l h; exact h
              | cons k ks ih => intro l h; exact ih _ (names_keep r k l name h)
            exact h3 ks _ (has_names r k l h2)
          · exact ih _ h
      exact this _ _ hk
theorem rise_eq : ∀ (a b : List (List UInt8)), Rise a → Rise b → (∀ x, x ∈ a ↔ x ∈ b) → a = b
  | [], [], _, _, _ => rfl
  | [], y :: b, _, _, h => absurd ((h y).2 (List.mem_cons_self ..)) (by simp)
  | x :: a, [], _, _, h => absurd ((h x).1 (List.mem_cons_self ..)) (by simp)
  | x :: a, y :: b, ha, hb, h => by
    obtain ⟨a1, a2⟩ := List.pairwise_cons.1 ha
    obtain ⟨b1, b2⟩ := List.pairwise_cons.1 hb
    have hxy : x = y := by
      rcases List.mem_cons.1 ((h x).1 (List.mem_cons_self ..)) with e | e
      · exact e
      · rcases List.mem_cons.1 ((h y).2 (List.mem_cons_self ..)) with g | g
        · exact g.symm
        · exact absurd (List.lt_trans (a1 y g) (b1 x e)) (List.lt_irrefl x)
    subst hxy
    rw [rise_eq a b a2 b2 fun z => ⟨fun hz => by
      rcases List.mem_cons.1 ((h z).1 (List.mem_cons_of_mem _ hz)) with e | e
      · subst e; exact absurd (a1 z hz) (List.lt_irrefl z)
      · exact e, fun hz => by
      rcases List.mem_cons.1 ((h z).2 (List.mem_cons_of_mem _ hz)) with e | e
      · subst e; exact absurd (b1 z hz) (List.lt_irrefl z)
      · exact e⟩]
theorem sort_rise (l : List (List UInt8)) : (l.mergeSort fun x y => decide (x ≤ y)).Pairwise (fun a b => a ≤ b) := by
  have := List.pairwise_mergeSort (le := fun (x y : List UInt8) => decide (x ≤ y)) (fun a b c h g => by simp only [decide_eq_true_eq] at *; exact List.le_trans h g) (fun a b => by simp only [Bool.or_eq_true, decide_eq_true_eq]; exact List.le_total a b) l
  exact this.imp fun h => by simpa using h
theorem compact_rise {l : List (List UInt8)} (h : l.Pairwise (fun a b => a ≤ b)) : Rise (Lib.compact l) := by
  have hget : ∀ i j, i ≤ j → j < l.length → l.toArray[i]! ≤ l.toArray[j]! := by
    intro i j hij hj
    rcases Nat.lt_or_eq_of_le hij with hlt | e
    · have := List.pairwise_iff_getElem.1 h i j (by omega) hj hlt
      rw [getElem!_pos l.toArray i (by simp; omega), getElem!_pos l.toArray j (by simp; omega)]
      simpa using this
    · subst e
      exact List.le_refl _
  have key : ∀ m, m ≤ l.length → Rise (Lib.compactUpTo l.toArray m) ∧ ∀ x ∈ Lib.compactUpTo l.toArray m, ∃ j, j < m ∧ x = l.toArray[j]! := by
    intro m
    induction m with
    | zero => intro _; exact ⟨by simp [Lib.compactUpTo, Rise], fun x hx => by simp [Lib.compactUpTo] at hx⟩
    | succ m ih =>
      intro hm
      obtain ⟨i1, i2⟩ := ih (by omega)
      rw [Lib.compactUpTo_succ]
      cases hk : Lib.keeps l.toArray m with
      | false =>
        simp only [Bool.false_eq_true, if_false, List.append_nil]
        exact ⟨i1, fun x hx => by obtain ⟨j, h1, h2⟩ := i2 x hx; exact ⟨j, by omega, h2⟩⟩
      | true =>
        simp only [if_true]
        refine ⟨List.pairwise_append.2 ⟨i1, by simp, fun a ha b hb => ?_⟩, fun x hx => ?_⟩
        · obtain ⟨j, h1, h2⟩ := i2 a ha
          have hb' : b = l.toArray[m]! := by simpa using hb
          subst hb' h2
          unfold Lib.keeps at hk
          rcases of_decide_eq_true hk with e | e
          · omega
          · have l1 := hget j (m - 1) (by omega) (by omega)
            have l2 := hget (m - 1) m (by omega) (by omega)
            rcases List.le_iff_lt_or_eq.1 l2 with l3 | l3
            · exact Std.lt_of_le_of_lt l1 l3
            · exact absurd l3.symm e
        · rcases List.mem_append.1 hx with hx | hx
          · obtain ⟨j, h1, h2⟩ := i2 x hx
            exact ⟨j, by omega, h2⟩
          · exact ⟨m, by omega, by simpa using hx⟩
  exact (key l.length (Nat.le_refl _)).1
theorem freeL_rise (n : Nd) : Rise (freeL n) := compact_rise (sort_rise _)
def freeD (n : Nd) : List (List UInt8) := (namesD 24 n []).filter fun x => hasD x 24 n
theorem freeD_eq {n : Nd} (h : (showW n).isSome = true) : freeD n = freeL n := by
  refine rise_eq _ _ ((names_rise 24 n [] List.Pairwise.nil).filter _) (freeL_rise n) fun x => ?_
  unfold freeD
  rw [List.mem_filter, mem_freeL, has_free x 24 n (showW_term h)]
  exact ⟨fun h => h.2, fun g => ⟨has_names 24 n [] ((has_free x 24 n (showW_term h)).2 g), g⟩⟩
end Go.Proofs.YtadbnlnifacblaaGreatDoor
