/-
Package expr: the names that stand free in a term: the pure part.
-/
import Derived.Test.YtadbnlnifacblaaGreatDoorWq
import Derived.Lib.SlicesCompact
import Derived.Test.YtadbnlnifacblaaGreatDoorPrt
import Derived.Test.YtadbnlnifacblaaGreatDoorFt
namespace Go.Proofs.YtadbnlnifacblaaGreatDoor
open Go.RowKit
def partsN (op : List UInt8) : List UInt8 := match wdP op with
  | none => []
  | some (p, _) => p
def freeK (f : Nd → List (List UInt8) → List (List UInt8)) : List Nd → List UInt8 → List (List UInt8) → List (List UInt8) → List (List UInt8) → List (List UInt8)
  | [], _, _, _, names => names
  | _ :: _, [], _, _, names => names
  | k :: l, p :: ps, b, own, names => if p = 110 then freeK f l ps b (own ++ [k.text]) names
      else freeK f l ps b own (names ++ f k (if l.isEmpty then b ++ own else b))
def freeT : Nat → Nd → List (List UInt8) → List (List UInt8)
  | 0, _, _ => []
  | r + 1, n, b => if n.op = nameW then (if n.text ∈ b then [] else [n.text]) else freeK (freeT r) n.kids (partsN n.op) b [] []
theorem freeK_mem {f : Nd → List (List UInt8) → List (List UInt8)} (hf : ∀ k b s, s ∈ f k b ↔ s ∈ f k [] ∧ s ∉ b) : ∀ (l : List Nd) (ps : List UInt8) (b own names : List (List UInt8)) (s : List UInt8),
    s ∈ freeK f l ps b own names ↔ s ∈ names ∨ (s ∈ freeK f l ps [] own [] ∧ s ∉ b)
  | [], _, _, _, _, _ => by simp [freeK]
  | _ :: _, [], _, _, _, _ => by simp [freeK]
  | k :: l, p :: ps, b, own, names, s => by
    by_cases hp : p = 110
    · simp only [freeK, if_pos hp]
      exact freeK_mem hf l ps b (own ++ [k.text]) names s
    · simp only [freeK, if_neg hp]
      have h1 := freeK_mem hf l ps b own (names ++ f k (if l.isEmpty then b ++ own else b)) s
      have h2 := freeK_mem hf l ps [] own ([] ++ f k (if l.isEmpty then [] ++ own else [])) s
      have e1 := hf k (if l.isEmpty then b ++ own else b) s
      have e2 := hf k (if l.isEmpty then [] ++ own else []) s
      rw [h1, h2]
      simp only [List.mem_append, List.not_mem_nil, not_false_eq_true, and_true, List.nil_append] at *
      cases hl : l.isEmpty
      · rw [hl] at e1 e2
        simp only [Bool.false_eq_true, if_false, List.not_mem_nil, not_false_eq_true, and_true] at e1 e2 ⊢
        rw [e1]
        constructor
        · rintro ((h | h) | h)
          · exact .inl h
          · exact .inr ⟨.inl h.1, h.2⟩
          · exact .inr ⟨.inr h.1, h.2⟩
        · rintro (h | ⟨h | h, hb⟩)
          · exact .inl (.inl h)
          · exact .inl (.inr ⟨h, hb⟩)
          · exact .inr ⟨h, hb⟩
      · rw [hl] at e1 e2
        simp only [if_true, List.mem_append] at e1 e2 ⊢
        rw [e1, e2]
        constructor
        · rintro ((h | h) | h)
          · exact .inl h
          · exact .inr ⟨.inl ⟨h.1, fun hh => h.2 (.inr hh)⟩, fun hh => h.2 (.inl hh)⟩
          · exact .inr ⟨.inr h.1, h.2⟩
        · rintro (h | ⟨h | h, hb⟩)
          · exact .inl (.inl h)
          · exact .inl (.inr ⟨h.1, fun hh => hh.elim hb h.2⟩)
          · exact .inr ⟨h, hb⟩
theorem freeT_mem : ∀ (r : Nat) (n : Nd) (b : List (List UInt8)) (s : List UInt8), s ∈ freeT r n b ↔ s ∈ freeT r n [] ∧ s ∉ b
  | 0, _, _, _ => by simp [freeT]
  | r + 1, n, b, s => by
    by_cases hn : n.op = nameW
    · simp only [freeT, if_pos hn, List.not_mem_nil, if_false]
      by_cases hb : n.text ∈ b
      · rw [if_pos hb]
        constructor
        · intro h; cases h
        · rintro ⟨h, h'⟩
          rw [List.mem_singleton] at h
          subst h
          exact absurd hb h'
      · rw [if_neg hb]
        constructor
        · intro h
          rw [List.mem_singleton] at h
          subst h
          exact ⟨List.mem_singleton_self _, hb⟩
        · exact fun h => h.1
    · simp only [freeT, if_neg hn]
      have h := freeK_mem (f := freeT r) (fun k b s => freeT_mem r k b s) n.kids (partsN n.op) b [] [] s
      simp only [List.not_mem_nil, false_or] at h
      exact h
theorem kidsW_each {f : Nd → StW → Option StW} : ∀ (l : List Nd) (p : List UInt8) (mark : UInt8) (s s' : StW), kidsW f l p mark s = some s' → ∀ k ∈ l, ∃ s s', f k s = some s'
  | [], _, _, _, _, _ => fun k hk => by cases hk
  | _ :: _, [], _, _, _, h => by simp [kidsW] at h
  | n :: l, p :: ps, mark, s, s', h => by
    unfold kidsW at h
    split at h
    · cases h
    · split at h
      · cases h
      · rename_i s2 h2
        intro k hk
        rcases List.mem_cons.1 hk with rfl | hk
        · exact ⟨_, _, h2⟩
        · exact kidsW_each l ps 44 s2 s' h k hk
theorem bare_kids {i : Int} {t : List UInt8} {ty : Ty} {l : List Nd} (h : bareN i t ty l = true) : l = [] := by
  unfold bareN at h
  simp only [Bool.and_eq_true, decide_eq_true_eq] at h
  exact List.eq_nil_of_length_eq_zero h.2.2.2.2
theorem termW_kids {r : Nat} {n : Nd} {s s' : StW} (h : termW (r + 1) n s = some s') (hn : n.op ≠ nameW) : n.kids.length ≤ (partsN n.op).length ∧ ∀ k ∈ n.kids, ∃ s s', termW r k s = some s' := by
  have nil : n.kids = [] → n.kids.length ≤ (partsN n.op).length ∧ ∀ k ∈ n.kids, ∃ s s', termW r k s = some s' := fun e => by
    rw [e]
    exact ⟨Nat.zero_le _, fun k hk => by cases hk⟩
  unfold termW at h
  split at h
  · cases h
  · split at h
    · split at h
      · rename_i hb
        exact nil (bare_kids hb)
      · cases h
    · split at h
      · split at h
        · cases h
        · split at h
          · rename_i hb
            exact nil (bare_kids hb)
          · cases h
      · unfold wordW at h
        split at h
        · cases h
        · rename_i p least hw
          have hp : partsN n.op = p := by unfold partsN; rw [hw]
          unfold wordP at h
          split at h
          · split at h
            · cases h
            · rename_i hl
              obtain ⟨s2, h2, _⟩ := Option.bind_eq_some_iff.1 h
              rw [hp]
              exact ⟨by omega, kidsW_each _ _ _ _ _ h2⟩
          · split at h
            · split at h
              · cases h
              · split at h
                · rename_i hb
                  exact nil (bare_kids hb)
                · cases h
            · split at h
              · split at h
                · split at h
                  · rename_i hb
                    exact nil (bare_kids hb)
                  · cases h
                · cases h
              · split at h
                · rename_i hb
                  exact nil (bare_kids hb)
                · cases h
theorem showW_term {n : Nd} (h : (showW n).isSome = true) : ∃ s s', termW 24 n s = some s' := by
  unfold showW at h
  split at h
  · cases h
  · rename_i s hs
    exact ⟨_, _, hs⟩
theorem freeK_all {f : Nd → List (List UInt8) → List (List UInt8)} {P : List UInt8 → Prop} : ∀ (l : List Nd) (ps : List UInt8) (b own names : List (List UInt8)), (∀ k ∈ l, ∀ b, ∀ x ∈ f k b, P x) → (∀ x ∈ names, P x) → ∀ x ∈ freeK f l ps b own names, P x
  | [], _, _, _, _, _, hn => hn
  | _ :: _, [], _, _, _, _, hn => hn
  | k :: l, p :: ps, b, own, names, hf, hn => by
    have hl : ∀ k ∈ l, ∀ b, ∀ x ∈ f k b, P x := fun k hk => hf k (List.mem_cons_of_mem _ hk)
    simp only [freeK]
    split
    · exact freeK_all l ps b _ names hl hn
    · refine freeK_all l ps b own _ hl fun x hx => ?_
      rcases List.mem_append.1 hx with hx | hx
      · exact hn x hx
      · exact hf k (List.mem_cons_self ..) _ x hx
theorem freeT_names : ∀ (r : Nat) (n : Nd) (b : List (List UInt8)), (∃ s s', termW r n s = some s') → ∀ x ∈ freeT r n b, isNm x = true
  | 0, _, _, ⟨s, s', h⟩ => by simp [termW] at h
  | r + 1, n, b, ⟨s, s', h⟩ => by
    by_cases hn : n.op = nameW
    · simp only [freeT, if_pos hn]
      intro x hx
      split at hx
      · cases hx
      · rw [List.mem_singleton] at hx
        subst hx
        unfold termW at h
        rw [hn] at h
        rw [if_neg (show ¬ nameW = intW by decide), if_neg (show ¬ nameW = textW by decide), if_pos rfl] at h
        split at h
        · cases h
        · split at h
          · assumption
          · cases h
    · simp only [freeT, if_neg hn]
      have hk := (termW_kids h hn).2
      exact freeK_all _ _ _ _ _ (fun k hm b x hx => freeT_names r k b (hk k hm) x hx) (fun x hx => by cases hx)
theorem freeK_cnt {f : Nd → List (List UInt8) → List (List UInt8)} {g : Nd → StW → Option StW} : ∀ (l : List Nd) (ps : List UInt8) (mark : UInt8) (s s' : StW) (b own names : List (List UInt8)), (∀ k ∈ l, ∀ s s', g k s = some s' → ∀ b, (f k b).length + s.2 ≤ s'.2) → kidsW g l ps mark s = some s' →
    (freeK f l ps b own names).length + s.2 ≤ s'.2 + names.length
  | [], _, _, s, s', _, _, names, _, h => by
    simp only [kidsW, Option.some.injEq] at h
    subst h
    simp only [freeK]
    omega
  | _ :: _, [], _, _, _, _, _, _, _, h => by simp [kidsW] at h
  | k :: l, p :: ps, mark, s, s', b, own, names, hf, h => by
    unfold kidsW at h
    split at h
    · cases h
    · split at h
      · cases h
      · rename_i s2 h2
        have hl : ∀ k ∈ l, ∀ s s', g k s = some s' → ∀ b, (f k b).length + s.2 ≤ s'.2 := fun k hk => hf k (List.mem_cons_of_mem _ hk)
        have hk := fun b => hf k (List.mem_cons_self ..) _ _ h2 b
        simp only [freeK]
        split
        · have h3 := freeK_cnt l ps 44 s2 s' b (own ++ [k.text]) names hl h
          have h4 := hk b
          simp only at h4
          omega
        · have h3 := freeK_cnt l ps 44 s2 s' b own (names ++ f k (if l.isEmpty then b ++ own else b)) hl h
          have h4 := hk (if l.isEmpty then b ++ own else b)
          rw [List.length_append] at h3
          simp only at h4
          omega
theorem freeT_cnt : ∀ (r : Nat) (n : Nd) (s s' : StW) (b : List (List UInt8)), termW r n s = some s' → (freeT r n b).length + s.2 ≤ s'.2
  | 0, _, s, s', _, h => by simp [termW] at h
  | r + 1, n, s, s', b, h => by
    have nil : n.op ≠ nameW → n.kids = [] → s'.2 = s.2 + 1 → (freeT (r + 1) n b).length + s.2 ≤ s'.2 := fun hn hk hs => by
      simp only [freeT, if_neg hn, hk, freeK]
      simp
      omega
    unfold termW at h
    split at h
    · cases h
    · split at h
      · rename_i ho
        split at h
        · rename_i hb
          injection h with h
          exact nil (by rw [ho]; decide) (bare_kids hb) (by rw [← h])
        · cases h
      · split at h
        · rename_i ho
          split at h
          · cases h
          · split at h
            · rename_i hb
              injection h with h
              exact nil (by rw [ho]; decide) (bare_kids hb) (by rw [← h])
            · cases h
        · split at h
          · rename_i hn
            split at h
            · split at h
              · injection h with h
                subst h
                simp only [freeT, if_pos hn]
                split
                · simp
                · simp; omega
              · cases h
            · cases h
          · rename_i hn
            unfold wordW at h
            split at h
            · cases h
            · rename_i p least hw
              have hp : partsN n.op = p := by unfold partsN; rw [hw]
              unfold wordP at h
              split at h
              · split at h
                · cases h
                · obtain ⟨s2, h2, h3⟩ := Option.bind_eq_some_iff.1 h
                  split at h3
                  · injection h3 with h3
                    subst h3
                    have := freeK_cnt (f := freeT r) n.kids p 40 _ _ b [] [] (fun k _ s s' hk b => freeT_cnt r k s s' b hk) h2
                    simp only [freeT, if_neg hn, hp]
                    simp only [List.length_nil] at this
                    omega
                  · cases h3
              · split at h
                · split at h
                  · cases h
                  · split at h
                    · rename_i hb
                      injection h with h
                      exact nil hn (bare_kids hb) (by rw [← h])
                    · cases h
                · split at h
                  · split at h
                    · split at h
                      · rename_i hb
                        injection h with h
                        exact nil hn (bare_kids hb) (by rw [← h])
                      · cases h
                    · cases h
                  · split at h
                    · rename_i hb
                      injection h with h
                      exact nil hn (bare_kids hb) (by rw [← h])
                    · cases h
theorem free_few {n : Nd} (h : (showW n).isSome = true) (b : List (List UInt8)) : (freeT 24 n b).length ≤ 4096 := by
  unfold showW at h
  split at h
  · cases h
  · rename_i s hs
    split at h
    · cases h
    · have h1 := freeT_cnt 24 n _ _ b hs
      have h2 := termW_cnt 24 n _ _ hs (by simp)
      simp only at h1
      omega
def freeL (n : Nd) : List (List UInt8) := Lib.compact ((freeT 24 n []).mergeSort fun x y => decide (x ≤ y))
def letW : List UInt8 := [108, 101, 116]
end Go.Proofs.YtadbnlnifacblaaGreatDoor
namespace Go.Proofs.YtadbnlnifacblaaGreatDoor
open Go.RowKit Go.Sort
theorem word_parts {e : Ending} {op : List UInt8} (h : WdOut e (wdP op)) : ∃ (k : Int) (f : Bool), e = .returned (.tuple #[.agg #[.string ⟨(partsN op).toArray⟩, .int .i64 k], .bool f]) := by
  unfold partsN
  cases hw : wdP op with
  | none => rw [hw] at h; exact ⟨_, _, h⟩
  | some x => obtain ⟨p, l⟩ := x; rw [hw] at h; exact ⟨_, _, h⟩
theorem wdN_short : (wdL.all fun x => decide (x.2.length ≤ 64)) = true := by decide +kernel
theorem parts_short (op : List UInt8) : (partsN op).length ≤ 64 := by
  unfold partsN
  cases hw : wdP op with
  | none => simp
  | some x =>
    obtain ⟨p, l⟩ := x
    unfold wdP at hw
    by_cases hl : op = listW
    · rw [if_pos hl] at hw
      injection hw with hw
      injection hw with h1 h2
      simp [← h1]
    · rw [if_neg hl] at hw
      cases hf : wdL.find? (fun x => decide (x.1 = op)) with
      | none => rw [hf] at hw; cases hw
      | some y =>
        rw [hf] at hw
        injection hw with hw
        injection hw with h1 h2
        have h3 := List.all_eq_true.1 wdN_short y (List.mem_of_find?_eq_some hf)
        simp only [decide_eq_true_eq] at h3
        simpa [← h1] using h3
theorem own_lower {w : World} {B B' : Nat} {e : TypeId} {k n : Nat} {v : Value} {xs : List Value} (h : w.ownsRow B e k v n xs) (hB : B' ≤ B) : w.ownsRow B' e k v n xs := by
  refine ⟨h.1, ?_⟩
  rcases h.2 with h | ⟨g, cap, cur, h0, h1, h2⟩
  · exact .inl h
  · exact .inr ⟨g, cap, cur, h0, by omega, h2⟩
theorem freeK_len {f : Nd → List (List UInt8) → List (List UInt8)} : ∀ (l : List Nd) (ps : List UInt8) (b own names : List (List UInt8)), names.length ≤ (freeK f l ps b own names).length
  | [], _, _, _, _ => Nat.le_refl _
  | _ :: _, [], _, _, _ => Nat.le_refl _
  | k :: l, p :: ps, b, own, names => by
    simp only [freeK]
    split
    · exact freeK_len l ps b _ names
    · have := freeK_len (f := f) l ps b own (names ++ f k (if l.isEmpty then b ++ own else b))
      rw [List.length_append] at this
      omega
structure FrI (w : World) (pv wv : Array Value) (V : Nat) (ov nv : Value) (own names : List (List UInt8)) (wr : World) : Prop where
  below : Below w.heap.size w wr
  size : w.heap.size < V ∧ V + 1 ≤ wr.heap.size
  box : wr.heap[w.heap.size]? = some (.cells pv 27 (0, 0))
  wd : wr.heap[V]? = some (.cells wv 149 (0, 0))
  own : wr.ownsRow (V + 1) 9 1 ov own.length (own.map encStr)
  names : wr.ownsRow (V + 1) 9 1 nv names.length (names.map encStr)
  apart : ov.ownBlock = none ∨ ov.ownBlock ≠ nv.ownBlock
theorem FrI.later {w wr w' : World} {pv wv : Array Value} {V : Nat} {ov nv : Value} {own names : List (List UInt8)} (h : FrI w pv wv V ov nv own names wr) (hb : Below wr.heap.size wr w') : FrI w pv wv V ov nv own names w' := by
  have hs := h.size
  have hg : wr.grownBy w' none := ⟨hb.os, hb.tape, hb.output, hb.size, fun k hk _ => hb.block k hk⟩
  exact ⟨h.below.trans (hb.mono h.below.size), ⟨hs.1, by have := hb.size; omega⟩, (hb.block _ (by omega)).trans h.box, (hb.block _ (by omega)).trans h.wd, h.own.kept hg (by cases hv : ov.ownBlock <;> simp), h.names.kept hg (by cases hv : nv.ownBlock <;> simp), h.apart⟩
theorem FrI.putOwn {w wr w' : World} {pv wv : Array Value} {V : Nat} {ov nv v' : Value} {own names own' : List (List UInt8)} (h : FrI w pv wv V ov nv own names wr) (hg : wr.grownBy w' ov.ownBlock) (ho : w'.ownsRow (V + 1) 9 1 v' own'.length (own'.map encStr)) (hat : v'.ownBlock = ov.ownBlock ∨ v'.ownBlock = some wr.heap.size) : FrI w pv wv V v' nv own' names w' := by
  have hs := h.size
  have hov : ∀ k, ov.ownBlock = some k → V + 1 ≤ k ∧ k < wr.heap.size := h.own.lt
  have hnv : ∀ k, nv.ownBlock = some k → V + 1 ≤ k ∧ k < wr.heap.size := h.names.lt
  have hgs := hg.size
  refine ⟨h.below.grown hg h.below.size (fun k hk => by have := (hov k hk).1; omega), ⟨hs.1, by omega⟩, (hg.block _ (by omega) (fun e => by have := (hov _ e.symm).1; omega)).trans h.box, (hg.block _ (by omega) (fun e => by have := (hov _ e.symm).1; omega)).trans h.wd, ho, h.names.kept hg ?_, ?_⟩
  · rcases h.apart with h1 | h1
    · rw [h1]; cases nv.ownBlock <;> simp
    · exact .inr fun e => h1 e.symm
  · rcases hat with h1 | h1
    · rw [h1]; exact h.apart
    · rw [h1]
      refine .inr fun e => ?_
      have := (hnv _ e.symm).2
      omega
theorem FrI.putNames {w wr w' : World} {pv wv : Array Value} {V : Nat} {ov nv v' : Value} {own names names' : List (List UInt8)} (h : FrI w pv wv V ov nv own names wr) (hg : wr.grownBy w' nv.ownBlock) (ho : w'.ownsRow (V + 1) 9 1 v' names'.length (names'.map encStr)) (hat : v'.ownBlock = nv.ownBlock ∨ v'.ownBlock = some wr.heap.size) : FrI w pv wv V ov v' own names' w' := by
  have hs := h.size
  have hov : ∀ k, ov.ownBlock = some k → V + 1 ≤ k ∧ k < wr.heap.size := h.own.lt
  have hnv : ∀ k, nv.ownBlock = some k → V + 1 ≤ k ∧ k < wr.heap.size := h.names.lt
  have hgs := hg.size
  refine ⟨h.below.grown hg h.below.size (fun k hk => by have := (hnv k hk).1; omega), ⟨hs.1, by omega⟩, (hg.block _ (by omega) (fun e => by have := (hnv _ e.symm).1; omega)).trans h.box, (hg.block _ (by omega) (fun e => by have := (hnv _ e.symm).1; omega)).trans h.wd, h.own.kept hg ?_, ho, ?_⟩
  · exact h.apart
  · rcases hat with h1 | h1
    · rw [h1]; exact h.apart
    · rw [h1]
      cases ho : ov.ownBlock with
      | none => exact .inl rfl
      | some k =>
        refine .inr fun e => ?_
        injection e with e
        have := (hov k ho).2
        omega
set_option maxRecDepth 100000 in
set_option maxHeartbeats 3000000 in
theorem free_any : ∀ (r d : Nat) (S : Nat → Prop) (v bv : Value) (n : Nd) (b : List (List UInt8)) (w : World), NdAt w S d v n → (∃ s s', termW r n s = some s') → StrAt w (fun _ => True) bv b → b.length + 64 * r ≤ 100000 → (freeT r n b).length ≤ 1000000 →
    Calls Tryz.prog 51 #[v, bv] w fun e w' => (∃ v', e = .returned v' ∧ w'.ownsRow w.heap.size 9 1 v' (freeT r n b).length ((freeT r n b).map encStr)) ∧ Below w.heap.size w w'
  | 0, d, S, v, bv, n, b, w, _, ⟨s, s', ht⟩, _, _, _ => by simp [termW] at ht
  | r + 1, 0, S, v, bv, n, b, w, hN, _, _, _, _ => hN.elim
  | r + 1, d + 1, S, v, bv, n, b, w, hN, ht, hb, hbl, hfl => by
    have IH := free_any r d
    have HIH := Lib.hid IH
    have HB := Lib.hid hb
    obtain ⟨BA, bc, rfl⟩ := hb.form
    obtain ⟨A, c, K, kc, rfl, _, hlk, hK⟩ := hN
    have HK := Lib.hid hK
    clear IH hb hK
    have hbc := contains_any (fun _ => True) _ b n.text (w.alloc (.cells #[.string ⟨n.op.toArray⟩, .int .i64 n.int, .string ⟨n.text.toArray⟩, .int .i64 n.ty.kind, .slice A n.ty.args.length c, .slice K n.kids.length kc] 27)) (HB.out.below ((Below.refl _ w).alloc (Nat.le_refl _) _)) (by omega)
    have HBC := Lib.hid hbc
    clear hbc
    have hba := (Below.refl w.heap.size w).alloc (Nat.le_refl _) (.cells #[.string ⟨n.op.toArray⟩, .int .i64 n.int, .string ⟨n.text.toArray⟩, .int .i64 n.ty.kind, .slice A n.ty.args.length c, .slice K n.kids.length kc] 27)
    have HB1 := Lib.hid hba
    have HC1 := Lib.hid (heap_alloc_new w (.cells #[.string ⟨n.op.toArray⟩, .int .i64 n.int, .string ⟨n.text.toArray⟩, .int .i64 n.ty.kind, .slice A n.ty.args.length c, .slice K n.kids.length kc] 27))
    have hs1 : (w.alloc (.cells #[.string ⟨n.op.toArray⟩, .int .i64 n.int, .string ⟨n.text.toArray⟩, .int .i64 n.ty.kind, .slice A n.ty.args.length c, .slice K n.kids.length kc] 27)).heap.size = w.heap.size + 1 := by simp
    clear hba
    by_cases hn : n.op = nameW
    · have g0 : (n.op == [110, 97, 109, 101]) = true := by simp [hn, nameW]
      have HF : Hid (freeT (r + 1) n b = if n.text ∈ b then [] else [n.text]) := by show _ = _; simp only [freeT, if_pos hn]
      clear hfl ht hn
      by_cases hm : n.text ∈ b
      · have gm : decide (n.text ∈ b) = true := decide_eq_true hm
        have HM : Hid (freeT (r + 1) n b = []) := by show _ = _; rw [HF.out, if_pos hm]
        rw [gm] at HBC
        clear hm gm HF
        go_enter Tryz.func51, Tryz.ntmps51
        go_wp2_with (fail)
        refine HBC.out.mono ?_
        rintro e w2 ⟨rfl, rfl⟩
        go_wp2_with (fail)
        go_ret
        rw [HM.out]
        exact ⟨⟨_, rfl, World.ownsRow_nil _ _ _ _⟩, HB1.out⟩
      · have gm : decide (n.text ∈ b) = false := decide_eq_false hm
        have HM : Hid (freeT (r + 1) n b = [n.text]) := by show _ = _; rw [HF.out, if_neg hm]
        rw [gm] at HBC
        clear hm gm HF
        go_enter Tryz.func51, Tryz.ntmps51
        go_wp2_with (fail)
        refine HBC.out.mono ?_
        clear HBC
        generalize w.alloc (.cells #[.string ⟨n.op.toArray⟩, .int .i64 n.int, .string ⟨n.text.toArray⟩, .int .i64 n.ty.kind, .slice A n.ty.args.length c, .slice K n.kids.length kc] 27) = w1 at *
        rintro e w2 ⟨rfl, rfl⟩
        have d0 := cell6_0 HC1.out
        have d2 := cell6_2 HC1.out
        have dl := cell_lt HC1.out
        go_wp2_with (fail)
        go_ret
        rw [HM.out]
        refine ⟨⟨_, rfl, by simp, .inr ⟨w.heap.size + 1, 1, _, rfl, by omega, heap_new_at hs1, Nat.le_refl _, by unfold maxLen; omega, by simp, by simp [encStr_arr]⟩⟩, HB1.out.alloc (by omega) _⟩
    · have g0 : (n.op == [110, 97, 109, 101]) = false := beq_eq_false_iff_ne.2 hn
      have HF : Hid (freeT (r + 1) n b = freeK (freeT r) n.kids (partsN n.op) b [] []) := by show _ = _; simp only [freeT, if_neg hn]
      obtain ⟨s, s', hts⟩ := ht
      obtain ⟨hkl, hke⟩ := termW_kids hts hn
      have HKE := Lib.hid hke
      have HFL := Lib.hid hfl
      have hps := parts_short n.op
      have HWD := Lib.hid (fun (W : World) => wordOf_any n.op W)
      clear hke hts hn hfl HBC
      go_enter Tryz.func51, Tryz.ntmps51
      go_wp2_with (fail)
      generalize w.alloc (.cells #[.string ⟨n.op.toArray⟩, .int .i64 n.int, .string ⟨n.text.toArray⟩, .int .i64 n.ty.kind, .slice A n.ty.args.length c, .slice K n.kids.length kc] 27) = w1 at *
      have d0 := cell6_0 HC1.out
      have dl := cell_lt HC1.out
      go_wp2_with (fail)
      refine (HWD.out _).mono ?_
      rintro e w2 ⟨hout, hb2⟩
      obtain ⟨kl, ff, rfl⟩ := word_parts hout
      have hs2 := hb2.size
      have HB2 := Lib.hid (HB1.out.trans (hb2.mono (by omega)))
      have HC2 := Lib.hid (below_at hb2 HC1.out)
      have hpsz : (ByteArray.mk (partsN n.op).toArray).size = (partsN n.op).length := by simp [ByteArray.size]
      obtain ⟨ps, hpse⟩ : ∃ ps, ps = ByteArray.mk (partsN n.op).toArray := ⟨_, rfl⟩
      have hpb : bl ps = partsN n.op := by rw [hpse]; unfold bl; simp
      rw [← hpse] at hpsz
      rw [← hpse]
      have HPB := Lib.hid hpb
      generalize partsN n.op = p at *
      have hba := (Below.refl w2.heap.size w2).alloc (Nat.le_refl _) (.cells #[.string ps, .int .i64 kl] 149)
      have HV := Lib.hid (heap_alloc_new w2 (.cells #[.string ps, .int .i64 kl] 149))
      have HB3 := Lib.hid (HB2.out.trans (hba.mono (by omega)))
      have HC3 := Lib.hid (below_at hba HC2.out)
      have hs3 : (w2.alloc (.cells #[.string ps, .int .i64 kl] 149)).heap.size = w2.heap.size + 1 := by simp
      have d5 := cell6_5 HC3.out
      clear hpb hpse hout hb2 hba d0 dl HC1 HC2 HB1 HB2
      go_wp2_with (fail)
      generalize w2.alloc (.cells #[.string ps, .int .i64 kl] 149) = w3 at *
      have HI0 : Hid (FrI w #[.string ⟨n.op.toArray⟩, .int .i64 n.int, .string ⟨n.text.toArray⟩, .int .i64 n.ty.kind, .slice A n.ty.args.length c, .slice K n.kids.length kc] #[.string ps, .int .i64 kl] w2.heap.size (.slice none 0 0) (.slice none 0 0) [] [] w3) := ⟨HB3.out, ⟨by omega, by omega⟩, HC3.out, HV.out, World.ownsRow_nil _ _ _ _, World.ownsRow_nil _ _ _ _, .inl rfl⟩
      clear HB3 HC3 HV d5
      go_loopw [7, 8, 31] (fun nv ov iv wr => ∃ (j : Nat) (own names : List (List UInt8)), iv = .int .i64 (j : Int) ∧ j ≤ n.kids.length ∧ own.length ≤ j ∧ Hid (freeT (r + 1) n b = freeK (freeT r) (n.kids.drop j) (p.drop j) b own names) ∧ Hid (FrI w #[.string ⟨n.op.toArray⟩, .int .i64 n.int, .string ⟨n.text.toArray⟩, .int .i64 n.ty.kind, .slice A n.ty.args.length c, .slice K n.kids.length kc] #[.string ps, .int .i64 kl] w2.heap.size ov nv own names wr)) (fun _ _ iv _ => n.kids.length - (intOf iv).toNat)
      case atStart => exact ⟨0, [], [], rfl, Nat.zero_le _, Nat.le_refl _, HF, HI0⟩
      case round =>
        obtain ⟨j, own, names, rfl, hj, hol, HE, HI⟩ := hrel
        have hsr := HI.out.size
        have hbr := HI.out.below.size
        have b5 := cell6_5 HI.out.box
        have v0 := cell2_0 HI.out.wd
        have vl := cell_lt HI.out.wd
        have bl0 := cell_lt HI.out.box
        by_cases hlt : j < n.kids.length
        · obtain ⟨bk, o, rfl, hSb, hcells⟩ := HK.out (by omega)
          obtain ⟨a, ha⟩ : ∃ a, n.kids[j]? = some a := ⟨_, List.getElem?_eq_getElem hlt⟩
          obtain ⟨A', c', K', k', h0, h1, h2, h3, h4, h5, hnd, hbl'⟩ := kid_cells6 hcells ha
          have HD : Hid (n.kids.drop j = a :: n.kids.drop (j + 1)) := by
            show _ = _
            rw [List.drop_eq_getElem_cons hlt]
            congr 1
            exact Option.some.inj ((List.getElem?_eq_getElem hlt).symm.trans ha)
          have hjp : j < p.length := by omega
          have HDP : Hid (p.drop j = lkB p j :: p.drop (j + 1)) := by show _ = _; rw [List.drop_eq_getElem_cons hjp, lkB_at hjp]
          have hix := str_index ps j (by omega) (by omega)
          rw [← bl_at ps j (by omega), HPB.out] at hix
          have g0' := (HI.out.below.cell (p := ⟨bk, o + j * 6, none⟩) hbl').trans h0
          have g1 := (HI.out.below.cell (p := ⟨bk, o + j * 6 + 1, none⟩) hbl').trans h1
          have g2 := (HI.out.below.cell (p := ⟨bk, o + j * 6 + 2, none⟩) hbl').trans h2
          have g3 := (HI.out.below.cell (p := ⟨bk, o + j * 6 + 3, none⟩) hbl').trans h3
          have g4 := (HI.out.below.cell (p := ⟨bk, o + j * 6 + 4, none⟩) hbl').trans h4
          have g5 := (HI.out.below.cell (p := ⟨bk, o + j * 6 + 5, none⟩) hbl').trans h5
          have hjl : ((j : Int) < (n.kids.length : Int)) := by omega
          have hba := (Below.refl wr.heap.size wr).alloc (Nat.le_refl _) (.cells #[.string ⟨a.op.toArray⟩, .int .i64 a.int, .string ⟨a.text.toArray⟩, .int .i64 a.ty.kind, .slice A' a.ty.args.length c', .slice K' a.kids.length k'] 27)
          have HIA := Lib.hid (HI.out.later hba)
          have HND := Lib.hid ((hnd.below HI.out.below).below hba)
          have HAK := Lib.hid (HKE.out a (List.mem_of_getElem? ha))
          have HBA := Lib.hid (HB.out.below (HI.out.below.trans (hba.mono hbr)))
          clear h0 h1 h2 h3 h4 h5 hcells ha hnd hba
          have hlast2 : (n.kids.drop (j + 1)).isEmpty = decide (j + 1 = n.kids.length) := by
            rw [Bool.eq_iff_iff, List.isEmpty_iff, List.drop_eq_nil_iff, decide_eq_true_eq]; omega
          have HSA : ∀ W : World, Hid (StrAt (W.alloc (.cells #[.string ⟨a.text.toArray⟩] 9)) (fun _ => True) (.slice (some ⟨W.heap.size, 0, none⟩) 1 1) [a.text]) := fun W => .inr ⟨W.heap.size, 0, 1, rfl, Nat.le_refl _, trivial, fun i x hx => by
            rcases i with _ | i
            · simp only [List.getElem?_cons_zero, Option.some.injEq] at hx
              subst hx
              exact cell1_0 (heap_new_at rfl)
            · simp at hx⟩
          have hal : ∀ (W : World) (o : Obj), Below W.heap.size W (W.alloc o) := fun W o => (Below.refl _ W).alloc (Nat.le_refl _) o
          have HAL := Lib.hid hal
          have hzA : (wr.alloc (.cells #[.string ⟨a.op.toArray⟩, .int .i64 a.int, .string ⟨a.text.toArray⟩, .int .i64 a.ty.kind, .slice A' a.ty.args.length c', .slice K' a.kids.length k'] 27)).heap.size = wr.heap.size + 1 := by simp
          clear hal
          by_cases hlast : j + 1 = n.kids.length
          · have gl : ((j : Int) == (n.kids.length : Int) - 1) = true := by simp; omega
            have HLE : Hid ((n.kids.drop (j + 1)).isEmpty = true) := by show _ = _; rw [hlast2]; simp [hlast]
            have HKA := Lib.hid (heap_alloc_new wr (.cells #[.string ⟨a.op.toArray⟩, .int .i64 a.int, .string ⟨a.text.toArray⟩, .int .i64 a.ty.kind, .slice A' a.ty.args.length c', .slice K' a.kids.length k'] 27))
            clear hlast2
            obtain ⟨OA, oc, rfl⟩ := (StrAt.of_own HI.out.own).form
            have hcc := concat_any (fun _ => True) (wr.heap.size + 1) (.slice BA b.length bc) (.slice OA own.length oc) b own ((wr.alloc (.cells #[.string ⟨a.op.toArray⟩, .int .i64 a.int, .string ⟨a.text.toArray⟩, .int .i64 a.ty.kind, .slice A' a.ty.args.length c', .slice K' a.kids.length k'] 27)).alloc (.cells #[.slice BA b.length bc, .slice OA own.length oc] 49)) (HBA.out.below (HAL.out _ _)) ((StrAt.of_own (HIA.out.later (HAL.out _ _)).own).wider (fun _ _ => trivial)) (heap_new_at (by simp)) (by omega)
            have HCC := Lib.hid hcc
            clear hcc
            go_wp2_with (fail)
            refine HCC.out.mono ?_
            clear HCC
            rintro e w5 ⟨⟨v5, rfl, hst5⟩, hb5⟩
            obtain ⟨bo, hbo⟩ : ∃ bo, bo = b ++ own := ⟨_, rfl⟩
            rw [← hbo] at hst5
            have HBO := Lib.hid hbo
            have hbol : bo.length = b.length + own.length := by rw [hbo, List.length_append]
            have HBL := Lib.hid hbol
            clear hbo hbol
            obtain ⟨A5, c5, rfl⟩ := hst5.form
            have hb6 := (HAL.out (wr.alloc (.cells #[.string ⟨a.op.toArray⟩, .int .i64 a.int, .string ⟨a.text.toArray⟩, .int .i64 a.ty.kind, .slice A' a.ty.args.length c', .slice K' a.kids.length k'] 27)) (.cells #[.slice BA b.length bc, .slice OA own.length oc] 49)).trans (hb5.mono (by simp))
            have HI5 := Lib.hid (HIA.out.later hb6)
            have HK5 := Lib.hid (below_at hb6 HKA.out)
            have HND5 := Lib.hid (HND.out.below hb6)
            have HST5 := Lib.hid (hst5.wider (S' := fun _ => True) (fun _ _ => trivial))
            have hs5 := hb6.size
            clear hst5 hb5 hb6 HIA HND b5 v0 HKA
            have v0 := cell2_0 HI5.out.wd
            have vl5 := cell_lt HI5.out.wd
            have e0 := cell6_0 HK5.out
            have e1 := cell6_1 HK5.out
            have e2 := cell6_2 HK5.out
            have e3 := cell6_3 HK5.out
            have e4 := cell6_4 HK5.out
            have e5 := cell6_5 HK5.out
            have el := cell_lt HK5.out
            by_cases hp : lkB p j = 110
            · have gp : ((lkB p j).toNat : Int) = 110 := by rw [hp]; rfl
              have HE2 : Hid (freeT (r + 1) n b = freeK (freeT r) (n.kids.drop (j + 1)) (p.drop (j + 1)) b (own ++ [a.text]) names) := by
                show _ = _
                rw [HE.out, HD.out, HDP.out]
                simp only [freeK, if_pos hp]
              rw [gp] at hix
              clear hp gp
              have HSW := Lib.hid (HSA w5).out
              go_wp2_with (at_builtin; refine wpList_append_strs rfl _ _ rfl (w2.heap.size + 1) _ own [a.text] rfl (HI5.out.later (HAL.out _ _)).own (fun _ => True) _ rfl HSW.out (by simp; omega) (by simp; omega) ?_; intro v7 w7 hown7 hgrow7 hat7)
              go_roundw
              case rel => exact ⟨j + 1, own ++ [a.text], names, by go_num, by omega, by simp; omega, HE2, (HI5.out.later (HAL.out _ _)).putOwn hgrow7 hown7 hat7⟩
              case measure => simp [intOf]; omega
            · have gp : (((lkB p j).toNat : Int) == 110) = false := by
                simp only [beq_eq_false_iff_ne, ne_eq]
                intro hh
                exact hp (UInt8.toNat_inj.1 (by have h110 : (110 : UInt8).toNat = 110 := rfl; omega))
              have HE2 : Hid (freeT (r + 1) n b = freeK (freeT r) (n.kids.drop (j + 1)) (p.drop (j + 1)) b own (names ++ freeT r a bo)) := by
                show _ = _
                rw [HE.out, HD.out, HDP.out, HBO.out]
                simp only [freeK, if_neg hp, HLE.out, if_true]
              have hle2 := freeK_len (f := freeT r) (n.kids.drop (j + 1)) (p.drop (j + 1)) b own (names ++ freeT r a bo)
              rw [← HE2.out, List.length_append] at hle2
              have hF := HFL.out
              have hnl : names.length + (freeT r a bo).length ≤ 1000000 := by omega
              clear hp hle2 hF
              go_wp2_with (fail)
              refine (HIH.out S _ _ a bo w5 HND5.out HAK.out HST5.out (by have := HBL.out; omega) (by omega)).mono ?_
              rintro e w6 ⟨⟨v6, rfl, ho6⟩, hb6⟩
              have HI6 := Lib.hid (HI5.out.later hb6)
              have HO6 := Lib.hid ho6
              have hs6 := hb6.size
              clear ho6 hb6 HI5
              go_wp2_with (at_builtin; refine wpList_append_strs rfl _ _ rfl (w2.heap.size + 1) _ names (freeT r a bo) rfl HI6.out.names _ _ rfl (StrAt.of_own HO6.out) (by omega) (by omega) ?_; intro v7 w7 hown7 hgrow7 hat7)
              go_roundw
              case rel => exact ⟨j + 1, own, names ++ freeT r a bo, by go_num, by omega, by omega, HE2, HI6.out.putNames hgrow7 hown7 hat7⟩
              case measure => simp [intOf]; omega
          · have gl : ((j : Int) == (n.kids.length : Int) - 1) = false := by simp; omega
            have HLE : Hid ((n.kids.drop (j + 1)).isEmpty = false) := by show _ = _; rw [hlast2]; simp [hlast]
            clear hlast2
            by_cases hp : lkB p j = 110
            · have gp : ((lkB p j).toNat : Int) = 110 := by rw [hp]; rfl
              have HE2 : Hid (freeT (r + 1) n b = freeK (freeT r) (n.kids.drop (j + 1)) (p.drop (j + 1)) b (own ++ [a.text]) names) := by
                show _ = _
                rw [HE.out, HD.out, HDP.out]
                simp only [freeK, if_pos hp]
              rw [gp] at hix
              clear hp gp
              have HSW := HSA (wr.alloc (.cells #[.string ⟨a.op.toArray⟩, .int .i64 a.int, .string ⟨a.text.toArray⟩, .int .i64 a.ty.kind, .slice A' a.ty.args.length c', .slice K' a.kids.length k'] 27))
              rw [hzA] at HSW
              go_wp2_with (at_builtin; refine wpList_append_strs rfl _ _ rfl (w2.heap.size + 1) _ own [a.text] rfl (HIA.out.later (HAL.out _ _)).own (fun _ => True) _ rfl HSW.out (by simp; omega) (by simp; omega) ?_; intro v7 w7 hown7 hgrow7 hat7)
              go_roundw
              case rel => exact ⟨j + 1, own ++ [a.text], names, by go_num, by omega, by simp; omega, HE2, (HIA.out.later (HAL.out _ _)).putOwn hgrow7 hown7 hat7⟩
              case measure => simp [intOf]; omega
            · have gp : (((lkB p j).toNat : Int) == 110) = false := by
                simp only [beq_eq_false_iff_ne, ne_eq]
                intro hh
                exact hp (UInt8.toNat_inj.1 (by have h110 : (110 : UInt8).toNat = 110 := rfl; omega))
              have HE2 : Hid (freeT (r + 1) n b = freeK (freeT r) (n.kids.drop (j + 1)) (p.drop (j + 1)) b own (names ++ freeT r a b)) := by
                show _ = _
                rw [HE.out, HD.out, HDP.out]
                simp only [freeK, if_neg hp, HLE.out, Bool.false_eq_true, if_false]
              have hle2 := freeK_len (f := freeT r) (n.kids.drop (j + 1)) (p.drop (j + 1)) b own (names ++ freeT r a b)
              rw [← HE2.out, List.length_append] at hle2
              have hF := HFL.out
              have hnl : names.length + (freeT r a b).length ≤ 1000000 := by omega
              clear hp hle2 hF
              go_wp2_with (fail)
              refine (HIH.out S _ _ a b (wr.alloc (.cells #[.string ⟨a.op.toArray⟩, .int .i64 a.int, .string ⟨a.text.toArray⟩, .int .i64 a.ty.kind, .slice A' a.ty.args.length c', .slice K' a.kids.length k'] 27)) HND.out HAK.out HBA.out (by omega) (by omega)).mono ?_
              rintro e w6 ⟨⟨v6, rfl, ho6⟩, hb6⟩
              have HI6 := Lib.hid (HIA.out.later hb6)
              have HO6 := Lib.hid ho6
              have hs6 := hb6.size
              clear ho6 hb6 HIA
              go_wp2_with (at_builtin; refine wpList_append_strs rfl _ _ rfl (w2.heap.size + 1) _ names (freeT r a b) rfl HI6.out.names _ _ rfl (StrAt.of_own HO6.out) (by omega) (by omega) ?_; intro v7 w7 hown7 hgrow7 hat7)
              go_roundw
              case rel => exact ⟨j + 1, own, names ++ freeT r a b, by go_num, by omega, by omega, HE2, HI6.out.putNames hgrow7 hown7 hat7⟩
              case measure => simp [intOf]; omega
        · have hje : j = n.kids.length := by omega
          have HN : Hid (freeT (r + 1) n b = names) := by
            show _ = _
            rw [HE.out, hje, List.drop_length]
            rfl
          have hjl : ¬ ((j : Int) < (n.kids.length : Int)) := by omega
          clear hje
          go_wp2_with (fail)
          go_ret
          rw [HN.out]
          exact ⟨⟨_, rfl, own_lower HI.out.names (by omega)⟩, HI.out.below⟩
end Go.Proofs.YtadbnlnifacblaaGreatDoor
