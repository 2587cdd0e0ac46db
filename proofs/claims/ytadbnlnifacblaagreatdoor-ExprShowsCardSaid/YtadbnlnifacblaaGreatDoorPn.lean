/-
Package expr: what is read at a place hangs on the bytes up to where the reading ends: numbers, strings, names.
-/
import Derived.Test.YtadbnlnifacblaaGreatDoorWq
import Derived.Test.YtadbnlnifacblaaGreatDoorRc3
import Derived.Deep.AppendLies
import Derived.Deep.RegionLaw
namespace Go.Proofs.YtadbnlnifacblaaGreatDoor
open Go.RowKit
theorem step_in {α : Type} {l : List UInt8} {m : Nat} (f : UInt8 → Bool) (y z : α) (h0 : f 0 = false) (hm : m ≤ l.length) : In l m (if f (lkB l m) then (m + 1, y) else (m, z)) := by
  cases hf : f (lkB l m) with
  | true =>
    have : m < l.length := lkB_lt (by intro e; rw [e, h0] at hf; cases hf)
    exact ⟨Nat.le_succ m, this⟩
  | false => exact ⟨Nat.le_refl m, hm⟩
theorem behind_in {β : Type} {l : List UInt8} {m : Nat} {g : Nat → Nat × Option β} (hm : m ≤ l.length) (hi : ∀ k, k ≤ l.length → In l k (g k)) : In l m (g (skip l m)) := by
  have h1 := skip_in hm
  have h2 := hi _ h1.2
  exact ⟨Nat.le_trans h1.1 h2.1, h2.2⟩
theorem mark_at (l : List UInt8) (m : Nat) (b : UInt8) : markR l m b = (fun k => if rdB l k b then (k + 1, some ()) else (k, none)) (skip l m) := rfl
theorem rd_in {l : List UInt8} {k : Nat} {b : UInt8} (h0 : b ≠ 0) (hk : k ≤ l.length) : In l k (if rdB l k b then (k + 1, some ()) else (k, none)) :=
  step_in (fun x => decide (x = b)) (some ()) none (by simp; exact fun e => h0 e.symm) hk
theorem mark_in {l : List UInt8} {m : Nat} {b : UInt8} (h0 : b ≠ 0) (hm : m ≤ l.length) : In l m (markR l m b) := by
  rw [mark_at]
  exact behind_in (g := fun k => if rdB l k b then (k + 1, some ()) else (k, none)) hm fun _ h => rd_in h0 h
theorem dig_in {l : List UInt8} {m : Nat} (hm : m ≤ l.length) : In l m (digR l m) := step_in isDig _ none (by decide) hm
theorem nm_in {l : List UInt8} {neg : Bool} : ∀ (f m n : Nat) (b : Bool), l.length - m ≤ f → m ≤ l.length → In l m (nmF l neg (l.length - m) m n b)
  | f, m, n, b, hf, hm => by
    rw [nm_on]
    split
    · rename_i hc
      have hd : isDig (lkB l m) = true := by simp at hc; exact hc.1
      have hlt : m < l.length := lkB_lt (by intro e; rw [e] at hd; exact absurd hd (by decide))
      match f, hf with
      | 0, hf => omega
      | f + 1, hf =>
        have := nm_in (l := l) (neg := neg) f (m + 1) (10 * n + (lkB l m - 48).toNat) true (by omega) (by omega)
        exact ⟨Nat.le_trans (Nat.le_succ m) this.1, this.2⟩
    · exact ⟨Nat.le_refl _, hm⟩
theorem nx_in {l : List UInt8} {m : Nat} (hm : m ≤ l.length) : m ≤ nx (rdB l m 45) m ∧ nx (rdB l m 45) m ≤ l.length := by
  unfold nx
  cases h : rdB l m 45 with
  | true =>
    have : m < l.length := lkB_lt (by unfold rdB at h; rw [of_decide_eq_true h]; decide)
    exact ⟨Nat.le_succ m, this⟩
  | false => exact ⟨Nat.le_refl _, hm⟩
theorem num_in {l : List UInt8} {m : Nat} (hm : m ≤ l.length) : In l m (numN l m) := by
  have h1 := nx_in hm
  have h2 := nm_in (l := l) (neg := rdB l m 45) _ (nx (rdB l m 45) m) 0 false (Nat.le_refl _) h1.2
  exact ⟨Nat.le_trans h1.1 h2.1, h2.2⟩
end Go.Proofs.YtadbnlnifacblaaGreatDoor
namespace Go.Proofs.YtadbnlnifacblaaGreatDoor
open Go.RowKit
theorem hex_zero : hexI 0 = none := by decide
def opF {α : Type} (f : UInt8 → Option α) (l : List UInt8) (m : Nat) : Nat × Option α := match f (lkB l m) with
  | some x => (m + 1, some x)
  | none => (m, none)
theorem opF_some {α : Type} {f : UInt8 → Option α} {l : List UInt8} {m : Nat} {x : α} (h : f (lkB l m) = some x) : opF f l m = (m + 1, some x) := by unfold opF; rw [h]
theorem opF_none {α : Type} {f : UInt8 → Option α} {l : List UInt8} {m : Nat} (h : f (lkB l m) = none) : opF f l m = (m, none) := by unfold opF; rw [h]
theorem opt_in {α : Type} {l : List UInt8} {m : Nat} (f : UInt8 → Option α) (h0 : f 0 = none) (hm : m ≤ l.length) : In l m (opF f l m) := by
  cases hf : f (lkB l m) with
  | some x =>
    have : m < l.length := lkB_lt (by intro e; rw [e, h0] at hf; cases hf)
    rw [opF_some hf]
    exact ⟨Nat.le_succ m, this⟩
  | none =>
    rw [opF_none hf]
    exact ⟨Nat.le_refl m, hm⟩
def highF (b : UInt8) : Option Nat := match hexI b with | some h => if smC h then some h else none | none => none
def lowF (h : Nat) (b : UInt8) : Option UInt8 := match hexI b with | some x => if isPl (UInt8.ofNat (16 * h + x)) then none else some (UInt8.ofNat (16 * h + x)) | none => none
theorem cod_two (l : List UInt8) (m : Nat) : codS l m = bindP (opF highF l m) fun k h => opF (lowF h) l k := by
  unfold codS
  cases h1 : hexI (lkB l m) with
  | none => rw [opF_none (by unfold highF; rw [h1])]; rfl
  | some h =>
    simp only
    cases h2 : smC h with
    | false => rw [opF_none (by unfold highF; rw [h1]; simp only [h2]; rfl)]; rfl
    | true =>
      rw [opF_some (x := h) (by unfold highF; rw [h1]; simp only [h2]; rfl)]
      simp only [if_true, bindP]
      cases h3 : hexI (lkB l (m + 1)) with
      | none => rw [opF_none (by unfold lowF; rw [h3])]
      | some x =>
        simp only
        cases h4 : isPl (UInt8.ofNat (16 * h + x)) with
        | true => rw [opF_none (by unfold lowF; rw [h3]; simp only [h4]; rfl)]; rfl
        | false => rw [opF_some (x := UInt8.ofNat (16 * h + x)) (by unfold lowF; rw [h3]; simp only [h4]; rfl)]; rfl
theorem high_zero : highF 0 = none := by decide
theorem low_zero (h : Nat) : lowF h 0 = none := by unfold lowF; rw [hex_zero]
theorem cod_in {l : List UInt8} {m : Nat} (hm : m ≤ l.length) : In l m (codS l m) := by
  rw [cod_two]
  exact In.bind (opt_in highF high_zero hm) fun k h hk => opt_in (lowF h) (low_zero h) hk
theorem let_in {l : List UInt8} {m : Nat} (hm : m ≤ l.length) : In l m (letS l m) := by
  unfold letS
  split
  · rename_i h
    have hlt : m < l.length := lkB_lt (by rw [h]; decide)
    have := cod_in (l := l) (m := m + 1) hlt
    exact ⟨Nat.le_trans (Nat.le_succ m) this.1, this.2⟩
  · exact step_in isPl (some (lkB l m)) none (by decide) hm
theorem str_at (l : List UInt8) (f : Nat) (acc : List UInt8) (m : Nat) (hf : acc.length < 256) : strF l (f + 1) acc m = (if lkB l m = 34 then (m + 1, some acc) else bindP (letS l m) fun m' b => strF l f (acc ++ [b]) m') := by
  simp only [strF, bindP, if_pos hf]
  split
  · rfl
  · cases letS l m with
    | mk m' o => cases o <;> rfl
theorem str_full (l : List UInt8) (f : Nat) (acc : List UInt8) (m : Nat) (hf : ¬ acc.length < 256) : strF l (f + 1) acc m = (if decide (lkB l m = 34) then (m + 1, some acc) else (m, none)) := by
  simp only [strF, if_neg hf, decide_eq_true_eq]
theorem str_in {l : List UInt8} : ∀ (f : Nat) (acc : List UInt8) (m : Nat), m ≤ l.length → In l m (strF l f acc m)
  | 0, acc, m, hm => ⟨Nat.le_refl m, hm⟩
  | f + 1, acc, m, hm => by
    by_cases hf : acc.length < 256
    · rw [str_at l f acc m hf]
      split
      · rename_i h
        have hlt : m < l.length := lkB_lt (by rw [h]; decide)
        exact ⟨Nat.le_succ m, hlt⟩
      · exact In.bind (let_in hm) fun k b hk => str_in f (acc ++ [b]) k hk
    · rw [str_full l f acc m hf]
      exact step_in (fun b => decide (b = 34)) (some acc) none (by decide) hm
end Go.Proofs.YtadbnlnifacblaaGreatDoor
namespace Go.Proofs.YtadbnlnifacblaaGreatDoor
open Go.RowKit
theorem Lo.far {α : Type} {l l' : List UInt8} {p p' : Nat × α} (h : l'.length < p.1) (hp : p.1 ≤ l.length) : Lo l l' p p' := fun hs => by
  have h1 := hs l'.length h
  rw [List.getElem?_eq_none_iff.2 (Nat.le_refl _)] at h1
  have := none_le h1.symm
  omega
def elseP {α β γ : Type} (q : Nat × Option α) (y : γ) (g : Nat → Nat × Option γ) (_ : β) : Nat × Option γ := match q with
  | (m, some _) => (m, some y)
  | (m, none) => g m
theorem else_in {α γ : Type} {l : List UInt8} {m : Nat} {q : Nat × Option α} {y : γ} {g : Nat → Nat × Option γ} (hq : In l m q) (hg : ∀ k, k ≤ l.length → In l k (g k)) : In l m (elseP q y g ()) := by
  match q, hq with
  | (k, some x), hq => exact hq
  | (k, none), hq =>
    have := hg k hq.2
    exact ⟨Nat.le_trans hq.1 this.1, this.2⟩
def nmC (n : Nat) : Option UInt8 → Bool
  | none => false
  | some b => isLet b || (decide (0 < n) && (isDig b || decide (b = 95)))
theorem nl_step (x : List UInt8) (f n : Nat) : nlF x (f + 1) n = if nmC n x[n]? then nlF x f (n + 1) else n := by
  rw [show nlF x (f + 1) n = (if n < x.length ∧ (isLet (lkB x n) || (decide (0 < n) && (isDig (lkB x n) || decide (lkB x n = 95)))) = true then nlF x f (n + 1) else n) from rfl]
  rcases Nat.lt_or_ge n x.length with h | h
  · have hx := List.getElem?_eq_getElem h
    have hl : lkB x n = x[n] := lkB_at h
    rw [hx, hl]
    simp only [nmC, h, true_and]
    exact ite_congr rfl (fun _ => rfl) (fun _ => rfl)
  · have hx := List.getElem?_eq_none_iff.2 h
    rw [hx, if_neg (by omega)]
    rfl
theorem nl_same {x x' : List UInt8} : ∀ (f n : Nat), n ≤ x.length → (∀ j, j < nlF x f n → x'[j]? = x[j]?) → (x'[nlF x f n]? = x[nlF x f n]? ∨ x'[nlF x f n]? = none) → nlF x' f n = nlF x f n
  | 0, n, _, _, _ => rfl
  | f + 1, n, hn, hs, he => by
    rw [nl_step] at hs he ⊢
    rw [nl_step]
    cases hc : nmC n x[n]? with
    | true =>
      rw [hc] at hs he
      simp only [if_true] at hs he ⊢
      have hlt : n < x.length := by
        rcases Nat.lt_or_ge n x.length with h | h
        · exact h
        · rw [List.getElem?_eq_none_iff.2 h] at hc; cases hc
      have hge := (nlF_le x f (n + 1) (by omega)).1
      rw [hs n (by omega), hc]
      simp only [if_true]
      exact nl_same f (n + 1) (by omega) hs he
    | false =>
      rw [hc] at hs he
      simp only [Bool.false_eq_true, if_false] at hs he ⊢
      rcases he with he | he
      · rw [he, hc]; rfl
      · rw [he]; rfl
theorem spel_len (l : List UInt8) (m : Nat) : (spel l m).length = nmL (l.drop m) := by
  unfold spel
  rw [List.length_take]
  have := (nmL_le (l.drop m)).1
  omega
theorem spel_in {l : List UInt8} {m : Nat} (hm : m ≤ l.length) : m + (spel l m).length ≤ l.length := by
  rw [spel_len]
  have := (nmL_le (l.drop m)).1
  rw [List.length_drop] at this
  omega
theorem name_in {l : List UInt8} {m : Nat} (hm : m ≤ l.length) : In l m (nameR l m) := ⟨Nat.le_add_right _ _, spel_in hm⟩
structure KpOk (kp : List UInt8 → Nat × Option Ty) : Prop where
  le : ∀ x k, kp x = (k, none) → k ≤ x.length
  agree : ∀ x x' k, kp x = (k, none) → (∀ j, j ≤ k → x'[j]? = x[j]?) → kp x' = (k, none)
  trunc : ∀ x k, kp x = (k, none) → (∃ i t, kp (x.take k) = (i, some t)) ∨ kp (x.take k) = (k, none)
theorem typ_in {kp : List UInt8 → Nat × Option Ty} (K : KpOk kp) {l : List UInt8} {m : Nat} (hm : m ≤ l.length) : In l m (typR kp l m) := by
  unfold typR
  cases hk : kp (l.drop m) with
  | mk k o =>
  cases o with
  | some t => exact ⟨hm, Nat.le_refl _⟩
  | none =>
    have := K.le _ _ hk
    rw [List.length_drop] at this
    exact ⟨Nat.le_add_right _ _, by show m + k ≤ l.length; omega⟩
end Go.Proofs.YtadbnlnifacblaaGreatDoor
namespace Go.Proofs.YtadbnlnifacblaaGreatDoor
open Go.RowKit
theorem map_in {α β : Type} {l : List UInt8} {m : Nat} {q : Nat × Option α} (h : α → β) (hq : In l m q) : In l m (bindP q fun m' x => (m', some (h x))) := by
  match q, hq with
  | (k, none), hq => exact hq
  | (k, some x), hq => exact hq
section
variable {kp : List UInt8 → Nat × Option Ty} (K : KpOk kp)
include K
theorem part_in {f : Nat → Nat × Option Nd} {l : List UInt8} (hf : ∀ k, k ≤ l.length → In l k (f k)) (p : UInt8) {m : Nat} (nd : Nd) (hm : m ≤ l.length) : In l m (partR kp f l p m nd) := by
  unfold partR
  split
  · exact behind_in (g := fun k => bindP (digR l k) fun m' i => (m', some (Nd.mk nd.op i nd.text nd.ty nd.kids))) hm fun k hk => map_in _ (dig_in hk)
  split
  · exact behind_in (g := fun k => bindP (typR kp l k) fun m' t => (m', some (Nd.mk nd.op nd.int nd.text t nd.kids))) hm fun k hk => map_in _ (typ_in K hk)
  split
  · exact behind_in (g := fun k => bindP (nameR l k) fun m' x => (m', some (Nd.mk nd.op nd.int nd.text nd.ty (nd.kids ++ [x])))) hm fun k hk => map_in _ (name_in hk)
  · exact behind_in (g := fun k => bindP (f k) fun m' x => (m', some (Nd.mk nd.op nd.int nd.text nd.ty (nd.kids ++ [x])))) hm fun k hk => map_in _ (hf k hk)
omit K in
theorem parts_at (f : Nat → Nat × Option Nd) (l : List UInt8) (least : Nat) (p : UInt8) (ps : List UInt8) (i : Nat) (mark : UInt8) (m : Nat) (nd : Nd) :
    partsR kp f l least (p :: ps) i mark m nd = bindP (markR l m mark) fun m1 _ => bindP (partR kp f l p m1 nd) fun m2 nd' =>
      if least ≤ i + 1 then elseP (markR l m2 41) nd' (fun m3 => partsR kp f l least ps (i + 1) 44 m3 nd') () else partsR kp f l least ps (i + 1) 44 m2 nd' := by
  simp only [partsR, bindP, elseP]
  cases markR l m mark with
  | mk k o =>
  cases o with
  | none => rfl
  | some u =>
    simp only
    cases partR kp f l p k nd with
    | mk k2 o2 =>
    cases o2 with
    | none => rfl
    | some nd' =>
      simp only
      split
      · cases markR l k2 41 with
        | mk k3 o3 => cases o3 <;> rfl
      · rfl
theorem parts_in {f : Nat → Nat × Option Nd} {l : List UInt8} (hf : ∀ k, k ≤ l.length → In l k (f k)) (least : Nat) : ∀ (ps : List UInt8) (i : Nat) (mark : UInt8) (m : Nat) (nd : Nd), mark ≠ 0 → m ≤ l.length → In l m (partsR kp f l least ps i mark m nd)
  | [], i, mark, m, nd, _, hm => ⟨Nat.le_refl m, hm⟩
  | p :: ps, i, mark, m, nd, h0, hm => by
    rw [parts_at]
    refine In.bind (mark_in h0 hm) fun m1 _ h1 => In.bind (part_in K hf p nd h1) fun m2 nd' h2 => ?_
    split
    · exact else_in (mark_in (by decide) h2) fun k hk => parts_in hf least ps (i + 1) 44 k nd' (by decide) hk
    · exact parts_in hf least ps (i + 1) 44 m2 nd' (by decide) h2
end
end Go.Proofs.YtadbnlnifacblaaGreatDoor
namespace Go.Proofs.YtadbnlnifacblaaGreatDoor
open Go.RowKit
def wordN (t : List UInt8) (last : Bool) (k : Nat) (F : List UInt8 → Nat → Nat × Option Nd) : Nat × Option Nd := match wdP t with
  | none => (k, some (nameN t))
  | some (p, least) => if hasB p 101 && last then (k, none) else if p = [] then (k, some (.mk t 0 [] ty0 [])) else F p least
theorem word_in {l t : List UInt8} {last : Bool} {k : Nat} {F : List UInt8 → Nat → Nat × Option Nd} (hk : k ≤ l.length) (hF : ∀ p least, In l k (F p least)) : In l k (wordN t last k F) := by
  unfold wordN
  split
  · exact ⟨Nat.le_refl _, hk⟩
  · split
    · exact ⟨Nat.le_refl _, hk⟩
    · split
      · exact ⟨Nat.le_refl _, hk⟩
      · exact hF _ _
theorem strS_in {l : List UInt8} {m : Nat} (hm : m < l.length) : In l m (strN l m) := by
  unfold strN
  have h1 : In l (m + 1) (strS l m) := str_in 257 [] (m + 1) hm
  exact map_in (fun t => Nd.mk textW 0 t ty0 []) ⟨Nat.le_trans (Nat.le_succ m) h1.1, h1.2⟩
section
variable {kp : List UInt8 → Nat × Option Ty}
theorem expr_at (l : List UInt8) (r m : Nat) : exprR kp l (r + 1) m = (if decide (lkB l m = 45) || isDig (lkB l m) then numN l m else if lkB l m = 34 then strN l m else if isLet (lkB l m) then
    wordN (spel l m) (decide (r = 0)) (m + (spel l m).length) (fun p least => partsR kp (exprR kp l r) l least p 0 40 (m + (spel l m).length) (.mk (spel l m) 0 [] ty0 [])) else (m, none)) := by
  rw [exprR]
  split
  · rfl
  split
  · rfl
  split
  · unfold wordN
    cases wdP (spel l m) with
    | none => rfl
    | some x => obtain ⟨p, least⟩ := x; rfl
  · rfl
variable (K : KpOk kp)
include K
theorem expr_in {l : List UInt8} : ∀ (r m : Nat), m ≤ l.length → In l m (exprR kp l r m)
  | 0, m, hm => ⟨Nat.le_refl m, hm⟩
  | r + 1, m, hm => by
    rw [expr_at]
    split
    · exact num_in hm
    split
    · rename_i h; exact strS_in (lkB_lt (by rw [h]; decide))
    split
    · have hk := spel_in hm
      have := word_in (l := l) (t := spel l m) (last := decide (r = 0)) (F := fun p least => partsR kp (exprR kp l r) l least p 0 40 (m + (spel l m).length) (.mk (spel l m) 0 [] ty0 [])) hk (fun p least => parts_in K (fun k hk => expr_in r k hk) least p 0 40 _ _ (by decide) hk)
      exact ⟨Nat.le_trans (Nat.le_add_right _ _) this.1, this.2⟩
    · exact ⟨Nat.le_refl m, hm⟩
end
end Go.Proofs.YtadbnlnifacblaaGreatDoor
namespace Go.Proofs.YtadbnlnifacblaaGreatDoor
open Go.RowKit
structure Kp (R P : Nat) (w w' : World) : Prop where
  os : w'.os = w.os
  tape : w'.tape = w.tape
  output : w'.output = w.output
  size : w.heap.size ≤ w'.heap.size
  block : ∀ i, i < P → i ≠ R → w'.heap[i]? = w.heap[i]?
theorem Kp.of_only {R P : Nat} {w w' : World} (h : Only R w w') (hP : P ≤ w.heap.size) : Kp R P w w' := ⟨h.os, h.tape, h.output, h.size, fun i hi hne => h.block i (by omega) (by simpa using hne)⟩
theorem Kp.trans {R P : Nat} {a b c : World} (h : Kp R P a b) (k : Kp R P b c) : Kp R P a c :=
  ⟨k.os.trans h.os, k.tape.trans h.tape, k.output.trans h.output, Nat.le_trans h.size k.size, fun i hi hne => (k.block i hi hne).trans (h.block i hi hne)⟩
theorem Kp.refl (R P : Nat) (w : World) : Kp R P w w := ⟨rfl, rfl, rfl, Nat.le_refl _, fun _ _ _ => rfl⟩
structure PnI (w : World) (P d : Nat) (nd : Nd) (A : Option Addr) (c : Nat) (vs : Value) (cs : List Value) : Prop where
  own : w.ownsRow (P + 1) 27 6 vs nd.kids.length cs
  box : w.heap[P]? = some (.cells #[.string ⟨nd.op.toArray⟩, .int .i64 nd.int, .string ⟨nd.text.toArray⟩, .int .i64 nd.ty.kind, .slice A nd.ty.args.length c, vs] 27 (0, 0))
  ty : ∃ dt, TyAt w (fun b => P < b ∧ some b ≠ vs.ownBlock) dt (.agg #[.int .i64 nd.ty.kind, .slice A nd.ty.args.length c]) nd.ty
  args : ∀ (i : Nat) (a : Nd), nd.kids[i]? = some a → ∃ u0 u1 u2 u3 u4 u5, cs[i * 6]? = some u0 ∧ cs[i * 6 + 1]? = some u1 ∧ cs[i * 6 + 2]? = some u2 ∧ cs[i * 6 + 3]? = some u3 ∧ cs[i * 6 + 4]? = some u4 ∧ cs[i * 6 + 5]? = some u5 ∧ NdAt w (fun b => P < b ∧ some b ≠ vs.ownBlock) d (.agg #[u0, u1, u2, u3, u4, u5]) a
theorem own_put {w : World} {B g n size cap : Nat} {e : TypeId} {xs : List Value} (h : w.ownsRow B e size (.slice (some ⟨g, 0, none⟩) n cap) n xs) {k : Nat} (_hk : k < xs.length) (u : Value) :
    (w.setCell ⟨g, k, none⟩ u).ownsRow B e size (.slice (some ⟨g, 0, none⟩) n cap) n (xs.set k u) := by
  obtain ⟨hl, h2⟩ := h
  refine ⟨by simp [hl], ?_⟩
  rcases h2 with ⟨h0, _⟩ | ⟨g', cap', cur, he, hb, hg, hn, hm, hsz, ht⟩
  · cases h0
  · injection he with he1 he2 he3
    injection he1 with he1
    injection he1 with he1
    subst he1
    subst he3
    refine .inr ⟨g, cap, cur.setIfInBounds k u, rfl, hb, ?_, hn, hm, by simpa using hsz, ?_⟩
    · simp [World.setCell, Array.getElem?_modify, hg]
    · rw [← ht, Array.toList_setIfInBounds, List.take_set]
end Go.Proofs.YtadbnlnifacblaaGreatDoor
namespace Go.Proofs.YtadbnlnifacblaaGreatDoor
open Go.RowKit
def Aft (W wx : World) (P n : Nat) (vs : Value) (cs us : List Value) : Prop := ∃ g cap, wx.ownsRow (P + 1) 27 6 (.slice (some ⟨g, 0, none⟩) (n + 1) cap) (n + 1) (cs ++ us) ∧
  (∀ a0 a1 a2 a3 a4, W.heap[P]? = some (.cells #[a0, a1, a2, a3, a4, vs] 27 (0, 0)) → wx.heap[P]? = some (.cells #[a0, a1, a2, a3, a4, .slice (some ⟨g, 0, none⟩) (n + 1) cap] 27 (0, 0))) ∧ (vs.ownBlock = some g ∨ W.heap.size ≤ g) ∧
  wx.os = W.os ∧ wx.tape = W.tape ∧ wx.output = W.output ∧ W.heap.size ≤ wx.heap.size ∧ ∀ k, k < W.heap.size → k ≠ P → some k ≠ vs.ownBlock → wx.heap[k]? = W.heap[k]?
theorem setCell_heap_size (w : World) (p : Addr) (u : Value) : (w.setCell p u).heap.size = w.heap.size := by simp [World.setCell]
theorem own_put6 {w : World} {B g n cap : Nat} {cs : List Value} {z0 z1 z2 z3 z4 z5 : Value} (h : w.ownsRow B 27 6 (.slice (some ⟨g, 0, none⟩) (n + 1) cap) (n + 1) (cs ++ [z0, z1, z2, z3, z4, z5])) (hl : cs.length = n * 6) (u0 u1 u2 u3 u4 u5 : Value) :
    ((((((w.setCell ⟨g, n * 6, none⟩ u0).setCell ⟨g, n * 6 + 1, none⟩ u1).setCell ⟨g, n * 6 + 2, none⟩ u2).setCell ⟨g, n * 6 + 3, none⟩ u3).setCell ⟨g, n * 6 + 4, none⟩ u4).setCell ⟨g, n * 6 + 5, none⟩ u5).ownsRow B 27 6 (.slice (some ⟨g, 0, none⟩) (n + 1) cap) (n + 1) (cs ++ [u0, u1, u2, u3, u4, u5]) := by
  have h0 := own_put h (k := n * 6) (by simp [hl]) u0
  have h1 := own_put h0 (k := n * 6 + 1) (by simp [hl]) u1
  have h2 := own_put h1 (k := n * 6 + 2) (by simp [hl]) u2
  have h3 := own_put h2 (k := n * 6 + 3) (by simp [hl]) u3
  have h4 := own_put h3 (k := n * 6 + 4) (by simp [hl]) u4
  have h5 := own_put h4 (k := n * 6 + 5) (by simp [hl]) u5
  have e : ((((((cs ++ [z0, z1, z2, z3, z4, z5]).set (n * 6) u0).set (n * 6 + 1) u1).set (n * 6 + 2) u2).set (n * 6 + 3) u3).set (n * 6 + 4) u4).set (n * 6 + 5) u5 = cs ++ [u0, u1, u2, u3, u4, u5] := by
    rw [← hl]
    simp
  rw [e] at h5
  exact h5
theorem own_cell {w : World} {B g n cap : Nat} {cs zs : List Value} (h : w.ownsRow B 27 6 (.slice (some ⟨g, 0, none⟩) (n + 1) cap) (n + 1) (cs ++ zs)) (hl : cs.length = n * 6) {i : Nat} {z : Value} (hz : zs[i]? = some z) (hi : i < 6) : w.cell? ⟨g, n * 6 + i, none⟩ = some z := by
  have := h.cellAt (n * 6 + i) (by omega)
  rw [this, List.getElem?_append_right (by omega), ← hz]
  congr 1
  omega
theorem own_frz {w : World} {B g n cap : Nat} {xs : List Value} (h : w.ownsRow B 27 6 (.slice (some ⟨g, 0, none⟩) n cap) n xs) (i : Nat) : w.frozen? ⟨g, i, none⟩ = false := by
  rcases h.2 with ⟨h0, _⟩ | ⟨g', cap', cur, he, hb, hg, _⟩
  · cases h0
  · injection he with he1 he2 he3
    injection he1 with he1
    injection he1 with he1
    subst he1
    exact cell3_f hg i
theorem put6_far {w : World} {g b : Nat} {o0 o1 o2 o3 o4 o5 : Nat} {u0 u1 u2 u3 u4 u5 : Value} (hne : b ≠ g) : ((((((w.setCell ⟨g, o0, none⟩ u0).setCell ⟨g, o1, none⟩ u1).setCell ⟨g, o2, none⟩ u2).setCell ⟨g, o3, none⟩ u3).setCell ⟨g, o4, none⟩ u4).setCell ⟨g, o5, none⟩ u5).heap[b]? = w.heap[b]? := by
  rw [Below.heap_setCell _ _ _ _ hne, Below.heap_setCell _ _ _ _ hne, Below.heap_setCell _ _ _ _ hne, Below.heap_setCell _ _ _ _ hne, Below.heap_setCell _ _ _ _ hne, Below.heap_setCell _ _ _ _ hne]
set_option maxHeartbeats 1000000 in
theorem aft_mk {W w7 : World} {P n g cap : Nat} {vs : Value} {cs : List Value} {z0 z1 z2 z3 z4 z5 : Value} {o : Obj} (hown : W.ownsRow (P + 1) 27 6 vs n cs) (hP : P < W.heap.size) (hg : (W.alloc o).grownBy w7 vs.ownBlock)
    (hown7 : w7.ownsRow (P + 1) 27 6 (.slice (some ⟨g, 0, none⟩) (n + 1) cap) (n + 1) (cs ++ [z0, z1, z2, z3, z4, z5])) (hat : vs.ownBlock = some g ∨ g = W.heap.size + 1) (u0 u1 u2 u3 u4 u5 : Value) :
    Aft W (((((((w7.setCell ⟨g, n * 6, none⟩ u0).setCell ⟨g, n * 6 + 1, none⟩ u1).setCell ⟨g, n * 6 + 2, none⟩ u2).setCell ⟨g, n * 6 + 3, none⟩ u3).setCell ⟨g, n * 6 + 4, none⟩ u4).setCell ⟨g, n * 6 + 5, none⟩ u5).setCell ⟨P, 5, none⟩ (.slice (some ⟨g, 0, none⟩) (n + 1) cap)) P n vs cs [u0, u1, u2, u3, u4, u5] := by
  have h6 := own_put6 hown7 hown.1 u0 u1 u2 u3 u4 u5
  have hgP : P + 1 ≤ g := (hown7.lt g rfl).1
  have hvP : some P ≠ vs.ownBlock := fun e => by have := (hown.lt P e.symm).1; omega
  obtain ⟨X, hX⟩ : ∃ X, X = (((((w7.setCell ⟨g, n * 6, none⟩ u0).setCell ⟨g, n * 6 + 1, none⟩ u1).setCell ⟨g, n * 6 + 2, none⟩ u2).setCell ⟨g, n * 6 + 3, none⟩ u3).setCell ⟨g, n * 6 + 4, none⟩ u4).setCell ⟨g, n * 6 + 5, none⟩ u5 := ⟨_, rfl⟩
  have OX : Only g w7 X := by
    rw [hX]
    exact (((((Only.set_ g _ _ _).trans (Only.set_ g _ _ _)).trans (Only.set_ g _ _ _)).trans (Only.set_ g _ _ _)).trans (Only.set_ g _ _ _)).trans (Only.set_ g _ _ _)
  have hXb : ∀ b, b ≠ g → X.heap[b]? = w7.heap[b]? := fun b hb => by rw [hX]; exact put6_far hb
  have hXs : X.heap.size = w7.heap.size := by rw [hX]; simp only [setCell_heap_size]
  rw [← hX] at h6 ⊢
  clear hX hown7
  have hkp : (X.setCell ⟨P, 5, none⟩ (.slice (some ⟨g, 0, none⟩) (n + 1) cap)).ownsRow (P + 1) 27 6 (.slice (some ⟨g, 0, none⟩) (n + 1) cap) (n + 1) (cs ++ [u0, u1, u2, u3, u4, u5]) := h6.kept (row := some P) (Only.set_ P 5 _ _) (.inr (fun e => by have e2 : g = P := (by simpa [Value.ownBlock] using e); omega))
  have hs7 : W.heap.size + 1 ≤ w7.heap.size := by have := hg.size; simpa using this
  refine ⟨g, cap, hkp, fun a0 a1 a2 a3 a4 h => ?_, ?_, OX.os.trans hg.os, OX.tape.trans hg.tape, OX.output.trans hg.output, ?_, fun k hk hkP hkv => ?_⟩
  · have h7 : w7.heap[P]? = some (.cells #[a0, a1, a2, a3, a4, vs] 27 (0, 0)) := by rw [hg.block P (by simp; omega) hvP, Below.heap_alloc _ _ _ hP]; exact h
    have h8 := (hXb P (by omega)).trans h7
    simp [World.setCell, Array.getElem?_modify, h8]
  · rcases hat with h | h
    · exact .inl h
    · exact .inr (by omega)
  · rw [setCell_heap_size]
    omega
  · have hkg : k ≠ g := fun e => by
      rcases hat with h | h
      · exact hkv (by rw [h, e])
      · omega
    rw [Below.heap_setCell _ _ _ _ hkP, hXb k hkg, hg.block k (by simp; omega) hkv, Below.heap_alloc _ _ _ hk]
end Go.Proofs.YtadbnlnifacblaaGreatDoor
namespace Go.Proofs.YtadbnlnifacblaaGreatDoor
open Go.RowKit
theorem put6_only {w : World} {g : Nat} {o0 o1 o2 o3 o4 o5 : Nat} {u0 u1 u2 u3 u4 u5 : Value} : Only g w ((((((w.setCell ⟨g, o0, none⟩ u0).setCell ⟨g, o1, none⟩ u1).setCell ⟨g, o2, none⟩ u2).setCell ⟨g, o3, none⟩ u3).setCell ⟨g, o4, none⟩ u4).setCell ⟨g, o5, none⟩ u5) :=
  (((((Only.set_ g _ _ _).trans (Only.set_ g _ _ _)).trans (Only.set_ g _ _ _)).trans (Only.set_ g _ _ _)).trans (Only.set_ g _ _ _)).trans (Only.set_ g _ _ _)
theorem aft_mk2 {W w7 : World} {P n g cap : Nat} {vs : Value} {cs : List Value} {z0 z1 z2 z3 z4 z5 : Value} {o : Obj} (hown : W.ownsRow (P + 1) 27 6 vs n cs) (hP : P < W.heap.size) (hg : (W.alloc o).grownBy w7 vs.ownBlock)
    (hown7 : w7.ownsRow (P + 1) 27 6 (.slice (some ⟨g, 0, none⟩) (n + 1) cap) (n + 1) (cs ++ [z0, z1, z2, z3, z4, z5])) (hat : vs.ownBlock = some g ∨ g = W.heap.size + 1) (u0 u1 u2 u3 u4 u5 : Value) :
    Aft W (((((((w7.setCell ⟨P, 5, none⟩ (.slice (some ⟨g, 0, none⟩) (n + 1) cap)).setCell ⟨g, n * 6, none⟩ u0).setCell ⟨g, n * 6 + 1, none⟩ u1).setCell ⟨g, n * 6 + 2, none⟩ u2).setCell ⟨g, n * 6 + 3, none⟩ u3).setCell ⟨g, n * 6 + 4, none⟩ u4).setCell ⟨g, n * 6 + 5, none⟩ u5) P n vs cs [u0, u1, u2, u3, u4, u5] := by
  have hgP : P + 1 ≤ g := (hown7.lt g rfl).1
  have hvP : some P ≠ vs.ownBlock := fun e => by have := (hown.lt P e.symm).1; omega
  have hs7 : W.heap.size + 1 ≤ w7.heap.size := by have := hg.size; simpa using this
  have hkp : (w7.setCell ⟨P, 5, none⟩ (.slice (some ⟨g, 0, none⟩) (n + 1) cap)).ownsRow (P + 1) 27 6 (.slice (some ⟨g, 0, none⟩) (n + 1) cap) (n + 1) (cs ++ [z0, z1, z2, z3, z4, z5]) := hown7.kept (row := some P) (Only.set_ P 5 _ _) (.inr (fun e => by have e2 : g = P := (by simpa [Value.ownBlock] using e); omega))
  have h7 : ∀ a0 a1 a2 a3 a4, W.heap[P]? = some (.cells #[a0, a1, a2, a3, a4, vs] 27 (0, 0)) → (w7.setCell ⟨P, 5, none⟩ (.slice (some ⟨g, 0, none⟩) (n + 1) cap)).heap[P]? = some (.cells #[a0, a1, a2, a3, a4, .slice (some ⟨g, 0, none⟩) (n + 1) cap] 27 (0, 0)) := fun a0 a1 a2 a3 a4 h => by
    have h7 : w7.heap[P]? = some (.cells #[a0, a1, a2, a3, a4, vs] 27 (0, 0)) := by rw [hg.block P (by simp; omega) hvP, Below.heap_alloc _ _ _ hP]; exact h
    simp [World.setCell, Array.getElem?_modify, h7]
  have OP := Only.set_ P 5 w7 (.slice (some ⟨g, 0, none⟩) (n + 1) cap)
  have hPs : (w7.setCell ⟨P, 5, none⟩ (.slice (some ⟨g, 0, none⟩) (n + 1) cap)).heap.size = w7.heap.size := setCell_heap_size _ _ _
  generalize w7.setCell ⟨P, 5, none⟩ (.slice (some ⟨g, 0, none⟩) (n + 1) cap) = Y at *
  have h6 := own_put6 hkp hown.1 u0 u1 u2 u3 u4 u5
  have OX := put6_only (w := Y) (g := g) (o0 := n * 6) (o1 := n * 6 + 1) (o2 := n * 6 + 2) (o3 := n * 6 + 3) (o4 := n * 6 + 4) (o5 := n * 6 + 5) (u0 := u0) (u1 := u1) (u2 := u2) (u3 := u3) (u4 := u4) (u5 := u5)
  have hXb : ∀ b, b ≠ g → (((((((Y.setCell ⟨g, n * 6, none⟩ u0).setCell ⟨g, n * 6 + 1, none⟩ u1).setCell ⟨g, n * 6 + 2, none⟩ u2).setCell ⟨g, n * 6 + 3, none⟩ u3).setCell ⟨g, n * 6 + 4, none⟩ u4).setCell ⟨g, n * 6 + 5, none⟩ u5)).heap[b]? = Y.heap[b]? := fun b hb => put6_far hb
  generalize (((((Y.setCell ⟨g, n * 6, none⟩ u0).setCell ⟨g, n * 6 + 1, none⟩ u1).setCell ⟨g, n * 6 + 2, none⟩ u2).setCell ⟨g, n * 6 + 3, none⟩ u3).setCell ⟨g, n * 6 + 4, none⟩ u4).setCell ⟨g, n * 6 + 5, none⟩ u5 = X at *
  refine ⟨g, cap, h6, fun a0 a1 a2 a3 a4 h => (hXb P (by omega)).trans (h7 a0 a1 a2 a3 a4 h), ?_, OX.os.trans (OP.os.trans hg.os), OX.tape.trans (OP.tape.trans hg.tape), OX.output.trans (OP.output.trans hg.output), ?_, fun k hk hkP hkv => ?_⟩
  · rcases hat with h | h
    · exact .inl h
    · exact .inr (by omega)
  · have := OX.size
    omega
  · have hkg : k ≠ g := fun e => by
      rcases hat with h | h
      · exact hkv (by rw [h, e])
      · omega
    exact (hXb k hkg).trans ((OP.block k (by omega) (by simpa using hkP)).trans ((hg.block k (by simp; omega) hkv).trans (Below.heap_alloc _ _ _ hk)))
structure Kv (R P : Nat) (vs : Value) (w w' : World) : Prop where
  os : w'.os = w.os
  tape : w'.tape = w.tape
  output : w'.output = w.output
  size : w.heap.size ≤ w'.heap.size
  block : ∀ i, i < w.heap.size → i ≠ R → i ≠ P → some i ≠ vs.ownBlock → w'.heap[i]? = w.heap[i]?
def OwnTo (w : World) (vs vs' : Value) : Prop := vs'.ownBlock = vs.ownBlock ∨ ∀ g, vs'.ownBlock = some g → w.heap.size ≤ g
theorem Kv.of_only {R P : Nat} {vs : Value} {w w' : World} (h : Only R w w') : Kv R P vs w w' := ⟨h.os, h.tape, h.output, h.size, fun i hi hne _ _ => h.block i hi (by simpa using hne)⟩
theorem Kv.set_ {R P : Nat} {vs : Value} {w W : World} (h : Kv R P vs w W) (i : Nat) (u : Value) : Kv R P vs w (W.setCell ⟨P, i, none⟩ u) :=
  ⟨h.os, h.tape, h.output, by have := h.size; simpa [World.setCell] using this, fun j hj h1 h2 h3 => (Below.heap_setCell W _ u j h2).trans (h.block j hj h1 h2 h3)⟩
theorem Kv.trans {R P : Nat} {vs vs' : Value} {a b c : World} (h : Kv R P vs a b) (ht : OwnTo a vs vs') (k : Kv R P vs' b c) : Kv R P vs a c :=
  ⟨k.os.trans h.os, k.tape.trans h.tape, k.output.trans h.output, Nat.le_trans h.size k.size, fun i hi h1 h2 h3 => (k.block i (Nat.lt_of_lt_of_le hi h.size) h1 h2 (fun e => by
    rcases ht with ht | ht
    · exact h3 (e.trans ht)
    · have := ht i e.symm
      omega)).trans (h.block i hi h1 h2 h3)⟩
theorem OwnTo.trans {a b : World} {v1 v2 v3 : Value} (h : OwnTo a v1 v2) (hs : a.heap.size ≤ b.heap.size) (k : OwnTo b v2 v3) : OwnTo a v1 v3 := by
  rcases k with k | k
  · rcases h with h | h
    · exact .inl (k.trans h)
    · exact .inr fun g hg => h g (k.symm.trans hg)
  · exact .inr fun g hg => Nat.le_trans hs (k g hg)
theorem aft_kp {w W wx : World} {R P n m : Nat} {s : ByteArray} {vs : Value} {cs us : List Value} (hb : ∀ g, vs.ownBlock = some g → P + 1 ≤ g) (_hP : P < w.heap.size) (hRP : R < P) (hO : Only R w W) (hA : Aft W wx P n vs cs us) (hr : Rdr W R s m) : Kv R P vs w wx ∧ Rdr wx R s m := by
  obtain ⟨g, cap, _, _, _, h1, h2, h3, h4, h5⟩ := hA
  have hs := hO.size
  refine ⟨⟨h1.trans hO.os, h2.trans hO.tape, h3.trans hO.output, Nat.le_trans hs h4, fun i hi hne hnP hnv => (h5 i (by omega) hnP hnv).trans (hO.block i hi (by simpa using hne))⟩, ⟨(h5 R hr.lt (by omega) (fun e => by have := hb R e.symm; omega)).trans hr.box, hr.le, hr.len⟩⟩
theorem aft_pn {w W wx : World} {R P d c : Nat} {nd k : Nd} {A : Option Addr} {vs : Value} {cs : List Value} {u0 u1 u2 u3 u4 u5 : Value} (hN : PnI w P d nd A c vs cs) (hRP : R < P) (hO : Only R w W) (hA : Aft W wx P nd.kids.length vs cs [u0, u1, u2, u3, u4, u5])
    (hv : NdAt W (fun b => w.heap.size ≤ b) d (.agg #[u0, u1, u2, u3, u4, u5]) k) : ∃ vs' cs', PnI wx P d (.mk nd.op nd.int nd.text nd.ty (nd.kids ++ [k])) A c vs' cs' ∧ OwnTo w vs vs' := by
  obtain ⟨g, cap, hown, hbox, hat, _, _, _, hsz, hblk⟩ := hA
  have hPl := cell_lt hN.box
  have hs := hO.size
  have hown0 := hN.own.lt
  have hl : cs.length = nd.kids.length * 6 := hN.own.1
  have hmv : ∀ b, (P < b ∧ some b ≠ vs.ownBlock) → b < w.heap.size → (P < b ∧ some b ≠ (Value.slice (some ⟨g, 0, none⟩) (nd.kids.length + 1) cap).ownBlock) ∧ ∀ o, wx.cell? ⟨b, o, none⟩ = w.cell? ⟨b, o, none⟩ := fun b hb hlt =>
    ⟨⟨hb.1, fun e => by
        have e2 : b = g := by simpa [Value.ownBlock] using e
        rcases hat with h | h
        · exact hb.2 (by rw [h, e2])
        · omega⟩,
      fun o => World.cell?_of_block ((hblk b (by omega) (by omega) hb.2).trans (hO.block b hlt (by simp; omega)))⟩
  have hmw : ∀ b, w.heap.size ≤ b → b < W.heap.size → (P < b ∧ some b ≠ (Value.slice (some ⟨g, 0, none⟩) (nd.kids.length + 1) cap).ownBlock) ∧ ∀ o, wx.cell? ⟨b, o, none⟩ = W.cell? ⟨b, o, none⟩ := fun b hb hlt => by
    have hne : some b ≠ vs.ownBlock := fun e => by have := (hown0 b e.symm).2; omega
    exact ⟨⟨by omega, fun e => by
        have e2 : b = g := by simpa [Value.ownBlock] using e
        rcases hat with h | h
        · exact hne (by rw [h, e2])
        · omega⟩,
      fun o => World.cell?_of_block (hblk b hlt (by omega) hne)⟩
  refine ⟨.slice (some ⟨g, 0, none⟩) (nd.kids.length + 1) cap, cs ++ [u0, u1, u2, u3, u4, u5], ⟨?_, ?_, ?_, fun i a ha => ?_⟩, hat.elim (fun h => .inl h.symm) (fun h => .inr fun g' hg' => by have e2 : g = g' := (by simpa [Value.ownBlock] using hg'); omega)⟩
  · simpa [Nd.kids] using hown
  · exact hbox _ _ _ _ _ ((hO.block P hPl (by simp; omega)).trans hN.box)
  · obtain ⟨dt, ht⟩ := hN.ty
    exact ⟨dt, TyAt.move hmv dt _ _ ht⟩
  · have ha' : (nd.kids ++ [k])[i]? = some a := ha
    rcases Nat.lt_or_ge i nd.kids.length with h | h
    · rw [List.getElem?_append_left h] at ha'
      obtain ⟨x0, x1, x2, x3, x4, x5, e0, e1, e2, e3, e4, e5, hx⟩ := hN.args i a ha'
      exact ⟨x0, x1, x2, x3, x4, x5, by rw [List.getElem?_append_left (by omega)]; exact e0, by rw [List.getElem?_append_left (by omega)]; exact e1, by rw [List.getElem?_append_left (by omega)]; exact e2, by rw [List.getElem?_append_left (by omega)]; exact e3, by rw [List.getElem?_append_left (by omega)]; exact e4, by rw [List.getElem?_append_left (by omega)]; exact e5, NdAt.move hmv d _ _ hx⟩
    · rw [List.getElem?_append_right h] at ha'
      have hi : i = nd.kids.length := by
        rcases Nat.lt_or_ge (i - nd.kids.length) 1 with h1 | h1
        · omega
        · rw [List.getElem?_eq_none (by simpa using h1)] at ha'; cases ha'
      subst hi
      rw [Nat.sub_self] at ha'
      have hka : k = a := by simpa using ha'
      subst hka
      have hz : ∀ (j : Nat) (u : Value), [u0, u1, u2, u3, u4, u5][j]? = some u → (cs ++ [u0, u1, u2, u3, u4, u5])[nd.kids.length * 6 + j]? = some u := fun j u hu => by
        rw [List.getElem?_append_right (by omega), ← hu]
        congr 1
        omega
      exact ⟨u0, u1, u2, u3, u4, u5, hz 0 u0 rfl, hz 1 u1 rfl, hz 2 u2 rfl, hz 3 u3 rfl, hz 4 u4 rfl, hz 5 u5 rfl, NdAt.move hmw d _ _ hv⟩
end Go.Proofs.YtadbnlnifacblaaGreatDoor
