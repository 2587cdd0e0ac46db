/-
The writer of package expr: its builder, which is embedded: copyCheck, WriteString, WriteByte, Len, String. Package expr: what its reader reads as terms, as plain functions over a text's bytes; and that what is read at a place hangs on the bytes up to where the reading ends. Package expr: what is read at a place hangs on the bytes up to where the reading ends: numbers, strings, names. The node that a word's parts are laid to. Package expr: readPart, of a name. The node under way: it moves; a digit laid to it. Ported from the texts of layer 2: Kc.
-/
import Derived.Test.YtllnamhgnbdkmaaGreatDoorKd
import Derived.Test.YtllnamhgnbdkmaaGreatDoorRc3
import Derived.Lib.UnsafeStr
import Derived.Deep.AppendLies
import Derived.Deep.RegionLaw
import Derived.Test.YtllnamhgnbdkmaaGreatDoorKb
namespace Go.Proofs.YtllnamhgnbdkmaaGreatDoor
open Go.RowKit
open Knd (BFr)
end Go.Proofs.YtllnamhgnbdkmaaGreatDoor
namespace Go.Proofs.YtllnamhgnbdkmaaGreatDoor
open Go.RowKit
def bindP {α β : Type} (q : Nat × Option α) (g : Nat → α → Nat × Option β) : Nat × Option β := match q with
  | (m, none) => (m, none)
  | (m, some x) => g m x
section
variable (kp : List UInt8 → Nat × Option Ty)
end
def Lo {α : Type} (l l' : List UInt8) (p p' : Nat × α) : Prop := (∀ j, j < p.1 → l'[j]? = l[j]?) → (l'[p.1]? = l[p.1]? → p' = p) ∧ (l'[p.1]? = none → p'.1 = p.1)
def In {α : Type} (l : List UInt8) (m : Nat) (p : Nat × α) : Prop := m ≤ p.1 ∧ p.1 ≤ l.length
theorem none_le {l : List UInt8} {j : Nat} (h : l[j]? = none) : l.length ≤ j := List.getElem?_eq_none_iff.1 h
theorem In.bind {α β : Type} {l : List UInt8} {m : Nat} {q : Nat × Option α} {g : Nat → α → Nat × Option β} (hq : In l m q) (hg : ∀ m' x, m' ≤ l.length → In l m' (g m' x)) : In l m (bindP q g) := by
  match q, hq with
  | (k, none), hq => exact hq
  | (k, some x), hq =>
    have := hg k x hq.2
    exact ⟨Nat.le_trans hq.1 this.1, this.2⟩
theorem Lo.bind {α β : Type} {l l' : List UInt8} {q q' : Nat × Option α} {g g' : Nat → α → Nat × Option β} (hq : Lo l l' q q') (hq' : q'.1 ≤ l'.length) (hql : q.1 ≤ l.length)
    (hg : ∀ x, q.2 = some x → Lo l l' (g q.1 x) (g' q.1 x)) (hi : ∀ m x, m ≤ l.length → In l m (g m x)) (hi' : ∀ m x, m ≤ l'.length → In l' m (g' m x)) : Lo l l' (bindP q g) (bindP q' g') := by
  intro hs
  have hle : q.1 ≤ (bindP q g).1 := by
    match q, hql with
    | (k, none), _ => exact Nat.le_refl _
    | (k, some x), hql => exact (hi k x hql).1
  have hq0 := hq fun j hj => hs j (Nat.lt_of_lt_of_le hj hle)
  by_cases hsame : l'[q.1]? = l[q.1]?
  · have he := hq0.1 hsame
    subst he
    match q', hg, hs with
    | (k, none), _, _ => exact ⟨fun _ => rfl, fun _ => rfl⟩
    | (k, some x), hg, hs => exact hg x rfl hs
  · have hpe : (bindP q g).1 = q.1 := by
      rcases Nat.lt_or_ge q.1 (bindP q g).1 with h | h
      · exact absurd (hs _ h) hsame
      · omega
    rw [hpe]
    refine ⟨fun h => absurd h hsame, fun h => ?_⟩
    have he := hq0.2 h
    have hl := none_le h
    match q', he, hq' with
    | (k, none), he, _ => exact he
    | (k, some x), he, hq' =>
      have := hi' k x hq'
      have h1 := this.1
      have h2 := this.2
      have he' : k = q.1 := he
      show (g' k x).1 = q.1
      omega
theorem Lo.done {α : Type} {l l' : List UInt8} {m : Nat} {x x' : α} (h : l'[m]? = l[m]? → x' = x) : Lo l l' (m, x) (m, x') := fun _ => ⟨fun e => by rw [h e], fun _ => rfl⟩
end Go.Proofs.YtllnamhgnbdkmaaGreatDoor
namespace Go.Proofs.YtllnamhgnbdkmaaGreatDoor
open Go.RowKit
end Go.Proofs.YtllnamhgnbdkmaaGreatDoor
namespace Go.Proofs.YtllnamhgnbdkmaaGreatDoor
open Go.RowKit
end Go.Proofs.YtllnamhgnbdkmaaGreatDoor
namespace Go.Proofs.YtllnamhgnbdkmaaGreatDoor
open Go.RowKit
end Go.Proofs.YtllnamhgnbdkmaaGreatDoor
namespace Go.Proofs.YtllnamhgnbdkmaaGreatDoor
open Go.RowKit
theorem Lo.far {α : Type} {l l' : List UInt8} {p p' : Nat × α} (h : l'.length < p.1) (hp : p.1 ≤ l.length) : Lo l l' p p' := fun hs => by
  have h1 := hs l'.length h
  rw [List.getElem?_eq_none_iff.2 (Nat.le_refl _)] at h1
  have := none_le h1.symm
  omega
structure KpOk (kp : List UInt8 → Nat × Option Ty) : Prop where
  le : ∀ x k, kp x = (k, none) → k ≤ x.length
  agree : ∀ x x' k, kp x = (k, none) → (∀ j, j ≤ k → x'[j]? = x[j]?) → kp x' = (k, none)
  trunc : ∀ x k, kp x = (k, none) → (∃ i t, kp (x.take k) = (i, some t)) ∨ kp (x.take k) = (k, none)
end Go.Proofs.YtllnamhgnbdkmaaGreatDoor
namespace Go.Proofs.YtllnamhgnbdkmaaGreatDoor
open Go.RowKit
section
variable {kp : List UInt8 → Nat × Option Ty} (K : KpOk kp)
include K
end
end Go.Proofs.YtllnamhgnbdkmaaGreatDoor
namespace Go.Proofs.YtllnamhgnbdkmaaGreatDoor
open Go.RowKit
section
variable {kp : List UInt8 → Nat × Option Ty}
variable (K : KpOk kp)
include K
end
end Go.Proofs.YtllnamhgnbdkmaaGreatDoor
namespace Go.Proofs.YtllnamhgnbdkmaaGreatDoor
open Go.RowKit
structure Kp (R P : Nat) (w w' : World) : Prop where
  os : w'.os = w.os
  tape : w'.tape = w.tape
  output : w'.output = w.output
  size : w.heap.size ≤ w'.heap.size
  block : ∀ i, i < P → i ≠ R → w'.heap[i]? = w.heap[i]?
theorem Kp.trans {R P : Nat} {a b c : World} (h : Kp R P a b) (k : Kp R P b c) : Kp R P a c :=
  ⟨k.os.trans h.os, k.tape.trans h.tape, k.output.trans h.output, Nat.le_trans h.size k.size, fun i hi hne => (k.block i hi hne).trans (h.block i hi hne)⟩
theorem Kp.refl (R P : Nat) (w : World) : Kp R P w w := ⟨rfl, rfl, rfl, Nat.le_refl _, fun _ _ _ => rfl⟩
end Go.Proofs.YtllnamhgnbdkmaaGreatDoor
namespace Go.Proofs.YtllnamhgnbdkmaaGreatDoor
open Go.RowKit
end Go.Proofs.YtllnamhgnbdkmaaGreatDoor
namespace Go.Proofs.YtllnamhgnbdkmaaGreatDoor
open Go.RowKit
structure Kv (R P : Nat) (vs : Value) (w w' : World) : Prop where
  os : w'.os = w.os
  tape : w'.tape = w.tape
  output : w'.output = w.output
  size : w.heap.size ≤ w'.heap.size
  block : ∀ i, i < w.heap.size → i ≠ R → i ≠ P → some i ≠ vs.ownBlock → w'.heap[i]? = w.heap[i]?
def OwnTo (w : World) (vs vs' : Value) : Prop := vs'.ownBlock = vs.ownBlock ∨ ∀ g, vs'.ownBlock = some g → w.heap.size ≤ g
theorem Kv.set_ {R P : Nat} {vs : Value} {w W : World} (h : Kv R P vs w W) (i : Nat) (u : Value) : Kv R P vs w (W.setCell ⟨P, i, none⟩ u) :=
  ⟨h.os, h.tape, h.output, by have := h.size; simpa [World.setCell] using this, fun j hj h1 h2 h3 => (Below.heap_setCell W _ u j h2).trans (h.block j hj h1 h2 h3)⟩
theorem Kv.trans {R P : Nat} {vs vs' : Value} {a b c : World} (h : Kv R P vs a b) (ht : OwnTo a vs vs') (k : Kv R P vs' b c) : Kv R P vs a c :=
  ⟨k.os.trans h.os, k.tape.trans h.tape, k.output.trans h.output, Nat.le_trans h.size k.size, fun i hi h1 h2 h3 => (k.block i (Nat.lt_of_lt_of_le hi h.size) h1 h2 (fun e => by
    rcases ht with ht | ht
    · exact h3 (e.trans ht)
    · have := ht i e.symm
      omega)).trans (h.block i hi h1 h2 h3)⟩
theorem OwnTo.trans {a b : World} {v1 v2 v3 : Value} (h : OwnTo a v1 v2) (hs : a.heap.size ≤ b.heap.size) (k : OwnTo b v2 v3) : OwnTo a v1 v3 := by
  rcases k with k | k
  · rcases h with h | h
    · exact .inl (k.trans h)
    · exact .inr fun g hg => h g (k.symm.trans hg)
  · exact .inr fun g hg => Nat.le_trans hs (k g hg)
end Go.Proofs.YtllnamhgnbdkmaaGreatDoor
namespace Go.Proofs.YtllnamhgnbdkmaaGreatDoor
open Go.RowKit
end Go.Proofs.YtllnamhgnbdkmaaGreatDoor
namespace Go.Proofs.YtllnamhgnbdkmaaGreatDoor
open Go.RowKit
theorem Kp.set_ {R P : Nat} {w W : World} (h : Kp R P w W) (i : Nat) (u : Value) : Kp R P w (W.setCell ⟨P, i, none⟩ u) :=
  h.trans ⟨rfl, rfl, rfl, by simp [World.setCell], fun j hj _ => Below.heap_setCell W _ u j (by show j ≠ P; omega)⟩
end Go.Proofs.YtllnamhgnbdkmaaGreatDoor
namespace Go.Proofs.YtllnamhgnbdkmaaGreatDoor
open Go.RowKit
end Go.Proofs.YtllnamhgnbdkmaaGreatDoor
namespace Go.Proofs.YtllnamhgnbdkmaaGreatDoor
open Go.RowKit
end Go.Proofs.YtllnamhgnbdkmaaGreatDoor
namespace Go.Proofs.YtllnamhgnbdkmaaGreatDoor.Knd
open Go.RowKit
def parseT (l : List UInt8) : Nat × Option Ty :=
  match readT 6 l with
  | (k, none) => (k, none)
  | (k, some t) => if k < l.length then (k, none) else (0, some t)
def PaOut (w w' : World) (e : Ending) : Nat × Option Ty → Prop
  | (k, none) => e = .returned (.tuple #[.agg #[.int .i64 0, .slice none 0 0], .int .i64 (k : Int), .int .i64 40])
  | (_, some t) => ∃ v, e = .returned (.tuple #[v, .int .i64 0, .int .i64 0]) ∧ TyAt w' (fun b => w.heap.size ≤ b) 6 v t
theorem pa_cell {w w1 : World} {o : Obj} {cs : Array Value} {t : TypeId} (h : Only (w.heap.size + 1) ((w.alloc (.cells cs t)).alloc o) w1) : w1.heap[w.heap.size]? = some (.cells cs t (0, 0)) := by
  rw [h.block _ (by simp <;> omega) (by simp), Below.heap_alloc _ _ _ (by simp)]
  exact heap_alloc_new w _
theorem two_stored {w : World} {g : Nat} {a b : Value} {t : TypeId} (h : w.heap[g]? = some (.cells #[a, b] t (0, 0))) (c d : Value) : ((w.setCell ⟨g, 0, none⟩ c).setCell ⟨g, 1, none⟩ d).heap[g]? = some (.cells #[c, d] t (0, 0)) := by
  simp [World.setCell, Array.getElem?_modify, h]
theorem pa_below {w w1 : World} {o o' : Obj} (h : Only (w.heap.size + 1) ((w.alloc o).alloc o') w1) : Below w.heap.size w w1 :=
  (((Below.refl _ w).alloc (Nat.le_refl _) _).alloc (by simp) _).trans (h.below (by omega) (by simp <;> omega))
section
variable {α : Type} {l l' : List α} {a b : Nat}
end
end Go.Proofs.YtllnamhgnbdkmaaGreatDoor.Knd
namespace Go.Proofs.YtllnamhgnbdkmaaGreatDoor
open Go.RowKit
end Go.Proofs.YtllnamhgnbdkmaaGreatDoor
