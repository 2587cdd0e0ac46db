/-
Types as trees, where they lie in memory, and readType of package kind.
-/
import Derived.Test.YtdoadedglpjldaaDoorRw
import Derived.Maps.AppendAt
namespace Go.Proofs.YtdoadedglpjldaaDoor
open Go.RowKit

/-- A type, as a tree. -/
inductive Ty where
  | mk (kind : Int) (args : List Ty)
def Ty.kind : Ty → Int | .mk k _ => k
def Ty.args : Ty → List Ty | .mk _ l => l

/-- The value v is the type t, at most d deep; the slices of Args lie in blocks of S. -/
def TyAt (w : World) (S : Nat → Prop) : Nat → Value → Ty → Prop
  | 0, _, _ => False
  | d + 1, v, t => ∃ A c, v = .agg #[.int .i64 t.kind, .slice A t.args.length c] ∧ t.args.length ≤ c ∧ (0 < t.args.length → ∃ b o, A = some ⟨b, o, none⟩ ∧ S b ∧
      ∀ (j : Nat) (a : Ty), t.args[j]? = some a → ∃ u0 u1, w.cell? ⟨b, o + j * 2, none⟩ = some u0 ∧ w.cell? ⟨b, o + j * 2 + 1, none⟩ = some u1 ∧ TyAt w S d (.agg #[u0, u1]) a)

theorem TyAt.move {w w' : World} {S S' : Nat → Prop} (hk : ∀ b, S b → b < w.heap.size → S' b ∧ ∀ o, w'.cell? ⟨b, o, none⟩ = w.cell? ⟨b, o, none⟩) : ∀ (d : Nat) (v : Value) (t : Ty), TyAt w S d v t → TyAt w' S' d v t
  | 0, _, _, h => h
  | d + 1, v, t, ⟨A, c, hv, hc, h⟩ => ⟨A, c, hv, hc, fun hl => by
      obtain ⟨b, o, hA, hS, hj⟩ := h hl
      have hlt : b < w.heap.size := by
        obtain ⟨u0, u1, h0, _⟩ := hj 0 _ (List.getElem?_eq_getElem hl)
        exact World.block_lt_of_cell? w _ h0
      obtain ⟨hS', hcell⟩ := hk b hS hlt
      refine ⟨b, o, hA, hS', fun j a ha => ?_⟩
      obtain ⟨u0, u1, h0, h1, h2⟩ := hj j a ha
      exact ⟨u0, u1, (hcell _).trans h0, (hcell _).trans h1, TyAt.move hk d _ _ h2⟩⟩

theorem TyAt.more {w : World} {S : Nat → Prop} : ∀ (d d' : Nat) (v : Value) (t : Ty), d ≤ d' → TyAt w S d v t → TyAt w S d' v t
  | 0, _, _, _, _, h => h.elim
  | d + 1, 0, _, _, hd, _ => by omega
  | d + 1, d' + 1, v, t, hd, ⟨A, c, hv, hc, h⟩ => ⟨A, c, hv, hc, fun hl => by
      obtain ⟨b, o, hA, hS, hj⟩ := h hl
      refine ⟨b, o, hA, hS, fun j a ha => ?_⟩
      obtain ⟨u0, u1, h0, h1, h2⟩ := hj j a ha
      exact ⟨u0, u1, h0, h1, TyAt.more d d' _ _ (by omega) h2⟩⟩

/-- The byte ahead of the Arg with this number. -/
def aheadB (i : Nat) : UInt8 := if i = 0 then 40 else 44

/-- So many Args are read behind k bytes. -/
def readArgs (rt : List UInt8 → Nat × Option Ty) (l : List UInt8) : Nat → Nat → Nat → List Ty → Nat × Option (List Ty)
  | 0, _, k, acc => (k, some acc)
  | left + 1, i, k, acc =>
    if (l.drop k).head? = some (aheadB i) then
      match rt (l.drop (k + 1)) with
      | (m, none) => (k + 1 + m, none)
      | (m, some a) => readArgs rt l left (i + 1) (k + 1 + m) (acc ++ [a])
    else (k, none)

/-- What stands behind the Args. -/
def readEnd (x : Wd) (l : List UInt8) : Nat × Option (List Ty) → Nat × Option Ty
  | (k, none) => (k, none)
  | (k, some l2) =>
    if 0 < x.args then
      if (l.drop k).head? = some 41 then (k + 1, some (.mk x.kind l2)) else (k, none)
    else (k, some (.mk x.kind l2))

/-- The type that a text begins with, and how many bytes it has; none: where the fault is. -/
def readT : Nat → List UInt8 → Nat × Option Ty
  | 0, _ => (0, none)
  | r + 1, l => match readW (fitW (r + 1 : Nat) words) 0 l with
    | (k, none) => (k, none)
    | (k, some x) => readEnd x l (readArgs (readT r) l x.args.toNat 0 k [])

/-- What readType answers with. -/
def TyOut (w w' : World) (r : Nat) (v : Value) : Option Ty → Prop
  | none => v = .agg #[.int .i64 0, .slice none 0 0]
  | some t => TyAt w' (fun k => w.heap.size ≤ k) r v t

theorem info24 : (Tryd.prog.info? 24).map (fun i => (i.zero, i.size, i.bytes)) = some (some (.agg #[.int .i64 0, .slice none 0 0]), 2, 32) := by kernel_rfl
theorem cells24 : Tryd.prog.cellsOf 24 = 2 := by kernel_rfl

theorem ahead_at0 : ∀ w : World, (Instr.index 9 (.string ⟨#[40, 44]⟩) (.int .i64 ((0 : Nat) : Int))).run Tryd.prog w = .ok (.int .u8 ((aheadB 0).toNat : Int)) w := fun _ => by kernel_rfl
theorem ahead_at1 : ∀ w : World, (Instr.index 9 (.string ⟨#[40, 44]⟩) (.int .i64 ((1 : Nat) : Int))).run Tryd.prog w = .ok (.int .u8 ((aheadB 1).toNat : Int)) w := fun _ => by kernel_rfl
theorem ahead_at (i : Nat) (hi : i < 2) (w : World) : (Instr.index 9 (.string ⟨#[40, 44]⟩) (.int .i64 (i : Int))).run Tryd.prog w = .ok (.int .u8 ((aheadB i).toNat : Int)) w := by
  match i, hi with
  | 0, _ => exact ahead_at0 w
  | 1, _ => exact ahead_at1 w

theorem readW_mem : ∀ (l : List UInt8) (lw : List Wd) (n : Nat) (x : Wd), (readW lw n l).2 = some x → x ∈ lw
  | [], lw, n, x, h => by simp [readW] at h
  | b :: rest, lw, n, x, h => by
    unfold readW at h
    cases ho : onW lw n b with
    | nil => simp [ho] at h
    | cons y l' =>
      have hm : ∀ z ∈ y :: l', z ∈ lw := fun z hz => (List.mem_filter.1 (show z ∈ onW lw n b by rw [ho]; exact hz)).1
      simp only [ho] at h
      split at h
      · exact hm x (readW_mem rest (y :: l') (n + 1) x h)
      · injection h with h
        subst h
        exact hm _ (List.mem_cons_self ..)

theorem readW_le : ∀ (l : List UInt8) (lw : List Wd) (n : Nat), (readW lw n l).1 ≤ l.length
  | [], lw, n => by simp [readW]
  | b :: rest, lw, n => by
    unfold readW
    cases ho : onW lw n b with
    | nil => simp
    | cons y l' =>
      have := readW_le rest (y :: l') (n + 1)
      simp only
      split
      · simp only [List.length_cons]; omega
      · simp

theorem head_lt {l : List UInt8} {k : Nat} {b : UInt8} (h : (l.drop k).head? = some b) : k < l.length := by
  rcases Nat.lt_or_ge k l.length with hlt | hge
  · exact hlt
  · rw [List.drop_of_length_le hge] at h; simp at h

theorem readArgs_le (rt : List UInt8 → Nat × Option Ty) (l : List UInt8) (hrt : ∀ l, (rt l).1 ≤ l.length) : ∀ (left i k : Nat) (acc : List Ty), k ≤ l.length → (readArgs rt l left i k acc).1 ≤ l.length
  | 0, _, k, acc, hk => hk
  | left + 1, i, k, acc, hk => by
    unfold readArgs
    split
    · rename_i hh
      have hlt := head_lt hh
      have h1 := hrt (l.drop (k + 1))
      rw [List.length_drop] at h1
      cases hr : rt (l.drop (k + 1)) with
      | mk m o =>
        rw [hr] at h1
        cases o with
        | none => simp only at h1 ⊢; omega
        | some a => exact readArgs_le rt l hrt left (i + 1) _ _ (by simp only at h1; omega)
    · exact hk

theorem readEnd_le (x : Wd) (l : List UInt8) (p : Nat × Option (List Ty)) (hp : p.1 ≤ l.length) : (readEnd x l p).1 ≤ l.length := by
  obtain ⟨k, o⟩ := p
  cases o with
  | none => exact hp
  | some l2 =>
    simp only [readEnd]
    split
    · split
      · rename_i _ hh
        exact head_lt hh
      · exact hp
    · exact hp

theorem readT_le : ∀ (r : Nat) (l : List UInt8), (readT r l).1 ≤ l.length
  | 0, l => by simp [readT]
  | r + 1, l => by
    unfold readT
    have h := readW_le l (fitW (r + 1 : Nat) words) 0
    cases hw : readW (fitW (r + 1 : Nat) words) 0 l with
    | mk k o =>
      rw [hw] at h
      cases o with
      | none => exact h
      | some x => exact readEnd_le x l _ (readArgs_le _ l (readT_le r) _ _ _ _ h)
end Go.Proofs.YtdoadedglpjldaaDoor
