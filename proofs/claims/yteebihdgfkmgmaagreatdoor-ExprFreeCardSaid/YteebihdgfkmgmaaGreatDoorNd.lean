/-
Terms: as trees, and as values.
-/
import Derived.Test.YteebihdgfkmgmaaGreatDoorSp1
namespace Go.Proofs.YteebihdgfkmgmaaGreatDoor
open Go.RowKit

/-- A term. -/
inductive Nd where
  | mk (op : List UInt8) (int : Int) (text : List UInt8) (ty : Ty) (kids : List Nd)
def Nd.op : Nd → List UInt8 | .mk o _ _ _ _ => o
def Nd.int : Nd → Int | .mk _ i _ _ _ => i
def Nd.text : Nd → List UInt8 | .mk _ _ t _ _ => t
def Nd.ty : Nd → Ty | .mk _ _ _ t _ => t
def Nd.kids : Nd → List Nd | .mk _ _ _ _ l => l
def ty0 : Ty := .mk 0 []

/-- The value v is the term n, at most d deep; its slices lie in blocks of S. -/
def NdAt (w : World) (S : Nat → Prop) : Nat → Value → Nd → Prop
  | 0, _, _ => False
  | d + 1, v, n => ∃ A c K k, v = .agg #[.string ⟨n.op.toArray⟩, .int .i64 n.int, .string ⟨n.text.toArray⟩, .int .i64 n.ty.kind, .slice A n.ty.args.length c, .slice K n.kids.length k] ∧
      (∃ dt, TyAt w S dt (.agg #[.int .i64 n.ty.kind, .slice A n.ty.args.length c]) n.ty) ∧ n.kids.length ≤ k ∧
      (0 < n.kids.length → ∃ b o, K = some ⟨b, o, none⟩ ∧ S b ∧ ∀ (j : Nat) (a : Nd), n.kids[j]? = some a → ∃ u0 u1 u2 u3 u4 u5, w.cell? ⟨b, o + j * 6, none⟩ = some u0 ∧ w.cell? ⟨b, o + j * 6 + 1, none⟩ = some u1 ∧ w.cell? ⟨b, o + j * 6 + 2, none⟩ = some u2 ∧ w.cell? ⟨b, o + j * 6 + 3, none⟩ = some u3 ∧ w.cell? ⟨b, o + j * 6 + 4, none⟩ = some u4 ∧ w.cell? ⟨b, o + j * 6 + 5, none⟩ = some u5 ∧ NdAt w S d (.agg #[u0, u1, u2, u3, u4, u5]) a)

theorem NdAt.form {w : World} {S : Nat → Prop} {d : Nat} {v : Value} {n : Nd} (h : NdAt w S d v n) : ∃ A c K k, v = .agg #[.string ⟨n.op.toArray⟩, .int .i64 n.int, .string ⟨n.text.toArray⟩, .int .i64 n.ty.kind, .slice A n.ty.args.length c, .slice K n.kids.length k] := by
  cases d with
  | zero => exact h.elim
  | succ d => obtain ⟨A, c, K, k, hv, _⟩ := h; exact ⟨A, c, K, k, hv⟩

theorem NdAt.move {w w' : World} {S S' : Nat → Prop} (hk : ∀ b, S b → b < w.heap.size → S' b ∧ ∀ o, w'.cell? ⟨b, o, none⟩ = w.cell? ⟨b, o, none⟩) : ∀ (d : Nat) (v : Value) (n : Nd), NdAt w S d v n → NdAt w' S' d v n
  | 0, _, _, h => h
  | d + 1, v, n, ⟨A, c, K, k, hv, ⟨dt, ht⟩, hlk, h⟩ => ⟨A, c, K, k, hv, ⟨dt, TyAt.move hk dt _ _ ht⟩, hlk, fun hl => by
      obtain ⟨b, o, hK, hS, hj⟩ := h hl
      have hlt : b < w.heap.size := by
        obtain ⟨u0, u1, u2, u3, u4, u5, h0, _⟩ := hj 0 _ (List.getElem?_eq_getElem hl)
        exact World.block_lt_of_cell? w _ h0
      obtain ⟨hS', hcell⟩ := hk b hS hlt
      refine ⟨b, o, hK, hS', fun j a ha => ?_⟩
      obtain ⟨u0, u1, u2, u3, u4, u5, h0, h1, h2, h3, h4, h5, h6⟩ := hj j a ha
      exact ⟨u0, u1, u2, u3, u4, u5, (hcell _).trans h0, (hcell _).trans h1, (hcell _).trans h2, (hcell _).trans h3, (hcell _).trans h4, (hcell _).trans h5, NdAt.move hk d _ _ h6⟩⟩

theorem NdAt.below {w w' : World} {S : Nat → Prop} {d : Nat} {v : Value} {n : Nd} (h : NdAt w S d v n) (hb : Below w.heap.size w w') : NdAt w' S d v n :=
  NdAt.move (fun b hS hl => ⟨hS, fun o => hb.cell (p := ⟨b, o, none⟩) hl⟩) d v n h
theorem NdAt.wider {w : World} {S S' : Nat → Prop} {d : Nat} {v : Value} {n : Nd} (h : NdAt w S d v n) (hS : ∀ b, S b → S' b) : NdAt w S' d v n :=
  NdAt.move (fun b hb _ => ⟨hS b hb, fun _ => rfl⟩) d v n h
theorem NdAt.only {w w' : World} {R d : Nat} {S : Nat → Prop} {v : Value} {n : Nd} (h : NdAt w S d v n) (hS : ∀ b, S b → b ≠ R) (ho : Only R w w') : NdAt w' S d v n :=
  NdAt.move (fun b hb hl => ⟨hb, fun _ => World.cell?_of_block (ho.block b hl (by simpa using hS b hb))⟩) d v n h

theorem ty_zero (w : World) (S : Nat → Prop) : TyAt w S 1 (.agg #[.int .i64 0, .slice none 0 0]) ty0 := ⟨none, 0, rfl, Nat.le_refl _, fun h => absurd h (by simp [ty0, Ty.args])⟩
/-- A term that has no Kids and no Type. -/
theorem NdAt.leaf (w : World) (S : Nat → Prop) (d : Nat) (o : List UInt8) (i : Int) (t : List UInt8) : NdAt w S (d + 1) (.agg #[.string ⟨o.toArray⟩, .int .i64 i, .string ⟨t.toArray⟩, .int .i64 0, .slice none 0 0, .slice none 0 0]) (.mk o i t ty0 []) :=
  ⟨none, 0, none, 0, rfl, ⟨1, ty_zero w S⟩, Nat.le_refl _, fun h => absurd h (by simp [Nd.kids])⟩

theorem cell6_0 {w : World} {g : Nat} {a0 a1 a2 a3 a4 a5 : Value} {t : TypeId} (h : w.heap[g]? = some (.cells #[a0, a1, a2, a3, a4, a5] t (0, 0))) : w.cell? ⟨g, 0, none⟩ = some a0 := by simp [World.cell?, h]
theorem cell6_1 {w : World} {g : Nat} {a0 a1 a2 a3 a4 a5 : Value} {t : TypeId} (h : w.heap[g]? = some (.cells #[a0, a1, a2, a3, a4, a5] t (0, 0))) : w.cell? ⟨g, 1, none⟩ = some a1 := by simp [World.cell?, h]
theorem cell6_2 {w : World} {g : Nat} {a0 a1 a2 a3 a4 a5 : Value} {t : TypeId} (h : w.heap[g]? = some (.cells #[a0, a1, a2, a3, a4, a5] t (0, 0))) : w.cell? ⟨g, 2, none⟩ = some a2 := by simp [World.cell?, h]
theorem cell6_3 {w : World} {g : Nat} {a0 a1 a2 a3 a4 a5 : Value} {t : TypeId} (h : w.heap[g]? = some (.cells #[a0, a1, a2, a3, a4, a5] t (0, 0))) : w.cell? ⟨g, 3, none⟩ = some a3 := by simp [World.cell?, h]
theorem cell6_4 {w : World} {g : Nat} {a0 a1 a2 a3 a4 a5 : Value} {t : TypeId} (h : w.heap[g]? = some (.cells #[a0, a1, a2, a3, a4, a5] t (0, 0))) : w.cell? ⟨g, 4, none⟩ = some a4 := by simp [World.cell?, h]
theorem cell6_5 {w : World} {g : Nat} {a0 a1 a2 a3 a4 a5 : Value} {t : TypeId} (h : w.heap[g]? = some (.cells #[a0, a1, a2, a3, a4, a5] t (0, 0))) : w.cell? ⟨g, 5, none⟩ = some a5 := by simp [World.cell?, h]
theorem put6_heap {w : World} {g : Nat} {a0 a1 a2 a3 a4 a5 b0 b1 b2 b3 b4 b5 : Value} {t : TypeId} (h : w.heap[g]? = some (.cells #[a0, a1, a2, a3, a4, a5] t (0, 0))) : ((((((w.setCell ⟨g, 0, none⟩ b0).setCell ⟨g, 1, none⟩ b1).setCell ⟨g, 2, none⟩ b2).setCell ⟨g, 3, none⟩ b3).setCell ⟨g, 4, none⟩ b4).setCell ⟨g, 5, none⟩ b5).heap[g]? = some (.cells #[b0, b1, b2, b3, b4, b5] t (0, 0)) := by
  simp [World.setCell, Array.getElem?_modify, h]
theorem set6_block {w : World} {g b : Nat} {b0 b1 b2 b3 b4 b5 : Value} (hne : b ≠ g) : ((((((w.setCell ⟨g, 0, none⟩ b0).setCell ⟨g, 1, none⟩ b1).setCell ⟨g, 2, none⟩ b2).setCell ⟨g, 3, none⟩ b3).setCell ⟨g, 4, none⟩ b4).setCell ⟨g, 5, none⟩ b5).heap[b]? = w.heap[b]? := by
  rw [Below.heap_setCell _ _ _ _ hne, Below.heap_setCell _ _ _ _ hne, Below.heap_setCell _ _ _ _ hne, Below.heap_setCell _ _ _ _ hne, Below.heap_setCell _ _ _ _ hne, Below.heap_setCell _ _ _ _ hne]

/-- Some term or other. -/
def JunkN (v : Value) : Prop := ∃ (o : ByteArray) (i : Int) (t : ByteArray) (k : Int) (A : Option Addr) (n c : Nat) (K : Option Addr) (m e : Nat), v = .agg #[.string o, .int .i64 i, .string t, .int .i64 k, .slice A n c, .slice K m e]
theorem NdAt.junk {w : World} {S : Nat → Prop} {d : Nat} {v : Value} {n : Nd} (h : NdAt w S d v n) : JunkN v := by
  obtain ⟨A, c, K, k, rfl⟩ := h.form
  exact ⟨_, _, _, _, _, _, _, _, _, _, rfl⟩
theorem cells28 : Tryz.prog.cellsOf 27 = 6 := by kernel_rfl
theorem info28 : (Tryz.prog.info? 27).map (fun i => (i.zero, i.size, i.bytes)) = some (some (.agg #[.string ⟨#[]⟩, .int .i64 0, .string ⟨#[]⟩, .int .i64 0, .slice none 0 0, .slice none 0 0]), 6, 96) := by kernel_rfl
end Go.Proofs.YteebihdgfkmgmaaGreatDoor
