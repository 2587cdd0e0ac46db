/-
The reader of package coder: look, readByte, readNumber.
-/
import Derived.Test.YtbafplnolmdlnaaDoorCmp
namespace Go.Proofs.YtbafplnolmdlnaaDoor
open Go.RowKit

/-- The bytes l lie at A, in a block of S. -/
def BAt (w : World) (S : Nat → Prop) (A : Option Addr) (l : List UInt8) : Prop := 0 < l.length → ∃ b o, A = some ⟨b, o, none⟩ ∧ S b ∧ ∀ (j : Nat) (x : UInt8), l[j]? = some x → w.cell? ⟨b, o + j, none⟩ = some (.int .u8 (x.toNat : Int))

theorem BAt.move {w w' : World} {S S' : Nat → Prop} {A : Option Addr} {l : List UInt8} (h : BAt w S A l) (hk : ∀ b, S b → b < w.heap.size → S' b ∧ ∀ o, w'.cell? ⟨b, o, none⟩ = w.cell? ⟨b, o, none⟩) : BAt w' S' A l := fun hl => by
  obtain ⟨b, o, hA, hS, hj⟩ := h hl
  have hlt : b < w.heap.size := World.block_lt_of_cell? w _ (hj 0 _ (List.getElem?_eq_getElem hl))
  obtain ⟨hS', hc⟩ := hk b hS hlt
  exact ⟨b, o, hA, hS', fun j x hx => (hc _).trans (hj j x hx)⟩

/-- The reader at R stands at m; so great the whole is at least. -/
structure Rdr (w : World) (R : Nat) (A : Option Addr) (c : Nat) (l : List UInt8) (m sz : Nat) : Prop where
  box : w.heap[R]? = some (.cells #[.slice A l.length c, .int .i64 (m : Int), .int .i64 (sz : Int)] 54 (0, 0))
  bytes : BAt w (fun b => b ≠ R) A l
  le : m ≤ l.length
  len : l.length ≤ 1000000

theorem Rdr.lt {w : World} {R : Nat} {A : Option Addr} {c : Nat} {l : List UInt8} {m sz : Nat} (h : Rdr w R A c l m sz) : R < w.heap.size := cell_lt h.box

theorem Rdr.below {w w' : World} {R : Nat} {A : Option Addr} {c : Nat} {l : List UInt8} {m sz : Nat} (h : Rdr w R A c l m sz) (hb : Below w.heap.size w w') : Rdr w' R A c l m sz :=
  ⟨(hb.block R h.lt).trans h.box, h.bytes.move fun b hb1 hl => ⟨hb1, fun _ => hb.cell (p := ⟨b, _, none⟩) hl⟩, h.le, h.len⟩

theorem Rdr.cell {w : World} {R : Nat} {A : Option Addr} {c : Nat} {l : List UInt8} {m sz : Nat} {x : UInt8} (h : Rdr w R A c l m sz) (hx : l[m]? = some x) : ∃ b o, A = some ⟨b, o, none⟩ ∧ b ≠ R ∧ w.cell? ⟨b, o + m, none⟩ = some (.int .u8 (x.toNat : Int)) := by
  have hl : m < l.length := (List.getElem?_eq_some_iff.1 hx).1
  obtain ⟨b, o, hA, hS, hj⟩ := h.bytes (by omega)
  exact ⟨b, o, hA, hS, hj m x hx⟩

/-- The reader goes on. -/
theorem Rdr.go {w : World} {R : Nat} {A : Option Addr} {c : Nat} {l : List UInt8} {m sz m' sz' : Nat} (h : Rdr w R A c l m sz) (i : Nat) (u : Value) (hi : (#[Value.slice A l.length c, .int .i64 (m : Int), .int .i64 (sz : Int)].set! i u) = #[.slice A l.length c, .int .i64 (m' : Int), .int .i64 (sz' : Int)]) (hm : m' ≤ l.length) : Rdr (w.setCell ⟨R, i, none⟩ u) R A c l m' sz' := by
  refine ⟨?_, h.bytes.move fun b hb _ => ⟨hb, fun o => World.cell?_of_block (Below.heap_setCell _ _ _ _ hb)⟩, hm, h.len⟩
  simp only [World.setCell, Array.getElem?_modify, if_pos, h.box, Option.map_some]
  simp only [Obj.cells.injEq, Option.some.injEq]
  simpa using hi

set_option maxHeartbeats 400000 in
theorem look_end (R : Nat) (A : Option Addr) (c : Nat) (l : List UInt8) (sz : Nat) (w : World) (h : Rdr w R A c l l.length sz) :
    Calls Tryd.prog 47 #[.pointer (some ⟨R, 0, none⟩)] w fun e w' => e = .returned (.tuple #[.int .u8 0, .bool false]) ∧ Below w.heap.size w w' := by
  have c0 := cell3_0 h.box
  have c1 := cell3_1 h.box
  go_enter Tryd.func47, Tryd.ntmps47
  go_wp2_with (fail)
  go_quiet ((fail))
  go_wp2_with (fail)
  go_ret2
  exact ⟨rfl, below_drewN (Below.refl _ _) _⟩

set_option maxHeartbeats 400000 in
theorem look_at (R : Nat) (A : Option Addr) (c : Nat) (l : List UInt8) (m sz : Nat) (x : UInt8) (w : World) (h : Rdr w R A c l m sz) (hx : l[m]? = some x) :
    Calls Tryd.prog 47 #[.pointer (some ⟨R, 0, none⟩)] w fun e w' => e = .returned (.tuple #[.int .u8 (x.toNat : Int), .bool true]) ∧ Below w.heap.size w w' := by
  have c0 := cell3_0 h.box
  have c1 := cell3_1 h.box
  have hl : m < l.length := (List.getElem?_eq_some_iff.1 hx).1
  have hlen := h.len
  obtain ⟨b, o, rfl, hb, cx⟩ := h.cell hx
  have hne : ((m : Int) == (l.length : Int)) = false := beq_eq_false_iff_ne.2 (by omega)
  clear hx
  go_enter Tryd.func47, Tryd.ntmps47
  go_wp2_with (fail)
  go_quiet ((fail))
  go_wp2_with (fail)
  go_quiet ((fail))
  go_wp2_with (fail)
  go_ret2
  exact ⟨rfl, below_drewN (below_drewN (Below.refl _ _) _) _⟩
end Go.Proofs.YtbafplnolmdlnaaDoor
