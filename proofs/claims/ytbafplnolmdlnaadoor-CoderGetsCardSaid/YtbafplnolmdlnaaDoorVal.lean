/-
Ported from the texts of layer 2: Val.
-/
import Derived.Test.YtbafplnolmdlnaaDoorFit
import Derived.Deep.RegionHeld3
namespace Go.Proofs.YtbafplnolmdlnaaDoor
open Go.RowKit

@[go_sem] theorem run_store_complex {P : Program} (w : World) (a : Addr) (m : Mode) (k : FloatKind) (x y : Nat) : (store a (.complex k x y) m).run P w = stored P w a (.complex k x y) m := run_store P w a _ m rfl

theorem cells40 : Tryd.prog.cellsOf 32 = 5 := by kernel_rfl

/-- A value, as a tree. -/
inductive Val where
  | mk (kind int : Int) (text : ByteArray) (re im : Int) (list : List Val)

def Val.kind : Val → Int | .mk k _ _ _ _ _ => k

def Val.int : Val → Int | .mk _ i _ _ _ _ => i

def Val.text : Val → ByteArray | .mk _ _ s _ _ _ => s

def Val.re : Val → Int | .mk _ _ _ x _ _ => x

def Val.im : Val → Int | .mk _ _ _ _ x _ => x

def Val.list : Val → List Val | .mk _ _ _ _ _ l => l

/-- The value v is V, at most d deep; the slices of its List lie in blocks of S. -/
def VAt (w : World) (S : Nat → Prop) : Nat → Value → Val → Prop
  | 0, _, _ => False
  | d + 1, v, V => ∃ A c x y, v = .agg #[.int .i64 V.kind, .int .i64 V.int, .string V.text, .complex .f64 x y, .slice A V.list.length c] ∧ floatToIntVal .f64 x .i64 = some V.re ∧ floatToIntVal .f64 y .i64 = some V.im ∧ V.list.length ≤ c ∧ (0 < V.list.length → ∃ b o, A = some ⟨b, o, none⟩ ∧ S b ∧
      ∀ (j : Nat) (a : Val), V.list[j]? = some a → ∃ u0 u1 u2 u3 u4, w.cell? ⟨b, o + j * 5, none⟩ = some u0 ∧ w.cell? ⟨b, o + j * 5 + 1, none⟩ = some u1 ∧ w.cell? ⟨b, o + j * 5 + 2, none⟩ = some u2 ∧ w.cell? ⟨b, o + j * 5 + 3, none⟩ = some u3 ∧ w.cell? ⟨b, o + j * 5 + 4, none⟩ = some u4 ∧ VAt w S d (.agg #[u0, u1, u2, u3, u4]) a)

theorem VAt.form {w : World} {S : Nat → Prop} {d : Nat} {v : Value} {V : Val} (h : VAt w S d v V) : ∃ A c x y, v = .agg #[.int .i64 V.kind, .int .i64 V.int, .string V.text, .complex .f64 x y, .slice A V.list.length c] ∧ floatToIntVal .f64 x .i64 = some V.re ∧ floatToIntVal .f64 y .i64 = some V.im := by
  cases d with
  | zero => exact h.elim
  | succ d => obtain ⟨A, c, x, y, hv, hx, hy, _⟩ := h; exact ⟨A, c, x, y, hv, hx, hy⟩

theorem VAt.move {w w' : World} {S S' : Nat → Prop} (hk : ∀ b, S b → b < w.heap.size → S' b ∧ ∀ o, w'.cell? ⟨b, o, none⟩ = w.cell? ⟨b, o, none⟩) : ∀ (d : Nat) (v : Value) (V : Val), VAt w S d v V → VAt w' S' d v V
  | 0, _, _, h => h
  | d + 1, v, V, ⟨A, c, x, y, hv, hx, hy, hc, h⟩ => ⟨A, c, x, y, hv, hx, hy, hc, fun hl => by
      obtain ⟨b, o, hA, hS, hj⟩ := h hl
      have hlt : b < w.heap.size := by
        obtain ⟨u0, u1, u2, u3, u4, h0, _⟩ := hj 0 _ (List.getElem?_eq_getElem hl)
        exact World.block_lt_of_cell? w _ h0
      obtain ⟨hS', hcell⟩ := hk b hS hlt
      refine ⟨b, o, hA, hS', fun j a ha => ?_⟩
      obtain ⟨u0, u1, u2, u3, u4, h0, h1, h2, h3, h4, h5⟩ := hj j a ha
      exact ⟨u0, u1, u2, u3, u4, (hcell _).trans h0, (hcell _).trans h1, (hcell _).trans h2, (hcell _).trans h3, (hcell _).trans h4, VAt.move hk d _ _ h5⟩⟩

theorem VAt.below {w w' : World} {S : Nat → Prop} {d : Nat} {v : Value} {V : Val} (h : VAt w S d v V) (hb : Below w.heap.size w w') : VAt w' S d v V :=
  h.move fun b hS hl => ⟨hS, fun _ => hb.cell (p := ⟨b, _, none⟩) hl⟩

theorem VAt.wider {w : World} {S S' : Nat → Prop} {d : Nat} {v : Value} {V : Val} (h : VAt w S d v V) (hS : ∀ b, S b → S' b) : VAt w S' d v V :=
  h.move fun b hb _ => ⟨hS b hb, fun _ => rfl⟩

theorem cell_drew_some {w : World} {a : Addr} {v : Value} (h : w.cell? a = some v) : w.drew.cell? a = some v := h

theorem cell_alloc_some {w : World} {a : Addr} {v : Value} {o : Obj} (h : w.cell? a = some v) : (w.alloc o).cell? a = some v := (World.cell?_alloc_some w a o (by simp [h])).trans h

theorem cell_set_some {w : World} {a q : Addr} {v u : Value} (hq : a.block ≠ q.block) (h : w.cell? a = some v) : (w.setCell q u).cell? a = some v := by
  exact (World.cell?_setCell_other w q a u (fun e => hq (by rw [e]))).trans h

theorem Below.alloc_own {a w : World} {o : Obj} (h : Below a.heap.size a w) : Below a.heap.size a (w.alloc o) := h.alloc h.size o

theorem Below.set_own {a w : World} {p : Addr} {u : Value} (hp : a.heap.size ≤ p.block) (h : Below a.heap.size a w) : Below a.heap.size a (w.setCell p u) := h.setCell hp u

theorem cell5_0 {w : World} {g : Nat} {a0 a1 a2 a3 a4 : Value} {t : TypeId} (h : w.heap[g]? = some (.cells #[a0, a1, a2, a3, a4] t (0, 0))) : w.cell? ⟨g, 0, none⟩ = some a0 := by simp [World.cell?, h]

theorem cell5_1 {w : World} {g : Nat} {a0 a1 a2 a3 a4 : Value} {t : TypeId} (h : w.heap[g]? = some (.cells #[a0, a1, a2, a3, a4] t (0, 0))) : w.cell? ⟨g, 1, none⟩ = some a1 := by simp [World.cell?, h]

theorem cell5_2 {w : World} {g : Nat} {a0 a1 a2 a3 a4 : Value} {t : TypeId} (h : w.heap[g]? = some (.cells #[a0, a1, a2, a3, a4] t (0, 0))) : w.cell? ⟨g, 2, none⟩ = some a2 := by simp [World.cell?, h]

theorem cell5_3 {w : World} {g : Nat} {a0 a1 a2 a3 a4 : Value} {t : TypeId} (h : w.heap[g]? = some (.cells #[a0, a1, a2, a3, a4] t (0, 0))) : w.cell? ⟨g, 3, none⟩ = some a3 := by simp [World.cell?, h]

theorem cell5_4 {w : World} {g : Nat} {a0 a1 a2 a3 a4 : Value} {t : TypeId} (h : w.heap[g]? = some (.cells #[a0, a1, a2, a3, a4] t (0, 0))) : w.cell? ⟨g, 4, none⟩ = some a4 := by simp [World.cell?, h]
end Go.Proofs.YtbafplnolmdlnaaDoor
