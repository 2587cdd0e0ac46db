/-
Values as trees, and where they lie in memory.
-/
import Derived.Test.YtdoadedglpjldaaDoorAl
import Derived.Deep.RegionHeld3
namespace Go.Proofs.YtdoadedglpjldaaDoor
open Go.RowKit

@[go_sem] theorem run_store_complex {P : Program} (w : World) (a : Addr) (m : Mode) (k : FloatKind) (x y : Nat) : (store a (.complex k x y) m).run P w = stored P w a (.complex k x y) m := run_store P w a _ m rfl

theorem cells40 : Tryd.prog.cellsOf 40 = 5 := by kernel_rfl

/-- A value, as a tree. -/
inductive Val where
  | mk (kind int : Int) (text : ByteArray) (re im : Nat) (list : List Val)
def Val.kind : Val → Int | .mk k _ _ _ _ _ => k
def Val.int : Val → Int | .mk _ i _ _ _ _ => i
def Val.text : Val → ByteArray | .mk _ _ s _ _ _ => s
def Val.re : Val → Nat | .mk _ _ _ x _ _ => x
def Val.im : Val → Nat | .mk _ _ _ _ x _ => x
def Val.list : Val → List Val | .mk _ _ _ _ _ l => l

/-- The value v is V, at most d deep; the slices of its List lie in blocks of S. -/
def VAt (w : World) (S : Nat → Prop) : Nat → Value → Val → Prop
  | 0, _, _ => False
  | d + 1, v, V => ∃ A c, v = .agg #[.int .i64 V.kind, .int .i64 V.int, .string V.text, .complex .f64 V.re V.im, .slice A V.list.length c] ∧ V.list.length ≤ c ∧ (0 < V.list.length → ∃ b o, A = some ⟨b, o, none⟩ ∧ S b ∧
      ∀ (j : Nat) (a : Val), V.list[j]? = some a → ∃ u0 u1 u2 u3 u4, w.cell? ⟨b, o + j * 5, none⟩ = some u0 ∧ w.cell? ⟨b, o + j * 5 + 1, none⟩ = some u1 ∧ w.cell? ⟨b, o + j * 5 + 2, none⟩ = some u2 ∧ w.cell? ⟨b, o + j * 5 + 3, none⟩ = some u3 ∧ w.cell? ⟨b, o + j * 5 + 4, none⟩ = some u4 ∧ VAt w S d (.agg #[u0, u1, u2, u3, u4]) a)

theorem VAt.form {w : World} {S : Nat → Prop} {d : Nat} {v : Value} {V : Val} (h : VAt w S d v V) : ∃ A c, v = .agg #[.int .i64 V.kind, .int .i64 V.int, .string V.text, .complex .f64 V.re V.im, .slice A V.list.length c] := by
  cases d with
  | zero => exact h.elim
  | succ d => obtain ⟨A, c, hv, _⟩ := h; exact ⟨A, c, hv⟩

theorem VAt.move {w w' : World} {S S' : Nat → Prop} (hk : ∀ b, S b → b < w.heap.size → S' b ∧ ∀ o, w'.cell? ⟨b, o, none⟩ = w.cell? ⟨b, o, none⟩) : ∀ (d : Nat) (v : Value) (V : Val), VAt w S d v V → VAt w' S' d v V
  | 0, _, _, h => h
  | d + 1, v, V, ⟨A, c, hv, hc, h⟩ => ⟨A, c, hv, hc, fun hl => by
      obtain ⟨b, o, hA, hS, hj⟩ := h hl
      have hlt : b < w.heap.size := by
        obtain ⟨u0, u1, u2, u3, u4, h0, _⟩ := hj 0 _ (List.getElem?_eq_getElem hl)
        exact World.block_lt_of_cell? w _ h0
      obtain ⟨hS', hcell⟩ := hk b hS hlt
      refine ⟨b, o, hA, hS', fun j a ha => ?_⟩
      obtain ⟨u0, u1, u2, u3, u4, h0, h1, h2, h3, h4, h5⟩ := hj j a ha
      exact ⟨u0, u1, u2, u3, u4, (hcell _).trans h0, (hcell _).trans h1, (hcell _).trans h2, (hcell _).trans h3, (hcell _).trans h4, VAt.move hk d _ _ h5⟩⟩

theorem VAt.below {w w' : World} {S : Nat → Prop} {d : Nat} {v : Value} {V : Val} (h : VAt w S d v V) (hb : Below w.heap.size w w') : VAt w' S d v V :=
  h.move fun b hS hl => ⟨hS, fun _ => hb.cell (p := ⟨b, _, none⟩) hl⟩

theorem VAt.wider {w : World} {S S' : Nat → Prop} {d : Nat} {v : Value} {V : Val} (h : VAt w S d v V) (hS : ∀ b, S b → S' b) : VAt w S' d v V :=
  h.move fun b hb _ => ⟨hS b hb, fun _ => rfl⟩

/-- The least value of a type. -/
def zeroV : Nat → Ty → Val
  | 0, _ => .mk 0 0 ⟨#[]⟩ 0 0 []
  | r + 1, t => if t.kind = 6 then .mk 6 0 ⟨#[]⟩ 0 0 (t.args.map (zeroV r)) else if t.kind = 9 then .mk 8 0 ⟨#[]⟩ 0 0 [] else .mk t.kind 0 ⟨#[]⟩ 0 0 []

theorem pair_two : ∀ x ∈ words, x.kind = 6 → x.args = 2 := by decide

theorem VAt.leaf {w : World} {S : Nat → Prop} {d : Nat} (k : Int) : VAt w S (d + 1) (.agg #[.int .i64 k, .int .i64 0, .string ⟨#[]⟩, .complex .f64 0 0, .slice none 0 0]) (.mk k 0 ⟨#[]⟩ 0 0 []) :=
  ⟨none, 0, rfl, Nat.le_refl _, fun h => absurd h (by simp [Val.list])⟩

/-- Two values side by side in a block of their own. -/
theorem vat_two {W : World} {S : Nat → Prop} {r g : Nat} {t : TypeId} {x0 x1 x2 x3 x4 z0 z1 z2 z3 z4 : Value} {V0 V1 : Val} (h : W.heap[g]? = some (.cells #[x0, x1, x2, x3, x4, z0, z1, z2, z3, z4] t (0, 0))) (hS : S g)
    (h0 : VAt W S r (.agg #[x0, x1, x2, x3, x4]) V0) (h1 : VAt W S r (.agg #[z0, z1, z2, z3, z4]) V1) : VAt W S (r + 1) (.agg #[.int .i64 6, .int .i64 0, .string ⟨#[]⟩, .complex .f64 0 0, .slice (some ⟨g, 0, none⟩) 2 2]) (.mk 6 0 ⟨#[]⟩ 0 0 [V0, V1]) := by
  refine ⟨_, 2, rfl, Nat.le_refl _, fun _ => ⟨g, 0, rfl, hS, fun j a ha => ?_⟩⟩
  match j, ha with
  | 0, ha =>
    obtain rfl : V0 = a := by simpa [Val.list] using ha
    exact ⟨x0, x1, x2, x3, x4, by simp [World.cell?, h], by simp [World.cell?, h], by simp [World.cell?, h], by simp [World.cell?, h], by simp [World.cell?, h], h0⟩
  | 1, ha =>
    obtain rfl : V1 = a := by simpa [Val.list] using ha
    exact ⟨z0, z1, z2, z3, z4, by simp [World.cell?, h], by simp [World.cell?, h], by simp [World.cell?, h], by simp [World.cell?, h], by simp [World.cell?, h], h1⟩
  | j + 2, ha => simp [Val.list] at ha

theorem cell_drew_some {w : World} {a : Addr} {v : Value} (h : w.cell? a = some v) : w.drew.cell? a = some v := h
theorem cell_alloc_some {w : World} {a : Addr} {v : Value} {o : Obj} (h : w.cell? a = some v) : (w.alloc o).cell? a = some v := (World.cell?_alloc_some w a o (by simp [h])).trans h
theorem cell_set_some {w : World} {a q : Addr} {v u : Value} (hq : a.block ≠ q.block) (h : w.cell? a = some v) : (w.setCell q u).cell? a = some v := by
  exact (World.cell?_setCell_other w q a u (fun e => hq (by rw [e]))).trans h
theorem Below.alloc_own {a w : World} {o : Obj} (h : Below a.heap.size a w) : Below a.heap.size a (w.alloc o) := h.alloc h.size o
theorem Below.set_own {a w : World} {p : Addr} {u : Value} (hp : a.heap.size ≤ p.block) (h : Below a.heap.size a w) : Below a.heap.size a (w.setCell p u) := h.setCell hp u
/-- A value is stored at g, whose List lies in a new block. -/
def put5v (w : World) (g : Nat) (k l : Value) (o : Obj) : World :=
  (((((w.setCell ⟨g, 0, none⟩ k).setCell ⟨g, 1, none⟩ (.int .i64 0)).setCell ⟨g, 2, none⟩ (.string ⟨#[]⟩)).setCell ⟨g, 3, none⟩ (.complex .f64 0 0)).setCell ⟨g, 4, none⟩ l).alloc o
theorem put5v_block {w : World} {g b : Nat} {k l : Value} {o : Obj} (hb : b < w.heap.size) (hg : b ≠ g) : (put5v w g k l o).heap[b]? = w.heap[b]? := by
  unfold put5v
  rw [Below.heap_alloc _ _ _ (by simpa using hb), Below.heap_setCell _ _ _ _ hg, Below.heap_setCell _ _ _ _ hg, Below.heap_setCell _ _ _ _ hg, Below.heap_setCell _ _ _ _ hg, Below.heap_setCell _ _ _ _ hg]
theorem put5v_new (w : World) (g : Nat) (k l : Value) (cs : Array Value) (t : TypeId) : (put5v w g k l (.cells cs t)).heap[w.heap.size]? = some (.cells cs t (0, 0)) := by
  unfold put5v
  have := heap_alloc_new (((((w.setCell ⟨g, 0, none⟩ k).setCell ⟨g, 1, none⟩ (.int .i64 0)).setCell ⟨g, 2, none⟩ (.string ⟨#[]⟩)).setCell ⟨g, 3, none⟩ (.complex .f64 0 0)).setCell ⟨g, 4, none⟩ l) (.cells cs t)
  simpa using this
theorem put5v_below {a w : World} {g : Nat} {k l : Value} {o : Obj} (h : Below a.heap.size a w) (hg : a.heap.size ≤ g) : Below a.heap.size a (put5v w g k l o) :=
  Below.alloc_own (((((h.setCell (p := ⟨g, 0, none⟩) hg _).setCell (p := ⟨g, 1, none⟩) hg _).setCell (p := ⟨g, 2, none⟩) hg _).setCell (p := ⟨g, 3, none⟩) hg _).setCell (p := ⟨g, 4, none⟩) hg _)

theorem cell5_0 {w : World} {g : Nat} {a0 a1 a2 a3 a4 : Value} {t : TypeId} (h : w.heap[g]? = some (.cells #[a0, a1, a2, a3, a4] t (0, 0))) : w.cell? ⟨g, 0, none⟩ = some a0 := by simp [World.cell?, h]
theorem cell5_1 {w : World} {g : Nat} {a0 a1 a2 a3 a4 : Value} {t : TypeId} (h : w.heap[g]? = some (.cells #[a0, a1, a2, a3, a4] t (0, 0))) : w.cell? ⟨g, 1, none⟩ = some a1 := by simp [World.cell?, h]
theorem cell5_2 {w : World} {g : Nat} {a0 a1 a2 a3 a4 : Value} {t : TypeId} (h : w.heap[g]? = some (.cells #[a0, a1, a2, a3, a4] t (0, 0))) : w.cell? ⟨g, 2, none⟩ = some a2 := by simp [World.cell?, h]
theorem cell5_3 {w : World} {g : Nat} {a0 a1 a2 a3 a4 : Value} {t : TypeId} (h : w.heap[g]? = some (.cells #[a0, a1, a2, a3, a4] t (0, 0))) : w.cell? ⟨g, 3, none⟩ = some a3 := by simp [World.cell?, h]
theorem cell5_4 {w : World} {g : Nat} {a0 a1 a2 a3 a4 : Value} {t : TypeId} (h : w.heap[g]? = some (.cells #[a0, a1, a2, a3, a4] t (0, 0))) : w.cell? ⟨g, 4, none⟩ = some a4 := by simp [World.cell?, h]
end Go.Proofs.YtdoadedglpjldaaDoor
