/-
KindChecks' statement 'x, y := of(t), of(u)', whose order is open.
-/
import Derived.Test.YtdoadedglpjldaaDoorOf
import Derived.Test.YtdoadedglpjldaaDoorReg
namespace Go.Proofs.YtdoadedglpjldaaDoor
open Go.RowKit

def FrC (w : World) (t u : Ty) (A A' : Option Addr) (c c' : Nat) (p5 p6 u27 u28 u29 u30 : Value) : Act :=
  { tmps := #[.agg #[.int .i64 t.kind, .slice A t.args.length c], .agg #[.int .i64 u.kind, .slice A' u.args.length c'], .pointer (some ⟨w.heap.size, 0, none⟩), .pointer (some ⟨w.heap.size + 1, 0, none⟩), .bool false, p5, p6, undef, undef, undef, undef, undef, undef, undef, undef, undef, undef, undef, .agg #[.int .i64 t.kind, .slice A t.args.length c], .bool true, .bool false, .bool false, .agg #[.int .i64 u.kind, .slice A' u.args.length c'], .bool true, .bool false, .bool false, undef, u27, u28, u29, u30, undef, undef, undef, undef, undef, undef, undef, undef, undef, undef, undef, undef, undef, undef, undef, undef, undef, undef, undef, undef, undef, undef, undef, undef, undef, undef, undef, undef, undef, undef, undef, undef, undef, undef, undef, undef, undef, undef, undef, undef, undef, undef, undef, undef, undef, undef, undef, undef, undef, undef, undef, undef, undef, undef, undef, undef, undef, undef, undef, undef, undef, undef, undef, undef, undef, undef, undef, undef, undef, undef, undef, undef, undef, undef, undef, undef, undef, undef, undef, undef, undef, undef, undef, undef, undef, undef, undef, undef, undef, undef, undef, undef, undef, undef, undef, undef, undef, undef, undef, undef, undef, undef, undef, undef, undef, undef, undef, undef, undef, undef, undef, undef, undef, undef, undef, undef, undef, undef, undef, undef, undef, undef, undef, undef, undef, undef, undef, undef, undef, undef, undef, undef, undef, undef, undef, undef, undef, undef, undef, undef, undef, undef, undef, undef, undef, undef, undef, undef, undef, undef, undef, undef, undef, undef, undef, undef], defers := [] }

def ptr (q : Nat) : Value := .pointer (some ⟨q, 0, none⟩)
theorem ptr_inj {q r : Nat} (h : ptr q = ptr r) : q = r := by unfold ptr at h; cases h; rfl

/-- The blocks from lo on that are none of the two variables. -/
def Sx (lo : Nat) (p5 p6 : Value) (b : Nat) : Prop := lo ≤ b ∧ p5 ≠ ptr b ∧ p6 ≠ ptr b
/-- The value is the type, in blocks of its own. -/
def Tx (W : World) (lo : Nat) (p5 p6 : Value) (d : Nat) (v : Value) (t : Ty) : Prop := ∃ A c, v = .agg #[.int .i64 t.kind, .slice A t.args.length c] ∧ TyAt W (Sx lo p5 p6) d v t
/-- p points to a variable. -/
def Px (W : World) (p : Value) : Prop := ∃ q c0 c1, p = ptr q ∧ W.heap[q]? = some (.cells #[c0, c1] 29 (0, 0))
/-- p points to a variable that has v. -/
def Vx (W : World) (p v : Value) : Prop := ∃ q c0 c1, p = ptr q ∧ W.heap[q]? = some (.cells #[c0, c1] 29 (0, 0)) ∧ v = .agg #[c0, c1]
def In (W : World) (lo : Nat) (p : Value) : Prop := ∀ q, p = ptr q → lo ≤ q ∧ q < W.heap.size
def Un (p5 p6 : Value) : Prop := ∀ q, p5 = ptr q → p6 ≠ ptr q

theorem In.below {W W' : World} {lo : Nat} {p : Value} (h : In W lo p) (hb : Below W.heap.size W W') : In W' lo p := fun q hq => ⟨(h q hq).1, by have := (h q hq).2; have := hb.size; omega⟩
theorem Px.below {W W' : World} {p : Value} (h : Px W p) (hb : Below W.heap.size W W') : Px W' p := by
  obtain ⟨q, c0, c1, e, hq⟩ := h
  exact ⟨q, c0, c1, e, (hb.block q (cell_lt hq)).trans hq⟩
theorem Vx.below {W W' : World} {p v : Value} (h : Vx W p v) (hb : Below W.heap.size W W') : Vx W' p v := by
  obtain ⟨q, c0, c1, e, hq, hv⟩ := h
  exact ⟨q, c0, c1, e, (hb.block q (cell_lt hq)).trans hq, hv⟩
theorem Tx.below {W W' : World} {lo d : Nat} {p5 p6 v : Value} {t : Ty} (h : Tx W lo p5 p6 d v t) (hb : Below W.heap.size W W') : Tx W' lo p5 p6 d v t := by
  obtain ⟨A, c, e, hT⟩ := h
  exact ⟨A, c, e, hT.below hb⟩
theorem Tx.new {W W' : World} {lo d : Nat} {p5 p6 v : Value} {t : Ty} (hlo : lo ≤ W.heap.size) (h5 : In W lo p5) (h6 : In W lo p6) (h : TyAt W' (fun b => W.heap.size ≤ b) d v t) : Tx W' lo p5 p6 d v t := by
  obtain ⟨A, c, e⟩ := h.form
  refine ⟨A, c, e, h.move fun b hb _ => ⟨?_, fun _ => rfl⟩⟩
  have hb' : W.heap.size ≤ b := hb
  exact ⟨by omega, fun e => by have := (h5 b e).2; omega, fun e => by have := (h6 b e).2; omega⟩
theorem Tx.alloc5 {W : World} {lo d : Nat} {p5 p6 v : Value} {t : Ty} {o : Obj} (h : Tx W lo p5 p6 d v t) : Tx (W.alloc o) lo (ptr W.heap.size) p6 d v t := by
  obtain ⟨A, c, e, hT⟩ := h
  refine ⟨A, c, e, hT.move fun b hb hl => ⟨⟨hb.1, fun e => by have := ptr_inj e; omega, hb.2.2⟩, fun _ => World.cell?_of_block (Below.heap_alloc _ _ _ hl)⟩⟩
theorem Tx.alloc6 {W : World} {lo d : Nat} {p5 p6 v : Value} {t : Ty} {o : Obj} (h : Tx W lo p5 p6 d v t) : Tx (W.alloc o) lo p5 (ptr W.heap.size) d v t := by
  obtain ⟨A, c, e, hT⟩ := h
  refine ⟨A, c, e, hT.move fun b hb hl => ⟨⟨hb.1, hb.2.1, fun e => by have := ptr_inj e; omega⟩, fun _ => World.cell?_of_block (Below.heap_alloc _ _ _ hl)⟩⟩
/-- A type is stored at q. -/
def put2 (W : World) (q : Nat) (a b : Value) : World := (W.setCell ⟨q, 0, none⟩ a).setCell ⟨q, 1, none⟩ b
theorem put2_block {W : World} {q b : Nat} {x y : Value} (h : b ≠ q) : (put2 W q x y).heap[b]? = W.heap[b]? := by
  unfold put2; rw [Below.heap_setCell _ _ _ _ h, Below.heap_setCell _ _ _ _ h]
theorem put2_self {W : World} {q : Nat} {c0 c1 x y : Value} {t : TypeId} (h : W.heap[q]? = some (.cells #[c0, c1] t (0, 0))) : (put2 W q x y).heap[q]? = some (.cells #[x, y] t (0, 0)) := by
  simp [put2, World.setCell, Array.getElem?_modify, h]
theorem put2_size {W : World} {q : Nat} {x y : Value} : (put2 W q x y).heap.size = W.heap.size := by simp [put2]
theorem put2_below {w2 W : World} {q : Nat} {x y : Value} (h : Below w2.heap.size w2 W) (hq : w2.heap.size ≤ q) : Below w2.heap.size w2 (put2 W q x y) := (h.setCell (p := ⟨q, 0, none⟩) hq _).setCell (p := ⟨q, 1, none⟩) hq _
theorem Tx.put5 {W : World} {lo d q : Nat} {p6 v x y : Value} {t : Ty} (h : Tx W lo (ptr q) p6 d v t) : Tx (put2 W q x y) lo (ptr q) p6 d v t := by
  obtain ⟨A, c, e, hT⟩ := h
  exact ⟨A, c, e, hT.move fun b hb hl => ⟨hb, fun _ => World.cell?_of_block (put2_block fun e => hb.2.1 (congrArg ptr (Eq.symm e)))⟩⟩
theorem Tx.put6 {W : World} {lo d q : Nat} {p5 v x y : Value} {t : Ty} (h : Tx W lo p5 (ptr q) d v t) : Tx (put2 W q x y) lo p5 (ptr q) d v t := by
  obtain ⟨A, c, e, hT⟩ := h
  exact ⟨A, c, e, hT.move fun b hb hl => ⟨hb, fun _ => World.cell?_of_block (put2_block fun e => hb.2.2 (congrArg ptr (Eq.symm e)))⟩⟩
theorem In.put {W : World} {lo q : Nat} {p x y : Value} (h : In W lo p) : In (put2 W q x y) lo p := fun r hr => by rw [put2_size]; exact h r hr
theorem Px.put_self {W : World} {q : Nat} {x y : Value} (h : Px W (ptr q)) : Vx (put2 W q x y) (ptr q) (.agg #[x, y]) := by
  obtain ⟨r, c0, c1, e, hq⟩ := h
  have := ptr_inj e; subst this
  exact ⟨q, x, y, rfl, put2_self hq, rfl⟩
theorem Vx.px {W : World} {p v : Value} (h : Vx W p v) : Px W p := by obtain ⟨q, c0, c1, e, hq, _⟩ := h; exact ⟨q, c0, c1, e, hq⟩
theorem Px.put_other {W : World} {q : Nat} {p x y : Value} (h : Px W p) (hne : p ≠ ptr q) : Px (put2 W q x y) p := by
  obtain ⟨r, c0, c1, e, hq⟩ := h
  exact ⟨r, c0, c1, e, (put2_block (fun e2 => hne (by rw [e, e2]))).trans hq⟩
theorem Vx.put_other {W : World} {q : Nat} {p v x y : Value} (h : Vx W p v) (hne : p ≠ ptr q) : Vx (put2 W q x y) p v := by
  obtain ⟨r, c0, c1, e, hq, hv⟩ := h
  exact ⟨r, c0, c1, e, (put2_block (fun e2 => hne (by rw [e, e2]))).trans hq, hv⟩
theorem In.new {W : World} {lo : Nat} {o : Obj} (h : lo ≤ W.heap.size) : In (W.alloc o) lo (ptr W.heap.size) := fun q hq => by have := ptr_inj hq; simp; omega
theorem Px.new (W : World) (c0 c1 : Value) : Px (W.alloc (.cells #[c0, c1] 29)) (ptr W.heap.size) := ⟨_, c0, c1, rfl, heap_alloc_new W _⟩

def InvC (w w2 : World) (d d' : Nat) (t u : Ty) (A A' : Option Addr) (c c' : Nat) (l : Array Bool) (a : Act) (W : World) : Prop :=
  l.size = 8 ∧ ∃ p5 p6 u27 u28 u29 u30, a = FrC w t u A A' c c' p5 p6 u27 u28 u29 u30 ∧ Below w2.heap.size w2 W ∧
    (l.getD 0 false = true → u27 = .agg #[.int .i64 t.kind, .slice A t.args.length c]) ∧ (l.getD 2 false = true → u29 = .agg #[.int .i64 u.kind, .slice A' u.args.length c']) ∧
    In W w2.heap.size p5 ∧ In W w2.heap.size p6 ∧ Un p5 p6 ∧
    (l.getD 1 false = true → Tx W w2.heap.size p5 p6 d u28 t) ∧ (l.getD 3 false = true → Tx W w2.heap.size p5 p6 d' u30 u) ∧
    (l.getD 4 false = true → Px W p5) ∧ (l.getD 5 false = true → Px W p6) ∧
    (l.getD 6 false = true → l.getD 4 false = true) ∧ (l.getD 7 false = true → l.getD 5 false = true) ∧
    (l.getD 6 false = true → l.getD 1 false = true) ∧ (l.getD 7 false = true → l.getD 3 false = true) ∧
    (l.getD 6 false = true → Vx W p5 u28) ∧ (l.getD 7 false = true → Vx W p6 u30)

theorem getD_both {l : Array Bool} {i : Nat} (h : l.getD i true = false) : l.getD i false = false := by
  rw [Array.getD_eq_getD_getElem?] at h ⊢
  cases hx : l[i]? with
  | none => rfl
  | some b => rw [hx] at h; simpa using h

/-- The operations of the statement. -/
def ops3 : List Oper := [{ dst := some 27, op := Op.load 24 (Operand.tmp 2), type := 24, pos := "law.go:72", after := #[], guard := none }, { dst := some 28, op := Op.call { callee := Callee.value (Operand.func 10), args := #[Operand.tmp 27], argTypes := #[24] }, type := 29, pos := "law.go:72", after := #[{ on := 0, ground := Ground.data }], guard := none }, { dst := some 29, op := Op.load 24 (Operand.tmp 3), type := 24, pos := "law.go:72", after := #[], guard := none }, { dst := some 30, op := Op.call { callee := Callee.value (Operand.func 10), args := #[Operand.tmp 29], argTypes := #[24] }, type := 29, pos := "law.go:72", after := #[{ on := 2, ground := Ground.data }, { on := 1, ground := Ground.chain }], guard := none }, { dst := some 5, op := Op.alloc 29, type := 0, pos := "law.go:72", after := #[], guard := none }, { dst := some 6, op := Op.alloc 29, type := 0, pos := "law.go:72", after := #[], guard := none }, { dst := none, op := Op.store 29 (Operand.tmp 5) (Operand.tmp 28), type := 0, pos := "law.go:72", after := #[{ on := 4, ground := Ground.data }, { on := 1, ground := Ground.data }, { on := 3, ground := Ground.chain }, { on := 0, ground := Ground.phase }, { on := 1, ground := Ground.phase }, { on := 2, ground := Ground.textOnly Departure.lateStores }, { on := 3, ground := Ground.textOnly Departure.lateStoresUnsure }, { on := 4, ground := Ground.phase }, { on := 5, ground := Ground.phase }], guard := none }, { dst := none, op := Op.store 29 (Operand.tmp 6) (Operand.tmp 30), type := 0, pos := "law.go:72", after := #[{ on := 5, ground := Ground.data }, { on := 3, ground := Ground.data }, { on := 6, ground := Ground.chain }, { on := 0, ground := Ground.phase }, { on := 1, ground := Ground.phase }, { on := 2, ground := Ground.phase }, { on := 3, ground := Ground.phase }, { on := 4, ground := Ground.phase }, { on := 5, ground := Ground.phase }, { on := 6, ground := Ground.phase }], guard := none }]

set_option maxRecDepth 100000 in
set_option maxHeartbeats 4000000 in
theorem inv_steps (w w2 : World) (d d' : Nat) (S S' : Nat → Prop) (t u : Ty) (A A' : Option Addr) (c c' : Nat) (Q : Exit → Act → World → Prop)
    (HN1 : Hid (Nar 30 t)) (HN2 : Hid (Nar 30 u)) (HT2 : Hid (TyAt w2 S d (.agg #[.int .i64 t.kind, .slice A t.args.length c]) t)) (HU2 : Hid (TyAt w2 S' d' (.agg #[.int .i64 u.kind, .slice A' u.args.length c']) u))
    (HZ0 : Hid (w2.heap[w.heap.size]? = some (.cells #[.int .i64 t.kind, .slice A t.args.length c] 24 (0, 0)))) (HZ1 : Hid (w2.heap[w.heap.size + 1]? = some (.cells #[.int .i64 u.kind, .slice A' u.args.length c'] 24 (0, 0)))) :
    each (fun i o => ∀ l a W, InvC w w2 d d' t u A A' c c' l a W → l.getD i true = false → (∀ e ∈ o.after, Region.binds .any e = true → l.getD e.on false = true) →
      ∀ K : Act → World → Prop, (∀ a' w', InvC w w2 d d' t u A A' c c' (l.setIfInBounds i true) a' w' → K a' w') → o.wp Tryd.prog a W K Q) 0 ops3 := by
  have hl0 := cell_lt HZ0.out
  have hl1 := cell_lt HZ1.out
  unfold ops3
  refine ⟨?_, ?_, ?_, ?_, ?_, ?_, ?_, ?_, trivial⟩

  · intro l a W hI hn hall K hK
    obtain ⟨hz, p5, p6, u27, u28, u29, u30, rfl, hR⟩ := hI
    have hzh := Lib.hid hz
    have hnh := Lib.hid hn
    have HR := Lib.hid hR
    obtain ⟨hb, a0, a2, s5, s6, un, c1, c3, v4, v5, o6, o7, q6, q7, w6, w7⟩ := hR
    have e0 := (hb.cell (p := ⟨w.heap.size, 0, none⟩) hl0).trans (cell2_0 HZ0.out)
    have e1 := (hb.cell (p := ⟨w.heap.size, 1, none⟩) hl0).trans (cell2_1 HZ0.out)
    clear hz hn hall hb a0 a2 s5 s6 un c1 c3 v4 v5 o6 o7 q6 q7 w6 w7
    unfold FrC
    go_simp
    refine hK _ _ ⟨by simpa using hzh.out, _, _, _, _, _, _, rfl, ?_⟩
    obtain ⟨hb, a0, a2, s5, s6, un, c1, c3, v4, v5, o6, o7, q6, q7, w6, w7⟩ := HR.out
    exact ⟨hb, fun _ => rfl, fun h => a2 ((done_set_ne (l := l) (i := 0) (j := 2) (by decide)).symm.trans h), s5, s6, un, fun h => c1 ((done_set_ne (l := l) (i := 0) (j := 1) (by decide)).symm.trans h), fun h => c3 ((done_set_ne (l := l) (i := 0) (j := 3) (by decide)).symm.trans h), fun h => v4 ((done_set_ne (l := l) (i := 0) (j := 4) (by decide)).symm.trans h), fun h => v5 ((done_set_ne (l := l) (i := 0) (j := 5) (by decide)).symm.trans h), fun h => (done_set_ne (l := l) (i := 0) (j := 4) (by decide)).trans (o6 ((done_set_ne (l := l) (i := 0) (j := 6) (by decide)).symm.trans h)), fun h => (done_set_ne (l := l) (i := 0) (j := 5) (by decide)).trans (o7 ((done_set_ne (l := l) (i := 0) (j := 7) (by decide)).symm.trans h)), fun h => (done_set_ne (l := l) (i := 0) (j := 1) (by decide)).trans (q6 ((done_set_ne (l := l) (i := 0) (j := 6) (by decide)).symm.trans h)), fun h => (done_set_ne (l := l) (i := 0) (j := 3) (by decide)).trans (q7 ((done_set_ne (l := l) (i := 0) (j := 7) (by decide)).symm.trans h)), fun h => w6 ((done_set_ne (l := l) (i := 0) (j := 6) (by decide)).symm.trans h), fun h => w7 ((done_set_ne (l := l) (i := 0) (j := 7) (by decide)).symm.trans h)⟩
  · intro l a W hI hn hall K hK
    obtain ⟨hz, p5, p6, u27, u28, u29, u30, rfl, hR⟩ := hI
    have hzh := Lib.hid hz
    have hnh := Lib.hid hn
    have HR := Lib.hid hR
    obtain ⟨hb, a0, a2, s5, s6, un, c1, c3, v4, v5, o6, o7, q6, q7, w6, w7⟩ := hR
    have e27 := a0 (hall { on := 0, ground := Ground.data } (by simp) rfl)
    have HTW := Lib.hid (HT2.out.below hb)
    have hbs := hb.size
    clear hz hn hall hb a0 a2 s5 s6 un c1 c3 v4 v5 o6 o7 q6 q7 w6 w7
    subst e27
    unfold FrC
    go_simp
    refine (of_any d 30 _ _ t W HN1.out HTW.out).mono ?_
    rintro e W' ⟨⟨v1, rfl, hT1⟩, hb1⟩
    have HT1 := Lib.hid hT1
    clear hT1
    refine hK _ _ ⟨by simpa using hzh.out, _, _, _, _, _, _, rfl, ?_⟩
    obtain ⟨hb, a0, a2, s5, s6, un, c1, c3, v4, v5, o6, o7, q6, q7, w6, w7⟩ := HR.out
    exact ⟨hb.trans (hb1.mono hbs), fun h => a0 ((done_set_ne (l := l) (i := 1) (j := 0) (by decide)).symm.trans h), fun h => a2 ((done_set_ne (l := l) (i := 1) (j := 2) (by decide)).symm.trans h), s5.below hb1, s6.below hb1, un, fun _ => Tx.new hbs s5 s6 HT1.out, fun h => (c3 ((done_set_ne (l := l) (i := 1) (j := 3) (by decide)).symm.trans h)).below hb1, fun h => (v4 ((done_set_ne (l := l) (i := 1) (j := 4) (by decide)).symm.trans h)).below hb1, fun h => (v5 ((done_set_ne (l := l) (i := 1) (j := 5) (by decide)).symm.trans h)).below hb1, fun h => (done_set_ne (l := l) (i := 1) (j := 4) (by decide)).trans (o6 ((done_set_ne (l := l) (i := 1) (j := 6) (by decide)).symm.trans h)), fun h => (done_set_ne (l := l) (i := 1) (j := 5) (by decide)).trans (o7 ((done_set_ne (l := l) (i := 1) (j := 7) (by decide)).symm.trans h)), fun h => absurd (q6 ((done_set_ne (l := l) (i := 1) (j := 6) (by decide)).symm.trans h)) (by rw [getD_both hnh.out]; decide), fun h => (done_set_ne (l := l) (i := 1) (j := 3) (by decide)).trans (q7 ((done_set_ne (l := l) (i := 1) (j := 7) (by decide)).symm.trans h)), fun h => absurd (q6 ((done_set_ne (l := l) (i := 1) (j := 6) (by decide)).symm.trans h)) (by rw [getD_both hnh.out]; decide), fun h => (w7 ((done_set_ne (l := l) (i := 1) (j := 7) (by decide)).symm.trans h)).below hb1⟩
  · intro l a W hI hn hall K hK
    obtain ⟨hz, p5, p6, u27, u28, u29, u30, rfl, hR⟩ := hI
    have hzh := Lib.hid hz
    have hnh := Lib.hid hn
    have HR := Lib.hid hR
    obtain ⟨hb, a0, a2, s5, s6, un, c1, c3, v4, v5, o6, o7, q6, q7, w6, w7⟩ := hR
    have e0 := (hb.cell (p := ⟨w.heap.size + 1, 0, none⟩) hl1).trans (cell2_0 HZ1.out)
    have e1 := (hb.cell (p := ⟨w.heap.size + 1, 1, none⟩) hl1).trans (cell2_1 HZ1.out)
    clear hz hn hall hb a0 a2 s5 s6 un c1 c3 v4 v5 o6 o7 q6 q7 w6 w7
    unfold FrC
    go_simp
    refine hK _ _ ⟨by simpa using hzh.out, _, _, _, _, _, _, rfl, ?_⟩
    obtain ⟨hb, a0, a2, s5, s6, un, c1, c3, v4, v5, o6, o7, q6, q7, w6, w7⟩ := HR.out
    exact ⟨hb, fun h => a0 ((done_set_ne (l := l) (i := 2) (j := 0) (by decide)).symm.trans h), fun _ => rfl, s5, s6, un, fun h => c1 ((done_set_ne (l := l) (i := 2) (j := 1) (by decide)).symm.trans h), fun h => c3 ((done_set_ne (l := l) (i := 2) (j := 3) (by decide)).symm.trans h), fun h => v4 ((done_set_ne (l := l) (i := 2) (j := 4) (by decide)).symm.trans h), fun h => v5 ((done_set_ne (l := l) (i := 2) (j := 5) (by decide)).symm.trans h), fun h => (done_set_ne (l := l) (i := 2) (j := 4) (by decide)).trans (o6 ((done_set_ne (l := l) (i := 2) (j := 6) (by decide)).symm.trans h)), fun h => (done_set_ne (l := l) (i := 2) (j := 5) (by decide)).trans (o7 ((done_set_ne (l := l) (i := 2) (j := 7) (by decide)).symm.trans h)), fun h => (done_set_ne (l := l) (i := 2) (j := 1) (by decide)).trans (q6 ((done_set_ne (l := l) (i := 2) (j := 6) (by decide)).symm.trans h)), fun h => (done_set_ne (l := l) (i := 2) (j := 3) (by decide)).trans (q7 ((done_set_ne (l := l) (i := 2) (j := 7) (by decide)).symm.trans h)), fun h => w6 ((done_set_ne (l := l) (i := 2) (j := 6) (by decide)).symm.trans h), fun h => w7 ((done_set_ne (l := l) (i := 2) (j := 7) (by decide)).symm.trans h)⟩
  · intro l a W hI hn hall K hK
    obtain ⟨hz, p5, p6, u27, u28, u29, u30, rfl, hR⟩ := hI
    have hzh := Lib.hid hz
    have hnh := Lib.hid hn
    have HR := Lib.hid hR
    obtain ⟨hb, a0, a2, s5, s6, un, c1, c3, v4, v5, o6, o7, q6, q7, w6, w7⟩ := hR
    have e29 := a2 (hall { on := 2, ground := Ground.data } (by simp) rfl)
    have HUW := Lib.hid (HU2.out.below hb)
    have hbs := hb.size
    clear hz hn hall hb a0 a2 s5 s6 un c1 c3 v4 v5 o6 o7 q6 q7 w6 w7
    subst e29
    unfold FrC
    go_simp
    refine (of_any d' 30 _ _ u W HN2.out HUW.out).mono ?_
    rintro e W' ⟨⟨v1, rfl, hT1⟩, hb1⟩
    have HT1 := Lib.hid hT1
    clear hT1
    refine hK _ _ ⟨by simpa using hzh.out, _, _, _, _, _, _, rfl, ?_⟩
    obtain ⟨hb, a0, a2, s5, s6, un, c1, c3, v4, v5, o6, o7, q6, q7, w6, w7⟩ := HR.out
    exact ⟨hb.trans (hb1.mono hbs), fun h => a0 ((done_set_ne (l := l) (i := 3) (j := 0) (by decide)).symm.trans h), fun h => a2 ((done_set_ne (l := l) (i := 3) (j := 2) (by decide)).symm.trans h), s5.below hb1, s6.below hb1, un, fun h => (c1 ((done_set_ne (l := l) (i := 3) (j := 1) (by decide)).symm.trans h)).below hb1, fun _ => Tx.new hbs s5 s6 HT1.out, fun h => (v4 ((done_set_ne (l := l) (i := 3) (j := 4) (by decide)).symm.trans h)).below hb1, fun h => (v5 ((done_set_ne (l := l) (i := 3) (j := 5) (by decide)).symm.trans h)).below hb1, fun h => (done_set_ne (l := l) (i := 3) (j := 4) (by decide)).trans (o6 ((done_set_ne (l := l) (i := 3) (j := 6) (by decide)).symm.trans h)), fun h => (done_set_ne (l := l) (i := 3) (j := 5) (by decide)).trans (o7 ((done_set_ne (l := l) (i := 3) (j := 7) (by decide)).symm.trans h)), fun h => (done_set_ne (l := l) (i := 3) (j := 1) (by decide)).trans (q6 ((done_set_ne (l := l) (i := 3) (j := 6) (by decide)).symm.trans h)), fun h => absurd (q7 ((done_set_ne (l := l) (i := 3) (j := 7) (by decide)).symm.trans h)) (by rw [getD_both hnh.out]; decide), fun h => (w6 ((done_set_ne (l := l) (i := 3) (j := 6) (by decide)).symm.trans h)).below hb1, fun h => absurd (q7 ((done_set_ne (l := l) (i := 3) (j := 7) (by decide)).symm.trans h)) (by rw [getD_both hnh.out]; decide)⟩
  · intro l a W hI hn hall K hK
    obtain ⟨hz, p5, p6, u27, u28, u29, u30, rfl, hR⟩ := hI
    have hzh := Lib.hid hz
    have hnh := Lib.hid hn
    have HR := Lib.hid hR
    obtain ⟨hb, a0, a2, s5, s6, un, c1, c3, v4, v5, o6, o7, q6, q7, w6, w7⟩ := hR
    have hbs := hb.size
    clear hz hn hall hb a0 a2 s5 s6 un c1 c3 v4 v5 o6 o7 q6 q7 w6 w7
    unfold FrC
    go_simp
    refine hK _ _ ⟨by simpa using hzh.out, _, _, _, _, _, _, rfl, ?_⟩
    obtain ⟨hb, a0, a2, s5, s6, un, c1, c3, v4, v5, o6, o7, q6, q7, w6, w7⟩ := HR.out
    exact ⟨hb.alloc hbs _, fun h => a0 ((done_set_ne (l := l) (i := 4) (j := 0) (by decide)).symm.trans h), fun h => a2 ((done_set_ne (l := l) (i := 4) (j := 2) (by decide)).symm.trans h), In.new hbs, s6.below ((Below.refl _ _).alloc (Nat.le_refl _) _), fun q hq e => by have h1 := ptr_inj hq; have h2 := (s6 q e).2; omega, fun h => (c1 ((done_set_ne (l := l) (i := 4) (j := 1) (by decide)).symm.trans h)).alloc5, fun h => (c3 ((done_set_ne (l := l) (i := 4) (j := 3) (by decide)).symm.trans h)).alloc5, fun _ => Px.new _ _ _, fun h => (v5 ((done_set_ne (l := l) (i := 4) (j := 5) (by decide)).symm.trans h)).below ((Below.refl _ _).alloc (Nat.le_refl _) _), fun h => absurd (o6 ((done_set_ne (l := l) (i := 4) (j := 6) (by decide)).symm.trans h)) (by rw [getD_both hnh.out]; decide), fun h => (done_set_ne (l := l) (i := 4) (j := 5) (by decide)).trans (o7 ((done_set_ne (l := l) (i := 4) (j := 7) (by decide)).symm.trans h)), fun h => (done_set_ne (l := l) (i := 4) (j := 1) (by decide)).trans (q6 ((done_set_ne (l := l) (i := 4) (j := 6) (by decide)).symm.trans h)), fun h => (done_set_ne (l := l) (i := 4) (j := 3) (by decide)).trans (q7 ((done_set_ne (l := l) (i := 4) (j := 7) (by decide)).symm.trans h)), fun h => absurd (o6 ((done_set_ne (l := l) (i := 4) (j := 6) (by decide)).symm.trans h)) (by rw [getD_both hnh.out]; decide), fun h => (w7 ((done_set_ne (l := l) (i := 4) (j := 7) (by decide)).symm.trans h)).below ((Below.refl _ _).alloc (Nat.le_refl _) _)⟩
  · intro l a W hI hn hall K hK
    obtain ⟨hz, p5, p6, u27, u28, u29, u30, rfl, hR⟩ := hI
    have hzh := Lib.hid hz
    have hnh := Lib.hid hn
    have HR := Lib.hid hR
    obtain ⟨hb, a0, a2, s5, s6, un, c1, c3, v4, v5, o6, o7, q6, q7, w6, w7⟩ := hR
    have hbs := hb.size
    clear hz hn hall hb a0 a2 s5 s6 un c1 c3 v4 v5 o6 o7 q6 q7 w6 w7
    unfold FrC
    go_simp
    refine hK _ _ ⟨by simpa using hzh.out, _, _, _, _, _, _, rfl, ?_⟩
    obtain ⟨hb, a0, a2, s5, s6, un, c1, c3, v4, v5, o6, o7, q6, q7, w6, w7⟩ := HR.out
    exact ⟨hb.alloc hbs _, fun h => a0 ((done_set_ne (l := l) (i := 5) (j := 0) (by decide)).symm.trans h), fun h => a2 ((done_set_ne (l := l) (i := 5) (j := 2) (by decide)).symm.trans h), s5.below ((Below.refl _ _).alloc (Nat.le_refl _) _), In.new hbs, fun q hq e => by have h1 := ptr_inj e; have h2 := (s5 q hq).2; omega, fun h => (c1 ((done_set_ne (l := l) (i := 5) (j := 1) (by decide)).symm.trans h)).alloc6, fun h => (c3 ((done_set_ne (l := l) (i := 5) (j := 3) (by decide)).symm.trans h)).alloc6, fun h => (v4 ((done_set_ne (l := l) (i := 5) (j := 4) (by decide)).symm.trans h)).below ((Below.refl _ _).alloc (Nat.le_refl _) _), fun _ => Px.new _ _ _, fun h => (done_set_ne (l := l) (i := 5) (j := 4) (by decide)).trans (o6 ((done_set_ne (l := l) (i := 5) (j := 6) (by decide)).symm.trans h)), fun h => absurd (o7 ((done_set_ne (l := l) (i := 5) (j := 7) (by decide)).symm.trans h)) (by rw [getD_both hnh.out]; decide), fun h => (done_set_ne (l := l) (i := 5) (j := 1) (by decide)).trans (q6 ((done_set_ne (l := l) (i := 5) (j := 6) (by decide)).symm.trans h)), fun h => (done_set_ne (l := l) (i := 5) (j := 3) (by decide)).trans (q7 ((done_set_ne (l := l) (i := 5) (j := 7) (by decide)).symm.trans h)), fun h => (w6 ((done_set_ne (l := l) (i := 5) (j := 6) (by decide)).symm.trans h)).below ((Below.refl _ _).alloc (Nat.le_refl _) _), fun h => absurd (o7 ((done_set_ne (l := l) (i := 5) (j := 7) (by decide)).symm.trans h)) (by rw [getD_both hnh.out]; decide)⟩
  · intro l a W hI hn hall K hK
    obtain ⟨hz, p5, p6, u27, u28, u29, u30, rfl, hR⟩ := hI
    have hzh := Lib.hid hz
    have hnh := Lib.hid hn
    have HR := Lib.hid hR
    obtain ⟨hb, a0, a2, s5, s6, un, c1, c3, v4, v5, o6, o7, q6, q7, w6, w7⟩ := hR
    have f4 := hall { on := 4, ground := Ground.data } (by simp) rfl
    have f1 := hall { on := 1, ground := Ground.data } (by simp) rfl
    obtain ⟨q, c0, c1', ep, hq⟩ := v4 f4
    obtain ⟨A1, k1, eu, hTx⟩ := c1 f1
    have x0 := cell2_0 hq
    have x1 := cell2_1 hq
    have z0 := cell3_f hq 0
    have z1 := cell3_f hq 1
    have hql := cell_lt hq
    have hqb := (s5 q ep).1
    have HP := Lib.hid (v4 f4)
    clear hq hTx
    clear hz hn hall hb a0 a2 s5 s6 un c1 c3 v4 v5 o6 o7 q6 q7 w6 w7
    subst ep
    subst eu
    unfold FrC
    unfold ptr
    go_simp
    refine hK _ _ ⟨by simpa using hzh.out, _, _, _, _, _, _, rfl, ?_⟩
    obtain ⟨hb, a0, a2, s5, s6, un, c1, c3, v4, v5, o6, o7, q6, q7, w6, w7⟩ := HR.out
    exact ⟨put2_below hb hqb, fun h => a0 ((done_set_ne (l := l) (i := 6) (j := 0) (by decide)).symm.trans h), fun h => a2 ((done_set_ne (l := l) (i := 6) (j := 2) (by decide)).symm.trans h), s5.put, s6.put, un, fun h => (c1 ((done_set_ne (l := l) (i := 6) (j := 1) (by decide)).symm.trans h)).put5, fun h => (c3 ((done_set_ne (l := l) (i := 6) (j := 3) (by decide)).symm.trans h)).put5, fun _ => HP.out.put_self.px, fun h => (v5 ((done_set_ne (l := l) (i := 6) (j := 5) (by decide)).symm.trans h)).put_other (un q rfl), fun _ => (done_set_ne (l := l) (i := 6) (j := 4) (by decide)).trans f4, fun h => (done_set_ne (l := l) (i := 6) (j := 5) (by decide)).trans (o7 ((done_set_ne (l := l) (i := 6) (j := 7) (by decide)).symm.trans h)), fun _ => (done_set_ne (l := l) (i := 6) (j := 1) (by decide)).trans f1, fun h => (done_set_ne (l := l) (i := 6) (j := 3) (by decide)).trans (q7 ((done_set_ne (l := l) (i := 6) (j := 7) (by decide)).symm.trans h)), fun _ => HP.out.put_self, fun h => (w7 ((done_set_ne (l := l) (i := 6) (j := 7) (by decide)).symm.trans h)).put_other (un q rfl)⟩
  · intro l a W hI hn hall K hK
    obtain ⟨hz, p5, p6, u27, u28, u29, u30, rfl, hR⟩ := hI
    have hzh := Lib.hid hz
    have hnh := Lib.hid hn
    have HR := Lib.hid hR
    obtain ⟨hb, a0, a2, s5, s6, un, c1, c3, v4, v5, o6, o7, q6, q7, w6, w7⟩ := hR
    have f5 := hall { on := 5, ground := Ground.data } (by simp) rfl
    have f3 := hall { on := 3, ground := Ground.data } (by simp) rfl
    obtain ⟨q, c0, c1', ep, hq⟩ := v5 f5
    obtain ⟨A1, k1, eu, hTx⟩ := c3 f3
    have x0 := cell2_0 hq
    have x1 := cell2_1 hq
    have z0 := cell3_f hq 0
    have z1 := cell3_f hq 1
    have hql := cell_lt hq
    have hqb := (s6 q ep).1
    have HP := Lib.hid (v5 f5)
    clear hq hTx
    clear hz hn hall hb a0 a2 s5 s6 un c1 c3 v4 v5 o6 o7 q6 q7 w6 w7
    subst ep
    subst eu
    unfold FrC
    unfold ptr
    go_simp
    refine hK _ _ ⟨by simpa using hzh.out, _, _, _, _, _, _, rfl, ?_⟩
    obtain ⟨hb, a0, a2, s5, s6, un, c1, c3, v4, v5, o6, o7, q6, q7, w6, w7⟩ := HR.out
    exact ⟨put2_below hb hqb, fun h => a0 ((done_set_ne (l := l) (i := 7) (j := 0) (by decide)).symm.trans h), fun h => a2 ((done_set_ne (l := l) (i := 7) (j := 2) (by decide)).symm.trans h), s5.put, s6.put, un, fun h => (c1 ((done_set_ne (l := l) (i := 7) (j := 1) (by decide)).symm.trans h)).put6, fun h => (c3 ((done_set_ne (l := l) (i := 7) (j := 3) (by decide)).symm.trans h)).put6, fun h => (v4 ((done_set_ne (l := l) (i := 7) (j := 4) (by decide)).symm.trans h)).put_other (fun e => un q e rfl), fun _ => HP.out.put_self.px, fun h => (done_set_ne (l := l) (i := 7) (j := 4) (by decide)).trans (o6 ((done_set_ne (l := l) (i := 7) (j := 6) (by decide)).symm.trans h)), fun _ => (done_set_ne (l := l) (i := 7) (j := 5) (by decide)).trans f5, fun h => (done_set_ne (l := l) (i := 7) (j := 1) (by decide)).trans (q6 ((done_set_ne (l := l) (i := 7) (j := 6) (by decide)).symm.trans h)), fun _ => (done_set_ne (l := l) (i := 7) (j := 3) (by decide)).trans f3, fun h => (w6 ((done_set_ne (l := l) (i := 7) (j := 6) (by decide)).symm.trans h)).put_other (fun e => un q e rfl), fun _ => HP.out.put_self⟩

/-- What the statement leaves: two variables with the types, in blocks from lo on. -/
def XY (w2 : World) (d d' : Nat) (t u : Ty) (p5 p6 : Value) (W : World) : Prop :=
  ∃ X Y Ax kx Ay ky, p5 = .pointer (some ⟨X, 0, none⟩) ∧ p6 = .pointer (some ⟨Y, 0, none⟩) ∧ W.heap[X]? = some (.cells #[.int .i64 t.kind, .slice Ax t.args.length kx] 29 (0, 0)) ∧ W.heap[Y]? = some (.cells #[.int .i64 u.kind, .slice Ay u.args.length ky] 29 (0, 0)) ∧
    TyAt W (fun b => w2.heap.size ≤ b) d (.agg #[.int .i64 t.kind, .slice Ax t.args.length kx]) t ∧ TyAt W (fun b => w2.heap.size ≤ b) d' (.agg #[.int .i64 u.kind, .slice Ay u.args.length ky]) u ∧ Below w2.heap.size w2 W

theorem InvC.xy {w w2 W : World} {d d' : Nat} {t u : Ty} {A A' : Option Addr} {c c' : Nat} {l : Array Bool} {a : Act} (h : InvC w w2 d d' t u A A' c c' l a W) (hl : ∀ i, i < 8 → l.getD i false = true) :
    ∃ p5 p6 u27 u28 u29 u30, a = FrC w t u A A' c c' p5 p6 u27 u28 u29 u30 ∧ XY w2 d d' t u p5 p6 W := by
  obtain ⟨_, p5, p6, u27, u28, u29, u30, ha, hb, _, _, _, _, _, c1, c3, _, _, _, _, _, _, w6, w7⟩ := h
  obtain ⟨A1, k1, e1, T1⟩ := c1 (hl 1 (by omega))
  obtain ⟨A2, k2, e2, T2⟩ := c3 (hl 3 (by omega))
  obtain ⟨X, x0, x1, eX, hX, vX⟩ := w6 (hl 6 (by omega))
  obtain ⟨Y, y0, y1, eY, hY, vY⟩ := w7 (hl 7 (by omega))
  rw [e1] at vX
  rw [e2] at vY
  have fX := congrArg Array.toList (Value.agg.inj vX)
  have fY := congrArg Array.toList (Value.agg.inj vY)
  simp only [List.cons.injEq, and_true] at fX fY
  obtain ⟨rfl, rfl⟩ := fX
  obtain ⟨rfl, rfl⟩ := fY
  exact ⟨p5, p6, u27, u28, u29, u30, ha, X, Y, A1, k1, A2, k2, eX, eY, hX, hY, by rw [e1] at T1; exact T1.move fun b hb _ => ⟨hb.1, fun _ => rfl⟩, by rw [e2] at T2; exact T2.move fun b hb _ => ⟨hb.1, fun _ => rfl⟩, hb⟩

theorem InvC.start {w w2 : World} {d d' : Nat} {t u : Ty} {A A' : Option Addr} {c c' : Nat} : InvC w w2 d d' t u A A' c c' (Array.replicate ops3.length false) (FrC w t u A A' c c' undef undef undef undef undef undef) w2.drew := by
  have hn : ∀ lo W, In W lo undef := fun lo W q e => by unfold ptr at e; cases e
  refine ⟨rfl, undef, undef, undef, undef, undef, undef, rfl, (Below.refl _ _).drew, ?_, ?_, hn _ _, hn _ _, (fun q e => by unfold ptr at e; cases e), ?_, ?_, ?_, ?_, ?_, ?_, ?_, ?_, ?_, ?_⟩ <;> (intro h; exact absurd h (by decide))

end Go.Proofs.YtdoadedglpjldaaDoor
