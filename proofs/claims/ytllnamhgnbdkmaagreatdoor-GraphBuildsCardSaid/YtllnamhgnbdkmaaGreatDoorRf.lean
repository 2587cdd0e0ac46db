/-
Stage 11: nodes' statement, whose order is open. Stage 11: nodes.
-/
import Derived.Test.YtllnamhgnbdkmaaGreatDoorYh
set_option linter.unusedVariables false
set_option linter.unusedSimpArgs false
namespace Go.Proofs.YtllnamhgnbdkmaaGreatDoor
open Go.RowKit Go.Shelf Go.Sort
theorem infoR : (Tryz.prog.info? 51).map (fun i => (i.zero, i.size, i.bytes)) = some (some (.agg #[.int .i64 0, .slice none 0 0, .slice none 0 0, .string ⟨#[]⟩, .int .i64 0, .slice none 0 0, .int .i64 0, .int .i64 0, .int .i64 0, .int .i64 0, .int .i64 0, .int .i64 0, .int .i64 0, .bool false]), 14, 168) := by kernel_rfl
def NsR (w : World) (B d : Nat) (v : Value) (l : List Gn) : Prop := ∃ xs, w.ownsRow B 51 14 v l.length xs ∧ ∀ (j : Nat) (n : Gn), l[j]? = some n → ∃ IA SA A ic sc c, GnAt w (fun b => some b ≠ v.ownBlock) d (n.val IA SA A ic sc c) n ∧ ∀ (i : Nat) (u : Value), (n.val IA SA A ic sc c).cells[i]? = some u → xs[j * 14 + i]? = some u
theorem NsR.nil (w : World) (B d : Nat) : NsR w B d (.slice none 0 0) [] := ⟨[], World.ownsRow_nil _ _ _ _, fun j n h => by cases h⟩
theorem NsR.gs {w : World} {B d : Nat} {v : Value} {l : List Gn} (h : NsR w B d v l) : GsAt w (fun _ => True) d v l := by
  obtain ⟨xs, ho, hn⟩ := h
  have ho2 := ho
  rcases ho2.2 with ⟨rfl, h0⟩ | ⟨g, cap, cur, rfl, hb, hg, hle, hc⟩
  · exact ⟨none, 0, by rw [h0], by omega, fun h1 => by omega⟩
  · refine ⟨some ⟨g, 0, none⟩, cap, rfl, hle, fun _ => ⟨g, 0, rfl, trivial, cell_lt hg, fun j n hj => ?_⟩⟩
    obtain ⟨IA, SA, A, ic, sc, c, hgn, hu⟩ := hn j n hj
    refine ⟨IA, SA, A, ic, sc, c, hgn.move fun b hb hl => ⟨trivial, hl, fun _ => rfl⟩, fun i u hx => ?_⟩
    have h1 := hu i u hx
    have hlt := (List.getElem?_eq_some_iff.1 h1).1
    have h2 := ho.cellAt (j * 14 + i) (by rw [← ho.1]; exact hlt)
    rw [show 0 + j * 14 + i = j * 14 + i by omega, h2, h1]
theorem NsR.keep {w w' : World} {B d : Nat} {v : Value} {l : List Gn} (h : NsR w B d v l) (hb : Below w.heap.size w w') : NsR w' B d v l := by
  obtain ⟨xs, ho, hn⟩ := h
  refine ⟨xs, ho.kept (row := none) ⟨hb.os, hb.tape, hb.output, hb.size, fun i hi _ => hb.block i hi⟩ (by cases v.ownBlock <;> simp), fun j n hj => ?_⟩
  obtain ⟨IA, SA, A, ic, sc, c, hgn, hu⟩ := hn j n hj
  exact ⟨IA, SA, A, ic, sc, c, hgn.below hb, hu⟩
theorem NsR.low {w : World} {B d : Nat} {v : Value} {l : List Gn} (h : NsR w B d v l) {g : Nat} (hg : v.ownBlock = some g) : B ≤ g ∧ g < w.heap.size := by
  obtain ⟨xs, ho, hn⟩ := h
  rcases ho.2 with ⟨rfl, h0⟩ | ⟨g', cap, cur, rfl, hb, hg', hle, hc⟩
  · cases hg
  · cases hg
    exact ⟨hb, cell_lt hg'⟩
theorem NsR.more {w w' : World} {B d : Nat} {v v' : Value} {l : List Gn} {n : Gn} {IA SA A : Option Addr} {ic sc c : Nat} {xs : List Value} (ho : w.ownsRow B 51 14 v l.length xs) (hn : ∀ (j : Nat) (n : Gn), l[j]? = some n → ∃ IA SA A ic sc c, GnAt w (fun b => some b ≠ v.ownBlock) d (n.val IA SA A ic sc c) n ∧ ∀ (i : Nat) (u : Value), (n.val IA SA A ic sc c).cells[i]? = some u → xs[j * 14 + i]? = some u) (hgn : GnAt w (fun b => some b ≠ v.ownBlock) d (n.val IA SA A ic sc c) n)
    (ho' : w'.ownsRow B 51 14 v' (l.length + 1) (xs ++ [.int .i64 n.op, .slice IA n.ins.length ic, .slice SA n.side.length sc, .string ⟨n.text.toArray⟩, .int .i64 n.ty.kind, .slice A n.ty.args.length c, .int .i64 n.f0, .int .i64 n.f1, .int .i64 n.f2, .int .i64 n.f3, .int .i64 n.e, .int .i64 n.l, .int .i64 n.lt, .bool n.acc])) (hg : w.grownBy w' v.ownBlock) (hat : v'.ownBlock = v.ownBlock ∨ ∃ g, v'.ownBlock = some g ∧ w.heap.size ≤ g) : NsR w' B d v' (l ++ [n]) := by
  have hmv : ∀ b, (some b ≠ v.ownBlock) → b < w.heap.size → (some b ≠ v'.ownBlock) ∧ b < w'.heap.size ∧ ∀ o, w'.cell? ⟨b, o, none⟩ = w.cell? ⟨b, o, none⟩ := fun b hb hl => by
    refine ⟨?_, Nat.lt_of_lt_of_le hl hg.size, fun o => World.cell?_of_block (hg.block b hl hb)⟩
    rcases hat with h | ⟨g, h, hgl⟩
    · rw [h]; exact hb
    · rw [h]
      intro e
      have := Option.some.inj e
      omega
  refine ⟨_, by rw [List.length_append]; exact ho', fun j m hj => ?_⟩
  have hxl := ho.1
  rcases Nat.lt_or_ge j l.length with hlt | hge
  · rw [List.getElem?_append_left hlt] at hj
    obtain ⟨IA, SA, A, ic, sc, c, hgn, hu⟩ := hn j m hj
    refine ⟨IA, SA, A, ic, sc, c, hgn.move hmv, fun i u hx => ?_⟩
    have h1 := hu i u hx
    rw [List.getElem?_append_left (List.getElem?_eq_some_iff.1 h1).1]
    exact h1
  · rw [List.getElem?_append_right hge] at hj
    obtain rfl : j = l.length := by have := (List.getElem?_eq_some_iff.1 hj).1; simp at this; omega
    rw [Nat.sub_self] at hj
    obtain rfl : n = m := Option.some.inj hj
    refine ⟨IA, SA, A, ic, sc, c, hgn.move hmv, fun i u hx => ?_⟩
    rw [List.getElem?_append_right (by omega), hxl, Nat.add_sub_cancel_left, ← Gn.cells14 n IA SA A ic sc c]
    simpa using hx
def FrR (t0 t1 t2 t4 t6 t7 t8 t9 t10 t11 t12 t32 t33 : Value) (NB : Nat) (u3 u13 u14 u15 u16 u17 u18 u19 u20 u21 u22 u23 u24 u25 u26 u27 u28 u29 u30 u31 : Value) : Act :=
  { tmps := #[t0, t1, t2, u3, t4, .pointer (some ⟨NB, 0, none⟩), t6, t7, t8, t9, t10, t11, t12, u13, u14, u15, u16, u17, u18, u19, u20, u21, u22, u23, u24, u25, u26, u27, u28, u29, u30, u31, t32, t33], defers := [] }
def opsR : List Oper := [{ dst := some 13, op := Op.move (Operand.tmp 3), type := 22, pos := "law.go:50", after := #[], guard := none }, { dst := some 14, op := Op.fieldAddr 83 (Operand.tmp 5) 0, type := 0, pos := "law.go:50", after := #[], guard := none }, { dst := some 15, op := Op.load 3 (Operand.tmp 14), type := 3, pos := "law.go:50", after := #[{ on := 1, ground := Ground.data }], guard := none }, { dst := some 16, op := Op.fieldAddr 83 (Operand.tmp 5) 1, type := 0, pos := "law.go:50", after := #[], guard := none }, { dst := some 17, op := Op.load 41 (Operand.tmp 16), type := 41, pos := "law.go:50", after := #[{ on := 3, ground := Ground.data }], guard := none }, { dst := some 18, op := Op.fieldAddr 83 (Operand.tmp 5) 2, type := 0, pos := "law.go:50", after := #[], guard := none }, { dst := some 19, op := Op.load 41 (Operand.tmp 18), type := 41, pos := "law.go:50", after := #[{ on := 5, ground := Ground.data }], guard := none }, { dst := some 20, op := Op.fieldAddr 83 (Operand.tmp 5) 3, type := 0, pos := "law.go:50", after := #[], guard := none }, { dst := some 21, op := Op.load 9 (Operand.tmp 20), type := 9, pos := "law.go:50", after := #[{ on := 7, ground := Ground.data }], guard := none }, { dst := some 22, op := Op.fieldAddr 83 (Operand.tmp 5) 4, type := 0, pos := "law.go:50", after := #[], guard := none }, { dst := some 23, op := Op.load 64 (Operand.tmp 22), type := 64, pos := "law.go:50", after := #[{ on := 9, ground := Ground.data }], guard := none }, { dst := some 24, op := Op.call { callee := Callee.value (Operand.func 53), args := #[Operand.tmp 23], argTypes := #[64] }, type := 45, pos := "law.go:50", after := #[{ on := 10, ground := Ground.data }], guard := none }, { dst := some 25, op := Op.fieldAddr 83 (Operand.tmp 5) 5, type := 0, pos := "law.go:50", after := #[], guard := none }, { dst := some 26, op := Op.load 69 (Operand.tmp 25), type := 69, pos := "law.go:50", after := #[{ on := 12, ground := Ground.data }], guard := none }, { dst := some 27, op := Op.fieldAddr 83 (Operand.tmp 5) 6, type := 0, pos := "law.go:50", after := #[], guard := none }, { dst := some 28, op := Op.load 71 (Operand.tmp 27), type := 71, pos := "law.go:50", after := #[{ on := 14, ground := Ground.data }], guard := none }, { dst := some 29, op := Op.build 51 #[(0, Operand.tmp 15), (1, Operand.tmp 17), (2, Operand.tmp 19), (3, Operand.tmp 21), (4, Operand.tmp 24), (5, Operand.tmp 26), (6, Operand.tmp 28)], type := 51, pos := "law.go:50", after := #[{ on := 2, ground := Ground.data }, { on := 4, ground := Ground.data }, { on := 6, ground := Ground.data }, { on := 8, ground := Ground.data }, { on := 11, ground := Ground.data }, { on := 13, ground := Ground.data }, { on := 15, ground := Ground.data }], guard := none }, { dst := some 30, op := Op.buildSlice 22 1 #[(0, Operand.tmp 29)], type := 22, pos := "law.go:50", after := #[{ on := 16, ground := Ground.data }], guard := none }, { dst := some 31, op := Op.call { callee := Callee.builtin Builtin.append, args := #[Operand.tmp 13, Operand.tmp 30], argTypes := #[22, 22] }, type := 22, pos := "law.go:50", after := #[{ on := 0, ground := Ground.data }, { on := 17, ground := Ground.data }, { on := 11, ground := Ground.chain }], guard := none }, { dst := some 3, op := Op.assign (Operand.tmp 31), type := 22, pos := "law.go:50", after := #[{ on := 18, ground := Ground.data }, { on := 18, ground := Ground.chain }, { on := 0, ground := Ground.phase }, { on := 1, ground := Ground.phase }, { on := 2, ground := Ground.phase }, { on := 3, ground := Ground.phase }, { on := 4, ground := Ground.phase }, { on := 5, ground := Ground.phase }, { on := 6, ground := Ground.phase }, { on := 7, ground := Ground.phase }, { on := 8, ground := Ground.phase }, { on := 9, ground := Ground.phase }, { on := 10, ground := Ground.phase }, { on := 11, ground := Ground.phase }, { on := 12, ground := Ground.phase }, { on := 13, ground := Ground.phase }, { on := 14, ground := Ground.phase }, { on := 15, ground := Ground.phase }, { on := 16, ground := Ground.phase }, { on := 17, ground := Ground.phase }, { on := 18, ground := Ground.phase }], guard := none }]
def K11 (NB d : Nat) (n : Gn) (W : World) (u : Value) : Prop := ∃ X x, u = .agg #[.int .i64 n.ty.kind, .slice X n.ty.args.length x] ∧ TyAt W (fun b => NB + 1 ≤ b) d (.agg #[.int .i64 n.ty.kind, .slice X n.ty.args.length x]) n.ty
def K16 (w : World) (NB d : Nat) (n : Gn) (IA SA : Option Addr) (ic sc : Nat) (W : World) (u : Value) : Prop := ∃ Z z, u = .agg #[.int .i64 n.op, .slice IA n.ins.length ic, .slice SA n.side.length sc, .string ⟨n.text.toArray⟩, .int .i64 n.ty.kind, .slice Z n.ty.args.length z, .int .i64 n.f0, .int .i64 n.f1, .int .i64 n.f2, .int .i64 n.f3, .int .i64 n.e, .int .i64 n.l, .int .i64 n.lt, .bool n.acc] ∧ GnAt W (fun b => b < w.heap.size ∨ NB + 1 ≤ b) d (n.val IA SA Z ic sc z) n
def K17 (w : World) (NB d : Nat) (n : Gn) (IA SA : Option Addr) (ic sc : Nat) (W : World) (u : Value) : Prop := ∃ B Z z, u = .slice (some ⟨B, 0, none⟩) 1 1 ∧ W.heap[B]? = some (.cells #[.int .i64 n.op, .slice IA n.ins.length ic, .slice SA n.side.length sc, .string ⟨n.text.toArray⟩, .int .i64 n.ty.kind, .slice Z n.ty.args.length z, .int .i64 n.f0, .int .i64 n.f1, .int .i64 n.f2, .int .i64 n.f3, .int .i64 n.e, .int .i64 n.l, .int .i64 n.lt, .bool n.acc] 51 (0, 0)) ∧ GnAt W (fun b => b < w.heap.size ∨ NB + 1 ≤ b) d (n.val IA SA Z ic sc z) n
def K18 (w : World) (d : Nat) (pre : List Gn) (n : Gn) (W : World) (u : Value) : Prop := ∃ GA gc, u = .slice GA (pre.length + 1) gc ∧ NsR W (w.heap.size + 1) d (.slice GA (pre.length + 1) gc) (pre ++ [n])
theorem K11.below {NB d : Nat} {n : Gn} {W W' : World} {u : Value} (h : K11 NB d n W u) (hb : Below W.heap.size W W') : K11 NB d n W' u := by
  obtain ⟨X, x, e, h⟩ := h
  exact ⟨X, x, e, TyAt.move (fun b hb' hl => ⟨hb', fun _ => World.cell?_of_block (hb.block b hl)⟩) _ _ _ h⟩
theorem K16.below {w : World} {NB d : Nat} {n : Gn} {IA SA : Option Addr} {ic sc : Nat} {W W' : World} {u : Value} (h : K16 w NB d n IA SA ic sc W u) (hb : Below W.heap.size W W') : K16 w NB d n IA SA ic sc W' u := by
  obtain ⟨Z, z, e, h⟩ := h
  exact ⟨Z, z, e, h.below hb⟩
theorem K17.below {w : World} {NB d : Nat} {n : Gn} {IA SA : Option Addr} {ic sc : Nat} {W W' : World} {u : Value} (h : K17 w NB d n IA SA ic sc W u) (hb : Below W.heap.size W W') : K17 w NB d n IA SA ic sc W' u := by
  obtain ⟨B, Z, z, e, h1, h⟩ := h
  exact ⟨B, Z, z, e, bl_blk hb h1, h.below hb⟩
theorem K18.below {w : World} {d : Nat} {pre : List Gn} {n : Gn} {W W' : World} {u : Value} (h : K18 w d pre n W u) (hb : Below W.heap.size W W') : K18 w d pre n W' u := by
  obtain ⟨GA, gc, e, h⟩ := h
  exact ⟨GA, gc, e, h.keep hb⟩
structure FctR (w : World) (d NB : Nat) (PA : Option Addr) (pc : Nat) (pre : List Gn) (n : Gn) (IA SA A : Option Addr) (ic sc c : Nat) (W1 : World) (l : Array Bool) (W : World) (u3 u13 u14 u15 u16 u17 u18 u19 u20 u21 u22 u23 u24 u25 u26 u27 u28 u29 u30 u31 : Value) : Prop where
  sz : l.size = 20
  f0 : l.getD 0 false = true → u13 = .slice PA pre.length pc
  f1 : l.getD 1 false = true → u14 = .pointer (some ⟨NB, 0, none⟩)
  f2 : l.getD 2 false = true → u15 = .int .i64 n.op
  f3 : l.getD 3 false = true → u16 = .pointer (some ⟨NB, 1, none⟩)
  f4 : l.getD 4 false = true → u17 = .slice IA n.ins.length ic
  f5 : l.getD 5 false = true → u18 = .pointer (some ⟨NB, 2, none⟩)
  f6 : l.getD 6 false = true → u19 = .slice SA n.side.length sc
  f7 : l.getD 7 false = true → u20 = .pointer (some ⟨NB, 3, none⟩)
  f8 : l.getD 8 false = true → u21 = .string ⟨n.text.toArray⟩
  f9 : l.getD 9 false = true → u22 = .pointer (some ⟨NB, 4, none⟩)
  f10 : l.getD 10 false = true → u23 = .agg #[.int .i64 n.ty.kind, .slice A n.ty.args.length c]
  f12 : l.getD 12 false = true → u25 = .pointer (some ⟨NB, 6, none⟩)
  f13 : l.getD 13 false = true → u26 = .agg #[.int .i64 n.f0, .int .i64 n.f1, .int .i64 n.f2, .int .i64 n.f3]
  f14 : l.getD 14 false = true → u27 = .pointer (some ⟨NB, 10, none⟩)
  f15 : l.getD 15 false = true → u28 = .agg #[.int .i64 n.e, .int .i64 n.l, .int .i64 n.lt, .bool n.acc]
  c11 : l.getD 11 false = true → l.getD 18 false = false → K11 NB d n W u24
  c16 : l.getD 16 false = true → l.getD 18 false = false → K16 w NB d n IA SA ic sc W u29
  c17 : l.getD 17 false = true → l.getD 18 false = false → K17 w NB d n IA SA ic sc W u30
  c18 : l.getD 18 false = true → K18 w d pre n W u31
  d11 : l.getD 11 false = true → l.getD 10 false = true
  d16 : l.getD 16 false = true → l.getD 2 false = true ∧ l.getD 4 false = true ∧ l.getD 6 false = true ∧ l.getD 8 false = true ∧ l.getD 11 false = true ∧ l.getD 13 false = true ∧ l.getD 15 false = true
  d17 : l.getD 17 false = true → l.getD 16 false = true
  d18 : l.getD 18 false = true → l.getD 0 false = true ∧ l.getD 17 false = true
  d19 : l.getD 19 false = true → l.getD 18 false = true
  base : l.getD 18 false = false → Below W1.heap.size W1 W
  bw : Below w.heap.size w W
  p0 : l.getD 19 false = false → u3 = .slice PA pre.length pc
  p1 : l.getD 19 false = true → u3 = u31
def InvR (t0 t1 t2 t4 t6 t7 t8 t9 t10 t11 t12 t32 t33 : Value) (w : World) (d NB : Nat) (PA : Option Addr) (pc : Nat) (pre : List Gn) (n : Gn) (IA SA A : Option Addr) (ic sc c : Nat) (W1 : World) (l : Array Bool) (a : Act) (W : World) : Prop := ∃ u3 u13 u14 u15 u16 u17 u18 u19 u20 u21 u22 u23 u24 u25 u26 u27 u28 u29 u30 u31, a = FrR t0 t1 t2 t4 t6 t7 t8 t9 t10 t11 t12 t32 t33 NB u3 u13 u14 u15 u16 u17 u18 u19 u20 u21 u22 u23 u24 u25 u26 u27 u28 u29 u30 u31 ∧ FctR w d NB PA pc pre n IA SA A ic sc c W1 l W u3 u13 u14 u15 u16 u17 u18 u19 u20 u21 u22 u23 u24 u25 u26 u27 u28 u29 u30 u31
set_option maxRecDepth 100000 in
set_option maxHeartbeats 8000000 in
theorem inv_stepsR (t0 t1 t2 t4 t6 t7 t8 t9 t10 t11 t12 t32 t33 : Value) (w : World) (d NB : Nat) (PA : Option Addr) (pc : Nat) (pre : List Gn) (n : Gn) (IA SA A : Option Addr) (ic sc c : Nat) (W1 : World) (Q : Exit → Act → World → Prop)
    (hx : W1.heap[NB]? = some (.cells #[.int .i64 n.op, .slice IA n.ins.length ic, .slice SA n.side.length sc, .string ⟨n.text.toArray⟩, .int .i64 n.ty.kind, .slice A n.ty.args.length c, .int .i64 n.f0, .int .i64 n.f1, .int .i64 n.f2, .int .i64 n.f3, .int .i64 n.e, .int .i64 n.l, .int .i64 n.lt, .bool n.acc] 83 (0, 0))) (hNB : W1.heap.size = NB + 1) (hwN : w.heap.size ≤ NB) (hO : NsR W1 (w.heap.size + 1) d (.slice PA pre.length pc) pre) (hOl : ∀ g, (Value.slice PA pre.length pc).ownBlock = some g → w.heap.size ≤ g ∧ g < NB) (hpl : pre.length ≤ 100)
    (HI7 : Hid (∀ W, Below W1.heap.size W1 W → IntsAt W (fun b => b < w.heap.size) (.slice IA n.ins.length ic) n.ins)) (HI8 : Hid (∀ W, Below W1.heap.size W1 W → IntsAt W (fun b => b < w.heap.size) (.slice SA n.side.length sc) n.side))
    (HTY : Hid (∀ W, Below W1.heap.size W1 W → Calls Tryz.prog 53 #[.agg #[.int .i64 n.ty.kind, .slice A n.ty.args.length c]] W fun e w' => (∃ v', e = .returned v' ∧ TyAt w' (fun b => W.heap.size ≤ b) d v' n.ty) ∧ Below W.heap.size W w')) :
    each (fun i o => ∀ l a W, InvR t0 t1 t2 t4 t6 t7 t8 t9 t10 t11 t12 t32 t33 w d NB PA pc pre n IA SA A ic sc c W1 l a W → l.getD i true = false → (∀ e ∈ o.after, Region.binds .any e = true → l.getD e.on false = true) →
      ∀ K : Act → World → Prop, (∀ a' w', InvR t0 t1 t2 t4 t6 t7 t8 t9 t10 t11 t12 t32 t33 w d NB PA pc pre n IA SA A ic sc c W1 (l.setIfInBounds i true) a' w' → K a' w') → o.wp Tryz.prog a W K Q) 0 opsR := by
  obtain ⟨i0, hi, hq0, hq1, hq2⟩ := info_parts infoR
  have HX := Lib.hid hx
  have HNB := Lib.hid hNB
  have HWN := Lib.hid hwN
  have HO := Lib.hid hO
  have HOL := Lib.hid hOl
  have HPL := Lib.hid hpl
  clear hx hNB hwN hO hOl hpl
  unfold opsR
  refine ⟨?_, ?_, ?_, ?_, ?_, ?_, ?_, ?_, ?_, ?_, ?_, ?_, ?_, ?_, ?_, ?_, ?_, ?_, ?_, ?_, trivial⟩
  · intro l a W hI hn hall K hK
    obtain ⟨u3, u13, u14, u15, u16, u17, u18, u19, u20, u21, u22, u23, u24, u25, u26, u27, u28, u29, u30, u31, rfl, F⟩ := hI
    have HF := Lib.hid F
    have HNN := Lib.hid hn
    have h19 : l.getD 19 false = false := by
      cases h : l.getD 19 false with
      | false => rfl
      | true => exact pAbs hn ((F.d18 (F.d19 h)).1)
    obtain rfl := F.p0 h19
    clear hn hall F h19
    unfold FrR
    go_simp
    have F := HF.out
    have hn := HNN.out
    exact hK _ _ ⟨_, _, _, _, _, _, _, _, _, _, _, _, _, _, _, _, _, _, _, _, rfl, ⟨by rw [Array.size_setIfInBounds]; exact F.sz, fun _ => rfl, fun h => F.f1 (kz l 0 1 h), fun h => F.f2 (kz l 0 2 h), fun h => F.f3 (kz l 0 3 h), fun h => F.f4 (kz l 0 4 h), fun h => F.f5 (kz l 0 5 h), fun h => F.f6 (kz l 0 6 h), fun h => F.f7 (kz l 0 7 h), fun h => F.f8 (kz l 0 8 h), fun h => F.f9 (kz l 0 9 h), fun h => F.f10 (kz l 0 10 h), fun h => F.f12 (kz l 0 12 h), fun h => F.f13 (kz l 0 13 h), fun h => F.f14 (kz l 0 14 h), fun h => F.f15 (kz l 0 15 h), fun h h2 => F.c11 (kz l 0 11 h) (kz l 0 18 h2), fun h h2 => F.c16 (kz l 0 16 h) (kz l 0 18 h2), fun h h2 => F.c17 (kz l 0 17 h) (kz l 0 18 h2), fun h => F.c18 (kz l 0 18 h), fun h => pMono (F.d11 (kz l 0 11 h)), fun h => have ⟨x0, x1, x2, x3, x4, x5, x6⟩ := F.d16 (kz l 0 16 h); ⟨pMono x0, pMono x1, pMono x2, pMono x3, pMono x4, pMono x5, pMono x6⟩, fun h => pMono (F.d17 (kz l 0 17 h)), fun h => have ⟨x0, x1⟩ := F.d18 (kz l 0 18 h); ⟨pMono x0, pMono x1⟩, fun h => pMono (F.d19 (kz l 0 19 h)), fun h => F.base (kz l 0 18 h), F.bw, fun h => F.p0 (kz l 0 19 h), fun h => F.p1 (kz l 0 19 h)⟩⟩
  · intro l a W hI hn hall K hK
    obtain ⟨u3, u13, u14, u15, u16, u17, u18, u19, u20, u21, u22, u23, u24, u25, u26, u27, u28, u29, u30, u31, rfl, F⟩ := hI
    have HF := Lib.hid F
    have HNN := Lib.hid hn
    clear hn hall F
    unfold FrR
    go_simp
    have F := HF.out
    have hn := HNN.out
    exact hK _ _ ⟨_, _, _, _, _, _, _, _, _, _, _, _, _, _, _, _, _, _, _, _, rfl, ⟨by rw [Array.size_setIfInBounds]; exact F.sz, fun h => F.f0 (kz l 1 0 h), fun _ => rfl, fun h => F.f2 (kz l 1 2 h), fun h => F.f3 (kz l 1 3 h), fun h => F.f4 (kz l 1 4 h), fun h => F.f5 (kz l 1 5 h), fun h => F.f6 (kz l 1 6 h), fun h => F.f7 (kz l 1 7 h), fun h => F.f8 (kz l 1 8 h), fun h => F.f9 (kz l 1 9 h), fun h => F.f10 (kz l 1 10 h), fun h => F.f12 (kz l 1 12 h), fun h => F.f13 (kz l 1 13 h), fun h => F.f14 (kz l 1 14 h), fun h => F.f15 (kz l 1 15 h), fun h h2 => F.c11 (kz l 1 11 h) (kz l 1 18 h2), fun h h2 => F.c16 (kz l 1 16 h) (kz l 1 18 h2), fun h h2 => F.c17 (kz l 1 17 h) (kz l 1 18 h2), fun h => F.c18 (kz l 1 18 h), fun h => pMono (F.d11 (kz l 1 11 h)), fun h => have ⟨x0, x1, x2, x3, x4, x5, x6⟩ := F.d16 (kz l 1 16 h); ⟨pMono x0, pMono x1, pMono x2, pMono x3, pMono x4, pMono x5, pMono x6⟩, fun h => pMono (F.d17 (kz l 1 17 h)), fun h => have ⟨x0, x1⟩ := F.d18 (kz l 1 18 h); ⟨pMono x0, pMono x1⟩, fun h => pMono (F.d19 (kz l 1 19 h)), fun h => F.base (kz l 1 18 h), F.bw, fun h => F.p0 (kz l 1 19 h), fun h => F.p1 (kz l 1 19 h)⟩⟩
  · intro l a W hI hn hall K hK
    obtain ⟨u3, u13, u14, u15, u16, u17, u18, u19, u20, u21, u22, u23, u24, u25, u26, u27, u28, u29, u30, u31, rfl, F⟩ := hI
    have HF := Lib.hid F
    have HNN := Lib.hid hn
    obtain rfl := F.f1 (hall { on := 1, ground := Ground.data } (by simp) rfl)
    have h18 : l.getD 18 false = false := by
      cases h : l.getD 18 false with
      | false => rfl
      | true => exact pAbs hn ((F.d16 (F.d17 (F.d18 h).2)).1)
    have hblk := bl_blk (F.base h18) HX.out
    have c0 := cellN (i := 0) hblk rfl
    clear hn hall F h18 hblk
    unfold FrR
    go_simp
    have F := HF.out
    have hn := HNN.out
    exact hK _ _ ⟨_, _, _, _, _, _, _, _, _, _, _, _, _, _, _, _, _, _, _, _, rfl, ⟨by rw [Array.size_setIfInBounds]; exact F.sz, fun h => F.f0 (kz l 2 0 h), fun h => F.f1 (kz l 2 1 h), fun _ => rfl, fun h => F.f3 (kz l 2 3 h), fun h => F.f4 (kz l 2 4 h), fun h => F.f5 (kz l 2 5 h), fun h => F.f6 (kz l 2 6 h), fun h => F.f7 (kz l 2 7 h), fun h => F.f8 (kz l 2 8 h), fun h => F.f9 (kz l 2 9 h), fun h => F.f10 (kz l 2 10 h), fun h => F.f12 (kz l 2 12 h), fun h => F.f13 (kz l 2 13 h), fun h => F.f14 (kz l 2 14 h), fun h => F.f15 (kz l 2 15 h), fun h h2 => F.c11 (kz l 2 11 h) (kz l 2 18 h2), fun h h2 => F.c16 (kz l 2 16 h) (kz l 2 18 h2), fun h h2 => F.c17 (kz l 2 17 h) (kz l 2 18 h2), fun h => F.c18 (kz l 2 18 h), fun h => pMono (F.d11 (kz l 2 11 h)), fun h => have ⟨x0, x1, x2, x3, x4, x5, x6⟩ := F.d16 (kz l 2 16 h); ⟨pMono x0, pMono x1, pMono x2, pMono x3, pMono x4, pMono x5, pMono x6⟩, fun h => pMono (F.d17 (kz l 2 17 h)), fun h => have ⟨x0, x1⟩ := F.d18 (kz l 2 18 h); ⟨pMono x0, pMono x1⟩, fun h => pMono (F.d19 (kz l 2 19 h)), fun h => F.base (kz l 2 18 h), F.bw, fun h => F.p0 (kz l 2 19 h), fun h => F.p1 (kz l 2 19 h)⟩⟩
  · intro l a W hI hn hall K hK
    obtain ⟨u3, u13, u14, u15, u16, u17, u18, u19, u20, u21, u22, u23, u24, u25, u26, u27, u28, u29, u30, u31, rfl, F⟩ := hI
    have HF := Lib.hid F
    have HNN := Lib.hid hn
    clear hn hall F
    unfold FrR
    go_simp
    have F := HF.out
    have hn := HNN.out
    exact hK _ _ ⟨_, _, _, _, _, _, _, _, _, _, _, _, _, _, _, _, _, _, _, _, rfl, ⟨by rw [Array.size_setIfInBounds]; exact F.sz, fun h => F.f0 (kz l 3 0 h), fun h => F.f1 (kz l 3 1 h), fun h => F.f2 (kz l 3 2 h), fun _ => rfl, fun h => F.f4 (kz l 3 4 h), fun h => F.f5 (kz l 3 5 h), fun h => F.f6 (kz l 3 6 h), fun h => F.f7 (kz l 3 7 h), fun h => F.f8 (kz l 3 8 h), fun h => F.f9 (kz l 3 9 h), fun h => F.f10 (kz l 3 10 h), fun h => F.f12 (kz l 3 12 h), fun h => F.f13 (kz l 3 13 h), fun h => F.f14 (kz l 3 14 h), fun h => F.f15 (kz l 3 15 h), fun h h2 => F.c11 (kz l 3 11 h) (kz l 3 18 h2), fun h h2 => F.c16 (kz l 3 16 h) (kz l 3 18 h2), fun h h2 => F.c17 (kz l 3 17 h) (kz l 3 18 h2), fun h => F.c18 (kz l 3 18 h), fun h => pMono (F.d11 (kz l 3 11 h)), fun h => have ⟨x0, x1, x2, x3, x4, x5, x6⟩ := F.d16 (kz l 3 16 h); ⟨pMono x0, pMono x1, pMono x2, pMono x3, pMono x4, pMono x5, pMono x6⟩, fun h => pMono (F.d17 (kz l 3 17 h)), fun h => have ⟨x0, x1⟩ := F.d18 (kz l 3 18 h); ⟨pMono x0, pMono x1⟩, fun h => pMono (F.d19 (kz l 3 19 h)), fun h => F.base (kz l 3 18 h), F.bw, fun h => F.p0 (kz l 3 19 h), fun h => F.p1 (kz l 3 19 h)⟩⟩
  · intro l a W hI hn hall K hK
    obtain ⟨u3, u13, u14, u15, u16, u17, u18, u19, u20, u21, u22, u23, u24, u25, u26, u27, u28, u29, u30, u31, rfl, F⟩ := hI
    have HF := Lib.hid F
    have HNN := Lib.hid hn
    obtain rfl := F.f3 (hall { on := 3, ground := Ground.data } (by simp) rfl)
    have h18 : l.getD 18 false = false := by
      cases h : l.getD 18 false with
      | false => rfl
      | true => exact pAbs hn ((F.d16 (F.d17 (F.d18 h).2)).2.1)
    have hblk := bl_blk (F.base h18) HX.out
    have c1 := cellN (i := 1) hblk rfl
    clear hn hall F h18 hblk
    unfold FrR
    go_simp
    have F := HF.out
    have hn := HNN.out
    exact hK _ _ ⟨_, _, _, _, _, _, _, _, _, _, _, _, _, _, _, _, _, _, _, _, rfl, ⟨by rw [Array.size_setIfInBounds]; exact F.sz, fun h => F.f0 (kz l 4 0 h), fun h => F.f1 (kz l 4 1 h), fun h => F.f2 (kz l 4 2 h), fun h => F.f3 (kz l 4 3 h), fun _ => rfl, fun h => F.f5 (kz l 4 5 h), fun h => F.f6 (kz l 4 6 h), fun h => F.f7 (kz l 4 7 h), fun h => F.f8 (kz l 4 8 h), fun h => F.f9 (kz l 4 9 h), fun h => F.f10 (kz l 4 10 h), fun h => F.f12 (kz l 4 12 h), fun h => F.f13 (kz l 4 13 h), fun h => F.f14 (kz l 4 14 h), fun h => F.f15 (kz l 4 15 h), fun h h2 => F.c11 (kz l 4 11 h) (kz l 4 18 h2), fun h h2 => F.c16 (kz l 4 16 h) (kz l 4 18 h2), fun h h2 => F.c17 (kz l 4 17 h) (kz l 4 18 h2), fun h => F.c18 (kz l 4 18 h), fun h => pMono (F.d11 (kz l 4 11 h)), fun h => have ⟨x0, x1, x2, x3, x4, x5, x6⟩ := F.d16 (kz l 4 16 h); ⟨pMono x0, pMono x1, pMono x2, pMono x3, pMono x4, pMono x5, pMono x6⟩, fun h => pMono (F.d17 (kz l 4 17 h)), fun h => have ⟨x0, x1⟩ := F.d18 (kz l 4 18 h); ⟨pMono x0, pMono x1⟩, fun h => pMono (F.d19 (kz l 4 19 h)), fun h => F.base (kz l 4 18 h), F.bw, fun h => F.p0 (kz l 4 19 h), fun h => F.p1 (kz l 4 19 h)⟩⟩
  · intro l a W hI hn hall K hK
    obtain ⟨u3, u13, u14, u15, u16, u17, u18, u19, u20, u21, u22, u23, u24, u25, u26, u27, u28, u29, u30, u31, rfl, F⟩ := hI
    have HF := Lib.hid F
    have HNN := Lib.hid hn
    clear hn hall F
    unfold FrR
    go_simp
    have F := HF.out
    have hn := HNN.out
    exact hK _ _ ⟨_, _, _, _, _, _, _, _, _, _, _, _, _, _, _, _, _, _, _, _, rfl, ⟨by rw [Array.size_setIfInBounds]; exact F.sz, fun h => F.f0 (kz l 5 0 h), fun h => F.f1 (kz l 5 1 h), fun h => F.f2 (kz l 5 2 h), fun h => F.f3 (kz l 5 3 h), fun h => F.f4 (kz l 5 4 h), fun _ => rfl, fun h => F.f6 (kz l 5 6 h), fun h => F.f7 (kz l 5 7 h), fun h => F.f8 (kz l 5 8 h), fun h => F.f9 (kz l 5 9 h), fun h => F.f10 (kz l 5 10 h), fun h => F.f12 (kz l 5 12 h), fun h => F.f13 (kz l 5 13 h), fun h => F.f14 (kz l 5 14 h), fun h => F.f15 (kz l 5 15 h), fun h h2 => F.c11 (kz l 5 11 h) (kz l 5 18 h2), fun h h2 => F.c16 (kz l 5 16 h) (kz l 5 18 h2), fun h h2 => F.c17 (kz l 5 17 h) (kz l 5 18 h2), fun h => F.c18 (kz l 5 18 h), fun h => pMono (F.d11 (kz l 5 11 h)), fun h => have ⟨x0, x1, x2, x3, x4, x5, x6⟩ := F.d16 (kz l 5 16 h); ⟨pMono x0, pMono x1, pMono x2, pMono x3, pMono x4, pMono x5, pMono x6⟩, fun h => pMono (F.d17 (kz l 5 17 h)), fun h => have ⟨x0, x1⟩ := F.d18 (kz l 5 18 h); ⟨pMono x0, pMono x1⟩, fun h => pMono (F.d19 (kz l 5 19 h)), fun h => F.base (kz l 5 18 h), F.bw, fun h => F.p0 (kz l 5 19 h), fun h => F.p1 (kz l 5 19 h)⟩⟩
  · intro l a W hI hn hall K hK
    obtain ⟨u3, u13, u14, u15, u16, u17, u18, u19, u20, u21, u22, u23, u24, u25, u26, u27, u28, u29, u30, u31, rfl, F⟩ := hI
    have HF := Lib.hid F
    have HNN := Lib.hid hn
    obtain rfl := F.f5 (hall { on := 5, ground := Ground.data } (by simp) rfl)
    have h18 : l.getD 18 false = false := by
      cases h : l.getD 18 false with
      | false => rfl
      | true => exact pAbs hn ((F.d16 (F.d17 (F.d18 h).2)).2.2.1)
    have hblk := bl_blk (F.base h18) HX.out
    have c2 := cellN (i := 2) hblk rfl
    clear hn hall F h18 hblk
    unfold FrR
    go_simp
    have F := HF.out
    have hn := HNN.out
    exact hK _ _ ⟨_, _, _, _, _, _, _, _, _, _, _, _, _, _, _, _, _, _, _, _, rfl, ⟨by rw [Array.size_setIfInBounds]; exact F.sz, fun h => F.f0 (kz l 6 0 h), fun h => F.f1 (kz l 6 1 h), fun h => F.f2 (kz l 6 2 h), fun h => F.f3 (kz l 6 3 h), fun h => F.f4 (kz l 6 4 h), fun h => F.f5 (kz l 6 5 h), fun _ => rfl, fun h => F.f7 (kz l 6 7 h), fun h => F.f8 (kz l 6 8 h), fun h => F.f9 (kz l 6 9 h), fun h => F.f10 (kz l 6 10 h), fun h => F.f12 (kz l 6 12 h), fun h => F.f13 (kz l 6 13 h), fun h => F.f14 (kz l 6 14 h), fun h => F.f15 (kz l 6 15 h), fun h h2 => F.c11 (kz l 6 11 h) (kz l 6 18 h2), fun h h2 => F.c16 (kz l 6 16 h) (kz l 6 18 h2), fun h h2 => F.c17 (kz l 6 17 h) (kz l 6 18 h2), fun h => F.c18 (kz l 6 18 h), fun h => pMono (F.d11 (kz l 6 11 h)), fun h => have ⟨x0, x1, x2, x3, x4, x5, x6⟩ := F.d16 (kz l 6 16 h); ⟨pMono x0, pMono x1, pMono x2, pMono x3, pMono x4, pMono x5, pMono x6⟩, fun h => pMono (F.d17 (kz l 6 17 h)), fun h => have ⟨x0, x1⟩ := F.d18 (kz l 6 18 h); ⟨pMono x0, pMono x1⟩, fun h => pMono (F.d19 (kz l 6 19 h)), fun h => F.base (kz l 6 18 h), F.bw, fun h => F.p0 (kz l 6 19 h), fun h => F.p1 (kz l 6 19 h)⟩⟩
  · intro l a W hI hn hall K hK
    obtain ⟨u3, u13, u14, u15, u16, u17, u18, u19, u20, u21, u22, u23, u24, u25, u26, u27, u28, u29, u30, u31, rfl, F⟩ := hI
    have HF := Lib.hid F
    have HNN := Lib.hid hn
    clear hn hall F
    unfold FrR
    go_simp
    have F := HF.out
    have hn := HNN.out
    exact hK _ _ ⟨_, _, _, _, _, _, _, _, _, _, _, _, _, _, _, _, _, _, _, _, rfl, ⟨by rw [Array.size_setIfInBounds]; exact F.sz, fun h => F.f0 (kz l 7 0 h), fun h => F.f1 (kz l 7 1 h), fun h => F.f2 (kz l 7 2 h), fun h => F.f3 (kz l 7 3 h), fun h => F.f4 (kz l 7 4 h), fun h => F.f5 (kz l 7 5 h), fun h => F.f6 (kz l 7 6 h), fun _ => rfl, fun h => F.f8 (kz l 7 8 h), fun h => F.f9 (kz l 7 9 h), fun h => F.f10 (kz l 7 10 h), fun h => F.f12 (kz l 7 12 h), fun h => F.f13 (kz l 7 13 h), fun h => F.f14 (kz l 7 14 h), fun h => F.f15 (kz l 7 15 h), fun h h2 => F.c11 (kz l 7 11 h) (kz l 7 18 h2), fun h h2 => F.c16 (kz l 7 16 h) (kz l 7 18 h2), fun h h2 => F.c17 (kz l 7 17 h) (kz l 7 18 h2), fun h => F.c18 (kz l 7 18 h), fun h => pMono (F.d11 (kz l 7 11 h)), fun h => have ⟨x0, x1, x2, x3, x4, x5, x6⟩ := F.d16 (kz l 7 16 h); ⟨pMono x0, pMono x1, pMono x2, pMono x3, pMono x4, pMono x5, pMono x6⟩, fun h => pMono (F.d17 (kz l 7 17 h)), fun h => have ⟨x0, x1⟩ := F.d18 (kz l 7 18 h); ⟨pMono x0, pMono x1⟩, fun h => pMono (F.d19 (kz l 7 19 h)), fun h => F.base (kz l 7 18 h), F.bw, fun h => F.p0 (kz l 7 19 h), fun h => F.p1 (kz l 7 19 h)⟩⟩
  · intro l a W hI hn hall K hK
    obtain ⟨u3, u13, u14, u15, u16, u17, u18, u19, u20, u21, u22, u23, u24, u25, u26, u27, u28, u29, u30, u31, rfl, F⟩ := hI
    have HF := Lib.hid F
    have HNN := Lib.hid hn
    obtain rfl := F.f7 (hall { on := 7, ground := Ground.data } (by simp) rfl)
    have h18 : l.getD 18 false = false := by
      cases h : l.getD 18 false with
      | false => rfl
      | true => exact pAbs hn ((F.d16 (F.d17 (F.d18 h).2)).2.2.2.1)
    have hblk := bl_blk (F.base h18) HX.out
    have c3 := cellN (i := 3) hblk rfl
    clear hn hall F h18 hblk
    unfold FrR
    go_simp
    have F := HF.out
    have hn := HNN.out
    exact hK _ _ ⟨_, _, _, _, _, _, _, _, _, _, _, _, _, _, _, _, _, _, _, _, rfl, ⟨by rw [Array.size_setIfInBounds]; exact F.sz, fun h => F.f0 (kz l 8 0 h), fun h => F.f1 (kz l 8 1 h), fun h => F.f2 (kz l 8 2 h), fun h => F.f3 (kz l 8 3 h), fun h => F.f4 (kz l 8 4 h), fun h => F.f5 (kz l 8 5 h), fun h => F.f6 (kz l 8 6 h), fun h => F.f7 (kz l 8 7 h), fun _ => rfl, fun h => F.f9 (kz l 8 9 h), fun h => F.f10 (kz l 8 10 h), fun h => F.f12 (kz l 8 12 h), fun h => F.f13 (kz l 8 13 h), fun h => F.f14 (kz l 8 14 h), fun h => F.f15 (kz l 8 15 h), fun h h2 => F.c11 (kz l 8 11 h) (kz l 8 18 h2), fun h h2 => F.c16 (kz l 8 16 h) (kz l 8 18 h2), fun h h2 => F.c17 (kz l 8 17 h) (kz l 8 18 h2), fun h => F.c18 (kz l 8 18 h), fun h => pMono (F.d11 (kz l 8 11 h)), fun h => have ⟨x0, x1, x2, x3, x4, x5, x6⟩ := F.d16 (kz l 8 16 h); ⟨pMono x0, pMono x1, pMono x2, pMono x3, pMono x4, pMono x5, pMono x6⟩, fun h => pMono (F.d17 (kz l 8 17 h)), fun h => have ⟨x0, x1⟩ := F.d18 (kz l 8 18 h); ⟨pMono x0, pMono x1⟩, fun h => pMono (F.d19 (kz l 8 19 h)), fun h => F.base (kz l 8 18 h), F.bw, fun h => F.p0 (kz l 8 19 h), fun h => F.p1 (kz l 8 19 h)⟩⟩
  · intro l a W hI hn hall K hK
    obtain ⟨u3, u13, u14, u15, u16, u17, u18, u19, u20, u21, u22, u23, u24, u25, u26, u27, u28, u29, u30, u31, rfl, F⟩ := hI
    have HF := Lib.hid F
    have HNN := Lib.hid hn
    clear hn hall F
    unfold FrR
    go_simp
    have F := HF.out
    have hn := HNN.out
    exact hK _ _ ⟨_, _, _, _, _, _, _, _, _, _, _, _, _, _, _, _, _, _, _, _, rfl, ⟨by rw [Array.size_setIfInBounds]; exact F.sz, fun h => F.f0 (kz l 9 0 h), fun h => F.f1 (kz l 9 1 h), fun h => F.f2 (kz l 9 2 h), fun h => F.f3 (kz l 9 3 h), fun h => F.f4 (kz l 9 4 h), fun h => F.f5 (kz l 9 5 h), fun h => F.f6 (kz l 9 6 h), fun h => F.f7 (kz l 9 7 h), fun h => F.f8 (kz l 9 8 h), fun _ => rfl, fun h => F.f10 (kz l 9 10 h), fun h => F.f12 (kz l 9 12 h), fun h => F.f13 (kz l 9 13 h), fun h => F.f14 (kz l 9 14 h), fun h => F.f15 (kz l 9 15 h), fun h h2 => F.c11 (kz l 9 11 h) (kz l 9 18 h2), fun h h2 => F.c16 (kz l 9 16 h) (kz l 9 18 h2), fun h h2 => F.c17 (kz l 9 17 h) (kz l 9 18 h2), fun h => F.c18 (kz l 9 18 h), fun h => pMono (F.d11 (kz l 9 11 h)), fun h => have ⟨x0, x1, x2, x3, x4, x5, x6⟩ := F.d16 (kz l 9 16 h); ⟨pMono x0, pMono x1, pMono x2, pMono x3, pMono x4, pMono x5, pMono x6⟩, fun h => pMono (F.d17 (kz l 9 17 h)), fun h => have ⟨x0, x1⟩ := F.d18 (kz l 9 18 h); ⟨pMono x0, pMono x1⟩, fun h => pMono (F.d19 (kz l 9 19 h)), fun h => F.base (kz l 9 18 h), F.bw, fun h => F.p0 (kz l 9 19 h), fun h => F.p1 (kz l 9 19 h)⟩⟩
  · intro l a W hI hn hall K hK
    obtain ⟨u3, u13, u14, u15, u16, u17, u18, u19, u20, u21, u22, u23, u24, u25, u26, u27, u28, u29, u30, u31, rfl, F⟩ := hI
    have HF := Lib.hid F
    have HNN := Lib.hid hn
    obtain rfl := F.f9 (hall { on := 9, ground := Ground.data } (by simp) rfl)
    have h18 : l.getD 18 false = false := by
      cases h : l.getD 18 false with
      | false => rfl
      | true => exact pAbs hn (F.d11 (F.d16 (F.d17 (F.d18 h).2)).2.2.2.2.1)
    have hblk := bl_blk (F.base h18) HX.out
    have c4 := cellN (i := 4) hblk rfl
    have c5 := cellN (i := 5) hblk rfl
    clear hn hall F h18 hblk
    unfold FrR
    go_simp
    have F := HF.out
    have hn := HNN.out
    exact hK _ _ ⟨_, _, _, _, _, _, _, _, _, _, _, _, _, _, _, _, _, _, _, _, rfl, ⟨by rw [Array.size_setIfInBounds]; exact F.sz, fun h => F.f0 (kz l 10 0 h), fun h => F.f1 (kz l 10 1 h), fun h => F.f2 (kz l 10 2 h), fun h => F.f3 (kz l 10 3 h), fun h => F.f4 (kz l 10 4 h), fun h => F.f5 (kz l 10 5 h), fun h => F.f6 (kz l 10 6 h), fun h => F.f7 (kz l 10 7 h), fun h => F.f8 (kz l 10 8 h), fun h => F.f9 (kz l 10 9 h), fun _ => rfl, fun h => F.f12 (kz l 10 12 h), fun h => F.f13 (kz l 10 13 h), fun h => F.f14 (kz l 10 14 h), fun h => F.f15 (kz l 10 15 h), fun h h2 => F.c11 (kz l 10 11 h) (kz l 10 18 h2), fun h h2 => F.c16 (kz l 10 16 h) (kz l 10 18 h2), fun h h2 => F.c17 (kz l 10 17 h) (kz l 10 18 h2), fun h => F.c18 (kz l 10 18 h), fun h => pMono (F.d11 (kz l 10 11 h)), fun h => have ⟨x0, x1, x2, x3, x4, x5, x6⟩ := F.d16 (kz l 10 16 h); ⟨pMono x0, pMono x1, pMono x2, pMono x3, pMono x4, pMono x5, pMono x6⟩, fun h => pMono (F.d17 (kz l 10 17 h)), fun h => have ⟨x0, x1⟩ := F.d18 (kz l 10 18 h); ⟨pMono x0, pMono x1⟩, fun h => pMono (F.d19 (kz l 10 19 h)), fun h => F.base (kz l 10 18 h), F.bw, fun h => F.p0 (kz l 10 19 h), fun h => F.p1 (kz l 10 19 h)⟩⟩
  · intro l a W hI hn hall K hK
    obtain ⟨u3, u13, u14, u15, u16, u17, u18, u19, u20, u21, u22, u23, u24, u25, u26, u27, u28, u29, u30, u31, rfl, F⟩ := hI
    have HF := Lib.hid F
    have HNN := Lib.hid hn
    have hd10 := hall { on := 10, ground := Ground.data } (by simp) rfl
    obtain rfl := F.f10 hd10
    have h18 : l.getD 18 false = false := by
      cases h : l.getD 18 false with
      | false => rfl
      | true => exact pAbs hn ((F.d16 (F.d17 (F.d18 h).2)).2.2.2.2.1)
    have hbs := F.base h18
    have HBS := Lib.hid hbs
    clear hn hall F h18 hbs
    unfold FrR
    go_simp
    refine (HTY.out _ HBS.out).mono ?_
    rintro e w' ⟨⟨v', rfl, ht'⟩, hb⟩
    obtain ⟨X, x, rfl⟩ := ht'.form
    have hnew : K11 NB d n w' (.agg #[.int .i64 n.ty.kind, .slice X n.ty.args.length x]) := ⟨X, x, rfl, TyAt.move (fun b hb' hl => ⟨by have := HBS.out.size; have := HNB.out; omega, fun _ => rfl⟩) _ _ _ ht'⟩
    have F := HF.out
    have hn := HNN.out
    exact hK _ _ ⟨_, _, _, _, _, _, _, _, _, _, _, _, _, _, _, _, _, _, _, _, rfl, ⟨by rw [Array.size_setIfInBounds]; exact F.sz, fun h => F.f0 (kz l 11 0 h), fun h => F.f1 (kz l 11 1 h), fun h => F.f2 (kz l 11 2 h), fun h => F.f3 (kz l 11 3 h), fun h => F.f4 (kz l 11 4 h), fun h => F.f5 (kz l 11 5 h), fun h => F.f6 (kz l 11 6 h), fun h => F.f7 (kz l 11 7 h), fun h => F.f8 (kz l 11 8 h), fun h => F.f9 (kz l 11 9 h), fun h => F.f10 (kz l 11 10 h), fun h => F.f12 (kz l 11 12 h), fun h => F.f13 (kz l 11 13 h), fun h => F.f14 (kz l 11 14 h), fun h => F.f15 (kz l 11 15 h), fun _ _ => hnew, fun h h2 => (F.c16 (kz l 11 16 h) (kz l 11 18 h2)).below hb, fun h h2 => (F.c17 (kz l 11 17 h) (kz l 11 18 h2)).below hb, fun h => (F.c18 (kz l 11 18 h)).below hb, fun _ => pMono hd10, fun h => have ⟨x0, x1, x2, x3, x4, x5, x6⟩ := F.d16 (kz l 11 16 h); ⟨pMono x0, pMono x1, pMono x2, pMono x3, pMono x4, pMono x5, pMono x6⟩, fun h => pMono (F.d17 (kz l 11 17 h)), fun h => have ⟨x0, x1⟩ := F.d18 (kz l 11 18 h); ⟨pMono x0, pMono x1⟩, fun h => pMono (F.d19 (kz l 11 19 h)), fun h => bl_tr (F.base (kz l 11 18 h)) hb, F.bw.trans (hb.mono F.bw.size), fun h => F.p0 (kz l 11 19 h), fun h => F.p1 (kz l 11 19 h)⟩⟩
  · intro l a W hI hn hall K hK
    obtain ⟨u3, u13, u14, u15, u16, u17, u18, u19, u20, u21, u22, u23, u24, u25, u26, u27, u28, u29, u30, u31, rfl, F⟩ := hI
    have HF := Lib.hid F
    have HNN := Lib.hid hn
    clear hn hall F
    unfold FrR
    go_simp
    have F := HF.out
    have hn := HNN.out
    exact hK _ _ ⟨_, _, _, _, _, _, _, _, _, _, _, _, _, _, _, _, _, _, _, _, rfl, ⟨by rw [Array.size_setIfInBounds]; exact F.sz, fun h => F.f0 (kz l 12 0 h), fun h => F.f1 (kz l 12 1 h), fun h => F.f2 (kz l 12 2 h), fun h => F.f3 (kz l 12 3 h), fun h => F.f4 (kz l 12 4 h), fun h => F.f5 (kz l 12 5 h), fun h => F.f6 (kz l 12 6 h), fun h => F.f7 (kz l 12 7 h), fun h => F.f8 (kz l 12 8 h), fun h => F.f9 (kz l 12 9 h), fun h => F.f10 (kz l 12 10 h), fun _ => rfl, fun h => F.f13 (kz l 12 13 h), fun h => F.f14 (kz l 12 14 h), fun h => F.f15 (kz l 12 15 h), fun h h2 => F.c11 (kz l 12 11 h) (kz l 12 18 h2), fun h h2 => F.c16 (kz l 12 16 h) (kz l 12 18 h2), fun h h2 => F.c17 (kz l 12 17 h) (kz l 12 18 h2), fun h => F.c18 (kz l 12 18 h), fun h => pMono (F.d11 (kz l 12 11 h)), fun h => have ⟨x0, x1, x2, x3, x4, x5, x6⟩ := F.d16 (kz l 12 16 h); ⟨pMono x0, pMono x1, pMono x2, pMono x3, pMono x4, pMono x5, pMono x6⟩, fun h => pMono (F.d17 (kz l 12 17 h)), fun h => have ⟨x0, x1⟩ := F.d18 (kz l 12 18 h); ⟨pMono x0, pMono x1⟩, fun h => pMono (F.d19 (kz l 12 19 h)), fun h => F.base (kz l 12 18 h), F.bw, fun h => F.p0 (kz l 12 19 h), fun h => F.p1 (kz l 12 19 h)⟩⟩
  · intro l a W hI hn hall K hK
    obtain ⟨u3, u13, u14, u15, u16, u17, u18, u19, u20, u21, u22, u23, u24, u25, u26, u27, u28, u29, u30, u31, rfl, F⟩ := hI
    have HF := Lib.hid F
    have HNN := Lib.hid hn
    obtain rfl := F.f12 (hall { on := 12, ground := Ground.data } (by simp) rfl)
    have h18 : l.getD 18 false = false := by
      cases h : l.getD 18 false with
      | false => rfl
      | true => exact pAbs hn ((F.d16 (F.d17 (F.d18 h).2)).2.2.2.2.2.1)
    have hblk := bl_blk (F.base h18) HX.out
    have c6 := cellN (i := 6) hblk rfl
    have c7 := cellN (i := 7) hblk rfl
    have c8 := cellN (i := 8) hblk rfl
    have c9 := cellN (i := 9) hblk rfl
    clear hn hall F h18 hblk
    unfold FrR
    go_simp
    have F := HF.out
    have hn := HNN.out
    exact hK _ _ ⟨_, _, _, _, _, _, _, _, _, _, _, _, _, _, _, _, _, _, _, _, rfl, ⟨by rw [Array.size_setIfInBounds]; exact F.sz, fun h => F.f0 (kz l 13 0 h), fun h => F.f1 (kz l 13 1 h), fun h => F.f2 (kz l 13 2 h), fun h => F.f3 (kz l 13 3 h), fun h => F.f4 (kz l 13 4 h), fun h => F.f5 (kz l 13 5 h), fun h => F.f6 (kz l 13 6 h), fun h => F.f7 (kz l 13 7 h), fun h => F.f8 (kz l 13 8 h), fun h => F.f9 (kz l 13 9 h), fun h => F.f10 (kz l 13 10 h), fun h => F.f12 (kz l 13 12 h), fun _ => rfl, fun h => F.f14 (kz l 13 14 h), fun h => F.f15 (kz l 13 15 h), fun h h2 => F.c11 (kz l 13 11 h) (kz l 13 18 h2), fun h h2 => F.c16 (kz l 13 16 h) (kz l 13 18 h2), fun h h2 => F.c17 (kz l 13 17 h) (kz l 13 18 h2), fun h => F.c18 (kz l 13 18 h), fun h => pMono (F.d11 (kz l 13 11 h)), fun h => have ⟨x0, x1, x2, x3, x4, x5, x6⟩ := F.d16 (kz l 13 16 h); ⟨pMono x0, pMono x1, pMono x2, pMono x3, pMono x4, pMono x5, pMono x6⟩, fun h => pMono (F.d17 (kz l 13 17 h)), fun h => have ⟨x0, x1⟩ := F.d18 (kz l 13 18 h); ⟨pMono x0, pMono x1⟩, fun h => pMono (F.d19 (kz l 13 19 h)), fun h => F.base (kz l 13 18 h), F.bw, fun h => F.p0 (kz l 13 19 h), fun h => F.p1 (kz l 13 19 h)⟩⟩
  · intro l a W hI hn hall K hK
    obtain ⟨u3, u13, u14, u15, u16, u17, u18, u19, u20, u21, u22, u23, u24, u25, u26, u27, u28, u29, u30, u31, rfl, F⟩ := hI
    have HF := Lib.hid F
    have HNN := Lib.hid hn
    clear hn hall F
    unfold FrR
    go_simp
    have F := HF.out
    have hn := HNN.out
    exact hK _ _ ⟨_, _, _, _, _, _, _, _, _, _, _, _, _, _, _, _, _, _, _, _, rfl, ⟨by rw [Array.size_setIfInBounds]; exact F.sz, fun h => F.f0 (kz l 14 0 h), fun h => F.f1 (kz l 14 1 h), fun h => F.f2 (kz l 14 2 h), fun h => F.f3 (kz l 14 3 h), fun h => F.f4 (kz l 14 4 h), fun h => F.f5 (kz l 14 5 h), fun h => F.f6 (kz l 14 6 h), fun h => F.f7 (kz l 14 7 h), fun h => F.f8 (kz l 14 8 h), fun h => F.f9 (kz l 14 9 h), fun h => F.f10 (kz l 14 10 h), fun h => F.f12 (kz l 14 12 h), fun h => F.f13 (kz l 14 13 h), fun _ => rfl, fun h => F.f15 (kz l 14 15 h), fun h h2 => F.c11 (kz l 14 11 h) (kz l 14 18 h2), fun h h2 => F.c16 (kz l 14 16 h) (kz l 14 18 h2), fun h h2 => F.c17 (kz l 14 17 h) (kz l 14 18 h2), fun h => F.c18 (kz l 14 18 h), fun h => pMono (F.d11 (kz l 14 11 h)), fun h => have ⟨x0, x1, x2, x3, x4, x5, x6⟩ := F.d16 (kz l 14 16 h); ⟨pMono x0, pMono x1, pMono x2, pMono x3, pMono x4, pMono x5, pMono x6⟩, fun h => pMono (F.d17 (kz l 14 17 h)), fun h => have ⟨x0, x1⟩ := F.d18 (kz l 14 18 h); ⟨pMono x0, pMono x1⟩, fun h => pMono (F.d19 (kz l 14 19 h)), fun h => F.base (kz l 14 18 h), F.bw, fun h => F.p0 (kz l 14 19 h), fun h => F.p1 (kz l 14 19 h)⟩⟩
  · intro l a W hI hn hall K hK
    obtain ⟨u3, u13, u14, u15, u16, u17, u18, u19, u20, u21, u22, u23, u24, u25, u26, u27, u28, u29, u30, u31, rfl, F⟩ := hI
    have HF := Lib.hid F
    have HNN := Lib.hid hn
    obtain rfl := F.f14 (hall { on := 14, ground := Ground.data } (by simp) rfl)
    have h18 : l.getD 18 false = false := by
      cases h : l.getD 18 false with
      | false => rfl
      | true => exact pAbs hn ((F.d16 (F.d17 (F.d18 h).2)).2.2.2.2.2.2)
    have hblk := bl_blk (F.base h18) HX.out
    have c10 := cellN (i := 10) hblk rfl
    have c11 := cellN (i := 11) hblk rfl
    have c12 := cellN (i := 12) hblk rfl
    have c13 := cellN (i := 13) hblk rfl
    clear hn hall F h18 hblk
    unfold FrR
    go_simp
    have F := HF.out
    have hn := HNN.out
    exact hK _ _ ⟨_, _, _, _, _, _, _, _, _, _, _, _, _, _, _, _, _, _, _, _, rfl, ⟨by rw [Array.size_setIfInBounds]; exact F.sz, fun h => F.f0 (kz l 15 0 h), fun h => F.f1 (kz l 15 1 h), fun h => F.f2 (kz l 15 2 h), fun h => F.f3 (kz l 15 3 h), fun h => F.f4 (kz l 15 4 h), fun h => F.f5 (kz l 15 5 h), fun h => F.f6 (kz l 15 6 h), fun h => F.f7 (kz l 15 7 h), fun h => F.f8 (kz l 15 8 h), fun h => F.f9 (kz l 15 9 h), fun h => F.f10 (kz l 15 10 h), fun h => F.f12 (kz l 15 12 h), fun h => F.f13 (kz l 15 13 h), fun h => F.f14 (kz l 15 14 h), fun _ => rfl, fun h h2 => F.c11 (kz l 15 11 h) (kz l 15 18 h2), fun h h2 => F.c16 (kz l 15 16 h) (kz l 15 18 h2), fun h h2 => F.c17 (kz l 15 17 h) (kz l 15 18 h2), fun h => F.c18 (kz l 15 18 h), fun h => pMono (F.d11 (kz l 15 11 h)), fun h => have ⟨x0, x1, x2, x3, x4, x5, x6⟩ := F.d16 (kz l 15 16 h); ⟨pMono x0, pMono x1, pMono x2, pMono x3, pMono x4, pMono x5, pMono x6⟩, fun h => pMono (F.d17 (kz l 15 17 h)), fun h => have ⟨x0, x1⟩ := F.d18 (kz l 15 18 h); ⟨pMono x0, pMono x1⟩, fun h => pMono (F.d19 (kz l 15 19 h)), fun h => F.base (kz l 15 18 h), F.bw, fun h => F.p0 (kz l 15 19 h), fun h => F.p1 (kz l 15 19 h)⟩⟩
  · intro l a W hI hn hall K hK
    obtain ⟨u3, u13, u14, u15, u16, u17, u18, u19, u20, u21, u22, u23, u24, u25, u26, u27, u28, u29, u30, u31, rfl, F⟩ := hI
    have HF := Lib.hid F
    have HNN := Lib.hid hn
    have hd2 := hall { on := 2, ground := Ground.data } (by simp) rfl
    have hd4 := hall { on := 4, ground := Ground.data } (by simp) rfl
    have hd6 := hall { on := 6, ground := Ground.data } (by simp) rfl
    have hd8 := hall { on := 8, ground := Ground.data } (by simp) rfl
    have hd11 := hall { on := 11, ground := Ground.data } (by simp) rfl
    have hd13 := hall { on := 13, ground := Ground.data } (by simp) rfl
    have hd15 := hall { on := 15, ground := Ground.data } (by simp) rfl
    have h18 : l.getD 18 false = false := by
      cases h : l.getD 18 false with
      | false => rfl
      | true => exact pAbs hn (F.d17 (F.d18 h).2)
    obtain rfl := F.f2 hd2
    obtain rfl := F.f4 hd4
    obtain rfl := F.f6 hd6
    obtain rfl := F.f8 hd8
    obtain rfl := F.f13 hd13
    obtain rfl := F.f15 hd15
    obtain ⟨Z, z, rfl, h11⟩ := F.c11 hd11 h18
    have hbs := F.base h18
    have hnew : K16 w NB d n IA SA ic sc W (.agg #[.int .i64 n.op, .slice IA n.ins.length ic, .slice SA n.side.length sc, .string ⟨n.text.toArray⟩, .int .i64 n.ty.kind, .slice Z n.ty.args.length z, .int .i64 n.f0, .int .i64 n.f1, .int .i64 n.f2, .int .i64 n.f3, .int .i64 n.e, .int .i64 n.l, .int .i64 n.lt, .bool n.acc]) := ⟨Z, z, rfl, IA, SA, Z, ic, sc, z, rfl, (HI7.out _ hbs).move fun b hb hl => ⟨.inl hb, hl, fun _ => rfl⟩, (HI8.out _ hbs).move fun b hb hl => ⟨.inl hb, hl, fun _ => rfl⟩, TyAt.move (fun b hb' hl => ⟨.inr hb', fun _ => rfl⟩) _ _ _ h11⟩
    have HNEW := Lib.hid hnew
    clear hn hall F h18 h11 hnew hbs
    unfold FrR
    go_simp
    have hnew := HNEW.out
    have F := HF.out
    have hn := HNN.out
    exact hK _ _ ⟨_, _, _, _, _, _, _, _, _, _, _, _, _, _, _, _, _, _, _, _, rfl, ⟨by rw [Array.size_setIfInBounds]; exact F.sz, fun h => F.f0 (kz l 16 0 h), fun h => F.f1 (kz l 16 1 h), fun h => F.f2 (kz l 16 2 h), fun h => F.f3 (kz l 16 3 h), fun h => F.f4 (kz l 16 4 h), fun h => F.f5 (kz l 16 5 h), fun h => F.f6 (kz l 16 6 h), fun h => F.f7 (kz l 16 7 h), fun h => F.f8 (kz l 16 8 h), fun h => F.f9 (kz l 16 9 h), fun h => F.f10 (kz l 16 10 h), fun h => F.f12 (kz l 16 12 h), fun h => F.f13 (kz l 16 13 h), fun h => F.f14 (kz l 16 14 h), fun h => F.f15 (kz l 16 15 h), fun h h2 => F.c11 (kz l 16 11 h) (kz l 16 18 h2), fun _ _ => hnew, fun h h2 => F.c17 (kz l 16 17 h) (kz l 16 18 h2), fun h => F.c18 (kz l 16 18 h), fun h => pMono (F.d11 (kz l 16 11 h)), fun _ => ⟨pMono hd2, pMono hd4, pMono hd6, pMono hd8, pMono hd11, pMono hd13, pMono hd15⟩, fun h => pMono (F.d17 (kz l 16 17 h)), fun h => have ⟨x0, x1⟩ := F.d18 (kz l 16 18 h); ⟨pMono x0, pMono x1⟩, fun h => pMono (F.d19 (kz l 16 19 h)), fun h => F.base (kz l 16 18 h), F.bw, fun h => F.p0 (kz l 16 19 h), fun h => F.p1 (kz l 16 19 h)⟩⟩
  · intro l a W hI hn hall K hK
    obtain ⟨u3, u13, u14, u15, u16, u17, u18, u19, u20, u21, u22, u23, u24, u25, u26, u27, u28, u29, u30, u31, rfl, F⟩ := hI
    have HF := Lib.hid F
    have HNN := Lib.hid hn
    have hd16 := hall { on := 16, ground := Ground.data } (by simp) rfl
    have h18 : l.getD 18 false = false := by
      cases h : l.getD 18 false with
      | false => rfl
      | true => exact pAbs hn ((F.d18 h).2)
    obtain ⟨Z, z, rfl, hg⟩ := F.c16 hd16 h18
    have HG := Lib.hid hg
    clear hn hall F h18 hg
    unfold FrR
    go_simp
    have hb : Below W.heap.size W (W.alloc (.cells #[.int .i64 n.op, .slice IA n.ins.length ic, .slice SA n.side.length sc, .string ⟨n.text.toArray⟩, .int .i64 n.ty.kind, .slice Z n.ty.args.length z, .int .i64 n.f0, .int .i64 n.f1, .int .i64 n.f2, .int .i64 n.f3, .int .i64 n.e, .int .i64 n.l, .int .i64 n.lt, .bool n.acc] 51)) := bl_al (Below.refl _ _) _
    have hnew : K17 w NB d n IA SA ic sc (W.alloc (.cells #[.int .i64 n.op, .slice IA n.ins.length ic, .slice SA n.side.length sc, .string ⟨n.text.toArray⟩, .int .i64 n.ty.kind, .slice Z n.ty.args.length z, .int .i64 n.f0, .int .i64 n.f1, .int .i64 n.f2, .int .i64 n.f3, .int .i64 n.e, .int .i64 n.l, .int .i64 n.lt, .bool n.acc] 51)) (.slice (some ⟨W.heap.size, 0, none⟩) 1 1) := ⟨_, Z, z, rfl, heap_alloc_new W _, HG.out.below hb⟩
    have F := HF.out
    have hn := HNN.out
    exact hK _ _ ⟨_, _, _, _, _, _, _, _, _, _, _, _, _, _, _, _, _, _, _, _, rfl, ⟨by rw [Array.size_setIfInBounds]; exact F.sz, fun h => F.f0 (kz l 17 0 h), fun h => F.f1 (kz l 17 1 h), fun h => F.f2 (kz l 17 2 h), fun h => F.f3 (kz l 17 3 h), fun h => F.f4 (kz l 17 4 h), fun h => F.f5 (kz l 17 5 h), fun h => F.f6 (kz l 17 6 h), fun h => F.f7 (kz l 17 7 h), fun h => F.f8 (kz l 17 8 h), fun h => F.f9 (kz l 17 9 h), fun h => F.f10 (kz l 17 10 h), fun h => F.f12 (kz l 17 12 h), fun h => F.f13 (kz l 17 13 h), fun h => F.f14 (kz l 17 14 h), fun h => F.f15 (kz l 17 15 h), fun h h2 => (F.c11 (kz l 17 11 h) (kz l 17 18 h2)).below hb, fun h h2 => (F.c16 (kz l 17 16 h) (kz l 17 18 h2)).below hb, fun _ _ => hnew, fun h => (F.c18 (kz l 17 18 h)).below hb, fun h => pMono (F.d11 (kz l 17 11 h)), fun h => have ⟨x0, x1, x2, x3, x4, x5, x6⟩ := F.d16 (kz l 17 16 h); ⟨pMono x0, pMono x1, pMono x2, pMono x3, pMono x4, pMono x5, pMono x6⟩, fun _ => pMono hd16, fun h => have ⟨x0, x1⟩ := F.d18 (kz l 17 18 h); ⟨pMono x0, pMono x1⟩, fun h => pMono (F.d19 (kz l 17 19 h)), fun h => bl_tr (F.base (kz l 17 18 h)) hb, F.bw.trans (hb.mono F.bw.size), fun h => F.p0 (kz l 17 19 h), fun h => F.p1 (kz l 17 19 h)⟩⟩
  · intro l a W hI hn hall K hK
    obtain ⟨u3, u13, u14, u15, u16, u17, u18, u19, u20, u21, u22, u23, u24, u25, u26, u27, u28, u29, u30, u31, rfl, F⟩ := hI
    have HF := Lib.hid F
    have HNN := Lib.hid hn
    have hd0 := hall { on := 0, ground := Ground.data } (by simp) rfl
    have hd17 := hall { on := 17, ground := Ground.data } (by simp) rfl
    have h18 : l.getD 18 false = false := by
      cases h : l.getD 18 false with
      | false => rfl
      | true => exact pAbs hn (h)
    obtain rfl := F.f0 hd0
    obtain ⟨B, Z, z, rfl, hB, hg⟩ := F.c17 hd17 h18
    have hbs := F.base h18
    obtain ⟨xs9, hown9, hn9⟩ := HO.out.keep hbs
    have e3 := HNB.out
    have e4 := HPL.out
    have e5 := HWN.out
    have hsz := hbs.size
    refine wp_append_lies W _ _ 22 rfl (w.heap.size + 1) 51 i0 (.agg #[.int .i64 0, .slice none 0 0, .slice none 0 0, .string ⟨#[]⟩, .int .i64 0, .slice none 0 0, .int .i64 0, .int .i64 0, .int .i64 0, .int .i64 0, .int .i64 0, .int .i64 0, .int .i64 0, .bool false]) 14 168 Tryz.underlying22 hi hq0 hq1 hq2 rfl (by decide) (.slice PA pre.length pc) pre.length xs9 rfl hown9 ⟨B, 0, none⟩ 1 1 [.int .i64 n.op, .slice IA n.ins.length ic, .slice SA n.side.length sc, .string ⟨n.text.toArray⟩, .int .i64 n.ty.kind, .slice Z n.ty.args.length z, .int .i64 n.f0, .int .i64 n.f1, .int .i64 n.f2, .int .i64 n.f3, .int .i64 n.e, .int .i64 n.l, .int .i64 n.lt, .bool n.acc] rfl rfl (World.news_of_block (cs := #[.int .i64 n.op, .slice IA n.ins.length ic, .slice SA n.side.length sc, .string ⟨n.text.toArray⟩, .int .i64 n.ty.kind, .slice Z n.ty.args.length z, .int .i64 n.f0, .int .i64 n.f1, .int .i64 n.f2, .int .i64 n.f3, .int .i64 n.e, .int .i64 n.l, .int .i64 n.lt, .bool n.acc]) (t := 51) (fr := (0, 0)) hB) (by simp [Value.oneCell']) (by decide) (by unfold maxLen; omega) (by omega) (by omega) _ rfl ?_
    intro gg cap w' hown' hgr hat' hlt'
    have hnew : K18 w d pre n w' (.slice (some ⟨gg, 0, none⟩) (pre.length + 1) cap) := by
      refine ⟨_, _, rfl, NsR.more hown9 hn9 (hg.move fun b hb hl => ⟨fun e => ?_, hl, fun _ => rfl⟩) hown' hgr ?_⟩
      · have := HOL.out b e.symm
        omega
      · rcases hat' with h | h
        · exact .inl h.symm
        · exact .inr ⟨gg, rfl, by omega⟩
    have F := HF.out
    have hn := HNN.out
    exact hK _ _ ⟨_, _, _, _, _, _, _, _, _, _, _, _, _, _, _, _, _, _, _, _, rfl, ⟨by rw [Array.size_setIfInBounds]; exact F.sz, fun h => F.f0 (kz l 18 0 h), fun h => F.f1 (kz l 18 1 h), fun h => F.f2 (kz l 18 2 h), fun h => F.f3 (kz l 18 3 h), fun h => F.f4 (kz l 18 4 h), fun h => F.f5 (kz l 18 5 h), fun h => F.f6 (kz l 18 6 h), fun h => F.f7 (kz l 18 7 h), fun h => F.f8 (kz l 18 8 h), fun h => F.f9 (kz l 18 9 h), fun h => F.f10 (kz l 18 10 h), fun h => F.f12 (kz l 18 12 h), fun h => F.f13 (kz l 18 13 h), fun h => F.f14 (kz l 18 14 h), fun h => F.f15 (kz l 18 15 h), fun _ h => pAbs2 (by rw [F.sz]; decide) h, fun _ h => pAbs2 (by rw [F.sz]; decide) h, fun _ h => pAbs2 (by rw [F.sz]; decide) h, fun _ => hnew, fun h => pMono (F.d11 (kz l 18 11 h)), fun h => have ⟨x0, x1, x2, x3, x4, x5, x6⟩ := F.d16 (kz l 18 16 h); ⟨pMono x0, pMono x1, pMono x2, pMono x3, pMono x4, pMono x5, pMono x6⟩, fun h => pMono (F.d17 (kz l 18 17 h)), fun _ => ⟨pMono hd0, pMono hd17⟩, fun h => pMono (F.d19 (kz l 18 19 h)), fun h => pAbs2 (by rw [F.sz]; decide) h, F.bw.grown hgr F.bw.size (fun k hk => Nat.le_trans (by omega) (hown9.lt k hk).1), fun h => F.p0 (kz l 18 19 h), fun h => pAbs hn (F.d19 (kz l 18 19 h))⟩⟩
  · intro l a W hI hn hall K hK
    obtain ⟨u3, u13, u14, u15, u16, u17, u18, u19, u20, u21, u22, u23, u24, u25, u26, u27, u28, u29, u30, u31, rfl, F⟩ := hI
    have HF := Lib.hid F
    have HNN := Lib.hid hn
    have hd18 := hall { on := 18, ground := Ground.data } (by simp) rfl
    clear hn hall F
    unfold FrR
    go_simp
    have F := HF.out
    have hn := HNN.out
    exact hK _ _ ⟨_, _, _, _, _, _, _, _, _, _, _, _, _, _, _, _, _, _, _, _, rfl, ⟨by rw [Array.size_setIfInBounds]; exact F.sz, fun h => F.f0 (kz l 19 0 h), fun h => F.f1 (kz l 19 1 h), fun h => F.f2 (kz l 19 2 h), fun h => F.f3 (kz l 19 3 h), fun h => F.f4 (kz l 19 4 h), fun h => F.f5 (kz l 19 5 h), fun h => F.f6 (kz l 19 6 h), fun h => F.f7 (kz l 19 7 h), fun h => F.f8 (kz l 19 8 h), fun h => F.f9 (kz l 19 9 h), fun h => F.f10 (kz l 19 10 h), fun h => F.f12 (kz l 19 12 h), fun h => F.f13 (kz l 19 13 h), fun h => F.f14 (kz l 19 14 h), fun h => F.f15 (kz l 19 15 h), fun h h2 => F.c11 (kz l 19 11 h) (kz l 19 18 h2), fun h h2 => F.c16 (kz l 19 16 h) (kz l 19 18 h2), fun h h2 => F.c17 (kz l 19 17 h) (kz l 19 18 h2), fun h => F.c18 (kz l 19 18 h), fun h => pMono (F.d11 (kz l 19 11 h)), fun h => have ⟨x0, x1, x2, x3, x4, x5, x6⟩ := F.d16 (kz l 19 16 h); ⟨pMono x0, pMono x1, pMono x2, pMono x3, pMono x4, pMono x5, pMono x6⟩, fun h => pMono (F.d17 (kz l 19 17 h)), fun h => have ⟨x0, x1⟩ := F.d18 (kz l 19 18 h); ⟨pMono x0, pMono x1⟩, fun _ => pMono hd18, fun h => F.base (kz l 19 18 h), F.bw, fun h => pAbs2 (by rw [F.sz]; decide) h, fun _ => rfl⟩⟩
set_option maxRecDepth 100000 in
theorem nodes_region (t0 t1 t2 t4 t6 t7 t8 t9 t10 t11 t12 t32 t33 : Value) (w : World) (d NB : Nat) (PA : Option Addr) (pc : Nat) (pre : List Gn) (n : Gn) (IA SA A : Option Addr) (ic sc c : Nat) (W1 : World) (Q : Exit → Act → World → Prop) (id : Nat)
    (hx : W1.heap[NB]? = some (.cells #[.int .i64 n.op, .slice IA n.ins.length ic, .slice SA n.side.length sc, .string ⟨n.text.toArray⟩, .int .i64 n.ty.kind, .slice A n.ty.args.length c, .int .i64 n.f0, .int .i64 n.f1, .int .i64 n.f2, .int .i64 n.f3, .int .i64 n.e, .int .i64 n.l, .int .i64 n.lt, .bool n.acc] 83 (0, 0))) (hNB : W1.heap.size = NB + 1) (hwN : w.heap.size ≤ NB) (hO : NsR W1 (w.heap.size + 1) d (.slice PA pre.length pc) pre) (hOl : ∀ g, (Value.slice PA pre.length pc).ownBlock = some g → w.heap.size ≤ g ∧ g < NB) (hpl : pre.length ≤ 100)
    (HI7 : Hid (∀ W, Below W1.heap.size W1 W → IntsAt W (fun b => b < w.heap.size) (.slice IA n.ins.length ic) n.ins)) (HI8 : Hid (∀ W, Below W1.heap.size W1 W → IntsAt W (fun b => b < w.heap.size) (.slice SA n.side.length sc) n.side))
    (HTY : Hid (∀ W, Below W1.heap.size W1 W → Calls Tryz.prog 53 #[.agg #[.int .i64 n.ty.kind, .slice A n.ty.args.length c]] W fun e w' => (∃ v', e = .returned v' ∧ TyAt w' (fun b => W.heap.size ≤ b) d v' n.ty) ∧ Below W.heap.size W w'))
    (hbw : Below w.heap.size w W1) (v13 v14 v15 v16 v17 v18 v19 v20 v21 v22 v23 v24 v25 v26 v27 v28 v29 v30 v31 : Value)
    (he : ∀ u3 u13 u14 u15 u16 u17 u18 u19 u20 u21 u22 u23 u24 u25 u26 u27 u28 u29 u30 u31 W GA gc, u3 = .slice GA (pre.length + 1) gc → NsR W (w.heap.size + 1) d (.slice GA (pre.length + 1) gc) (pre ++ [n]) → Below w.heap.size w W → Q .normal (FrR t0 t1 t2 t4 t6 t7 t8 t9 t10 t11 t12 t32 t33 NB u3 u13 u14 u15 u16 u17 u18 u19 u20 u21 u22 u23 u24 u25 u26 u27 u28 u29 u30 u31) W) :
    (Code.region id opsR.toArray true).wp Tryz.prog Q (FrR t0 t1 t2 t4 t6 t7 t8 t9 t10 t11 t12 t32 t33 NB (.slice PA pre.length pc) v13 v14 v15 v16 v17 v18 v19 v20 v21 v22 v23 v24 v25 v26 v27 v28 v29 v30 v31) W1 := by
  refine region_inv (InvR t0 t1 t2 t4 t6 t7 t8 t9 t10 t11 t12 t32 t33 w d NB PA pc pre n IA SA A ic sc c W1) (by kernel_rfl) (by decide +kernel) ?_ (fun l a w ⟨_, _, _, _, _, _, _, _, _, _, _, _, _, _, _, _, _, _, _, _, _, F⟩ => F.sz) (inv_stepsR t0 t1 t2 t4 t6 t7 t8 t9 t10 t11 t12 t32 t33 w d NB PA pc pre n IA SA A ic sc c W1 Q hx hNB hwN hO hOl hpl HI7 HI8 HTY) ?_
  · refine ⟨_, _, _, _, _, _, _, _, _, _, _, _, _, _, _, _, _, _, _, _, rfl, ?_⟩
    have no : ∀ {i : Nat} {p : Prop}, (Array.replicate opsR.length false).getD i false = true → p := fun h => by rw [pRep] at h; cases h
    exact ⟨by simp [opsR], fun h => no h, fun h => no h, fun h => no h, fun h => no h, fun h => no h, fun h => no h, fun h => no h, fun h => no h, fun h => no h, fun h => no h, fun h => no h, fun h => no h, fun h => no h, fun h => no h, fun h => no h, fun h _ => no h, fun h _ => no h, fun h _ => no h, fun h => no h, fun h => no h, fun h => no h, fun h => no h, fun h => no h, fun h => no h, fun _ => (Below.refl _ _).drew, hbw.drew, fun _ => rfl, fun h => no h⟩
  · rintro l a W ⟨u3, u13, u14, u15, u16, u17, u18, u19, u20, u21, u22, u23, u24, u25, u26, u27, u28, u29, u30, u31, rfl, F⟩ hall
    have hl : ∀ i, i < 20 → l.getD i false = true := fun i hi => hall i (by simpa [opsR] using hi)
    obtain ⟨GA, gc, e, h⟩ := F.c18 (hl 18 (by decide))
    exact he _ _ _ _ _ _ _ _ _ _ _ _ _ _ _ _ _ _ _ _ W GA gc ((F.p1 (hl 19 (by decide))).trans e) h F.bw
end Go.Proofs.YtllnamhgnbdkmaaGreatDoor
namespace Go.Proofs.YtllnamhgnbdkmaaGreatDoor
open Go.RowKit Go.Shelf Go.Sort
set_option maxRecDepth 100000 in
set_option maxHeartbeats 8000000 in
theorem nodes_any (w : World) (S : Nat → Prop) (d : Nat) (v : Value) (l : List Gn) (h : GsAt w S d v l) (hl : l.length ≤ 100) (hs : ∀ n ∈ l, Lw.Nar 30 n.ty) :
    Calls Tryz.prog 19 #[.agg #[v]] w fun e w' => (∃ v', e = .returned v' ∧ GsAt w' (fun _ => True) d v' l) ∧ Below w.heap.size w w' := by
  obtain ⟨GA, gc, rfl⟩ := h.form
  have H := Lib.hid h
  have HS := Lib.hid hs
  have HA0 : Hid (Below w.heap.size w (w.alloc (.cells #[.slice GA l.length gc] 27))) := Lib.hid (bl_al (Below.refl _ _) _)
  clear h hs
  go_enter Tryz.func19, Tryz.ntmps19
  go_wp2_with (fail)
  go_loopw [3, 9] (fun lv iv wr => ∃ (pre : List Gn) (PA : Option Addr) (pc : Nat), lv = .slice PA pre.length pc ∧ iv = .int .i64 (pre.length : Int) ∧ pre.length ≤ l.length ∧ Hid (pre = l.take pre.length) ∧ Hid (NsR wr (w.heap.size + 1) d (.slice PA pre.length pc) pre) ∧ Hid (Below w.heap.size w wr) ∧ w.heap.size + 1 ≤ wr.heap.size) (fun _ iv _ => l.length - (intOf iv).toNat)
  case atStart => exact ⟨[], none, 0, rfl, rfl, Nat.zero_le _, Lib.hid rfl, Lib.hid (NsR.nil _ _ _), HA0, by simp⟩
  case round =>
    obtain ⟨pre, PA, pc, rfl, rfl, hj, HPRE, HO, HB, hwr⟩ := hrel
    clear HA0
    by_cases hlt : pre.length < l.length
    · have hat := H.out.at hlt
      have htk : l.take (pre.length + 1) = pre ++ [l[pre.length]] := by rw [List.take_add_one, List.getElem?_eq_getElem hlt, ← HPRE.out]; rfl
      have HTK := Lib.hid htk
      have hsm := HS.out _ (List.getElem_mem hlt)
      have hjl : (pre.length : Int) < (l.length : Int) := by omega
      clear htk
      generalize l[pre.length] = n at *
      obtain ⟨b, o, rfl, hbl, hS, IA, SA, A, ic, sc, c, hN, a0, a1, a2, a3, a4, a5, a6, a7, a8, a9, a10, a11, a12, a13⟩ := hat
      have a0 := (HB.out.cell (p := ⟨b, o + pre.length * 14, none⟩) hbl).trans a0
      have a1 := (HB.out.cell (p := ⟨b, o + pre.length * 14 + 1, none⟩) hbl).trans a1
      have a2 := (HB.out.cell (p := ⟨b, o + pre.length * 14 + 2, none⟩) hbl).trans a2
      have a3 := (HB.out.cell (p := ⟨b, o + pre.length * 14 + 3, none⟩) hbl).trans a3
      have a4 := (HB.out.cell (p := ⟨b, o + pre.length * 14 + 4, none⟩) hbl).trans a4
      have a5 := (HB.out.cell (p := ⟨b, o + pre.length * 14 + 5, none⟩) hbl).trans a5
      have a6 := (HB.out.cell (p := ⟨b, o + pre.length * 14 + 6, none⟩) hbl).trans a6
      have a7 := (HB.out.cell (p := ⟨b, o + pre.length * 14 + 7, none⟩) hbl).trans a7
      have a8 := (HB.out.cell (p := ⟨b, o + pre.length * 14 + 8, none⟩) hbl).trans a8
      have a9 := (HB.out.cell (p := ⟨b, o + pre.length * 14 + 9, none⟩) hbl).trans a9
      have a10 := (HB.out.cell (p := ⟨b, o + pre.length * 14 + 10, none⟩) hbl).trans a10
      have a11 := (HB.out.cell (p := ⟨b, o + pre.length * 14 + 11, none⟩) hbl).trans a11
      have a12 := (HB.out.cell (p := ⟨b, o + pre.length * 14 + 12, none⟩) hbl).trans a12
      have a13 := (HB.out.cell (p := ⟨b, o + pre.length * 14 + 13, none⟩) hbl).trans a13
      have hgi : IntsAt w S (.slice IA n.ins.length ic) n.ins ∧ IntsAt w S (.slice SA n.side.length sc) n.side ∧ TyAt w S d (.agg #[.int .i64 n.ty.kind, .slice A n.ty.args.length c]) n.ty := by
        obtain ⟨_, _, _, _, _, _, e, h1, h2, h3⟩ := hN
        unfold Gn.val at e
        injection e with e
        simp only [Array.mk.injEq, List.cons.injEq, Value.slice.injEq, and_true, true_and] at e
        obtain ⟨⟨rfl, rfl⟩, ⟨rfl, rfl⟩, rfl, rfl⟩ := e
        exact ⟨h1, h2, h3⟩
      have HGI := Lib.hid hgi
      have HSM := Lib.hid hsm
      have hB1 : Below wr.heap.size wr (wr.alloc (.cells #[.int .i64 n.op, .slice IA n.ins.length ic, .slice SA n.side.length sc, .string ⟨n.text.toArray⟩, .int .i64 n.ty.kind, .slice A n.ty.args.length c, .int .i64 n.f0, .int .i64 n.f1, .int .i64 n.f2, .int .i64 n.f3, .int .i64 n.e, .int .i64 n.l, .int .i64 n.lt, .bool n.acc] 83)) := bl_al (Below.refl _ _) _
      have hx : (wr.alloc (.cells #[.int .i64 n.op, .slice IA n.ins.length ic, .slice SA n.side.length sc, .string ⟨n.text.toArray⟩, .int .i64 n.ty.kind, .slice A n.ty.args.length c, .int .i64 n.f0, .int .i64 n.f1, .int .i64 n.f2, .int .i64 n.f3, .int .i64 n.e, .int .i64 n.l, .int .i64 n.lt, .bool n.acc] 83)).heap[wr.heap.size]? = some (.cells #[.int .i64 n.op, .slice IA n.ins.length ic, .slice SA n.side.length sc, .string ⟨n.text.toArray⟩, .int .i64 n.ty.kind, .slice A n.ty.args.length c, .int .i64 n.f0, .int .i64 n.f1, .int .i64 n.f2, .int .i64 n.f3, .int .i64 n.e, .int .i64 n.l, .int .i64 n.lt, .bool n.acc] 83 (0, 0)) := heap_alloc_new wr _
      have hbr := HB.out.size
      clear hS hN hsm hgi
      go_upto_region 5 with (fail)
      clear a0 a1 a2 a3 a4 a5 a6 a7 a8 a9 a10 a11 a12 a13
      have hB1w := HB.out.trans (hB1.mono hbr)
      have hs1 : (wr.alloc (.cells #[.int .i64 n.op, .slice IA n.ins.length ic, .slice SA n.side.length sc, .string ⟨n.text.toArray⟩, .int .i64 n.ty.kind, .slice A n.ty.args.length c, .int .i64 n.f0, .int .i64 n.f1, .int .i64 n.f2, .int .i64 n.f3, .int .i64 n.e, .int .i64 n.l, .int .i64 n.lt, .bool n.acc] 83)).heap.size = wr.heap.size + 1 := by simp
      generalize wr.alloc (.cells #[.int .i64 n.op, .slice IA n.ins.length ic, .slice SA n.side.length sc, .string ⟨n.text.toArray⟩, .int .i64 n.ty.kind, .slice A n.ty.args.length c, .int .i64 n.f0, .int .i64 n.f1, .int .i64 n.f2, .int .i64 n.f3, .int .i64 n.e, .int .i64 n.l, .int .i64 n.lt, .bool n.acc] 83) = W1 at *
      have HB1 := Lib.hid hB1
      have HB1w := Lib.hid hB1w
      have HX := Lib.hid hx
      clear hB1 hx hB1w
      have HI7 : Hid (∀ W, Below W1.heap.size W1 W → IntsAt W (fun b => b < w.heap.size) (.slice IA n.ins.length ic) n.ins) := Lib.hid fun W hb => HGI.out.1.move fun b hb' hl => ⟨hl, Nat.lt_of_lt_of_le hl (HB1w.out.trans (hb.mono HB1w.out.size)).size, fun o => World.cell?_of_block ((HB1w.out.trans (hb.mono HB1w.out.size)).block b hl)⟩
      have HI8 : Hid (∀ W, Below W1.heap.size W1 W → IntsAt W (fun b => b < w.heap.size) (.slice SA n.side.length sc) n.side) := Lib.hid fun W hb => HGI.out.2.1.move fun b hb' hl => ⟨hl, Nat.lt_of_lt_of_le hl (HB1w.out.trans (hb.mono HB1w.out.size)).size, fun o => World.cell?_of_block ((HB1w.out.trans (hb.mono HB1w.out.size)).block b hl)⟩
      have HTY : Hid (∀ W, Below W1.heap.size W1 W → Calls Tryz.prog 53 #[.agg #[.int .i64 n.ty.kind, .slice A n.ty.args.length c]] W fun e w' => (∃ v', e = .returned v' ∧ TyAt w' (fun b => W.heap.size ≤ b) d v' n.ty) ∧ Below W.heap.size W w') := Lib.hid fun W hb => Lw.typ_any d 30 S _ n.ty W HSM.out (TyAt.move (fun b hb' hl => ⟨hb', fun _ => World.cell?_of_block ((HB1w.out.trans (hb.mono HB1w.out.size)).block b hl)⟩) _ _ _ HGI.out.2.2)
      have hO1 := HO.out.keep HB1.out
      refine nodes_region _ _ _ _ _ _ _ _ _ _ _ _ _ w d wr.heap.size PA pc pre n IA SA A ic sc c W1 _ 5 HX.out hs1 (by omega) hO1 (fun g hg => by have := HO.out.low hg; omega) (by omega) HI7 HI8 HTY HB1w.out _ _ _ _ _ _ _ _ _ _ _ _ _ _ _ _ _ _ _ ?_
      intro u3 u13 u14 u15 u16 u17 u18 u19 u20 u21 u22 u23 u24 u25 u26 u27 u28 u29 u30 u31 W GA gc e3 hns hbw
      subst e3
      have hln : (pre ++ [n]).length = pre.length + 1 := by simp
      have H1 : Hid (pre ++ [n] = l.take (pre ++ [n]).length) := Lib.hid (by rw [hln]; exact HTK.out.symm)
      have H2 : Hid (NsR W (w.heap.size + 1) d (.slice GA (pre ++ [n]).length gc) (pre ++ [n])) := Lib.hid (by rw [hln]; exact hns)
      have hwW : w.heap.size + 1 ≤ W.heap.size := by
        rcases hns with ⟨xs, ho, _⟩
        rcases ho.2 with ⟨h1, h0⟩ | ⟨g, cap, cur, h1, hb, hg, hle, hc⟩
        · omega
        · have := cell_lt hg
          omega
      have H3 := Lib.hid hbw
      unfold FrR
      clear hns hbw hO1
      go_wp2_with (fail)
      go_roundw
      case rel => exact ⟨pre ++ [n], GA, gc, by rw [hln], by rw [hln]; go_num, by omega, H1, H2, H3, hwW⟩
      case measure => simp [intOf]; omega
    · have hpl : pre.length = l.length := by omega
      have hpe : pre = l := by rw [HPRE.out, hpl, List.take_length]
      subst hpe
      have hjl : ¬ ((pre.length : Int) < (pre.length : Int)) := by omega
      go_wp2_with (fail)
      go_ret
      exact ⟨⟨_, rfl, HO.out.gs⟩, HB.out⟩
end Go.Proofs.YtllnamhgnbdkmaaGreatDoor
