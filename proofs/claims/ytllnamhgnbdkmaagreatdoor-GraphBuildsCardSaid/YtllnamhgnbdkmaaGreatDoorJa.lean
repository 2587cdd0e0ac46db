/-
Stage 11: what every text leans on: nodes in memory.
-/
import Derived.Test.YtllnamhgnbdkmaaGreatDoorKd
import Derived.Test.YtllnamhgnbdkmaaGreatDoorKm
import Derived.Test.YtllnamhgnbdkmaaGreatDoorKc
import Derived.Test.YtllnamhgnbdkmaaGreatDoorShelf
import Derived.Lib.Hide
import Derived.Deep.LoopGhost
import Derived.BigQuiet
import Derived.Deep.QuietTactic
import Derived.StillTailTactics
import Derived.Deep.RegionHeld3
import Derived.Deep.RegionWith
import Derived.Deep.RegionLaw
import Derived.Deep.AppendLies
import Derived.Deep.DeepCutAuto
import Derived.Deep.CutRange
import Derived.Maps.AppendAt
import Derived.Laws.MakeOwn
import Derived.Laws.StructEq
import Derived.IntWalk
set_option linter.unusedVariables false
set_option linter.unusedSimpArgs false
namespace Go.Proofs.YtllnamhgnbdkmaaGreatDoor
open Go.RowKit
theorem cellN {w : World} {b : Nat} {xs : Array Value} {t : TypeId} {i : Nat} {x : Value} (h : w.heap[b]? = some (.cells xs t (0, 0))) (hx : xs[i]? = some x) : w.cell? ⟨b, i, none⟩ = some x := by simp [World.cell?, h, hx]
theorem frozN {w : World} {b : Nat} {xs : Array Value} {t : TypeId} {i : Nat} (h : w.heap[b]? = some (.cells xs t (0, 0))) : w.frozen? ⟨b, i, none⟩ = false := by simp [World.frozen?, h]
theorem alloc_old {w : World} {b : Nat} {o o' : Obj} (h : w.heap[b]? = some o') : (w.alloc o).heap[b]? = some o' := (Below.heap_alloc w o b (cell_lt h)).trans h
theorem bl_tr {a b c : World} (h1 : Below a.heap.size a b) (h2 : Below b.heap.size b c) : Below a.heap.size a c := h1.trans (h2.mono h1.size)
theorem bl_al {a b : World} (h : Below a.heap.size a b) (o : Obj) : Below a.heap.size a (b.alloc o) := h.alloc h.size o
theorem bl_dr {a b : World} (h : Below a.heap.size a b) : Below a.heap.size a b.drew := h.drew
theorem bl_set {a b : World} {g i : Nat} {v : Value} (h : Below a.heap.size a b) (hp : a.heap.size ≤ g) : Below a.heap.size a (b.setCell ⟨g, i, none⟩ v) := h.setCell (p := ⟨g, i, none⟩) hp _
theorem bl_blk {a b : World} {g : Nat} {o : Obj} (h : Below a.heap.size a b) (hg : a.heap[g]? = some o) : b.heap[g]? = some o := (h.block g (cell_lt hg)).trans hg
def IntsAt (w : World) (S : Nat → Prop) (v : Value) (l : List Int) : Prop :=
  ∃ A c, v = .slice A l.length c ∧ l.length ≤ c ∧ (A = none → c = 0) ∧ (0 < l.length → ∃ b o, A = some ⟨b, o, none⟩ ∧ S b ∧ b < w.heap.size ∧ ∀ (j : Nat) (x : Int), l[j]? = some x → w.cell? ⟨b, o + j, none⟩ = some (.int .i64 x))
theorem IntsAt.nil (w : World) (S : Nat → Prop) : IntsAt w S (.slice none 0 0) [] := ⟨none, 0, rfl, Nat.le_refl _, fun _ => rfl, fun h => by simp at h⟩
theorem IntsAt.form {w : World} {S : Nat → Prop} {v : Value} {l : List Int} (h : IntsAt w S v l) : ∃ A c, v = .slice A l.length c := by
  obtain ⟨A, c, rfl, _⟩ := h
  exact ⟨A, c, rfl⟩
theorem IntsAt.move {w w' : World} {S S' : Nat → Prop} {v : Value} {l : List Int} (h : IntsAt w S v l) (hk : ∀ b, S b → b < w.heap.size → S' b ∧ b < w'.heap.size ∧ ∀ o, w'.cell? ⟨b, o, none⟩ = w.cell? ⟨b, o, none⟩) : IntsAt w' S' v l := by
  obtain ⟨A, c, e, hl, hn, h⟩ := h
  refine ⟨A, c, e, hl, hn, fun h0 => ?_⟩
  obtain ⟨b, o, e2, h1, h2, h3⟩ := h h0
  obtain ⟨g1, g2, g3⟩ := hk b h1 h2
  exact ⟨b, o, e2, g1, g2, fun j x hx => (g3 _).trans (h3 j x hx)⟩
theorem IntsAt.below {w w' : World} {S : Nat → Prop} {v : Value} {l : List Int} (h : IntsAt w S v l) (hb : Below w.heap.size w w') : IntsAt w' S v l :=
  h.move fun b h1 h2 => ⟨h1, by have := hb.size; omega, fun o => World.cell?_of_block (hb.block b h2)⟩
theorem IntsAt.cell {w : World} {S : Nat → Prop} {A : Option Addr} {l : List Int} {n c : Nat} (h : IntsAt w S (.slice A n c) l) {j : Nat} (hj : j < l.length) : ∃ b o, A = some ⟨b, o, none⟩ ∧ w.cell? ⟨b, o + j, none⟩ = some (.int .i64 l[j]) ∧ b < w.heap.size ∧ S b := by
  obtain ⟨A', c', e, hl, _, h⟩ := h
  injection e with e1 e2 e3
  obtain ⟨b, o, e2, h1, h2, h3⟩ := h (by omega)
  exact ⟨b, o, e1.trans e2, h3 j _ (List.getElem?_eq_getElem hj), h2, h1⟩
theorem IntsAt.of_own {w : World} {B : Nat} {v : Value} {l : List Int} (h : w.ownsRow B 3 1 v l.length (l.map fun x => .int .i64 x)) : IntsAt w (fun b => B ≤ b) v l := by
  rcases h.2 with ⟨rfl, h0⟩ | ⟨g, cap, cur, rfl, hb, hg, hn, hc⟩
  · exact ⟨none, 0, by rw [h0], by omega, fun _ => rfl, fun h1 => by omega⟩
  · refine ⟨some ⟨g, 0, none⟩, cap, rfl, by omega, (fun h => by cases h), fun _ => ⟨g, 0, rfl, hb, cell_lt hg, fun j x hx => ?_⟩⟩
    have hj := (List.getElem?_eq_some_iff.1 hx).1
    rw [Nat.zero_add, h.cellAt j (by omega), List.getElem?_map, hx]
    rfl
structure Gn where
  op : Int
  ins : List Int
  side : List Int
  text : List UInt8
  ty : Ty
  f0 : Int
  f1 : Int
  f2 : Int
  f3 : Int
  e : Int
  l : Int
  lt : Int
  acc : Bool
def Gn.val (n : Gn) (IA SA A : Option Addr) (ic sc c : Nat) : Value := .agg #[.int .i64 n.op, .slice IA n.ins.length ic, .slice SA n.side.length sc, .string ⟨n.text.toArray⟩, .int .i64 n.ty.kind, .slice A n.ty.args.length c, .int .i64 n.f0, .int .i64 n.f1, .int .i64 n.f2, .int .i64 n.f3, .int .i64 n.e, .int .i64 n.l, .int .i64 n.lt, .bool n.acc]
def GnAt (w : World) (S : Nat → Prop) (d : Nat) (v : Value) (n : Gn) : Prop :=
  ∃ IA SA A ic sc c, v = n.val IA SA A ic sc c ∧ IntsAt w S (.slice IA n.ins.length ic) n.ins ∧ IntsAt w S (.slice SA n.side.length sc) n.side ∧ TyAt w S d (.agg #[.int .i64 n.ty.kind, .slice A n.ty.args.length c]) n.ty
theorem GnAt.move {w w' : World} {S S' : Nat → Prop} {d : Nat} {v : Value} {n : Gn} (h : GnAt w S d v n) (hk : ∀ b, S b → b < w.heap.size → S' b ∧ b < w'.heap.size ∧ ∀ o, w'.cell? ⟨b, o, none⟩ = w.cell? ⟨b, o, none⟩) : GnAt w' S' d v n := by
  obtain ⟨IA, SA, A, ic, sc, c, e, h1, h2, h3⟩ := h
  exact ⟨IA, SA, A, ic, sc, c, e, h1.move hk, h2.move hk, h3.move fun b hb hl => ⟨(hk b hb hl).1, fun _ => (hk b hb hl).2.2 _⟩⟩
def GsAt (w : World) (S : Nat → Prop) (d : Nat) (v : Value) (l : List Gn) : Prop :=
  ∃ A c, v = .slice A l.length c ∧ l.length ≤ c ∧ (0 < l.length → ∃ b o, A = some ⟨b, o, none⟩ ∧ S b ∧ b < w.heap.size ∧
    ∀ (j : Nat) (n : Gn), l[j]? = some n → ∃ IA SA A ic sc c, GnAt w S d (n.val IA SA A ic sc c) n ∧
      ∀ (i : Nat) (u : Value), (n.val IA SA A ic sc c).cells[i]? = some u → w.cell? ⟨b, o + j * 14 + i, none⟩ = some u)
theorem GsAt.form {w : World} {S : Nat → Prop} {d : Nat} {v : Value} {l : List Gn} (h : GsAt w S d v l) : ∃ A c, v = .slice A l.length c := by
  obtain ⟨A, c, rfl, _⟩ := h
  exact ⟨A, c, rfl⟩
theorem GsAt.move {w w' : World} {S S' : Nat → Prop} {d : Nat} {v : Value} {l : List Gn} (h : GsAt w S d v l) (hk : ∀ b, S b → b < w.heap.size → S' b ∧ b < w'.heap.size ∧ ∀ o, w'.cell? ⟨b, o, none⟩ = w.cell? ⟨b, o, none⟩) : GsAt w' S' d v l := by
  obtain ⟨A, c, e, hl, h⟩ := h
  refine ⟨A, c, e, hl, fun h0 => ?_⟩
  obtain ⟨b, o, e2, h1, h2, h3⟩ := h h0
  obtain ⟨g1, g2, g3⟩ := hk b h1 h2
  refine ⟨b, o, e2, g1, g2, fun j n hn => ?_⟩
  obtain ⟨IA, SA, A2, ic, sc, c2, h4, h5⟩ := h3 j n hn
  exact ⟨IA, SA, A2, ic, sc, c2, h4.move hk, fun i u hu => (g3 _).trans (h5 i u hu)⟩
theorem GsAt.below {w w' : World} {S : Nat → Prop} {d : Nat} {v : Value} {l : List Gn} (h : GsAt w S d v l) (hb : Below w.heap.size w w') : GsAt w' S d v l :=
  h.move fun b h1 h2 => ⟨h1, by have := hb.size; omega, fun o => World.cell?_of_block (hb.block b h2)⟩
theorem GnAt.below {w w' : World} {S : Nat → Prop} {d : Nat} {v : Value} {l : Gn} (h : GnAt w S d v l) (hb : Below w.heap.size w w') : GnAt w' S d v l :=
  h.move fun b h1 h2 => ⟨h1, by have := hb.size; omega, fun o => World.cell?_of_block (hb.block b h2)⟩
theorem GsAt.take {w : World} {S : Nat → Prop} {d : Nat} {A : Option Addr} {n c : Nat} {l : List Gn} (h : GsAt w S d (.slice A n c) l) (k : Nat) (hk : k ≤ l.length) : GsAt w S d (.slice A k c) (l.take k) := by
  obtain ⟨A', c', e, hl, h⟩ := h
  injection e with e1 e2 e3
  subst e1 e3
  have hlk : (l.take k).length = k := by simp; omega
  refine ⟨A, c, by rw [hlk], by omega, fun h0 => ?_⟩
  obtain ⟨b, o, e2, h1, h2, h3⟩ := h (by omega)
  refine ⟨b, o, e2, h1, h2, fun j n hn => h3 j n ?_⟩
  rw [List.getElem?_take] at hn
  split at hn
  · exact hn
  · cases hn
theorem GsAt.at {w : World} {S : Nat → Prop} {d : Nat} {A : Option Addr} {n c : Nat} {l : List Gn} (h : GsAt w S d (.slice A n c) l) {j : Nat} (hj : j < l.length) : ∃ b o, A = some ⟨b, o, none⟩ ∧ b < w.heap.size ∧ S b ∧ ∃ IA SA A ic sc c, GnAt w S d (l[j].val IA SA A ic sc c) l[j] ∧
    w.cell? ⟨b, o + j * 14, none⟩ = some (.int .i64 l[j].op) ∧ w.cell? ⟨b, o + j * 14 + 1, none⟩ = some (.slice IA l[j].ins.length ic) ∧ w.cell? ⟨b, o + j * 14 + 2, none⟩ = some (.slice SA l[j].side.length sc) ∧ w.cell? ⟨b, o + j * 14 + 3, none⟩ = some (.string ⟨l[j].text.toArray⟩) ∧ w.cell? ⟨b, o + j * 14 + 4, none⟩ = some (.int .i64 l[j].ty.kind) ∧ w.cell? ⟨b, o + j * 14 + 5, none⟩ = some (.slice A l[j].ty.args.length c) ∧ w.cell? ⟨b, o + j * 14 + 6, none⟩ = some (.int .i64 l[j].f0) ∧ w.cell? ⟨b, o + j * 14 + 7, none⟩ = some (.int .i64 l[j].f1) ∧ w.cell? ⟨b, o + j * 14 + 8, none⟩ = some (.int .i64 l[j].f2) ∧ w.cell? ⟨b, o + j * 14 + 9, none⟩ = some (.int .i64 l[j].f3) ∧ w.cell? ⟨b, o + j * 14 + 10, none⟩ = some (.int .i64 l[j].e) ∧ w.cell? ⟨b, o + j * 14 + 11, none⟩ = some (.int .i64 l[j].l) ∧ w.cell? ⟨b, o + j * 14 + 12, none⟩ = some (.int .i64 l[j].lt) ∧ w.cell? ⟨b, o + j * 14 + 13, none⟩ = some (.bool l[j].acc) := by
  obtain ⟨A', c', e, hl, h⟩ := h
  injection e with e1 e2 e3
  obtain ⟨b, o, e2, h1, h2, h3⟩ := h (by omega)
  obtain ⟨IA, SA, A2, ic, sc, c2, h4, h5⟩ := h3 j _ (List.getElem?_eq_getElem hj)
  exact ⟨b, o, e1.trans e2, h2, h1, IA, SA, A2, ic, sc, c2, h4, h5 0 _ rfl, h5 1 _ rfl, h5 2 _ rfl, h5 3 _ rfl, h5 4 _ rfl, h5 5 _ rfl, h5 6 _ rfl, h5 7 _ rfl, h5 8 _ rfl, h5 9 _ rfl, h5 10 _ rfl, h5 11 _ rfl, h5 12 _ rfl, h5 13 _ rfl⟩
end Go.Proofs.YtllnamhgnbdkmaaGreatDoor
