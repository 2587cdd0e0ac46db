/-
Stage 11: lay.
-/
import Derived.Test.YtllnamhgnbdkmaaGreatDoorGt
set_option linter.unusedVariables false
set_option linter.unusedSimpArgs false
namespace Go.Proofs.YtllnamhgnbdkmaaGreatDoor
open Go.RowKit Go.Shelf Go.Sort
def NsC (w : World) (B : Nat) (C : Nat → Prop) (d : Nat) (v : Value) (l : List Gn) : Prop := ∃ xs, w.ownsRow B 83 14 v l.length xs ∧ ∀ (j : Nat) (n : Gn), l[j]? = some n → ∃ IA SA A ic sc c, GnAt w (fun b => (B ≤ b ∧ some b ≠ v.ownBlock) ∧ ¬ C b) d (n.val IA SA A ic sc c) n ∧ ∀ (i : Nat) (u : Value), (n.val IA SA A ic sc c).cells[i]? = some u → xs[j * 14 + i]? = some u
theorem NsC.nil (w : World) (B : Nat) (C : Nat → Prop) (d : Nat) : NsC w B C d (.slice none 0 0) [] := ⟨[], World.ownsRow_nil _ _ _ _, fun j n h => by cases h⟩
theorem NsC.ns {w : World} {B : Nat} {C : Nat → Prop} {d : Nat} {v : Value} {l : List Gn} (h : NsC w B C d v l) : NsO w B d v l := by
  obtain ⟨xs, ho, hn⟩ := h
  refine ⟨xs, ho, fun j n hj => ?_⟩
  obtain ⟨IA, SA, A, ic, sc, c, hgn, hu⟩ := hn j n hj
  exact ⟨IA, SA, A, ic, sc, c, hgn.move fun b hb hl => ⟨hb.1, hl, fun _ => rfl⟩, hu⟩
theorem NsC.gs {w : World} {B : Nat} {C : Nat → Prop} {d : Nat} {v : Value} {l : List Gn} (h : NsC w B C d v l) : GsAt w (fun b => B ≤ b) d v l := h.ns.gs
theorem NsC.low {w : World} {B : Nat} {C : Nat → Prop} {d : Nat} {v : Value} {l : List Gn} (h : NsC w B C d v l) {g : Nat} (hg : v.ownBlock = some g) : B ≤ g ∧ g < w.heap.size := h.ns.low hg
theorem NsC.form {w : World} {B : Nat} {C : Nat → Prop} {d : Nat} {v : Value} {l : List Gn} (h : NsC w B C d v l) : ∃ A c, v = .slice A l.length c := h.ns.form
theorem NsC.keep {w w' : World} {B : Nat} {C : Nat → Prop} {d : Nat} {v : Value} {l : List Gn} (h : NsC w B C d v l) (hb : Below w.heap.size w w') : NsC w' B C d v l := by
  obtain ⟨xs, ho, hn⟩ := h
  refine ⟨xs, ho.kept (row := none) ⟨hb.os, hb.tape, hb.output, hb.size, fun i hi _ => hb.block i hi⟩ (by cases v.ownBlock <;> simp), fun j n hj => ?_⟩
  obtain ⟨IA, SA, A, ic, sc, c, hgn, hu⟩ := hn j n hj
  exact ⟨IA, SA, A, ic, sc, c, hgn.below hb, hu⟩
theorem NsC.far {w : World} {B : Nat} {C : Nat → Prop} {d i p : Nat} {u v : Value} {l : List Gn} (h : NsC w B C d v l) (hp : p < B) : NsC (w.setCell ⟨p, i, none⟩ u) B C d v l := by
  have hg : w.grownBy (w.setCell ⟨p, i, none⟩ u) (some p) := ⟨rfl, rfl, rfl, by simp [World.setCell], fun k hk hne => Below.heap_setCell w ⟨p, i, none⟩ u k (fun e => hne (by rw [e]))⟩
  obtain ⟨xs, ho, hn⟩ := h
  refine ⟨xs, ho.kept hg (.inr fun e => ?_), fun j n hj => ?_⟩
  · have := (ho.lt p e).1
    omega
  · obtain ⟨IA, SA, A, ic, sc, c, hgn, hu⟩ := hn j n hj
    refine ⟨IA, SA, A, ic, sc, c, hgn.move fun b hb hl => ⟨hb, by simpa [World.setCell] using hl, fun o => World.cell?_of_block (Below.heap_setCell w ⟨p, i, none⟩ u b (fun e => ?_))⟩, hu⟩
    have h1 := hb.1.1
    have e' : b = p := e
    omega
theorem NsC.turn {w w' : World} {B : Nat} {C : Nat → Prop} {d : Nat} {v : Value} {l : List Gn} {row : Option Nat} (h : NsC w B C d v l) (hg : w.grownBy w' row) (hr : ∀ g, row = some g → C g ∧ v.ownBlock ≠ some g) : NsC w' B C d v l := by
  obtain ⟨xs, ho, hn⟩ := h
  refine ⟨xs, ho.kept hg ?_, fun j n hj => ?_⟩
  · cases hv : v.ownBlock with
    | none => exact .inl rfl
    | some b => exact .inr fun e => (hr b e.symm).2 hv
  · obtain ⟨IA, SA, A, ic, sc, c, hgn, hu⟩ := hn j n hj
    exact ⟨IA, SA, A, ic, sc, c, hgn.move fun b hb hl => ⟨hb, Nat.lt_of_lt_of_le hl hg.size, fun o => World.cell?_of_block (hg.block b hl fun e => hb.2 (hr b e.symm).1)⟩, hu⟩
theorem NsC.any {w : World} {B : Nat} {C : Nat → Prop} {d : Nat} {v : Value} {l : List Gn} (h : NsC w B C d v l) : NsC w B (fun _ => False) d v l := by
  obtain ⟨xs, ho, hn⟩ := h
  refine ⟨xs, ho, fun j n hj => ?_⟩
  obtain ⟨IA, SA, A, ic, sc, c, hgn, hu⟩ := hn j n hj
  exact ⟨IA, SA, A, ic, sc, c, hgn.move fun b hb hl => ⟨⟨hb.1, fun h => h.elim⟩, hl, fun _ => rfl⟩, hu⟩
theorem NsC.more {w w' : World} {B : Nat} {C : Nat → Prop} {d : Nat} {v v' : Value} {l : List Gn} {n : Gn} {IA SA A : Option Addr} {ic sc c : Nat} {xs : List Value} (ho : w.ownsRow B 83 14 v l.length xs) (hn : ∀ (j : Nat) (n : Gn), l[j]? = some n → ∃ IA SA A ic sc c, GnAt w (fun b => (B ≤ b ∧ some b ≠ v.ownBlock) ∧ ¬ C b) d (n.val IA SA A ic sc c) n ∧ ∀ (i : Nat) (u : Value), (n.val IA SA A ic sc c).cells[i]? = some u → xs[j * 14 + i]? = some u) (hgn : GnAt w (fun b => (B ≤ b ∧ some b ≠ v.ownBlock) ∧ ¬ C b) d (n.val IA SA A ic sc c) n)
    (ho' : w'.ownsRow B 83 14 v' (l.length + 1) (xs ++ [.int .i64 n.op, .slice IA n.ins.length ic, .slice SA n.side.length sc, .string ⟨n.text.toArray⟩, .int .i64 n.ty.kind, .slice A n.ty.args.length c, .int .i64 n.f0, .int .i64 n.f1, .int .i64 n.f2, .int .i64 n.f3, .int .i64 n.e, .int .i64 n.l, .int .i64 n.lt, .bool n.acc])) (hg : w.grownBy w' v.ownBlock) (hat : v'.ownBlock = v.ownBlock ∨ ∃ g, v'.ownBlock = some g ∧ w.heap.size ≤ g) : NsC w' B C d v' (l ++ [n]) := by
  have hmv : ∀ b, ((B ≤ b ∧ some b ≠ v.ownBlock) ∧ ¬ C b) → b < w.heap.size → ((B ≤ b ∧ some b ≠ v'.ownBlock) ∧ ¬ C b) ∧ b < w'.heap.size ∧ ∀ o, w'.cell? ⟨b, o, none⟩ = w.cell? ⟨b, o, none⟩ := fun b hb hl => by
    refine ⟨⟨⟨hb.1.1, ?_⟩, hb.2⟩, Nat.lt_of_lt_of_le hl hg.size, fun o => World.cell?_of_block (hg.block b hl hb.1.2)⟩
    rcases hat with h | ⟨g, h, hgl⟩
    · rw [h]; exact hb.1.2
    · rw [h]
      intro e
      have := Option.some.inj e
      omega
  refine ⟨_, by rw [List.length_append]; exact ho', fun j m hj => ?_⟩
  have hxl := ho.1
  rcases Nat.lt_or_ge j l.length with hlt | hge
  · rw [List.getElem?_append_left hlt] at hj
    obtain ⟨IA, SA, A, ic, sc, c, hgn, hu⟩ := hn j m hj
    refine ⟨IA, SA, A, ic, sc, c, hgn.move hmv, fun i u hx => ?_⟩
    have h1 := hu i u hx
    rw [List.getElem?_append_left (List.getElem?_eq_some_iff.1 h1).1]
    exact h1
  · rw [List.getElem?_append_right hge] at hj
    obtain rfl : j = l.length := by have := (List.getElem?_eq_some_iff.1 hj).1; simp at this; omega
    rw [Nat.sub_self] at hj
    obtain rfl : n = m := Option.some.inj hj
    refine ⟨IA, SA, A, ic, sc, c, hgn.move hmv, fun i u hx => ?_⟩
    rw [List.getElem?_append_right (by omega), hxl, Nat.add_sub_cancel_left, ← Gn.cells14 n IA SA A ic sc c]
    simpa using hx
structure Bld (w : World) (BB B : Nat) (C : Nat → Prop) (v : Value) (l : List Gn) (m : Int) : Prop where
  box : w.heap[BB]? = some (.cells #[v, .int .i64 m] 109 (0, 0))
  row : NsC w B C 6 v l
  low : BB < B
  top : B ≤ w.heap.size
structure KpB (BB : Nat) (g : Option Nat) (w w' : World) : Prop where
  os : w'.os = w.os
  tape : w'.tape = w.tape
  output : w'.output = w.output
  size : w.heap.size ≤ w'.heap.size
  block : ∀ b, b < w.heap.size → b ≠ BB → some b ≠ g → w'.heap[b]? = w.heap[b]?
set_option maxRecDepth 100000 in
set_option maxHeartbeats 8000000 in
theorem lay_few (w : World) (BB B : Nat) (GA : Option Addr) (gc : Nat) (l : List Gn) (m : Int) (n : Gn) (IA SA A : Option Addr) (ic sc c d : Nat) (S : Nat → Prop) (C : Nat → Prop) (hC : ∀ b, C b → b < w.heap.size) (hB : Bld w BB B C (.slice GA l.length gc) l m) (hl : l.length ≤ 32) (hm : 0 ≤ m ∧ m ≤ 1000) (h1 : IntsAt w S (.slice IA n.ins.length ic) n.ins) (h2 : IntsAt w S (.slice SA n.side.length sc) n.side) (h3 : TyAt w S d (.agg #[.int .i64 n.ty.kind, .slice A n.ty.args.length c]) n.ty) (hI : n.ins.length ≤ 1000000) (hS : n.side.length ≤ 1000000) (ht : n.text.length ≤ 1000000) (hG : Gk w) :
    Calls Tryz.prog 59 #[.pointer (some ⟨BB, 0, none⟩), .agg #[.int .i64 n.op, .slice IA n.ins.length ic, .slice SA n.side.length sc, .string ⟨n.text.toArray⟩, .int .i64 n.ty.kind, .slice A n.ty.args.length c, .int .i64 n.f0, .int .i64 n.f1, .int .i64 n.f2, .int .i64 n.f3, .int .i64 n.e, .int .i64 n.l, .int .i64 n.lt, .bool n.acc]] w fun e w' => e = .returned (.int .i64 m) ∧ (∃ v', Bld w' BB B C v' (l ++ [{ n with ty := madeT n.ty }]) (m + 1)) ∧ KpB BB (Value.slice GA l.length gc).ownBlock w w' := by
  have HB0 := Lib.hid hB
  have HCC := Lib.hid hC
  clear hC
  have hbx := alloc_old (o := .cells #[.int .i64 n.op, .slice IA n.ins.length ic, .slice SA n.side.length sc, .string ⟨n.text.toArray⟩, .int .i64 n.ty.kind, .slice A n.ty.args.length c, .int .i64 n.f0, .int .i64 n.f1, .int .i64 n.f2, .int .i64 n.f3, .int .i64 n.e, .int .i64 n.l, .int .i64 n.lt, .bool n.acc] 83) hB.box
  have hnx := heap_alloc_new w (.cells #[.int .i64 n.op, .slice IA n.ins.length ic, .slice SA n.side.length sc, .string ⟨n.text.toArray⟩, .int .i64 n.ty.kind, .slice A n.ty.args.length c, .int .i64 n.f0, .int .i64 n.f1, .int .i64 n.f2, .int .i64 n.f3, .int .i64 n.e, .int .i64 n.l, .int .i64 n.lt, .bool n.acc] 83)
  have hbw : Below w.heap.size w (w.alloc (.cells #[.int .i64 n.op, .slice IA n.ins.length ic, .slice SA n.side.length sc, .string ⟨n.text.toArray⟩, .int .i64 n.ty.kind, .slice A n.ty.args.length c, .int .i64 n.f0, .int .i64 n.f1, .int .i64 n.f2, .int .i64 n.f3, .int .i64 n.e, .int .i64 n.l, .int .i64 n.lt, .bool n.acc] 83)) := bl_al (Below.refl _ _) _
  have hw1 : (w.alloc (.cells #[.int .i64 n.op, .slice IA n.ins.length ic, .slice SA n.side.length sc, .string ⟨n.text.toArray⟩, .int .i64 n.ty.kind, .slice A n.ty.args.length c, .int .i64 n.f0, .int .i64 n.f1, .int .i64 n.f2, .int .i64 n.f3, .int .i64 n.e, .int .i64 n.l, .int .i64 n.lt, .bool n.acc] 83)).heap.size = w.heap.size + 1 := by simp
  have hmv : ∀ W, Below (w.alloc (.cells #[.int .i64 n.op, .slice IA n.ins.length ic, .slice SA n.side.length sc, .string ⟨n.text.toArray⟩, .int .i64 n.ty.kind, .slice A n.ty.args.length c, .int .i64 n.f0, .int .i64 n.f1, .int .i64 n.f2, .int .i64 n.f3, .int .i64 n.e, .int .i64 n.l, .int .i64 n.lt, .bool n.acc] 83)).heap.size (w.alloc (.cells #[.int .i64 n.op, .slice IA n.ins.length ic, .slice SA n.side.length sc, .string ⟨n.text.toArray⟩, .int .i64 n.ty.kind, .slice A n.ty.args.length c, .int .i64 n.f0, .int .i64 n.f1, .int .i64 n.f2, .int .i64 n.f3, .int .i64 n.e, .int .i64 n.l, .int .i64 n.lt, .bool n.acc] 83)) W → Below w.heap.size w W := fun W hb => hbw.trans (hb.mono hbw.size)
  have HFR : Hid (∀ W, Below (w.alloc (.cells #[.int .i64 n.op, .slice IA n.ins.length ic, .slice SA n.side.length sc, .string ⟨n.text.toArray⟩, .int .i64 n.ty.kind, .slice A n.ty.args.length c, .int .i64 n.f0, .int .i64 n.f1, .int .i64 n.f2, .int .i64 n.f3, .int .i64 n.e, .int .i64 n.l, .int .i64 n.lt, .bool n.acc] 83)).heap.size (w.alloc (.cells #[.int .i64 n.op, .slice IA n.ins.length ic, .slice SA n.side.length sc, .string ⟨n.text.toArray⟩, .int .i64 n.ty.kind, .slice A n.ty.args.length c, .int .i64 n.f0, .int .i64 n.f1, .int .i64 n.f2, .int .i64 n.f3, .int .i64 n.e, .int .i64 n.l, .int .i64 n.lt, .bool n.acc] 83)) W → Calls Tryz.prog 60 #[.agg #[.int .i64 n.op, .slice IA n.ins.length ic, .slice SA n.side.length sc, .string ⟨n.text.toArray⟩, .int .i64 n.ty.kind, .slice A n.ty.args.length c, .int .i64 n.f0, .int .i64 n.f1, .int .i64 n.f2, .int .i64 n.f3, .int .i64 n.e, .int .i64 n.l, .int .i64 n.lt, .bool n.acc]] W fun e w' => (∃ I1 S1 A1 k1 k2 k3, e = .returned (Gn.val { n with ty := madeT n.ty } I1 S1 A1 k1 k2 k3) ∧ GnAt w' (fun b => W.heap.size ≤ b) 6 (Gn.val { n with ty := madeT n.ty } I1 S1 A1 k1 k2 k3) { n with ty := madeT n.ty }) ∧ Below W.heap.size W w') := Lib.hid fun W hb =>
    fresh_any W S d n IA SA A ic sc c (h1.below (hmv W hb)) (h2.below (hmv W hb)) (TyAt.move (fun b hb' hl => ⟨hb', fun o => World.cell?_of_block ((hmv W hb).block b hl)⟩) _ _ _ h3) hI hS ht (hG.below (hmv W hb))
  have HML := Lib.hid hm
  have HLL := Lib.hid hl
  have HBX := Lib.hid hbx
  have HBW := Lib.hid hbw
  have b0 := cellN (i := 0) (x := .slice GA l.length gc) hB.box rfl
  have b1 := cellN (i := 1) (x := .int .i64 m) hB.box rfl
  have bl := cell_lt hB.box
  clear hB h1 h2 h3 hI hS ht hG hmv hbx hbw hnx hw1 hm hl
  go_enter Tryz.func59, Tryz.ntmps59
  go_upto_region 1 with (fail)
  clear b0 b1 bl
  have hnx := heap_alloc_new w (.cells #[.int .i64 n.op, .slice IA n.ins.length ic, .slice SA n.side.length sc, .string ⟨n.text.toArray⟩, .int .i64 n.ty.kind, .slice A n.ty.args.length c, .int .i64 n.f0, .int .i64 n.f1, .int .i64 n.f2, .int .i64 n.f3, .int .i64 n.e, .int .i64 n.l, .int .i64 n.lt, .bool n.acc] 83)
  have hwz : (w.alloc (.cells #[.int .i64 n.op, .slice IA n.ins.length ic, .slice SA n.side.length sc, .string ⟨n.text.toArray⟩, .int .i64 n.ty.kind, .slice A n.ty.args.length c, .int .i64 n.f0, .int .i64 n.f1, .int .i64 n.f2, .int .i64 n.f3, .int .i64 n.e, .int .i64 n.l, .int .i64 n.lt, .bool n.acc] 83)).heap.size = w.heap.size + 1 := by simp
  have HWZ := Lib.hid hwz
  clear hwz
  generalize w.alloc (.cells #[.int .i64 n.op, .slice IA n.ins.length ic, .slice SA n.side.length sc, .string ⟨n.text.toArray⟩, .int .i64 n.ty.kind, .slice A n.ty.args.length c, .int .i64 n.f0, .int .i64 n.f1, .int .i64 n.f2, .int .i64 n.f3, .int .i64 n.e, .int .i64 n.l, .int .i64 n.lt, .bool n.acc] 83) = W1 at *
  have b0 := cellN (i := 0) (x := .slice GA l.length gc) HBX.out rfl
  have bz := frozN (i := 0) HBX.out
  have bl := cell_lt HBX.out
  have n0 := cellN (i := 0) (x := .int .i64 n.op) hnx rfl
  have n1 := cellN (i := 1) (x := .slice IA n.ins.length ic) hnx rfl
  have n2 := cellN (i := 2) (x := .slice SA n.side.length sc) hnx rfl
  have n3 := cellN (i := 3) (x := .string ⟨n.text.toArray⟩) hnx rfl
  have n4 := cellN (i := 4) (x := .int .i64 n.ty.kind) hnx rfl
  have n5 := cellN (i := 5) (x := .slice A n.ty.args.length c) hnx rfl
  have n6 := cellN (i := 6) (x := .int .i64 n.f0) hnx rfl
  have n7 := cellN (i := 7) (x := .int .i64 n.f1) hnx rfl
  have n8 := cellN (i := 8) (x := .int .i64 n.f2) hnx rfl
  have n9 := cellN (i := 9) (x := .int .i64 n.f3) hnx rfl
  have n10 := cellN (i := 10) (x := .int .i64 n.e) hnx rfl
  have n11 := cellN (i := 11) (x := .int .i64 n.l) hnx rfl
  have n12 := cellN (i := 12) (x := .int .i64 n.lt) hnx rfl
  have n13 := cellN (i := 13) (x := .bool n.acc) hnx rfl
  have nl := cell_lt hnx
  clear hnx
  go_region_law (first
    | (go_simp; go_at_call 60; (with_reducible refine (HFR.out _ ?_).mono ?_); (focus exact (by repeat' (first | with_reducible exact Below.refl _ _ | with_reducible refine bl_al ?_ _ | with_reducible refine bl_dr ?_))); rintro e w2 ⟨⟨I1, S1, A1, k1, k2, k3, rfl, hgn⟩, hb2⟩; unfold Gn.val; have HB2 : Hid (Below W1.heap.size W1 w2) := Lib.hid (bl_tr (by repeat' (first | with_reducible exact Below.refl _ _ | with_reducible refine bl_dr ?_)) hb2); have HGN := Lib.hid hgn; have hbx2 := bl_blk HB2.out HBX.out; have e0 := cellN (i := 0) (x := .slice GA l.length gc) hbx2 rfl; have ez := frozN (i := 0) hbx2; have el := cell_lt hbx2; obtain ⟨xs, hox, hnn⟩ := (HB0.out.row.keep HBW.out).keep HB2.out; have HOX := Lib.hid hox; have HNN := Lib.hid hnn; have HBX2 := Lib.hid hbx2; have HTB : Hid (B ≤ w2.heap.size) := Lib.hid (Nat.le_trans HB0.out.top (Nat.le_trans HBW.out.size HB2.out.size)); clear hgn hb2 hbx2 hox hnn)
    | (go_simp; go_at_call 49; (with_reducible refine (add_few _ B _ l.length xs { n with ty := madeT n.ty } I1 S1 A1 k1 k2 k3 HOX.out HLL.out HTB.out).mono ?_); rintro e w3 ⟨v3, rfl, ho3, hg3, hat3⟩; obtain ⟨G3, g3, rfl⟩ := own_slice ho3; have hbx3 := (hg3.block BB (cell_lt HBX2.out) (fun e => by have h8 := (HOX.out.lt BB e.symm).1; have h9 := HB0.out.low; omega)).trans HBX2.out; have HO3 := Lib.hid ho3; have HG3 := Lib.hid hg3; have HA3 := Lib.hid hat3; have HBX3 := Lib.hid hbx3; have f0 := cellN (i := 0) (x := .slice GA l.length gc) hbx3 rfl; have f1 := cellN (i := 1) (x := .int .i64 m) hbx3 rfl; have fz := frozN (i := 0) hbx3; have fy := frozN (i := 1) hbx3; have fl := cell_lt hbx3; clear ho3 hg3 hat3 hbx3)
    | fail)
  all_goals (
    obtain ⟨hm0, hm1⟩ := HML.out
    go_wp2_with (fail)
    go_ret
    have hrow : NsC w3 B C 6 (.slice G3 (l.length + 1) g3) (l ++ [{ n with ty := madeT n.ty }]) := NsC.more HOX.out HNN.out (HGN.out.move fun b hb hl => by
      have h7 : W1.heap.size ≤ b := hb
      have h8 := HB0.out.top
      have h9 := HBW.out.size
      refine ⟨⟨⟨by omega, fun e => ?_⟩, fun hc => by have := HCC.out _ hc; omega⟩, hl, fun o => rfl⟩
      have := ((HB0.out.row.keep HBW.out).low e.symm).2
      omega) HO3.out HG3.out HA3.out
    have hbb := HBW.out.trans (HB2.out.mono HBW.out.size)
    have hlow := HB0.out.low
    have htop := HTB.out
    have hsz := HG3.out.size
    have hs2 := hbb.size
    refine ⟨rfl, ⟨_, set_block (i := 1) (set_block (i := 0) HBX3.out), (hrow.far hlow).far hlow, hlow, ?_⟩, ⟨HG3.out.os.trans hbb.os, HG3.out.tape.trans hbb.tape, HG3.out.output.trans hbb.output, ?_, fun b hb hne hno => ?_⟩⟩
    · rw [World.size_setCell, World.size_setCell]; omega
    · rw [World.size_setCell, World.size_setCell]; omega
    · exact (Below.heap_setCell _ ⟨BB, 1, none⟩ _ b hne).trans ((Below.heap_setCell _ ⟨BB, 0, none⟩ _ b hne).trans ((HG3.out.block b (by omega) hno).trans (hbb.block b hb))))
set_option maxRecDepth 100000 in
set_option maxHeartbeats 8000000 in
theorem lay_many (w : World) (BB B : Nat) (GA : Option Addr) (gc : Nat) (l : List Gn) (m : Int) (n : Gn) (IA SA A : Option Addr) (ic sc c d : Nat) (S : Nat → Prop) (C : Nat → Prop) (hC : ∀ b, C b → b < w.heap.size) (hB : Bld w BB B C (.slice GA l.length gc) l m) (hl : 33 ≤ l.length) (hm : 0 ≤ m ∧ m ≤ 1000) (h1 : IntsAt w S (.slice IA n.ins.length ic) n.ins) (h2 : IntsAt w S (.slice SA n.side.length sc) n.side) (h3 : TyAt w S d (.agg #[.int .i64 n.ty.kind, .slice A n.ty.args.length c]) n.ty) (hI : n.ins.length ≤ 1000000) (hS : n.side.length ≤ 1000000) (ht : n.text.length ≤ 1000000) (hG : Gk w) :
    Calls Tryz.prog 59 #[.pointer (some ⟨BB, 0, none⟩), .agg #[.int .i64 n.op, .slice IA n.ins.length ic, .slice SA n.side.length sc, .string ⟨n.text.toArray⟩, .int .i64 n.ty.kind, .slice A n.ty.args.length c, .int .i64 n.f0, .int .i64 n.f1, .int .i64 n.f2, .int .i64 n.f3, .int .i64 n.e, .int .i64 n.l, .int .i64 n.lt, .bool n.acc]] w fun e w' => e = .returned (.int .i64 m) ∧ (∃ v', Bld w' BB B C v' l (m + 1)) ∧ KpB BB (Value.slice GA l.length gc).ownBlock w w' := by
  have HB0 := Lib.hid hB
  have HCC := Lib.hid hC
  clear hC
  have hbx := alloc_old (o := .cells #[.int .i64 n.op, .slice IA n.ins.length ic, .slice SA n.side.length sc, .string ⟨n.text.toArray⟩, .int .i64 n.ty.kind, .slice A n.ty.args.length c, .int .i64 n.f0, .int .i64 n.f1, .int .i64 n.f2, .int .i64 n.f3, .int .i64 n.e, .int .i64 n.l, .int .i64 n.lt, .bool n.acc] 83) hB.box
  have hnx := heap_alloc_new w (.cells #[.int .i64 n.op, .slice IA n.ins.length ic, .slice SA n.side.length sc, .string ⟨n.text.toArray⟩, .int .i64 n.ty.kind, .slice A n.ty.args.length c, .int .i64 n.f0, .int .i64 n.f1, .int .i64 n.f2, .int .i64 n.f3, .int .i64 n.e, .int .i64 n.l, .int .i64 n.lt, .bool n.acc] 83)
  have hbw : Below w.heap.size w (w.alloc (.cells #[.int .i64 n.op, .slice IA n.ins.length ic, .slice SA n.side.length sc, .string ⟨n.text.toArray⟩, .int .i64 n.ty.kind, .slice A n.ty.args.length c, .int .i64 n.f0, .int .i64 n.f1, .int .i64 n.f2, .int .i64 n.f3, .int .i64 n.e, .int .i64 n.l, .int .i64 n.lt, .bool n.acc] 83)) := bl_al (Below.refl _ _) _
  have hw1 : (w.alloc (.cells #[.int .i64 n.op, .slice IA n.ins.length ic, .slice SA n.side.length sc, .string ⟨n.text.toArray⟩, .int .i64 n.ty.kind, .slice A n.ty.args.length c, .int .i64 n.f0, .int .i64 n.f1, .int .i64 n.f2, .int .i64 n.f3, .int .i64 n.e, .int .i64 n.l, .int .i64 n.lt, .bool n.acc] 83)).heap.size = w.heap.size + 1 := by simp
  have hmv : ∀ W, Below (w.alloc (.cells #[.int .i64 n.op, .slice IA n.ins.length ic, .slice SA n.side.length sc, .string ⟨n.text.toArray⟩, .int .i64 n.ty.kind, .slice A n.ty.args.length c, .int .i64 n.f0, .int .i64 n.f1, .int .i64 n.f2, .int .i64 n.f3, .int .i64 n.e, .int .i64 n.l, .int .i64 n.lt, .bool n.acc] 83)).heap.size (w.alloc (.cells #[.int .i64 n.op, .slice IA n.ins.length ic, .slice SA n.side.length sc, .string ⟨n.text.toArray⟩, .int .i64 n.ty.kind, .slice A n.ty.args.length c, .int .i64 n.f0, .int .i64 n.f1, .int .i64 n.f2, .int .i64 n.f3, .int .i64 n.e, .int .i64 n.l, .int .i64 n.lt, .bool n.acc] 83)) W → Below w.heap.size w W := fun W hb => hbw.trans (hb.mono hbw.size)
  have HFR : Hid (∀ W, Below (w.alloc (.cells #[.int .i64 n.op, .slice IA n.ins.length ic, .slice SA n.side.length sc, .string ⟨n.text.toArray⟩, .int .i64 n.ty.kind, .slice A n.ty.args.length c, .int .i64 n.f0, .int .i64 n.f1, .int .i64 n.f2, .int .i64 n.f3, .int .i64 n.e, .int .i64 n.l, .int .i64 n.lt, .bool n.acc] 83)).heap.size (w.alloc (.cells #[.int .i64 n.op, .slice IA n.ins.length ic, .slice SA n.side.length sc, .string ⟨n.text.toArray⟩, .int .i64 n.ty.kind, .slice A n.ty.args.length c, .int .i64 n.f0, .int .i64 n.f1, .int .i64 n.f2, .int .i64 n.f3, .int .i64 n.e, .int .i64 n.l, .int .i64 n.lt, .bool n.acc] 83)) W → Calls Tryz.prog 60 #[.agg #[.int .i64 n.op, .slice IA n.ins.length ic, .slice SA n.side.length sc, .string ⟨n.text.toArray⟩, .int .i64 n.ty.kind, .slice A n.ty.args.length c, .int .i64 n.f0, .int .i64 n.f1, .int .i64 n.f2, .int .i64 n.f3, .int .i64 n.e, .int .i64 n.l, .int .i64 n.lt, .bool n.acc]] W fun e w' => (∃ I1 S1 A1 k1 k2 k3, e = .returned (Gn.val { n with ty := madeT n.ty } I1 S1 A1 k1 k2 k3) ∧ GnAt w' (fun b => W.heap.size ≤ b) 6 (Gn.val { n with ty := madeT n.ty } I1 S1 A1 k1 k2 k3) { n with ty := madeT n.ty }) ∧ Below W.heap.size W w') := Lib.hid fun W hb =>
    fresh_any W S d n IA SA A ic sc c (h1.below (hmv W hb)) (h2.below (hmv W hb)) (TyAt.move (fun b hb' hl => ⟨hb', fun o => World.cell?_of_block ((hmv W hb).block b hl)⟩) _ _ _ h3) hI hS ht (hG.below (hmv W hb))
  have HML := Lib.hid hm
  have HLL := Lib.hid hl
  have HBX := Lib.hid hbx
  have HBW := Lib.hid hbw
  have b0 := cellN (i := 0) (x := .slice GA l.length gc) hB.box rfl
  have b1 := cellN (i := 1) (x := .int .i64 m) hB.box rfl
  have bl := cell_lt hB.box
  clear hB h1 h2 h3 hI hS ht hG hmv hbx hbw hnx hw1 hm hl
  go_enter Tryz.func59, Tryz.ntmps59
  go_upto_region 1 with (fail)
  clear b0 b1 bl
  have hnx := heap_alloc_new w (.cells #[.int .i64 n.op, .slice IA n.ins.length ic, .slice SA n.side.length sc, .string ⟨n.text.toArray⟩, .int .i64 n.ty.kind, .slice A n.ty.args.length c, .int .i64 n.f0, .int .i64 n.f1, .int .i64 n.f2, .int .i64 n.f3, .int .i64 n.e, .int .i64 n.l, .int .i64 n.lt, .bool n.acc] 83)
  have hwz : (w.alloc (.cells #[.int .i64 n.op, .slice IA n.ins.length ic, .slice SA n.side.length sc, .string ⟨n.text.toArray⟩, .int .i64 n.ty.kind, .slice A n.ty.args.length c, .int .i64 n.f0, .int .i64 n.f1, .int .i64 n.f2, .int .i64 n.f3, .int .i64 n.e, .int .i64 n.l, .int .i64 n.lt, .bool n.acc] 83)).heap.size = w.heap.size + 1 := by simp
  have HWZ := Lib.hid hwz
  clear hwz
  generalize w.alloc (.cells #[.int .i64 n.op, .slice IA n.ins.length ic, .slice SA n.side.length sc, .string ⟨n.text.toArray⟩, .int .i64 n.ty.kind, .slice A n.ty.args.length c, .int .i64 n.f0, .int .i64 n.f1, .int .i64 n.f2, .int .i64 n.f3, .int .i64 n.e, .int .i64 n.l, .int .i64 n.lt, .bool n.acc] 83) = W1 at *
  have b0 := cellN (i := 0) (x := .slice GA l.length gc) HBX.out rfl
  have bz := frozN (i := 0) HBX.out
  have bl := cell_lt HBX.out
  have n0 := cellN (i := 0) (x := .int .i64 n.op) hnx rfl
  have n1 := cellN (i := 1) (x := .slice IA n.ins.length ic) hnx rfl
  have n2 := cellN (i := 2) (x := .slice SA n.side.length sc) hnx rfl
  have n3 := cellN (i := 3) (x := .string ⟨n.text.toArray⟩) hnx rfl
  have n4 := cellN (i := 4) (x := .int .i64 n.ty.kind) hnx rfl
  have n5 := cellN (i := 5) (x := .slice A n.ty.args.length c) hnx rfl
  have n6 := cellN (i := 6) (x := .int .i64 n.f0) hnx rfl
  have n7 := cellN (i := 7) (x := .int .i64 n.f1) hnx rfl
  have n8 := cellN (i := 8) (x := .int .i64 n.f2) hnx rfl
  have n9 := cellN (i := 9) (x := .int .i64 n.f3) hnx rfl
  have n10 := cellN (i := 10) (x := .int .i64 n.e) hnx rfl
  have n11 := cellN (i := 11) (x := .int .i64 n.l) hnx rfl
  have n12 := cellN (i := 12) (x := .int .i64 n.lt) hnx rfl
  have n13 := cellN (i := 13) (x := .bool n.acc) hnx rfl
  have nl := cell_lt hnx
  clear hnx
  go_region_law (first
    | (go_simp; go_at_call 60; (with_reducible refine (HFR.out _ ?_).mono ?_); (focus exact (by repeat' (first | with_reducible exact Below.refl _ _ | with_reducible refine bl_al ?_ _ | with_reducible refine bl_dr ?_))); rintro e w2 ⟨⟨I1, S1, A1, k1, k2, k3, rfl, hgn⟩, hb2⟩; unfold Gn.val; have HB2 : Hid (Below W1.heap.size W1 w2) := Lib.hid (bl_tr (by repeat' (first | with_reducible exact Below.refl _ _ | with_reducible refine bl_dr ?_)) hb2); have HGN := Lib.hid hgn; have hbx2 := bl_blk HB2.out HBX.out; have e0 := cellN (i := 0) (x := .slice GA l.length gc) hbx2 rfl; have ez := frozN (i := 0) hbx2; have el := cell_lt hbx2; obtain ⟨xs, hox, hnn⟩ := (HB0.out.row.keep HBW.out).keep HB2.out; have HOX := Lib.hid hox; have HNN := Lib.hid hnn; have HBX2 := Lib.hid hbx2; have HTB : Hid (B ≤ w2.heap.size) := Lib.hid (Nat.le_trans HB0.out.top (Nat.le_trans HBW.out.size HB2.out.size)); clear hgn hb2 hbx2 hox hnn)
    | (go_simp; go_at_call 49; (with_reducible refine (add_many _ GA l.length gc { n with ty := madeT n.ty } I1 S1 A1 k1 k2 k3 HLL.out).mono ?_); rintro e w3 ⟨rfl, hb3⟩; have hbx3 := bl_blk hb3 HBX2.out; have HB3 := Lib.hid (bl_tr HB2.out hb3); have HBX3 := Lib.hid hbx3; have f0 := cellN (i := 0) (x := .slice GA l.length gc) hbx3 rfl; have f1 := cellN (i := 1) (x := .int .i64 m) hbx3 rfl; have fz := frozN (i := 0) hbx3; have fy := frozN (i := 1) hbx3; have fl := cell_lt hbx3; clear hb3 hbx3)
    | fail)
  all_goals (
    obtain ⟨hm0, hm1⟩ := HML.out
    go_wp2_with (fail)
    go_ret
    have hrow := (HB0.out.row.keep HBW.out).keep HB3.out
    have hbb := HBW.out.trans (HB3.out.mono HBW.out.size)
    have hlow := HB0.out.low
    have htop := HTB.out
    have htop2 := HB0.out.top
    have hs2 := hbb.size
    refine ⟨rfl, ⟨_, set_block (i := 1) (set_block (i := 0) HBX3.out), (hrow.far hlow).far hlow, hlow, ?_⟩, ⟨hbb.os, hbb.tape, hbb.output, ?_, fun b hb hne hno => ?_⟩⟩
    · rw [World.size_setCell, World.size_setCell]; omega
    · rw [World.size_setCell, World.size_setCell]; omega
    · exact (Below.heap_setCell _ ⟨BB, 1, none⟩ _ b hne).trans ((Below.heap_setCell _ ⟨BB, 0, none⟩ _ b hne).trans (hbb.block b hb)))
end Go.Proofs.YtllnamhgnbdkmaaGreatDoor
