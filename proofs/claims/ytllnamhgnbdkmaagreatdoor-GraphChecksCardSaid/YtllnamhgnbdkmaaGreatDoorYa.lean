/-
Stage 11: add. Stage 11: the nodes that a text is read as.
-/
import Derived.Test.YtllnamhgnbdkmaaGreatDoorJy
set_option linter.unusedVariables false
set_option linter.unusedSimpArgs false
namespace Go.Proofs.YtllnamhgnbdkmaaGreatDoor
open Go.RowKit Go.Shelf

theorem infoN : (Tryz.prog.info? 83).map (fun i => (i.zero, i.size, i.bytes)) = some (some (.agg #[.int .i64 0, .slice none 0 0, .slice none 0 0, .string ⟨#[]⟩, .int .i64 0, .slice none 0 0, .int .i64 0, .int .i64 0, .int .i64 0, .int .i64 0, .int .i64 0, .int .i64 0, .int .i64 0, .bool false]), 14, 168) := by kernel_rfl

set_option maxRecDepth 100000 in
set_option maxHeartbeats 1000000 in
theorem add_few (w : World) (B : Nat) (v : Value) (k : Nat) (xs : List Value) (n : Gn) (IA SA A : Option Addr) (ic sc c : Nat) (hv : w.ownsRow B 83 14 v k xs) (hk : k ≤ 32) (hB : B ≤ w.heap.size) :
    Calls Tryz.prog 49 #[v, .agg #[.int .i64 n.op, .slice IA n.ins.length ic, .slice SA n.side.length sc, .string ⟨n.text.toArray⟩, .int .i64 n.ty.kind, .slice A n.ty.args.length c, .int .i64 n.f0, .int .i64 n.f1, .int .i64 n.f2, .int .i64 n.f3, .int .i64 n.e, .int .i64 n.l, .int .i64 n.lt, .bool n.acc]] w fun e w' => ∃ v', e = .returned v' ∧ w'.ownsRow B 83 14 v' (k + 1) (xs ++ [.int .i64 n.op, .slice IA n.ins.length ic, .slice SA n.side.length sc, .string ⟨n.text.toArray⟩, .int .i64 n.ty.kind, .slice A n.ty.args.length c, .int .i64 n.f0, .int .i64 n.f1, .int .i64 n.f2, .int .i64 n.f3, .int .i64 n.e, .int .i64 n.l, .int .i64 n.lt, .bool n.acc]) ∧ w.grownBy w' v.ownBlock ∧ (v'.ownBlock = v.ownBlock ∨ ∃ g, v'.ownBlock = some g ∧ w.heap.size ≤ g) := by
  obtain ⟨i0, hi, hq0, hq1, hq2⟩ := info_parts infoN
  obtain ⟨Av, cv, rfl⟩ := own_slice hv
  have HV := Lib.hid hv
  have hnb : ¬ ((32 : Int) < (k : Int)) := by omega
  have HNW : Hid (((w.alloc (.cells #[.int .i64 n.op, .slice IA n.ins.length ic, .slice SA n.side.length sc, .string ⟨n.text.toArray⟩, .int .i64 n.ty.kind, .slice A n.ty.args.length c, .int .i64 n.f0, .int .i64 n.f1, .int .i64 n.f2, .int .i64 n.f3, .int .i64 n.e, .int .i64 n.l, .int .i64 n.lt, .bool n.acc] 83)).alloc (.cells #[.int .i64 n.op, .slice IA n.ins.length ic, .slice SA n.side.length sc, .string ⟨n.text.toArray⟩, .int .i64 n.ty.kind, .slice A n.ty.args.length c, .int .i64 n.f0, .int .i64 n.f1, .int .i64 n.f2, .int .i64 n.f3, .int .i64 n.e, .int .i64 n.l, .int .i64 n.lt, .bool n.acc] 83)).heap[w.heap.size + 1]? = some (.cells #[.int .i64 n.op, .slice IA n.ins.length ic, .slice SA n.side.length sc, .string ⟨n.text.toArray⟩, .int .i64 n.ty.kind, .slice A n.ty.args.length c, .int .i64 n.f0, .int .i64 n.f1, .int .i64 n.f2, .int .i64 n.f3, .int .i64 n.e, .int .i64 n.l, .int .i64 n.lt, .bool n.acc] 83 (0, 0))) := Lib.hid (by
    have := heap_alloc_new (w.alloc (.cells #[.int .i64 n.op, .slice IA n.ins.length ic, .slice SA n.side.length sc, .string ⟨n.text.toArray⟩, .int .i64 n.ty.kind, .slice A n.ty.args.length c, .int .i64 n.f0, .int .i64 n.f1, .int .i64 n.f2, .int .i64 n.f3, .int .i64 n.e, .int .i64 n.l, .int .i64 n.lt, .bool n.acc] 83)) (.cells #[.int .i64 n.op, .slice IA n.ins.length ic, .slice SA n.side.length sc, .string ⟨n.text.toArray⟩, .int .i64 n.ty.kind, .slice A n.ty.args.length c, .int .i64 n.f0, .int .i64 n.f1, .int .i64 n.f2, .int .i64 n.f3, .int .i64 n.e, .int .i64 n.l, .int .i64 n.lt, .bool n.acc] 83)
    rwa [World.size_alloc] at this)
  clear hv
  go_enter Tryz.func49, Tryz.ntmps49
  go_wp2_with (at_builtin; refine wpList_append_own_at _ rfl _ _ 25 rfl B 83 i0 (.agg #[.int .i64 0, .slice none 0 0, .slice none 0 0, .string ⟨#[]⟩, .int .i64 0, .slice none 0 0, .int .i64 0, .int .i64 0, .int .i64 0, .int .i64 0, .int .i64 0, .int .i64 0, .int .i64 0, .bool false]) 14 168 Tryz.underlying25 hi hq0 hq1 hq2 rfl (by decide) _ k xs rfl ((HV.out.alloc _).alloc _) ⟨w.heap.size + 1, 0, none⟩ 1 1 [.int .i64 n.op, .slice IA n.ins.length ic, .slice SA n.side.length sc, .string ⟨n.text.toArray⟩, .int .i64 n.ty.kind, .slice A n.ty.args.length c, .int .i64 n.f0, .int .i64 n.f1, .int .i64 n.f2, .int .i64 n.f3, .int .i64 n.e, .int .i64 n.l, .int .i64 n.lt, .bool n.acc] rfl rfl (World.news_of_block (cs := #[.int .i64 n.op, .slice IA n.ins.length ic, .slice SA n.side.length sc, .string ⟨n.text.toArray⟩, .int .i64 n.ty.kind, .slice A n.ty.args.length c, .int .i64 n.f0, .int .i64 n.f1, .int .i64 n.f2, .int .i64 n.f3, .int .i64 n.e, .int .i64 n.l, .int .i64 n.lt, .bool n.acc]) (t := 83) (fr := (0, 0)) HNW.out) (by simp [Value.oneCell']) (by unfold maxLen; omega) (by omega) (by simp; omega) ?_; intro v7 w7 hown7 hg7 _ hat7)
  go_ret
  have hba : Below w.heap.size w ((w.alloc (.cells #[.int .i64 n.op, .slice IA n.ins.length ic, .slice SA n.side.length sc, .string ⟨n.text.toArray⟩, .int .i64 n.ty.kind, .slice A n.ty.args.length c, .int .i64 n.f0, .int .i64 n.f1, .int .i64 n.f2, .int .i64 n.f3, .int .i64 n.e, .int .i64 n.l, .int .i64 n.lt, .bool n.acc] 83)).alloc (.cells #[.int .i64 n.op, .slice IA n.ins.length ic, .slice SA n.side.length sc, .string ⟨n.text.toArray⟩, .int .i64 n.ty.kind, .slice A n.ty.args.length c, .int .i64 n.f0, .int .i64 n.f1, .int .i64 n.f2, .int .i64 n.f3, .int .i64 n.e, .int .i64 n.l, .int .i64 n.lt, .bool n.acc] 83)) := bl_al (bl_al (Below.refl _ _) _) _
  refine ⟨v7, rfl, hown7, ⟨hg7.os.trans hba.os, hg7.tape.trans hba.tape, hg7.output.trans hba.output, Nat.le_trans hba.size hg7.size, fun i hi hne => (hg7.block i (Nat.lt_of_lt_of_le hi hba.size) hne).trans (hba.block i hi)⟩, ?_⟩
  rcases hat7 with h | h
  · exact Or.inl h
  · exact Or.inr ⟨_, h, hba.size⟩

set_option maxRecDepth 100000 in
theorem add_many (w : World) (Av : Option Addr) (k cv : Nat) (n : Gn) (IA SA A : Option Addr) (ic sc c : Nat) (hk : 33 ≤ k) :
    Calls Tryz.prog 49 #[.slice Av k cv, .agg #[.int .i64 n.op, .slice IA n.ins.length ic, .slice SA n.side.length sc, .string ⟨n.text.toArray⟩, .int .i64 n.ty.kind, .slice A n.ty.args.length c, .int .i64 n.f0, .int .i64 n.f1, .int .i64 n.f2, .int .i64 n.f3, .int .i64 n.e, .int .i64 n.l, .int .i64 n.lt, .bool n.acc]] w fun e w' => e = .returned (.slice Av k cv) ∧ Below w.heap.size w w' := by
  have hnb : ((32 : Int) < (k : Int)) := by omega
  go_enter Tryz.func49, Tryz.ntmps49
  go_wp2_with (fail)
  go_ret
  exact ⟨rfl, bl_al (Below.refl _ _) _⟩

end Go.Proofs.YtllnamhgnbdkmaaGreatDoor
namespace Go.Proofs.YtllnamhgnbdkmaaGreatDoor
open Go.RowKit Go.Shelf

/-- The nodes of a text's lines, or the first line that is none. -/
def rdLines (q : List UInt8 → Option (List Int)) : Nat → List UInt8 → Nat × Option (List Gn)
  | 0, _ => (0, some [])
  | f + 1, rest => if rest = [] then (0, some []) else match lineR q (Lib.cut rest [10]).1, (Lib.cut rest [10]).2.2 with
    | some n, true => (match rdLines q f (Lib.cut rest [10]).2.1 with
      | (k, some l) => (k + 1, some (n :: l))
      | (k, none) => (k + 1, none))
    | _, _ => (0, none)
/-- Parse's answer. -/
def parseP (q : List UInt8 → Option (List Int)) (s : List UInt8) : Nat × Int × List Gn := match rdLines q s.length s with
  | (k, none) => (k, 40, [])
  | (_, some l) => if (chkAll (l.take 33)).2 = 0 then (0, 0, l.take 33) else ((chkAll (l.take 33)).1, (chkAll (l.take 33)).2, [])

/-- Nodes lie in a row of their own. -/
def NsO (w : World) (B d : Nat) (v : Value) (l : List Gn) : Prop := ∃ xs, w.ownsRow B 83 14 v l.length xs ∧ ∀ (j : Nat) (n : Gn), l[j]? = some n → ∃ IA SA A ic sc c, GnAt w (fun b => B ≤ b ∧ some b ≠ v.ownBlock) d (n.val IA SA A ic sc c) n ∧ ∀ (i : Nat) (u : Value), (n.val IA SA A ic sc c).cells[i]? = some u → xs[j * 14 + i]? = some u

theorem NsO.nil (w : World) (B d : Nat) : NsO w B d (.slice none 0 0) [] := ⟨[], World.ownsRow_nil _ _ _ _, fun j n h => by cases h⟩
theorem NsO.gs {w : World} {B d : Nat} {v : Value} {l : List Gn} (h : NsO w B d v l) : GsAt w (fun b => B ≤ b) d v l := by
  obtain ⟨xs, ho, hn⟩ := h
  have ho2 := ho
  rcases ho2.2 with ⟨rfl, h0⟩ | ⟨g, cap, cur, rfl, hb, hg, hle, hc⟩
  · exact ⟨none, 0, by rw [h0], by omega, fun h1 => by omega⟩
  · refine ⟨some ⟨g, 0, none⟩, cap, rfl, hle, fun _ => ⟨g, 0, rfl, hb, cell_lt hg, fun j n hj => ?_⟩⟩
    obtain ⟨IA, SA, A, ic, sc, c, hgn, hu⟩ := hn j n hj
    refine ⟨IA, SA, A, ic, sc, c, hgn.move fun b hb hl => ⟨hb.1, hl, fun _ => rfl⟩, fun i u hx => ?_⟩
    have h1 := hu i u hx
    have hlt := (List.getElem?_eq_some_iff.1 h1).1
    have h2 := ho.cellAt (j * 14 + i) (by rw [← ho.1]; exact hlt)
    rw [show 0 + j * 14 + i = j * 14 + i by omega, h2, h1]
theorem NsO.keep {w w' : World} {B d : Nat} {v : Value} {l : List Gn} (h : NsO w B d v l) (hb : Below w.heap.size w w') : NsO w' B d v l := by
  obtain ⟨xs, ho, hn⟩ := h
  refine ⟨xs, ho.kept (row := none) ⟨hb.os, hb.tape, hb.output, hb.size, fun i hi _ => hb.block i hi⟩ (by cases v.ownBlock <;> simp), fun j n hj => ?_⟩
  obtain ⟨IA, SA, A, ic, sc, c, hgn, hu⟩ := hn j n hj
  exact ⟨IA, SA, A, ic, sc, c, hgn.below hb, hu⟩
theorem NsO.low {w : World} {B d : Nat} {v : Value} {l : List Gn} (h : NsO w B d v l) {g : Nat} (hg : v.ownBlock = some g) : B ≤ g ∧ g < w.heap.size := by
  obtain ⟨xs, ho, hn⟩ := h
  rcases ho.2 with ⟨rfl, h0⟩ | ⟨g', cap, cur, rfl, hb, hg', hle, hc⟩
  · cases hg
  · cases hg
    exact ⟨hb, cell_lt hg'⟩
theorem Gn.cells14 (n : Gn) (IA SA A : Option Addr) (ic sc c : Nat) : (n.val IA SA A ic sc c).cells.toList = [.int .i64 n.op, .slice IA n.ins.length ic, .slice SA n.side.length sc, .string ⟨n.text.toArray⟩, .int .i64 n.ty.kind, .slice A n.ty.args.length c, .int .i64 n.f0, .int .i64 n.f1, .int .i64 n.f2, .int .i64 n.f3, .int .i64 n.e, .int .i64 n.l, .int .i64 n.lt, .bool n.acc] := rfl

/-- One node more in the row. -/
theorem NsO.more {w w' : World} {B d : Nat} {v v' : Value} {l : List Gn} {n : Gn} {IA SA A : Option Addr} {ic sc c : Nat} {xs : List Value} (ho : w.ownsRow B 83 14 v l.length xs) (hn : ∀ (j : Nat) (n : Gn), l[j]? = some n → ∃ IA SA A ic sc c, GnAt w (fun b => B ≤ b ∧ some b ≠ v.ownBlock) d (n.val IA SA A ic sc c) n ∧ ∀ (i : Nat) (u : Value), (n.val IA SA A ic sc c).cells[i]? = some u → xs[j * 14 + i]? = some u) (hgn : GnAt w (fun b => B ≤ b ∧ some b ≠ v.ownBlock) d (n.val IA SA A ic sc c) n)
    (ho' : w'.ownsRow B 83 14 v' (l.length + 1) (xs ++ [.int .i64 n.op, .slice IA n.ins.length ic, .slice SA n.side.length sc, .string ⟨n.text.toArray⟩, .int .i64 n.ty.kind, .slice A n.ty.args.length c, .int .i64 n.f0, .int .i64 n.f1, .int .i64 n.f2, .int .i64 n.f3, .int .i64 n.e, .int .i64 n.l, .int .i64 n.lt, .bool n.acc])) (hg : w.grownBy w' v.ownBlock) (hat : v'.ownBlock = v.ownBlock ∨ ∃ g, v'.ownBlock = some g ∧ w.heap.size ≤ g) : NsO w' B d v' (l ++ [n]) := by
  have hmv : ∀ b, (B ≤ b ∧ some b ≠ v.ownBlock) → b < w.heap.size → (B ≤ b ∧ some b ≠ v'.ownBlock) ∧ b < w'.heap.size ∧ ∀ o, w'.cell? ⟨b, o, none⟩ = w.cell? ⟨b, o, none⟩ := fun b hb hl => by
    refine ⟨⟨hb.1, ?_⟩, Nat.lt_of_lt_of_le hl hg.size, fun o => World.cell?_of_block (hg.block b hl hb.2)⟩
    rcases hat with h | ⟨g, h, hgl⟩
    · rw [h]; exact hb.2
    · rw [h]
      intro e
      have := Option.some.inj e
      omega
  refine ⟨_, by rw [List.length_append]; exact ho', fun j m hj => ?_⟩
  have hxl := ho.1
  rcases Nat.lt_or_ge j l.length with hlt | hge
  · rw [List.getElem?_append_left hlt] at hj
    obtain ⟨IA, SA, A, ic, sc, c, hgn, hu⟩ := hn j m hj
    refine ⟨IA, SA, A, ic, sc, c, hgn.move hmv, fun i u hx => ?_⟩
    have h1 := hu i u hx
    rw [List.getElem?_append_left (List.getElem?_eq_some_iff.1 h1).1]
    exact h1
  · rw [List.getElem?_append_right hge] at hj
    obtain rfl : j = l.length := by have := (List.getElem?_eq_some_iff.1 hj).1; simp at this; omega
    rw [Nat.sub_self] at hj
    obtain rfl : n = m := Option.some.inj hj
    refine ⟨IA, SA, A, ic, sc, c, hgn.move hmv, fun i u hx => ?_⟩
    rw [List.getElem?_append_right (by omega), hxl, Nat.add_sub_cancel_left, ← Gn.cells14 n IA SA A ic sc c]
    simpa using hx

/-- One node more. -/
theorem add_any (w : World) (B d : Nat) (v : Value) (l : List Gn) (n : Gn) (IA SA A : Option Addr) (ic sc c : Nat) (hv : NsO w B d v l) (hk : l.length ≤ 32) (hB : B ≤ w.heap.size) (hgn : GnAt w (fun b => B ≤ b ∧ some b ≠ v.ownBlock) d (n.val IA SA A ic sc c) n) :
    Calls Tryz.prog 49 #[v, .agg #[.int .i64 n.op, .slice IA n.ins.length ic, .slice SA n.side.length sc, .string ⟨n.text.toArray⟩, .int .i64 n.ty.kind, .slice A n.ty.args.length c, .int .i64 n.f0, .int .i64 n.f1, .int .i64 n.f2, .int .i64 n.f3, .int .i64 n.e, .int .i64 n.l, .int .i64 n.lt, .bool n.acc]] w fun e w' => ∃ v', e = .returned v' ∧ NsO w' B d v' (l ++ [n]) ∧ Below B w w' := by
  have hlow := fun g => hv.low (g := g)
  obtain ⟨xs, ho, hn⟩ := hv
  refine (add_few w B v l.length xs n IA SA A ic sc c ho hk hB).mono ?_
  rintro e w' ⟨v', rfl, ho', hg, hat⟩
  exact ⟨v', rfl, NsO.more ho hn hgn ho' hg hat, ⟨hg.os, hg.tape, hg.output, hg.size, fun k hk => hg.block k (Nat.lt_of_lt_of_le hk hB) (fun e => by have := (hlow k e.symm).1; omega)⟩⟩

end Go.Proofs.YtllnamhgnbdkmaaGreatDoor
