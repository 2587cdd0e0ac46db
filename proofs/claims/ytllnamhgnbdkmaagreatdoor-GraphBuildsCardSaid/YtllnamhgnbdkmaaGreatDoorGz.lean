/-
Stage 11: the row of the nodes that GraphBuilds lays, some of whose parts are the caller's own.
-/
import Derived.Test.YtllnamhgnbdkmaaGreatDoorHa
import Derived.Test.YtllnamhgnbdkmaaGreatDoorGw
set_option linter.unusedVariables false
set_option linter.unusedSimpArgs false
namespace Go.Proofs.YtllnamhgnbdkmaaGreatDoor
open Go.RowKit Go.Shelf Go.Sort
def Prt (w : World) (z top b : Nat) : Prop := b < top ∧ (b < z ∨ ∃ x : Int, w.heap[b]? = some (.cells #[.int .i64 x] 3 (0, 0)))
def PlR (w : World) (z top d : Nat) (v : Value) (l : List Gn) : Prop := z ≤ top ∧ top ≤ w.heap.size ∧ (∀ g, v.ownBlock = some g → g < top) ∧ ∃ xs, w.ownsRow z 51 14 v l.length xs ∧ ∀ (j : Nat) (n : Gn), l[j]? = some n → ∃ IA SA A ic sc c, GnAt w (Prt w z top) d (n.val IA SA A ic sc c) n ∧ ∀ (i : Nat) (u : Value), (n.val IA SA A ic sc c).cells[i]? = some u → xs[j * 14 + i]? = some u
theorem PlR.nil {w : World} {z top d : Nat} (h1 : z ≤ top) (h2 : top ≤ w.heap.size) : PlR w z top d (.slice none 0 0) [] := ⟨h1, h2, (fun g h => by cases h), [], World.ownsRow_nil _ _ _ _, (fun j n h => by cases h)⟩
theorem PlR.form {w : World} {z top d : Nat} {v : Value} {l : List Gn} (h : PlR w z top d v l) : ∃ A c, v = .slice A l.length c := by
  obtain ⟨_, _, _, xs, ho, _⟩ := h
  exact own_slice ho
theorem PlR.gs {w : World} {z top d : Nat} {v : Value} {l : List Gn} (h : PlR w z top d v l) : GsAt w (fun _ => True) d v l := by
  obtain ⟨_, _, _, xs, ho, hn⟩ := h
  have ho2 := ho
  rcases ho2.2 with ⟨rfl, h0⟩ | ⟨g, cap, cur, rfl, hb, hg, hle, hc⟩
  · exact ⟨none, 0, by rw [h0], by omega, fun h1 => by omega⟩
  · refine ⟨some ⟨g, 0, none⟩, cap, rfl, hle, fun _ => ⟨g, 0, rfl, trivial, cell_lt hg, fun j n hj => ?_⟩⟩
    obtain ⟨IA, SA, A, ic, sc, c, hgn, hu⟩ := hn j n hj
    refine ⟨IA, SA, A, ic, sc, c, hgn.move fun b hb hl => ⟨trivial, hl, fun _ => rfl⟩, fun i u hx => ?_⟩
    have h1 := hu i u hx
    have hlt := (List.getElem?_eq_some_iff.1 h1).1
    have h2 := ho.cellAt (j * 14 + i) (by rw [← ho.1]; exact hlt)
    rw [show 0 + j * 14 + i = j * 14 + i by omega, h2, h1]
theorem PlR.keepP {w w' : World} {z top d : Nat} {v : Value} {l : List Gn} (h : PlR w z top d v l) (hs : w.heap.size ≤ w'.heap.size) (hk : ∀ b, Prt w z top b ∨ v.ownBlock = some b → w'.heap[b]? = w.heap[b]?) : PlR w' z top d v l := by
  obtain ⟨h1, h2, h3, xs, ho, hn⟩ := h
  refine ⟨h1, Nat.le_trans h2 hs, h3, xs, ⟨ho.1, ?_⟩, fun j n hj => ?_⟩
  · rcases ho.2 with ⟨rfl, h0⟩ | ⟨g, cap, cur, rfl, hb, hg, hle, hc⟩
    · exact .inl ⟨rfl, h0⟩
    · exact .inr ⟨g, cap, cur, rfl, hb, (hk g (.inr rfl)).trans hg, hle, hc⟩
  · obtain ⟨IA, SA, A, ic, sc, c, hgn, hu⟩ := hn j n hj
    refine ⟨IA, SA, A, ic, sc, c, hgn.move fun b hb hl => ⟨⟨hb.1, hb.2.imp id fun ⟨x, hx⟩ => ⟨x, (hk b (.inl hb)).trans hx⟩⟩, Nat.lt_of_lt_of_le hl hs, fun o => World.cell?_of_block (hk b (.inl hb))⟩, hu⟩
theorem PlR.aside {w w' : World} {z top d : Nat} {v : Value} {l : List Gn} (h : PlR w z top d v l) (hs : w.heap.size ≤ w'.heap.size) (hk : ∀ b, b < top → w'.heap[b]? = w.heap[b]?) : PlR w' z top d v l :=
  h.keepP hs fun b hb => hk b (hb.elim (·.1) (h.2.2.1 b))
theorem PlR.below {w w' : World} {z top d : Nat} {v : Value} {l : List Gn} (h : PlR w z top d v l) (hb : Below w.heap.size w w') : PlR w' z top d v l :=
  h.aside hb.size fun b hl => hb.block b (Nat.lt_of_lt_of_le hl h.2.1)
theorem PlR.set {w : World} {z top d g i : Nat} {v u : Value} {l : List Gn} (h : PlR w z top d v l) (hg : top ≤ g) : PlR (w.setCell ⟨g, i, none⟩ u) z top d v l :=
  h.aside (by simp [World.setCell]) fun b hl => Below.heap_setCell w ⟨g, i, none⟩ u b (by show b ≠ g; omega)
theorem PlR.up {w : World} {z top top' d : Nat} {v : Value} {l : List Gn} (h : PlR w z top d v l) (h1 : top ≤ top') (h2 : top' ≤ w.heap.size) : PlR w z top' d v l := by
  obtain ⟨k1, k2, k3, xs, ho, hn⟩ := h
  refine ⟨Nat.le_trans k1 h1, h2, fun g hg => Nat.lt_of_lt_of_le (k3 g hg) h1, xs, ho, fun j n hj => ?_⟩
  obtain ⟨IA, SA, A, ic, sc, c, hgn, hu⟩ := hn j n hj
  exact ⟨IA, SA, A, ic, sc, c, hgn.move fun b hb hl => ⟨⟨Nat.lt_of_lt_of_le hb.1 h1, hb.2⟩, hl, fun _ => rfl⟩, hu⟩
theorem PlR.row {w : World} {z top d g : Nat} {v : Value} {l : List Gn} (h : PlR w z top d v l) (hg : v.ownBlock = some g) : ∃ c, w.heap[g]? = some (.cells c 51 (0, 0)) := by
  obtain ⟨_, _, _, xs, ho, _⟩ := h
  rcases ho.2 with ⟨rfl, h0⟩ | ⟨g', cap, cur, rfl, hb, hg', hle, hc⟩
  · cases hg
  · cases hg
    exact ⟨cur, hg'⟩
theorem NsO.row {w : World} {B d g : Nat} {v : Value} {l : List Gn} (h : NsO w B d v l) (hg : v.ownBlock = some g) : ∃ c, w.heap[g]? = some (.cells c 83 (0, 0)) := by
  obtain ⟨xs, ho, _⟩ := h
  rcases ho.2 with ⟨rfl, h0⟩ | ⟨g', cap, cur, rfl, hb, hg', hle, hc⟩
  · cases hg
  · cases hg
    exact ⟨cur, hg'⟩
theorem PlR.lay {w w' : World} {z top d BB B : Nat} {C : Nat → Prop} {v bv : Value} {l bl : List Gn} {m : Int} (h : PlR w z top d v l) (hB : Bld w BB B C bv bl m) (hz : z ≤ BB) (hk : KpB BB bv.ownBlock w w') : PlR w' z top d v l := by
  refine h.keepP hk.size fun b hb => hk.block b ?_ ?_ ?_
  · rcases hb with hb | hb
    · exact Nat.lt_of_lt_of_le hb.1 h.2.1
    · exact Nat.lt_of_lt_of_le (h.2.2.1 b hb) h.2.1
  · rintro rfl
    rcases hb with hb | hb
    · rcases hb.2 with hb | ⟨x, hb⟩
      · omega
      · have := hB.box
        rw [hb] at this
        simp at this
    · obtain ⟨c, hc⟩ := h.row hb
      have := hB.box
      rw [hc] at this
      simp at this
  · intro e
    obtain ⟨c, hc⟩ := hB.row.ns.row e.symm
    rcases hb with hb | hb
    · rcases hb.2 with hb | ⟨x, hb⟩
      · have := (hB.row.low e.symm).1
        have := hB.low
        omega
      · rw [hb] at hc
        simp at hc
    · obtain ⟨c', hc'⟩ := h.row hb
      rw [hc'] at hc
      simp at hc
theorem PlR.more {w w' : World} {z top d : Nat} {v v' : Value} {l : List Gn} {n : Gn} {IA SA A : Option Addr} {ic sc c : Nat} (h : PlR w z top d v l) (hgn : GnAt w (Prt w z w.heap.size) d (n.val IA SA A ic sc c) n)
    (ho' : ∀ xs, w.ownsRow z 51 14 v l.length xs → w'.ownsRow z 51 14 v' (l.length + 1) (xs ++ (n.val IA SA A ic sc c).cells.toList)) (hg : w.grownBy w' v.ownBlock) : PlR w' z w'.heap.size d v' (l ++ [n]) := by
  have hR := h
  obtain ⟨h1, h2, h3, xs, ho, hn⟩ := h
  have hO := ho' xs ho
  have hkp : ∀ b, Prt w z w.heap.size b → w'.heap[b]? = w.heap[b]? := fun b hb => hg.block b hb.1 fun e => by
    obtain ⟨c, hc⟩ := hR.row e.symm
    rcases hb.2 with hb | ⟨x, hb⟩
    · have := (ho.lt b e.symm).1
      omega
    · rw [hb] at hc
      simp at hc
  have hmv : ∀ b, Prt w z w.heap.size b → b < w.heap.size → Prt w' z w'.heap.size b ∧ b < w'.heap.size ∧ ∀ o, w'.cell? ⟨b, o, none⟩ = w.cell? ⟨b, o, none⟩ := fun b hb hl =>
    ⟨⟨Nat.lt_of_lt_of_le hl hg.size, hb.2.imp id fun ⟨x, hx⟩ => ⟨x, (hkp b hb).trans hx⟩⟩, Nat.lt_of_lt_of_le hl hg.size, fun o => World.cell?_of_block (hkp b hb)⟩
  refine ⟨Nat.le_trans h1 (Nat.le_trans h2 hg.size), Nat.le_refl _, fun g e => (hO.lt g e).2, _, by rw [List.length_append]; exact hO, fun j m hj => ?_⟩
  have hxl : xs.length = l.length * 14 := ho.1
  by_cases hjl : j < l.length
  · rw [List.getElem?_append_left hjl] at hj
    obtain ⟨IA2, SA2, A2, ic2, sc2, c2, hgn2, hu⟩ := hn j m hj
    refine ⟨IA2, SA2, A2, ic2, sc2, c2, hgn2.move fun b hb hl => hmv b ⟨hl, hb.2⟩ hl, fun i u hi => ?_⟩
    have h9 := hu i u hi
    rw [List.getElem?_append_left (List.getElem?_eq_some_iff.1 h9).1]
    exact h9
  · rw [List.getElem?_append_right (by omega)] at hj
    have hj2 := (List.getElem?_eq_some_iff.1 hj).1
    simp only [List.length_singleton] at hj2
    obtain rfl : j = l.length := by omega
    simp only [Nat.sub_self, List.getElem?_cons_zero, Option.some.injEq] at hj
    subst hj
    refine ⟨IA, SA, A, ic, sc, c, hgn.move fun b hb hl => hmv b hb hl, fun i u hi => ?_⟩
    rw [List.getElem?_append_right (by omega), hxl, Nat.add_sub_cancel_left]
    simpa using hi
end Go.Proofs.YtllnamhgnbdkmaaGreatDoor
set_option linter.unusedVariables false
set_option linter.unusedSimpArgs false
namespace Go.Proofs.YtllnamhgnbdkmaaGreatDoor.Lw5
open Go.ChangeShapes Go.WideShapes Go.RowKit
open Go.Proofs.YtllnamhgnbdkmaaGreatDoor.Lw (SmOut cellsK3 ty_made_e)
set_option maxRecDepth 100000 in
set_option maxHeartbeats 1000000 in
theorem typ_own (d n : Nat) (S : Nat → Prop) (v : Value) (t : Ty) (w : World) (hN : Lw.Nar (n + 1) t) (hT : TyAt w S (d + 1) v t) :
    Calls Tryz.prog 28 #[v] w fun e w' => (∃ A' c' cs, e = .returned (.agg #[.int .i64 t.kind, .slice A' t.args.length c']) ∧ TyAt w' (fun b => w.heap.size ≤ b) (d + 1) (.agg #[.int .i64 t.kind, .slice A' t.args.length c']) t ∧ w'.ownsRow (w.heap.size + 2) 64 2 (.slice A' t.args.length c') t.args.length cs) ∧ Below w.heap.size w w' := by
  obtain ⟨i0, hi, hq0, hq1, hq2⟩ := info_parts info37
  obtain ⟨hlen, hall⟩ := hN
  have IH := Lw5.typ_any d n
  have HIH := Lib.hid IH
  have HALL := Lib.hid hall
  have HT := Lib.hid hT
  obtain ⟨A, c, rfl, hlc, hA⟩ := hT
  have HA := Lib.hid hA
  clear hA IH hall
  go_enter Tryz.func28, Tryz.ntmps28
  go_wp2_with (fail)
  go_loopw [3, 9] (fun vs i wr => ∃ (j : Nat) (cs : List Value), i = .int .i64 j ∧ j ≤ t.args.length ∧ OfInv w (.slice A t.args.length c) t t.kind d j vs cs wr) (fun _ i _ => 6000 - (intOf i).toNat)
  case atStart =>
    refine ⟨0, [], rfl, by omega, ((Below.refl _ _).alloc (Nat.le_refl _) _).alloc (by simp) _, by simp, ?_, ?_, World.ownsRow_nil _ _ _ _, fun i a hi => by omega⟩
    · rw [Below.heap_alloc _ _ _ (by simp)]; exact heap_alloc_new w _
    · exact (by simpa using heap_alloc_new (w.alloc _) _)
  case round =>
    obtain ⟨j, cs, rfl, hj, hI⟩ := hrel
    obtain ⟨vs, rfl⟩ : ∃ vs : Value, vs = u3 := ⟨_, rfl⟩
    have HI := Lib.hid hI
    have b0 := cell2_0 hI.box
    have b1 := cell2_1 hI.box
    have r0 := cell2_0 hI.res
    have r1 := cell2_1 hI.res
    have f0 := cell3_f hI.res 0
    have f1 := cell3_f hI.res 1
    have hbr := hI.below
    have hsz := hI.size
    clear hI
    by_cases hlt : j < t.args.length
    · obtain ⟨b, o, rfl, hSb, hcells⟩ := HA.out (by omega)
      obtain ⟨B1, k1, h0, h1, h2, hbl⟩ := arg_cells hcells hlt
      have g0 := (hbr.cell (p := ⟨b, o + j * 2, none⟩) hbl).trans h0
      have g1 := (hbr.cell (p := ⟨b, o + j * 2 + 1, none⟩) hbl).trans h1
      have hna := HALL.out _ (List.getElem_mem hlt)
      have hat : t.args[j]? = some t.args[j] := List.getElem?_eq_getElem hlt
      generalize t.args[j] = a at *
      have HAT := Lib.hid hat
      have H2 := Lib.hid ((h2.below hbr).below ((Below.refl wr.heap.size wr).alloc (Nat.le_refl _) (.cells #[.int .i64 a.kind, .slice B1 a.args.length k1] 45)))
      have HNA := Lib.hid hna
      clear h0 h1 h2 hat hna hcells
      go_wp2_with (fail)
      refine (HIH.out S _ a _ HNA.out H2.out).mono ?_
      rintro e w3 ⟨⟨v3, rfl, hT3⟩, hb3⟩
      obtain ⟨A3, c3, rfl⟩ := hT3.form
      have HT3 := Lib.hid hT3
      have hs3 := hb3.size
      have hown3 := HI.out.own.kept (row := none) ⟨hb3.os, hb3.tape, hb3.output, by have := hb3.size; simp at this; omega, fun k hk _ => (hb3.block k (by simp; omega)).trans (Below.heap_alloc wr _ k hk)⟩ (by cases hv : vs.ownBlock <;> simp)
      clear hT3
      simp only [World.size_alloc] at hs3
      go_wp2_with (at_builtin; refine wpList_append_own_at _ rfl _ _ 62 rfl (w.heap.size + 2) 64 i0 (.agg #[.int .i64 0, .slice none 0 0]) 2 32 Tryz.underlying62 hi hq0 hq1 hq2 rfl (by decide) vs j cs rfl (hown3.alloc _) ⟨w3.heap.size, 0, none⟩ 1 1 [.int .i64 a.kind, .slice A3 a.args.length c3] rfl rfl (cell_two_new _ _ _ _ _ rfl) (two_one _ _ _ _) (by unfold maxLen; omega) (by omega) (by simp; omega) ?_; intro v' w7 hown7 hgrow7 _ hat7)
      go_roundw
      case rel => exact ⟨j + 1, _, by go_num, by omega, OfInv.next HI.out hb3 HT3.out HAT.out hgrow7 hown7 hat7⟩
      case measure => simp [intOf]; omega
    · obtain rfl : j = t.args.length := by omega
      have hO := HI.out
      obtain ⟨A', c', rfl⟩ := own_slice hO.own
      go_wp2_with (fail)
      refine bodyPost_ret (v := .agg #[.int .i64 t.kind, .slice A' t.args.length c']) (by simp [results, Tryz.results28, go_sem, r0, r1]) rfl ?_
      refine ⟨⟨A', c', cs, rfl, ?_, ?_⟩, (hbr.setCell (p := ⟨w.heap.size + 1, 0, none⟩) (by show _ ≤ w.heap.size + 1; omega) _).setCell (p := ⟨w.heap.size + 1, 1, none⟩) (by show _ ≤ w.heap.size + 1; omega) _⟩
      · have := ty_made_e (wF := (wr.setCell ⟨w.heap.size + 1, 0, none⟩ (.int .i64 t.kind)).setCell ⟨w.heap.size + 1, 1, none⟩ (.slice A' t.args.length c')) (lo := w.heap.size) (kd := t.kind) (acc := t.args) hO.own rfl (fun i a ha => hO.args i a (List.getElem?_eq_some_iff.1 ha).1 ha) (fun b hb => hb.1) (by omega) (fun b hb hl => by
          rw [Below.heap_setCell _ _ _ _ (by show b ≠ w.heap.size + 1; omega), Below.heap_setCell _ _ _ _ (by show b ≠ w.heap.size + 1; omega)])
        exact (show Ty.mk t.kind t.args = t by cases t; rfl) ▸ this
      · refine hO.own.kept (row := some (w.heap.size + 1)) ⟨rfl, rfl, rfl, by simp [World.setCell], fun k hk hne => ?_⟩ (.inr (fun e => by have := (hO.own.lt _ e).1; omega))
        have hk1 : k ≠ w.heap.size + 1 := fun e => hne (by rw [e])
        rw [Below.heap_setCell _ ⟨w.heap.size + 1, 1, none⟩ _ k hk1, Below.heap_setCell _ ⟨w.heap.size + 1, 0, none⟩ _ k hk1]
theorem typ_own_any : ∀ (d n : Nat) (S : Nat → Prop) (v : Value) (t : Ty) (w : World) (hN : Lw.Nar n t) (hT : TyAt w S d v t),
    Calls Tryz.prog 28 #[v] w fun e w' => (∃ A' c' cs, e = .returned (.agg #[.int .i64 t.kind, .slice A' t.args.length c']) ∧ TyAt w' (fun b => w.heap.size ≤ b) d (.agg #[.int .i64 t.kind, .slice A' t.args.length c']) t ∧ w'.ownsRow (w.heap.size + 2) 64 2 (.slice A' t.args.length c') t.args.length cs) ∧ Below w.heap.size w w'
  | 0, n, S, v, t, w, _, hT => hT.elim
  | d + 1, 0, S, v, t, w, hN, _ => hN.elim
  | d + 1, n + 1, S, v, t, w, hN, hT => typ_own d n S v t w hN hT
end Go.Proofs.YtllnamhgnbdkmaaGreatDoor.Lw5
