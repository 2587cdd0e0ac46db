/-
What every proof of a row of this seat leans on: arguments opened.
-/
import Derived.Test.YtkgomnegeacceaaRows
import Derived.Test.YtkgomnegeacceaaPk
import Derived.ProofKit
import Derived.LaidMore
import Derived.OpenShut
import Derived.Stop.Joined
import Derived.Carry
import Derived.Deep.Slices
set_option linter.unusedVariables false
namespace Go.Proofs.Ytkgomnegeacceaa
open Go.ChangeShapes Go.WideShapes Go.ChangeAt Go.RowKit Go.Deep

theorem own : ownKnob Try.prog.godebug = none := by kernel_rfl
theorem laidOut : laidOutB Try.prog = true := by kernel_rfl
theorem cellsTr : Try.prog.cellsOf 28 = 2 := by kernel_rfl
theorem cellsIn : Try.prog.cellsOf 31 = 3 := by kernel_rfl

theorem pick_all {α : Type} (P : Nat → α → Prop) : ∀ (n : Nat), (∀ i, i < n → ∃ t, P i t) → ∃ l : List α, l.length = n ∧ ∀ i t, l[i]? = some t → P i t
  | 0, _ => ⟨[], rfl, fun i t h => by simp at h⟩
  | n + 1, h => by
    obtain ⟨l, hl, hP⟩ := pick_all P n (fun i hi => h i (by omega))
    obtain ⟨t, ht⟩ := h n (by omega)
    refine ⟨l ++ [t], by simp [hl], fun i u hu => ?_⟩
    rcases Nat.lt_or_ge i l.length with hlt | hge
    · rw [List.getElem?_append_left hlt] at hu
      exact hP i u hu
    · have hi := (List.getElem?_eq_some_iff.1 hu).1
      obtain rfl : i = n := by simp at hi; omega
      rw [List.getElem?_append_right (by omega), hl, Nat.sub_self] at hu
      simp at hu
      subst hu
      exact ht

theorem addr_form {w : World} {a : Addr} {v : Value} (h : w.cell? a = some v) : a = ⟨a.block, a.off, none⟩ := by
  cases a with
  | mk b o s =>
    cases s with
    | none => rfl
    | some s =>
      unfold World.cell? at h
      split at h <;> simp at h

section
variable {H : Type} {enc : TypeId × Value → H} {w : World} {spare : Nat → Bool} {held : Bool} {r : Reach} {b0 : Nat} {v : Value} {d : DataW H} {p : List MemPlace}

/-- The two cells of a try that the reader has read. -/
theorem tr_cells {n : Nat} {cs : List Value} {x : DataW H × List MemPlace} (hl : cs.length = 2) (h : DataW.trod enc Try.prog w 0 spare held n 28 cs = some x) : ∃ (a : Int) (b : Bool), cs = [.int .i64 a, .bool b] := by
  match cs, hl with
  | [u0, u1], _ =>
    obtain ⟨ys, m, _, _, _, hyl, hf⟩ := DataW.trod_struct Try.underlying28 h
    have e3 : Try.prog.cellsOf 3 = 1 := by kernel_rfl
    have e4 : Try.prog.cellsOf 4 = 1 := by kernel_rfl
    have hy : ys.length = 2 := hyl
    match ys, hy with
    | [y0, y1], _ =>
      have f0 : DataW.trod enc Try.prog w 0 spare held m 3 (([u0, u1].drop 0).take (Try.prog.cellsOf 3)) = some y0 := hf 0 _ rfl
      have f1 : DataW.trod enc Try.prog w 0 spare held m 4 (([u0, u1].drop 1).take (Try.prog.cellsOf 4)) = some y1 := hf 1 _ rfl
      rw [e3] at f0
      rw [e4] at f1
      obtain ⟨n0, k0, _⟩ := DataW.trod_int Try.underlying3 (show DataW.trod enc Try.prog w 0 spare held m 3 [u0] = some y0 from f0)
      obtain ⟨n1, k1, _⟩ := DataW.trod_bool Try.underlying4 (show DataW.trod enc Try.prog w 0 spare held m 4 [u1] = some y1 from f1)
      injection k0 with k0
      injection k1 with k1
      exact ⟨n0, n1, by rw [k0, k1]⟩

/-- The three cells of a pane that the reader has read. -/
theorem in_cells {n : Nat} {cs : List Value} {x : DataW H × List MemPlace} (hl : cs.length = 3) (h : DataW.trod enc Try.prog w 0 spare held n 31 cs = some x) : ∃ (a b : Int) (c : Bool), cs = [.int .i64 a, .int .i64 b, .bool c] := by
  match cs, hl with
  | [u0, u1, u2], _ =>
    obtain ⟨ys, m, _, _, _, hyl, hf⟩ := DataW.trod_struct Try.underlying31 h
    have e3 : Try.prog.cellsOf 3 = 1 := by kernel_rfl
    have e4 : Try.prog.cellsOf 4 = 1 := by kernel_rfl
    have hy : ys.length = 3 := hyl
    match ys, hy with
    | [y0, y1, y2], _ =>
      have f0 : DataW.trod enc Try.prog w 0 spare held m 3 (([u0, u1, u2].drop 0).take (Try.prog.cellsOf 3)) = some y0 := hf 0 _ rfl
      have f1 : DataW.trod enc Try.prog w 0 spare held m 3 (([u0, u1, u2].drop 1).take (Try.prog.cellsOf 3)) = some y1 := hf 1 _ rfl
      have f2 : DataW.trod enc Try.prog w 0 spare held m 4 (([u0, u1, u2].drop 2).take (Try.prog.cellsOf 4)) = some y2 := hf 2 _ rfl
      rw [e3] at f0 f1
      rw [e4] at f2
      obtain ⟨n0, k0, _⟩ := DataW.trod_int Try.underlying3 (show DataW.trod enc Try.prog w 0 spare held m 3 [u0] = some y0 from f0)
      obtain ⟨n1, k1, _⟩ := DataW.trod_int Try.underlying3 (show DataW.trod enc Try.prog w 0 spare held m 3 [u1] = some y1 from f1)
      obtain ⟨n2, k2, _⟩ := DataW.trod_bool Try.underlying4 (show DataW.trod enc Try.prog w 0 spare held m 4 [u2] = some y2 from f2)
      injection k0 with k0
      injection k1 with k1
      injection k2 with k2
      exact ⟨n0, n1, n2, by rw [k0, k1, k2]⟩

set_option maxRecDepth 100000 in
theorem open_ts (hv : Value.okWide Try.prog w r b0 22 v) (h : DataW.Trod enc Try.prog w 0 spare held 22 v d p) : ∃ l : List Tr, TsAt w v l ∧ l.length ≤ maxLen := by
  obtain ⟨a0, len0, cap0, rfl⟩ := okWide_slice Try.underlying22 hv
  obtain ⟨fuel, hf⟩ := h
  rcases open_slice Try.underlying22 hf with ⟨hc, _⟩ | ⟨a, len, cap, m, n, D, Pl, hc, _, hlc, hcm, hm, _, hi⟩
  · have hc' : [Value.slice a0 len0 cap0] = [.slice none 0 0] := hc
    injection hc' with hc'
    rw [hc']
    exact ⟨[], ⟨none, 0, rfl, Nat.le_refl _, fun h => absurd h (Nat.lt_irrefl _)⟩, Nat.zero_le _⟩
  · have hc' : [Value.slice a0 len0 cap0] = [.slice (some a) len cap] := hc
    injection hc' with hc'
    rw [hc']
    have hml : len ≤ m := by rw [hm]; split <;> omega
    rw [cellsTr] at hi
    have hel : ∀ i, i < len → ∃ x : Tr, w.cell? (a.add (i * 2)) = some (.int .i64 x.1) ∧ w.cell? ((a.add (i * 2)).add 1) = some (.bool x.2) := fun i hil => by
      obtain ⟨cs, hcs, ht⟩ := hi i (by omega)
      obtain ⟨_, hcl, hat⟩ := World.cells?_some hcs
      obtain ⟨x1, x2, rfl⟩ := tr_cells hcl ht
      have h0 := hat 0 (by omega)
      have h1 := hat 1 (by omega)
      refine ⟨(x1, x2), ?_, h1⟩
      have e : (a.add (i * 2)).add 0 = a.add (i * 2) := by unfold Addr.add; simp
      rw [e] at h0
      exact h0
    obtain ⟨l, hl, hP⟩ := pick_all (fun i (x : Tr) => w.cell? (a.add (i * 2)) = some (.int .i64 x.1) ∧ w.cell? ((a.add (i * 2)).add 1) = some (.bool x.2)) len hel
    refine ⟨l, ⟨some a, cap, by rw [hl], by omega, fun hlp => ?_⟩, by omega⟩
    obtain ⟨x0, h0, _⟩ := hel 0 (by omega)
    have e0 : a.add (0 * 2) = a := by unfold Addr.add; simp
    rw [e0] at h0
    have ea := addr_form h0
    have hbl := World.block_lt_of_cell? w _ h0
    refine ⟨a.block, a.off, by rw [← ea], hbl, fun j x hx => ?_⟩
    obtain ⟨k0, k1⟩ := hP j x hx
    rw [ea, addr_add, addr_add] at k1
    rw [ea, addr_add] at k0
    exact ⟨k0, k1⟩

set_option maxRecDepth 100000 in
theorem open_in (hv : Value.okWide Try.prog w r b0 39 v) (h : DataW.Trod enc Try.prog w 0 spare held 39 v d p) : ∃ l : List Inf, IsAt w (fun _ => True) v l ∧ Prp v ∧ l.length ≤ maxLen := by
  obtain ⟨a0, len0, cap0, rfl⟩ := okWide_slice Try.underlying39 hv
  obtain ⟨fuel, hf⟩ := h
  rcases open_slice Try.underlying39 hf with ⟨hc, _⟩ | ⟨a, len, cap, m, n, D, Pl, hc, _, hlc, hcm, hm, _, hi⟩
  · have hc' : [Value.slice a0 len0 cap0] = [.slice none 0 0] := hc
    injection hc' with hc'
    rw [hc']
    exact ⟨[], ⟨none, 0, rfl, Nat.le_refl _, fun h => absurd h (Nat.lt_irrefl _)⟩, fun n c e => rfl, Nat.zero_le _⟩
  · have hc' : [Value.slice a0 len0 cap0] = [.slice (some a) len cap] := hc
    injection hc' with hc'
    rw [hc']
    have hml : len ≤ m := by rw [hm]; split <;> omega
    rw [cellsIn] at hi
    have hel : ∀ i, i < len → ∃ x : Inf, w.cell? (a.add (i * 3)) = some (.int .i64 x.1) ∧ w.cell? ((a.add (i * 3)).add 1) = some (.int .i64 x.2.1) ∧ w.cell? ((a.add (i * 3)).add 2) = some (.bool x.2.2) := fun i hil => by
      obtain ⟨cs, hcs, ht⟩ := hi i (by omega)
      obtain ⟨_, hcl, hat⟩ := World.cells?_some hcs
      obtain ⟨x1, x2, x3, rfl⟩ := in_cells hcl ht
      have h0 := hat 0 (by omega)
      have h1 := hat 1 (by omega)
      have h2 := hat 2 (by omega)
      refine ⟨(x1, x2, x3), ?_, h1, h2⟩
      have e : (a.add (i * 3)).add 0 = a.add (i * 3) := by unfold Addr.add; simp
      rw [e] at h0
      exact h0
    obtain ⟨l, hl, hP⟩ := pick_all (fun i (x : Inf) => w.cell? (a.add (i * 3)) = some (.int .i64 x.1) ∧ w.cell? ((a.add (i * 3)).add 1) = some (.int .i64 x.2.1) ∧ w.cell? ((a.add (i * 3)).add 2) = some (.bool x.2.2)) len hel
    refine ⟨l, ⟨some a, cap, by rw [hl], by omega, fun hlp => ?_⟩, (fun n c e => by cases e), by omega⟩
    obtain ⟨x0, h0, _⟩ := hel 0 (by omega)
    have e0 : a.add (0 * 3) = a := by unfold Addr.add; simp
    rw [e0] at h0
    have ea := addr_form h0
    have hbl := World.block_lt_of_cell? w _ h0
    refine ⟨a.block, a.off, by rw [← ea], trivial, hbl, fun j x hx => ?_⟩
    obtain ⟨k0, k1, k2⟩ := hP j x hx
    rw [ea, addr_add, addr_add] at k1 k2
    rw [ea, addr_add] at k0
    exact ⟨k0, k1, k2⟩
end

theorem maxLen_le {n : Nat} (h : n ≤ maxLen) : n ≤ 9223372036854775807 := by unfold maxLen at h; omega

theorem fires_true (v : Value) (l : List Tr) (w : World) (h : TsAt w v l) (hl : l.length ≤ maxLen) :
    Calls Try.prog 3 #[v] w fun e w' => e = .returned (.bool true) ∧ Below w.heap.size w w' := by
  rcases Nat.lt_or_ge 500 l.length with h5 | h5
  · exact fires_long v l w h h5 (maxLen_le hl)
  · exact fires_short v l w h h5

theorem counts_true (v : Value) (l : List Tr) (w : World) (h : TsAt w v l) (hl : l.length ≤ maxLen) :
    Calls Try.prog 6 #[v] w fun e w' => e = .returned (.bool true) ∧ Below w.heap.size w w' := by
  rcases Nat.lt_or_ge 500 l.length with h5 | h5
  · exact counts_long v l w h h5 (maxLen_le hl)
  · exact counts_short v l w h h5

theorem right_true (v : Value) (l : List Tr) (n : Int) (w : World) (h : TsAt w v l) (hl : l.length ≤ maxLen) (hn : -9223372036854775808 ≤ n ∧ n ≤ 9223372036854775807) :
    Calls Try.prog 5 #[v, .int .i64 n] w fun e w' => e = .returned (.bool true) ∧ Below w.heap.size w w' := by
  rcases Nat.lt_or_ge 500 l.length with h5 | h5
  · exact right_long v l n w h h5 (maxLen_le hl)
  · exact right_short v l n w h h5 hn.1 hn.2

theorem checks_true (v : Value) (l : List Inf) (w : World) (h : IsAt w (fun _ => True) v l) (hp : Prp v) (hl : l.length ≤ maxLen) :
    Calls Try.prog 4 #[v] w fun e w' => e = .returned (.bool true) ∧ Below w.heap.size w w' := by
  rcases Nat.lt_or_ge 500 l.length with h5 | h5
  · exact checks_long v l w h h5 (maxLen_le hl)
  · exact checks_short v l w h hp h5
end Go.Proofs.Ytkgomnegeacceaa
