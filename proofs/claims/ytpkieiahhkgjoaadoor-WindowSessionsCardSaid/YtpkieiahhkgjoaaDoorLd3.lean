/-
A slice of windows among the arguments, opened.
-/
import Derived.Test.YtpkieiahhkgjoaaDoorLd
import Derived.Test.YtpkieiahhkgjoaaDoorSp
import Derived.Deep.Slices
set_option linter.unusedVariables false
namespace Go.Proofs.YtpkieiahhkgjoaaDoor
open Go.ChangeShapes Go.WideShapes Go.ChangeAt Go.RowKit Go.Deep

theorem pick_all {α : Type} (P : Nat → α → Prop) : ∀ (n : Nat), (∀ i, i < n → ∃ t, P i t) → ∃ l : List α, l.length = n ∧ ∀ i t, l[i]? = some t → P i t
  | 0, _ => ⟨[], rfl, fun i t h => by simp at h⟩
  | n + 1, h => by
    obtain ⟨l, hl, hP⟩ := pick_all P n (fun i hi => h i (by omega))
    obtain ⟨t, ht⟩ := h n (by omega)
    refine ⟨l ++ [t], by simp [hl], fun i u hu => ?_⟩
    rcases Nat.lt_or_ge i l.length with hlt | hge
    · rw [List.getElem?_append_left hlt] at hu
      exact hP i u hu
    · have hi := (List.getElem?_eq_some_iff.1 hu).1
      obtain rfl : i = n := by simp at hi; omega
      rw [List.getElem?_append_right (by omega), hl, Nat.sub_self] at hu
      simp at hu
      subst hu
      exact ht

theorem addr_form {w : World} {a : Addr} {v : Value} (h : w.cell? a = some v) : a = ⟨a.block, a.off, none⟩ := by
  cases a with
  | mk b o s =>
    cases s with
    | none => rfl
    | some s =>
      unfold World.cell? at h
      split at h <;> simp at h

section
variable {H : Type} {enc : TypeId × Value → H} {w : World} {spare : Nat → Bool} {held : Bool} {r : Reach} {b0 : Nat} {v : Value} {d : DataW H} {p : List MemPlace}

/-- The two cells of a window that the reader has read. -/
theorem wn_cells {n : Nat} {cs : List Value} {x : DataW H × List MemPlace} (hl : cs.length = 2) (h : DataW.trod enc Tryd.prog w 0 spare held n 33 cs = some x) : ∃ a b : Int, cs = [.int .i64 a, .int .i64 b] := by
  match cs, hl with
  | [u0, u1], _ =>
    obtain ⟨ys, m, _, _, _, hyl, hf⟩ := DataW.trod_struct Tryd.underlying33 h
    have e3 : Tryd.prog.cellsOf 3 = 1 := by kernel_rfl
    have hy : ys.length = 2 := hyl
    match ys, hy with
    | [y0, y1], _ =>
      have f0 : DataW.trod enc Tryd.prog w 0 spare held m 3 (([u0, u1].drop 0).take (Tryd.prog.cellsOf 3)) = some y0 := hf 0 _ rfl
      have f1 : DataW.trod enc Tryd.prog w 0 spare held m 3 (([u0, u1].drop 1).take (Tryd.prog.cellsOf 3)) = some y1 := hf 1 _ rfl
      rw [e3] at f0 f1
      obtain ⟨n0, k0, _⟩ := DataW.trod_int Tryd.underlying3 (show DataW.trod enc Tryd.prog w 0 spare held m 3 [u0] = some y0 from f0)
      obtain ⟨n1, k1, _⟩ := DataW.trod_int Tryd.underlying3 (show DataW.trod enc Tryd.prog w 0 spare held m 3 [u1] = some y1 from f1)
      injection k0 with k0
      injection k1 with k1
      exact ⟨n0, n1, by rw [k0, k1]⟩

set_option maxRecDepth 100000 in
theorem open_ws (hv : Value.okWide Tryd.prog w r b0 28 v) (h : DataW.Trod enc Tryd.prog w 0 spare held 28 v d p) : ∃ l : List Wn, WsAt w 0 v l ∧ Prp v ∧ l.length ≤ maxLen := by
  obtain ⟨a0, len0, cap0, rfl⟩ := okWide_slice Tryd.underlying28 hv
  obtain ⟨fuel, hf⟩ := h
  rcases open_slice Tryd.underlying28 hf with ⟨hc, _⟩ | ⟨a, len, cap, m, n, D, Pl, hc, _, hlc, hcm, hm, _, hi⟩
  · have hc' : [Value.slice a0 len0 cap0] = [.slice none 0 0] := hc
    injection hc' with hc'
    rw [hc']
    exact ⟨[], WsAt.nil _ _, fun n c e => rfl, Nat.zero_le _⟩
  · have hc' : [Value.slice a0 len0 cap0] = [.slice (some a) len cap] := hc
    injection hc' with hc'
    rw [hc']
    have hml : len ≤ m := by rw [hm]; split <;> omega
    rw [cellsWn] at hi
    have hel : ∀ i, i < len → ∃ x : Wn, w.cell? (a.add (i * 2)) = some (.int .i64 x.1) ∧ w.cell? ((a.add (i * 2)).add 1) = some (.int .i64 x.2) := fun i hil => by
      obtain ⟨cs, hcs, ht⟩ := hi i (by omega)
      obtain ⟨_, hcl, hat⟩ := World.cells?_some hcs
      obtain ⟨x1, x2, rfl⟩ := wn_cells hcl ht
      have h0 := hat 0 (by omega)
      have h1 := hat 1 (by omega)
      refine ⟨(x1, x2), ?_, h1⟩
      have e : (a.add (i * 2)).add 0 = a.add (i * 2) := by unfold Addr.add; simp
      rw [e] at h0
      exact h0
    obtain ⟨l, hl, hP⟩ := pick_all (fun i (x : Wn) => w.cell? (a.add (i * 2)) = some (.int .i64 x.1) ∧ w.cell? ((a.add (i * 2)).add 1) = some (.int .i64 x.2)) len hel
    refine ⟨l, ⟨some a, cap, by rw [hl], by omega, fun hlp => ?_⟩, (fun n c e => by cases e), by omega⟩
    obtain ⟨x0, h0, _⟩ := hel 0 (by omega)
    have e0 : a.add (0 * 2) = a := by unfold Addr.add; simp
    rw [e0] at h0
    have ea := addr_form h0
    have hbl := World.block_lt_of_cell? w _ h0
    refine ⟨a.block, a.off, by rw [← ea], Nat.zero_le _, hbl, fun j x hx => ?_⟩
    obtain ⟨k0, k1⟩ := hP j x hx
    rw [ea, addr_add, addr_add] at k1
    rw [ea, addr_add] at k0
    exact ⟨k0, k1⟩
end
end Go.Proofs.YtpkieiahhkgjoaaDoor
