/-
What every proof of a row of this seat leans on: arguments opened.
-/
import Derived.Test.YtoplkinlgneidaaRows
import Derived.Test.YtoplkinlgneidaaTq
import Derived.ProofKit
import Derived.LaidMore
import Derived.OpenShut
import Derived.Stop.Joined
import Derived.Carry
import Derived.Deep.Slices
import Derived.SizedLaws
set_option linter.unusedVariables false
namespace Go.Proofs.Ytoplkinlgneidaa
open Go.ChangeShapes Go.WideShapes Go.ChangeAt Go.RowKit Go.Deep

theorem own : ownKnob Try.prog.godebug = none := by kernel_rfl
theorem laidOut : laidOutB Try.prog = true := by kernel_rfl
theorem cellsOp : Try.prog.cellsOf 38 = 3 := by kernel_rfl
theorem cellsI : Try.prog.cellsOf 3 = 1 := by kernel_rfl
theorem cellsSp : Try.prog.cellsOf 23 = 4 := by kernel_rfl
theorem bytesOp : Try.prog.bytesOf 38 = 24 := by kernel_rfl

theorem pick_all {α : Type} (P : Nat → α → Prop) : ∀ (n : Nat), (∀ i, i < n → ∃ t, P i t) → ∃ l : List α, l.length = n ∧ ∀ i t, l[i]? = some t → P i t
  | 0, _ => ⟨[], rfl, fun i t h => by simp at h⟩
  | n + 1, h => by
    obtain ⟨l, hl, hP⟩ := pick_all P n (fun i hi => h i (by omega))
    obtain ⟨t, ht⟩ := h n (by omega)
    refine ⟨l ++ [t], by simp [hl], fun i u hu => ?_⟩
    rcases Nat.lt_or_ge i l.length with hlt | hge
    · rw [List.getElem?_append_left hlt] at hu
      exact hP i u hu
    · have hi := (List.getElem?_eq_some_iff.1 hu).1
      obtain rfl : i = n := by simp at hi; omega
      rw [List.getElem?_append_right (by omega), hl, Nat.sub_self] at hu
      simp at hu
      subst hu
      exact ht

theorem addr_form {w : World} {a : Addr} {v : Value} (h : w.cell? a = some v) : a = ⟨a.block, a.off, none⟩ := by
  cases a with
  | mk b o s =>
    cases s with
    | none => rfl
    | some s =>
      unfold World.cell? at h
      split at h <;> simp at h

section
variable {H : Type} {enc : TypeId × Value → H} {w : World} {spare : Nat → Bool} {held : Bool} {r : Reach} {b0 : Nat} {v : Value} {d : DataW H} {p : List MemPlace}

theorem open_spec {base : Nat} (hv : Value.okWide Try.prog w r b0 23 v) (h : DataW.Trod enc Try.prog w base spare held 23 v d p) : ∃ (E L T : Int) (a : Bool), v = .agg #[.int .i64 E, .int .i64 L, .int .i64 T, .bool a] := by
  obtain ⟨v0, v1, v2, v3, y0, y1, y2, y3, n, rfl, _, _, h0, h1, h2, h3⟩ := Joins.open_agg4 Try.underlying23 (by kernel_rfl) cellsSp hv h
  obtain ⟨n0, k0, _⟩ := DataW.trod_int Try.underlying3 h0
  obtain ⟨n1, k1, _⟩ := DataW.trod_int Try.underlying3 h1
  obtain ⟨n2, k2, _⟩ := DataW.trod_int Try.underlying3 h2
  obtain ⟨n3, k3, _⟩ := DataW.trod_bool Try.underlying4 h3
  injection k0 with k0
  injection k1 with k1
  injection k2 with k2
  injection k3 with k3
  exact ⟨n0, n1, n2, n3, by rw [k0, k1, k2, k3]⟩

/-- The three cells of a pane that the reader has read. -/
theorem op_cells {n : Nat} {cs : List Value} {x : DataW H × List MemPlace} (hl : cs.length = 3) (h : DataW.trod enc Try.prog w 0 spare held n 38 cs = some x) : ∃ (a b : Int) (c : Bool), cs = [.int .i64 a, .int .i64 b, .bool c] := by
  match cs, hl with
  | [u0, u1, u2], _ =>
    obtain ⟨ys, m, _, _, _, hyl, hf⟩ := DataW.trod_struct Try.underlying38 h
    have e3 : Try.prog.cellsOf 3 = 1 := by kernel_rfl
    have e4 : Try.prog.cellsOf 4 = 1 := by kernel_rfl
    have hy : ys.length = 3 := hyl
    match ys, hy with
    | [y0, y1, y2], _ =>
      have f0 : DataW.trod enc Try.prog w 0 spare held m 3 (([u0, u1, u2].drop 0).take (Try.prog.cellsOf 3)) = some y0 := hf 0 _ rfl
      have f1 : DataW.trod enc Try.prog w 0 spare held m 3 (([u0, u1, u2].drop 1).take (Try.prog.cellsOf 3)) = some y1 := hf 1 _ rfl
      have f2 : DataW.trod enc Try.prog w 0 spare held m 4 (([u0, u1, u2].drop 2).take (Try.prog.cellsOf 4)) = some y2 := hf 2 _ rfl
      rw [e3] at f0 f1
      rw [e4] at f2
      obtain ⟨n0, k0, _⟩ := DataW.trod_int Try.underlying3 (show DataW.trod enc Try.prog w 0 spare held m 3 [u0] = some y0 from f0)
      obtain ⟨n1, k1, _⟩ := DataW.trod_int Try.underlying3 (show DataW.trod enc Try.prog w 0 spare held m 3 [u1] = some y1 from f1)
      obtain ⟨n2, k2, _⟩ := DataW.trod_bool Try.underlying4 (show DataW.trod enc Try.prog w 0 spare held m 4 [u2] = some y2 from f2)
      injection k0 with k0
      injection k1 with k1
      injection k2 with k2
      exact ⟨n0, n1, n2, by rw [k0, k1, k2]⟩

set_option maxRecDepth 100000 in
theorem open_ops (hv : Value.okWide Try.prog w r b0 24 v) (h : DataW.Trod enc Try.prog w 0 spare held 24 v d p) : ∃ l : List Inf, IsAt w (fun _ => True) v l ∧ (l = [] ∨ ∃ el sp, d = .slice el sp ∧ el.length = l.length) := by
  obtain ⟨a0, len0, cap0, rfl⟩ := okWide_slice Try.underlying24 hv
  obtain ⟨fuel, hf⟩ := h
  rcases open_slice Try.underlying24 hf with ⟨hc, _⟩ | ⟨a, len, cap, m, n, D, Pl, hc, _, hlc, hcm, hm, hxx, hi⟩
  · have hc' : [Value.slice a0 len0 cap0] = [.slice none 0 0] := hc
    injection hc' with hc'
    rw [hc']
    exact ⟨[], ⟨none, 0, rfl, Nat.le_refl _, fun h => absurd h (Nat.lt_irrefl _)⟩, .inl rfl⟩
  · have hc' : [Value.slice a0 len0 cap0] = [.slice (some a) len cap] := hc
    injection hc' with hc'
    rw [hc']
    have hml : len ≤ m := by rw [hm]; split <;> omega
    rw [cellsOp] at hi
    have hel : ∀ i, i < len → ∃ x : Inf, w.cell? (a.add (i * 3)) = some (.int .i64 x.1) ∧ w.cell? ((a.add (i * 3)).add 1) = some (.int .i64 x.2.1) ∧ w.cell? ((a.add (i * 3)).add 2) = some (.bool x.2.2) := fun i hil => by
      obtain ⟨cs, hcs, ht⟩ := hi i (by omega)
      obtain ⟨_, hcl, hat⟩ := World.cells?_some hcs
      obtain ⟨x1, x2, x3, rfl⟩ := op_cells hcl ht
      have h0 := hat 0 (by omega)
      have h1 := hat 1 (by omega)
      have h2 := hat 2 (by omega)
      refine ⟨(x1, x2, x3), ?_, h1, h2⟩
      have e : (a.add (i * 3)).add 0 = a.add (i * 3) := by unfold Addr.add; simp
      rw [e] at h0
      exact h0
    obtain ⟨l, hl, hP⟩ := pick_all (fun i (x : Inf) => w.cell? (a.add (i * 3)) = some (.int .i64 x.1) ∧ w.cell? ((a.add (i * 3)).add 1) = some (.int .i64 x.2.1) ∧ w.cell? ((a.add (i * 3)).add 2) = some (.bool x.2.2)) len hel
    refine ⟨l, ⟨some a, cap, by rw [hl], by omega, fun hlp => ?_⟩, .inr ⟨_, _, (Prod.mk.inj hxx).1, by rw [List.length_map, List.length_range, hl]⟩⟩
    obtain ⟨x0, h0, _⟩ := hel 0 (by omega)
    have e0 : a.add (0 * 3) = a := by unfold Addr.add; simp
    rw [e0] at h0
    have ea := addr_form h0
    have hbl := World.block_lt_of_cell? w _ h0
    refine ⟨a.block, a.off, by rw [← ea], trivial, hbl, fun j x hx => ?_⟩
    obtain ⟨k0, k1, k2⟩ := hP j x hx
    rw [ea, addr_add, addr_add] at k1 k2
    rw [ea, addr_add] at k0
    exact ⟨k0, k1, k2⟩
set_option maxRecDepth 100000 in
theorem open_ns (hv : Value.okWide Try.prog w r b0 53 v) (h : DataW.Trod enc Try.prog w 0 spare held 53 v d p) : ∃ l : List Int, NsAt w v l ∧ l.length ≤ maxLen := by
  obtain ⟨a0, len0, cap0, rfl⟩ := okWide_slice Try.underlying53 hv
  obtain ⟨fuel, hf⟩ := h
  rcases open_slice Try.underlying53 hf with ⟨hc, _⟩ | ⟨a, len, cap, m, n, D, Pl, hc, _, hlc, hcm, hm, _, hi⟩
  · have hc' : [Value.slice a0 len0 cap0] = [.slice none 0 0] := hc
    injection hc' with hc'
    rw [hc']
    exact ⟨[], ⟨none, 0, rfl, Nat.le_refl _, fun h => absurd h (Nat.lt_irrefl _)⟩, Nat.zero_le _⟩
  · have hc' : [Value.slice a0 len0 cap0] = [.slice (some a) len cap] := hc
    injection hc' with hc'
    rw [hc']
    have hml : len ≤ m := by rw [hm]; split <;> omega
    rw [cellsI] at hi
    have hel : ∀ i, i < len → ∃ x : Int, w.cell? (a.add i) = some (.int .i64 x) := fun i hil => by
      obtain ⟨cs, hcs, ht⟩ := hi i (by omega)
      obtain ⟨_, hcl, hat⟩ := World.cells?_some hcs
      match cs, hcl with
      | [u], _ =>
        obtain ⟨x, k0, _⟩ := DataW.trod_int Try.underlying3 ht
        injection k0 with k0
        subst k0
        have h0 := hat 0 (by simp)
        refine ⟨x, ?_⟩
        have e : (a.add (i * 1)).add 0 = a.add i := by rw [Nat.mul_one]; unfold Addr.add; simp
        rw [e] at h0
        exact h0
    obtain ⟨l, hl, hP⟩ := pick_all (fun i (x : Int) => w.cell? (a.add i) = some (.int .i64 x)) len hel
    refine ⟨l, ⟨some a, cap, by rw [hl], by omega, fun hlp => ?_⟩, by omega⟩
    obtain ⟨x0, h0⟩ := hel 0 (by omega)
    have e0 : a.add 0 = a := by unfold Addr.add; simp
    rw [e0] at h0
    have ea := addr_form h0
    have hbl := World.block_lt_of_cell? w _ h0
    refine ⟨a.block, a.off, by rw [← ea], hbl, fun j x hx => ?_⟩
    have k0 := hP j x hx
    rw [ea, addr_add] at k0
    exact k0
end

theorem ops_bound {l : List Inf} {H : Type} {el sp : List (DataW H)} (h : (el.length + sp.length) * Try.prog.bytesOf 38 ≤ reachBytes) (hl : el.length = l.length) : l.length * 24 ≤ 140737488351232 := by
  rw [bytesOp] at h
  have : reachBytes = 140737488351232 := by decide
  omega

end Go.Proofs.Ytoplkinlgneidaa
