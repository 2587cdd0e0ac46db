/-
A slice of ints among the arguments, opened.
-/
import Derived.Test.YtpkieiahhkgjoaaDoorLd3
set_option linter.unusedVariables false
namespace Go.Proofs.YtpkieiahhkgjoaaDoor
open Go.ChangeShapes Go.WideShapes Go.ChangeAt Go.RowKit Go.Deep

/-- The value v is a slice that reads as the ints l; its cells lie in a block from B on. -/
def IsAt (w : World) (B : Nat) (v : Value) (l : List Int) : Prop :=
  ∃ a c, v = .slice a l.length c ∧ l.length ≤ c ∧ (0 < l.length → ∃ b o, a = some ⟨b, o, none⟩ ∧ B ≤ b ∧ b < w.heap.size ∧
    ∀ j x, l[j]? = some x → w.cell? ⟨b, o + j, none⟩ = some (.int .i64 x))

theorem IsAt.below {w w' : World} {B : Nat} {v : Value} {l : List Int} (h : IsAt w B v l) (hb : Below w.heap.size w w') : IsAt w' B v l := by
  obtain ⟨a, c, hv, hc, h⟩ := h
  refine ⟨a, c, hv, hc, fun hl => ?_⟩
  obtain ⟨b, o, ha, hb1, hlt, hj⟩ := h hl
  exact ⟨b, o, ha, hb1, by have := hb.size; omega, fun j x hx => (hb.cell (p := ⟨b, o + j, none⟩) hlt).trans (hj j x hx)⟩

theorem cellsI : Tryd.prog.cellsOf 3 = 1 := by kernel_rfl

section
variable {H : Type} {enc : TypeId × Value → H} {w : World} {spare : Nat → Bool} {held : Bool} {r : Reach} {b0 : Nat} {v : Value} {d : DataW H} {p : List MemPlace}

set_option maxRecDepth 100000 in
theorem open_is (hv : Value.okWide Tryd.prog w r b0 22 v) (h : DataW.Trod enc Tryd.prog w 0 spare held 22 v d p) : ∃ l : List Int, IsAt w 0 v l ∧ Prp v ∧ l.length ≤ maxLen := by
  obtain ⟨a0, len0, cap0, rfl⟩ := okWide_slice Tryd.underlying22 hv
  obtain ⟨fuel, hf⟩ := h
  rcases open_slice Tryd.underlying22 hf with ⟨hc, _⟩ | ⟨a, len, cap, m, n, D, Pl, hc, _, hlc, hcm, hm, _, hi⟩
  · have hc' : [Value.slice a0 len0 cap0] = [.slice none 0 0] := hc
    injection hc' with hc'
    rw [hc']
    exact ⟨[], ⟨none, 0, rfl, Nat.le_refl _, fun h => absurd h (Nat.lt_irrefl _)⟩, fun n c e => rfl, Nat.zero_le _⟩
  · have hc' : [Value.slice a0 len0 cap0] = [.slice (some a) len cap] := hc
    injection hc' with hc'
    rw [hc']
    have hml : len ≤ m := by rw [hm]; split <;> omega
    rw [cellsI] at hi
    have hel : ∀ i, i < len → ∃ x : Int, w.cell? (a.add i) = some (.int .i64 x) := fun i hil => by
      obtain ⟨cs, hcs, ht⟩ := hi i (by omega)
      obtain ⟨_, hcl, hat⟩ := World.cells?_some hcs
      match cs, hcl with
      | [u], _ =>
        obtain ⟨x, k0, _⟩ := DataW.trod_int Tryd.underlying3 ht
        injection k0 with k0
        subst k0
        have h0 := hat 0 (by simp)
        refine ⟨x, ?_⟩
        have e : (a.add (i * 1)).add 0 = a.add i := by rw [Nat.mul_one]; unfold Addr.add; simp
        rw [e] at h0
        exact h0
    obtain ⟨l, hl, hP⟩ := pick_all (fun i (x : Int) => w.cell? (a.add i) = some (.int .i64 x)) len hel
    refine ⟨l, ⟨some a, cap, by rw [hl], by omega, fun hlp => ?_⟩, (fun n c e => by cases e), by omega⟩
    obtain ⟨x0, h0⟩ := hel 0 (by omega)
    have e0 : a.add 0 = a := by unfold Addr.add; simp
    rw [e0] at h0
    have ea := addr_form h0
    have hbl := World.block_lt_of_cell? w _ h0
    refine ⟨a.block, a.off, by rw [← ea], Nat.zero_le _, hbl, fun j x hx => ?_⟩
    have k0 := hP j x hx
    rw [ea, addr_add] at k0
    exact k0
end
end Go.Proofs.YtpkieiahhkgjoaaDoor
