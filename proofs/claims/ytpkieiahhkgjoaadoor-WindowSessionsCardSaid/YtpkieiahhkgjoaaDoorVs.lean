/-
Rows of windows in the sort's words (HoldsK, putRowK) and in mine (ownsRow, WsAt).
-/
import Derived.Test.YtpkieiahhkgjoaaDoorVa
import Derived.Shelf.SlicesQ.Reverse
set_option linter.unusedVariables false
namespace Go.Proofs.YtpkieiahhkgjoaaDoor
open Go.RowKit Go.Sort

theorem holdsK_own {w : World} {B g cap : Nat} {e : TypeId} {l : List Wn} (h : w.ownsRow B e 2 (.slice (some ⟨g, 0, none⟩) l.length cap) l.length (flat l)) : HoldsK encW 2 w g 0 l.toArray := by
  have hc := h.cells (g := g) rfl
  have ad : ∀ k, (⟨g, 0, none⟩ : Addr).add k = ⟨g, k, none⟩ := fun k => by unfold Addr.add; split <;> simp_all
  have hf : ∀ i, w.frozen? ⟨g, i, none⟩ = false := by
    rcases h.2 with ⟨h0, _⟩ | ⟨g', cap', cur, h0, _, hg, _⟩
    · cases h0
    · injection h0 with h1 h2 h3
      injection h1 with h1
      injection h1 with h1
      subst h1
      exact fun i => cells_f hg i
  intro j hj
  have hj' : j < l.length * 2 := by simpa using hj
  rw [get_flatK _ _ _ _ (by simpa using hj'), Nat.zero_add]
  refine ⟨?_, hf _⟩
  have hl : j / 2 < l.length := by omega
  have hx : l[j / 2]? = some l[j / 2] := List.getElem?_eq_getElem hl
  have hx2 : l.toArray[j / 2]! = l[j / 2] := by simp [hl]
  obtain ⟨f0, f1⟩ := flat_get l (j / 2) _ hx
  rw [hx2]
  rcases Nat.mod_two_eq_zero_or_one j with hm | hm
  · have := hc _ _ f0
    rw [ad, show j / 2 * 2 = j by omega] at this
    rw [hm]
    exact this
  · have := hc _ _ f1
    rw [ad, show j / 2 * 2 + 1 = j by omega] at this
    rw [hm]
    exact this

theorem ws_of_holdsK {w : World} {B b o c : Nat} {l : List Wn} (h : HoldsK encW 2 w b o l.toArray) (hB : B ≤ b) (hb : b < w.heap.size) (hc : l.length ≤ c) : WsAt w B (.slice (some ⟨b, o, none⟩) l.length c) l := by
  refine ⟨_, _, rfl, hc, fun hl => ⟨b, o, rfl, hB, hb, fun j x hx => ?_⟩⟩
  obtain ⟨hjl, hx2⟩ := List.getElem?_eq_some_iff.1 hx
  have h0 := (h.cell (i := j) (c := 0) (by simpa using hjl) (by omega)).1
  have h1 := (h.cell (i := j) (c := 1) (by simpa using hjl) (by omega)).1
  have e : l.toArray[j]! = x := by simp [hjl, hx2]
  rw [e] at h0 h1
  exact ⟨h0, h1⟩

theorem below_putRowK {w0 w : World} {B g o n : Nat} {d : Array Wn} (h : _root_.Go.RowKit.Below B w0 w) (hg : B ≤ g) : _root_.Go.RowKit.Below B w0 (putRowK encW 2 (Sort.ahead w n) g o d) := by
  refine ⟨h.os, h.tape, h.output, ?_, fun k hk => ?_⟩
  · have := h.size
    show w0.heap.size ≤ (putRow id _ _ _ _).heap.size
    rw [size_putRow]
    exact this
  · rw [← h.block k hk]
    show (w.heap.modify g _)[k]? = _
    rw [Array.getElem?_modify, if_neg (by omega)]

theorem encW_len (x : Wn) : (encW x).length = 2 := rfl

theorem encW_one (x : Wn) : ∀ v ∈ encW x, v.oneCell' = true := two_one x.1 x.2

end Go.Proofs.YtpkieiahhkgjoaaDoor
