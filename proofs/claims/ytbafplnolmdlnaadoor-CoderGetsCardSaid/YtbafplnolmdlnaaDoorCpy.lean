/-
The document's answer: Copy of bytes.
-/
import Derived.Test.YtbafplnolmdlnaaDoorRg2
namespace Go.Proofs.YtbafplnolmdlnaaDoor
open Go.RowKit

theorem bcl_at {l : List UInt8} {j : Nat} {u : Value} (h : (bcl l)[j]? = some u) : ∃ x, l[j]? = some x ∧ u = .int .u8 (x.toNat : Int) := by
  unfold bcl at h
  rw [List.getElem?_map] at h
  obtain ⟨x, hx, rfl⟩ := Option.map_eq_some_iff.1 h
  exact ⟨x, hx, rfl⟩
theorem bcl_one (l : List UInt8) : ∀ u ∈ bcl l, u.oneCell' = true := by
  intro u hu
  obtain ⟨x, _, rfl⟩ := List.mem_map.1 hu
  rfl
/-- A row of bytes is read as them. -/
theorem own_bat {w : World} {B : Nat} {A : Option Addr} {n c : Nat} {l : List UInt8} (h : w.ownsRow B 5 1 (.slice A n c) l.length (bcl l)) : n = l.length ∧ BAt w (fun b => B ≤ b) A l := by
  rcases h.2 with ⟨e, h0⟩ | ⟨g, cap, cur, e, hbg, hg, _⟩
  · injection e with e1 e2 e3
    subst e1; subst e2; subst e3
    exact ⟨h0.symm, fun hl => by omega⟩
  · injection e with e1 e2 e3
    subst e1; subst e2; subst e3
    refine ⟨rfl, fun hl => ⟨g, 0, rfl, hbg, fun j x hx => ?_⟩⟩
    have hj : j < l.length := (List.getElem?_eq_some_iff.1 hx).1
    rw [Nat.zero_add, h.cellAt j (by omega)]
    simp [bcl, hx]

/-- What Copy answers with. -/
def CoOut (w w' : World) (l : List UInt8) (e : Ending) : Prop := ∃ A' c', e = .returned (.slice A' l.length c') ∧ BAt w' (fun b => w.heap.size ≤ b) A' l

set_option maxRecDepth 100000 in
set_option maxHeartbeats 400000 in
theorem copy_any (S : Nat → Prop) (A : Option Addr) (c : Nat) (l : List UInt8) (w : World) (hB : BAt w S A l) (hlen : l.length ≤ 1000000) :
    Calls Tryd.prog 6 #[.slice A l.length c] w fun e w' => CoOut w w' l e ∧ Below w.heap.size w w' := by
  obtain ⟨i0, hi, hq0, hq1, hq2⟩ := info_parts info5
  cases A with
  | none =>
    have h0 : l = [] := by
      by_cases hl : 0 < l.length
      · obtain ⟨b, o, hA, _⟩ := hB hl
        cases hA
      · exact List.eq_nil_of_length_eq_zero (by omega)
    subst h0
    clear hB
    go_enter Tryd.func6, Tryd.ntmps6
    go_wp2
    go_ret
    exact ⟨⟨none, 0, rfl, fun h => by simp at h⟩, Below.refl _ _⟩
  | some a =>
    have hnews : ∀ j u, (bcl l)[j]? = some u → w.cell? (a.add j) = some u := fun j u hj => by
      obtain ⟨x, hx, rfl⟩ := bcl_at hj
      have hjl : j < l.length := (List.getElem?_eq_some_iff.1 hx).1
      obtain ⟨b, o, hA, _, hc⟩ := hB (by omega)
      injection hA with hA
      subst hA
      have hplain : (⟨b, o, none⟩ : Addr).add j = ⟨b, o + j, none⟩ := by unfold Addr.add; split <;> simp_all
      rw [hplain]
      exact hc j x hx
    have HNEWS := Lib.hid hnews
    clear hnews hB
    go_enter Tryd.func6, Tryd.ntmps6
    go_wp2_with (at_builtin; refine wpList_append_own _ rfl _ _ 25 rfl w.heap.size 5 i0 (.int .u8 0) 1 1 Tryd.underlying25 hi hq0 hq1 hq2 rfl (by decide) (.slice none 0 0) 0 [] rfl (World.ownsRow_nil _ _ _ _) a l.length c (bcl l) rfl (by rw [bcl_length]; omega) HNEWS.out (bcl_one l) (by unfold maxLen; omega) (by omega) (by omega) ?_; intro v' w7 hown7 hg7 _)
    rw [Nat.zero_add, List.nil_append] at hown7
    obtain ⟨A7, c7, rfl⟩ := own_slice hown7
    go_wp2_with (fail)
    go_ret
    exact ⟨⟨A7, c7, rfl, (own_bat hown7).2⟩, (Below.refl _ w).grown hg7 (Nat.le_refl _) (fun k hk => by simp [Value.ownBlock] at hk)⟩
end Go.Proofs.YtbafplnolmdlnaaDoor
