/-
WindowSessions: a gap that is not right, and too many times. Words for the rest.
-/
import Derived.Test.YtpkieiahhkgjoaaDoorGs
import Derived.Test.YtpkieiahhkgjoaaDoorLa
import Derived.Test.YtpkieiahhkgjoaaDoorMg
import Derived.Test.YtpkieiahhkgjoaaDoorLd4
set_option linter.unusedVariables false
namespace Go.Proofs.YtpkieiahhkgjoaaDoor
open Go.RowKit

set_option maxRecDepth 100000 in
set_option maxHeartbeats 4000000 in
theorem sess_bad (gap : Int) (v : Value) (w : World) (hr : rgtB 3 gap 0 0 = false) :
    Calls Tryd.prog 3 #[.int .i64 gap, v] w fun e w' => e = .returned (.bool true) ∧ Below w.heap.size w w' := by
  have HR := Lib.hid hr
  clear hr
  go_enter Tryd.func3, Tryd.ntmps3
  go_wp2_with (first
    | (go_at_call 4; refine (check_r 3 gap 0 0 _ false HR.out).mono ?_; rintro e w1 ⟨rfl, hb1⟩)
    | (go_at_call 5; refine (awake_any _).mono ?_; rintro e wc ⟨rfl, hbc⟩))
  go_ret
  have HB1 : Below w.heap.size w w1 := ((Below.refl _ w).alloc (Nat.le_refl _) _).trans (hb1.mono (by simp))
  exact ⟨rfl, HB1.trans (hbc.mono HB1.size)⟩

set_option maxRecDepth 100000 in
set_option maxHeartbeats 4000000 in
theorem sess_long (gap : Int) (v : Value) (l : List Int) (w : World) (h : IsAt w 0 v l) (hr : rgtB 3 gap 0 0 = true) (hl : 60 < l.length) (hl2 : l.length ≤ 9223372036854775807) :
    Calls Tryd.prog 3 #[.int .i64 gap, v] w fun e w' => e = .returned (.bool true) ∧ Below w.heap.size w w' := by
  have HR := Lib.hid hr
  obtain ⟨a, c, rfl, hlc, _⟩ := h
  have hd : decide ((60 : Int) < (l.length : Int)) = true := decide_eq_true (by omega)
  clear hr
  go_enter Tryd.func3, Tryd.ntmps3
  go_wp2_with (first
    | (go_at_call 4; refine (check_r 3 gap 0 0 _ true HR.out).mono ?_; rintro e w1 ⟨rfl, hb1⟩)
    | (go_at_call 5; refine (awake_any _).mono ?_; rintro e wc ⟨rfl, hbc⟩))
  go_ret
  have HB1 : Below w.heap.size w w1 := ((Below.refl _ w).alloc (Nat.le_refl _) _).trans (hb1.mono (by simp))
  exact ⟨rfl, HB1.trans (hbc.mono HB1.size)⟩

/-- Ints as cells. -/
def valI (l : List Int) : List Value := l.map (Value.int .i64)

theorem infoI : (Tryd.prog.info? 3).map (fun i => (i.zero, i.size, i.bytes)) = some (some (.int .i64 0), 1, 8) := by kernel_rfl

/-- The first of the ints that a slice owns. -/
theorem own_take {w : World} {B e g n c k : Nat} {xs : List Value} (h : w.ownsRow B e 1 (.slice (some ⟨g, 0, none⟩) n c) n xs) (hk : k ≤ n) : w.ownsRow B e 1 (.slice (some ⟨g, 0, none⟩) k c) k (xs.take k) := by
  obtain ⟨h1, h2⟩ := h
  refine ⟨by rw [List.length_take, h1]; omega, .inr ?_⟩
  rcases h2 with ⟨h0, _⟩ | ⟨g', cap, cur, hv, hg, hgg, hnc, hcm, hcs, ht⟩
  · cases h0
  · injection hv with e1 e2 e3
    injection e1 with e1
    injection e1 with e1
    subst e1; subst e3
    refine ⟨g, c, cur, rfl, hg, hgg, by omega, hcm, hcs, ?_⟩
    rw [← ht, List.take_take]
    congr 1
    omega

theorem own_cellI {w : World} {B e g n c : Nat} {l : List Int} (h : w.ownsRow B e 1 (.slice (some ⟨g, 0, none⟩) n c) n (valI l)) {j : Nat} (hj : j < l.length) : w.cell? ⟨g, j, none⟩ = some (.int .i64 l[j]) := by
  have h1 := h.cells (g := g) rfl j (.int .i64 l[j]) (by simp [valI, hj])
  have ad : (⟨g, 0, none⟩ : Addr).add j = ⟨g, j, none⟩ := by unfold Addr.add; split <;> simp_all
  rw [ad] at h1
  exact h1

end Go.Proofs.YtpkieiahhkgjoaaDoor
