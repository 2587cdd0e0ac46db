/-
The document's answer: Wrap, Point, Same, Copy.
-/
import Derived.Test.YtbafplnolmdlnaaDoorDec
namespace Go.Proofs.YtbafplnolmdlnaaDoor
open Go.RowKit

set_option maxHeartbeats 400000 in
theorem wrap_any (n : Int) (w : World) (h1 : -1048576 ≤ n) (h2 : n < 1048576) : Calls Tryd.prog 50 #[.int .i64 n] w fun e w' => e = .returned (.int .i64 n) ∧ w = w' := by
  by_cases hn : 0 ≤ n
  · have hm : n.tmod 2097152 = n := by rw [Int.tmod_eq_emod_of_nonneg hn]; exact Int.emod_eq_of_lt hn (by omega)
    go_enter Tryd.func50, Tryd.ntmps50
    go_wp2
    go_ret
    first
      | exact ⟨rfl, rfl⟩
      | (refine ⟨?_, rfl⟩; congr 2; omega)
  · have hm : n.tmod 2097152 = n := by
      have h3 := Int.tmod_eq_emod_of_nonneg (a := -n) (b := 2097152) (by omega)
      rw [Int.neg_tmod] at h3
      have h4 : (-n) % 2097152 = -n := Int.emod_eq_of_lt (by omega) (by omega)
      omega
    go_enter Tryd.func50, Tryd.ntmps50
    go_wp2
    all_goals (go_ret)
    all_goals first
      | exact ⟨rfl, rfl⟩
      | (refine ⟨?_, rfl⟩; congr 2; omega)
      | fail

set_option maxHeartbeats 400000 in
theorem rpoint_any (S : Nat → Prop) (d : Nat) (a b : Int) (w : World) (ha : -1048576 ≤ a ∧ a < 1048576) (hb : -1048576 ≤ b ∧ b < 1048576) : Calls Tryd.prog 37 #[.int .i64 a, .int .i64 b] w fun e w' => (∃ v, VAt w' S (d + 1) v (pointV (a, b)) ∧ e = .returned v) ∧ Below w.heap.size w w' := by
  obtain ⟨a1, a2⟩ := ha
  obtain ⟨b1, b2⟩ := hb
  have hca := fun w : World => run_convert_int_float (P := Tryd.prog) w 3 83 .i64 .f64 a (by kernel_rfl) (by kernel_rfl)
  have hcb := fun w : World => run_convert_int_float (P := Tryd.prog) w 3 83 .i64 .f64 b (by kernel_rfl) (by kernel_rfl)
  have HFA := Lib.hid (rep_toInt (rep_ofInt a (by omega)) (by omega))
  have HFB := Lib.hid (rep_toInt (rep_ofInt b (by omega)) (by omega))
  go_enter Tryd.func37, Tryd.ntmps37
  go_wp2_with (fail)
  refine (wrap_any a _ a1 a2).mono ?_
  rintro e w2 ⟨rfl, rfl⟩
  go_wp2_with (fail)
  refine (wrap_any b _ b1 b2).mono ?_
  rintro e w2 ⟨rfl, rfl⟩
  go_wp2_with (fail)
  refine bodyPost_ret (v := .agg #[.int .i64 5, .int .i64 0, .string ⟨#[]⟩, .complex .f64 (floatOfInt .f64 a) (floatOfInt .f64 b), .slice none 0 0]) (by simp [results, Tryd.results37, go_sem]) rfl ?_
  exact ⟨⟨_, VAt.of_leaf HFA.out HFB.out, rfl⟩, (Below.refl _ _).alloc (Nat.le_refl _) _⟩

set_option maxRecDepth 100000 in
theorem bat_string {w : World} {S : Nat → Prop} {A : Option Addr} {l : List UInt8} (c : Nat) (h : BAt w S A l) : (convert 25 9 (.slice A l.length c)).run Tryd.prog w = .ok (.string ⟨l.toArray⟩) w := by
  by_cases hl : 0 < l.length
  · obtain ⟨b, o, rfl, _, hj⟩ := h hl
    refine run_convert_bytes_back w 25 9 5 ⟨b, o, none⟩ c l Tryd.underlying25 Tryd.underlying5 Tryd.underlying9 fun j hjl => ?_
    have hplain : (⟨b, o, none⟩ : Addr).add j = ⟨b, o + j, none⟩ := by unfold Addr.add; split <;> simp_all
    rw [hplain]
    exact hj j _ (List.getElem?_eq_getElem hjl)
  · have h0 : l = [] := List.eq_nil_of_length_eq_zero (by omega)
    subst h0
    cases A with
    | none => exact Lib.run_convert_nil_bytes w 25 9 5 c Tryd.underlying25 Tryd.underlying5 Tryd.underlying9
    | some a => exact run_convert_bytes_back w 25 9 5 a c [] Tryd.underlying25 Tryd.underlying5 Tryd.underlying9 fun j hj => by simp at hj

set_option maxHeartbeats 400000 in
theorem rsameb_any (S S' : Nat → Prop) (A A' : Option Addr) (c c' : Nat) (l : List UInt8) (w : World) (h : BAt w S A l) (h' : BAt w S' A' l) : Calls Tryd.prog 12 #[.slice A l.length c, .slice A' l.length c'] w fun e w' => e = .returned (.bool true) ∧ Below w.heap.size w w' := by
  have h1 := bat_string c h
  have h2 := bat_string c' h'
  clear h h'
  go_enter Tryd.func12, Tryd.ntmps12
  go_wp2_with (fail)
  go_ret
  exact ⟨by simp, Below.refl _ _⟩
end Go.Proofs.YtbafplnolmdlnaaDoor
