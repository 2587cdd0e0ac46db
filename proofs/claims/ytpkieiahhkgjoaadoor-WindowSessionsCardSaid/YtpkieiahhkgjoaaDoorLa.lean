/-
The walk of WindowAssigns.
-/
import Derived.Test.YtpkieiahhkgjoaaDoorVt
set_option linter.unusedVariables false
namespace Go.Proofs.YtpkieiahhkgjoaaDoor
open Go.RowKit

theorem box4 {w : World} {g : Nat} {a b c d : Value} {t : TypeId} (h : w.heap[g]? = some (.cells #[a, b, c, d] t (0, 0))) : w.cell? ⟨g, 0, none⟩ = some a ∧ w.cell? ⟨g, 1, none⟩ = some b ∧ w.cell? ⟨g, 2, none⟩ = some c ∧ w.cell? ⟨g, 3, none⟩ = some d := by
  simp [World.cell?, h]

theorem check_r (k s p o : Int) (w : World) (r : Bool) (hr : rgtB k s p o = r) : Calls Tryd.prog 4 #[.agg #[.int .i64 k, .int .i64 s, .int .i64 p, .int .i64 o]] w fun e w' => e = .returned (.int .i64 (bif r then 0 else 70)) ∧ Below w.heap.size w w' :=
  (check_any k s p o w).mono fun e w' ⟨he, hb⟩ => ⟨by rw [he, hr]; cases r <;> rfl, hb⟩

theorem assign_bad (k s p o t : Int) (w : World) (hr : rgtB k s p o = false) :
    Calls Tryd.prog 6 #[.agg #[.int .i64 k, .int .i64 s, .int .i64 p, .int .i64 o], .int .i64 t] w fun e w' => e = .returned (.tuple #[.slice none 0 0, .int .i64 70]) ∧ Below w.heap.size w w' :=
  (assign_any k s p o t w).mono fun e w' ⟨h, hb⟩ => by
    rcases h with ⟨_, h⟩ | ⟨h, _⟩ | ⟨h, _⟩
    · exact ⟨h, hb⟩
    · rw [hr] at h; cases h
    · rw [hr] at h; cases h

theorem assign_late (k s p o t : Int) (w : World) (hr : rgtB k s p o = true) (ht : ¬ (0 ≤ t ∧ t ≤ 1048576)) :
    Calls Tryd.prog 6 #[.agg #[.int .i64 k, .int .i64 s, .int .i64 p, .int .i64 o], .int .i64 t] w fun e w' => e = .returned (.tuple #[.slice none 0 0, .int .i64 71]) ∧ Below w.heap.size w w' :=
  (assign_any k s p o t w).mono fun e w' ⟨h, hb⟩ => by
    rcases h with ⟨h, _⟩ | ⟨_, _, h⟩ | ⟨_, h1, h2, _⟩
    · rw [hr] at h; cases h
    · exact ⟨h, hb⟩
    · exact absurd ⟨h1, h2⟩ ht

theorem assign_ok (k s p o t : Int) (w : World) (hr : rgtB k s p o = true) (ht : 0 ≤ t) (ht2 : t ≤ 1048576) :
    Calls Tryd.prog 6 #[.agg #[.int .i64 k, .int .i64 s, .int .i64 p, .int .i64 o], .int .i64 t] w fun e w' => (∃ a c, e = .returned (.tuple #[.slice a (asg k s p o t).length c, .int .i64 0]) ∧ WsAt w' w.heap.size (.slice a (asg k s p o t).length c) (asg k s p o t)) ∧ Below w.heap.size w w' :=
  (assign_any k s p o t w).mono fun e w' ⟨h, hb⟩ => by
    rcases h with ⟨h, _⟩ | ⟨_, h, _⟩ | ⟨_, _, _, v, h, hv⟩
    · rw [hr] at h; cases h
    · exact absurd ⟨ht, ht2⟩ h
    · obtain ⟨a, c, rfl, _⟩ := hv.form
      exact ⟨⟨a, c, h, hv⟩, hb⟩

theorem asg_len (k s p o t : Int) (hr : Rgt k s p o) : (asg k s p o t).length ≤ 1048576 := by
  unfold asg
  split
  · simp
  split
  · simp
  split
  · rw [ap_length]; rcases hr with h | h | h | h <;> first | omega | (have := numA_le o s s t (by omega) (Int.le_refl _); omega)
  · rw [ap_length]; rcases hr with h | h | h | h <;> first | omega | (have := numA_le o p s t (by omega) (by omega); omega)

end Go.Proofs.YtpkieiahhkgjoaaDoor
