/-
TriggerPlays: whatever spec and script it is called with, the law returns true and leaves its arguments as they were. No condition.
-/
import Derived.Test.YtoplkinlgneidaaRows
import Derived.Test.YtoplkinlgneidaaLd2
namespace Go.Proofs.Ytoplkinlgneidaa.Plays
open Go.ChangeShapes Go.WideShapes Go.ChangeAt Go.RowKit
set_option linter.unusedVariables false

set_option maxRecDepth 100000 in
theorem lifted (os : Os) (started : os.Started) (H : Type) (enc : TypeId × Value → H) :
    ReturnsInHanded {} Try.checked os 3 .any (Rows.triggerPlaysSpec.pre6 enc Try.prog Try.f3 Rows.triggerPlaysRow.domain false) (Rows.triggerPlaysSpec.post enc Try.prog Try.f3 false true false false) := by
  refine returnsInHanded_of_change_sized (C := Try.checked) own started (by kernel_rfl) Try.func3
    (ChangeSpec.witness6 (enc := enc) (C := Try.checked) false ⟨#[], #[.agg #[.int .i64 0, .int .i64 0, .int .i64 0, .bool false], .slice none 0 0], []⟩ 8 (by kernel_rfl) (by kernel_rfl) (by kernel_rfl) (by kernel_rfl)) ?_
  intro W base args ds gs before hval0 hW hcnd hsz _
  have hval : ∀ (j : Nat) t v, Try.f3.params[j]? = some t → args[j]? = some v → Value.okWide Try.prog W .any base t v := hval0
  have hW' := hW
  obtain ⟨p, q, hA0, hV, rfl, hfz, hnd⟩ := hW
  have hA : DataW.TrodAll enc Try.prog W 0 (fun _ => true) true Try.f3.params.toList args.toList ds p := hA0
  rw [Try.params3] at hA hval
  obtain ⟨v0, vs0, d0, ds0, p0, q0, hargs, rfl, rfl, h0, r0⟩ := trodAll_cons hA
  obtain ⟨v1, vs1, d1, ds1, p1, q1, rfl, rfl, rfl, h1, r1⟩ := trodAll_cons r0
  obtain ⟨rfl, rfl, rfl⟩ := trodAll_nil r1
  obtain rfl : args = #[v0, v1] := by cases args; simp_all
  obtain ⟨rfl, rfl⟩ := trodVars_none hV
  have hlt0 : ∀ x ∈ p0 ++ (p1 ++ []), x.block < W.heap.size := fun x hx => by simpa using hW'.lt x (by simp at hx ⊢; simp [hx])
  have h0k := h0
  obtain ⟨E0, L0, T0, a0, rfl⟩ := open_spec (hval 0 23 v0 rfl rfl) h0
  have h1k := h1
  obtain ⟨l1, HL1, HN1⟩ := open_ops (hval 1 24 v1 rfl rfl) h1
  have HB1 : l1.length * 24 ≤ 140737488351232 := by
    rcases HN1 with rfl | ⟨el, sp, rfl, hel⟩
    · simp
    · rw [Try.params3] at hsz
      exact ops_bound (sized_slice hsz (j := 1) rfl rfl Try.underlying24) hel
  clear hA0 hval0
  refine (plays_true E0 L0 T0 a0 _ l1 W HL1 HB1).mono fun e W' ⟨he, hb⟩ => ?_
  subst he
  exact ⟨_, rfl, _, _, _, [], _, [], hW', trodAll_mk1 (shut_bool Try.underlying4 _), trodAll_cons_mk (Below.trod laidOut (by kernel_rfl) (of_decide_eq_true (by kernel_rfl)) h0k hb (fun x hx => by first | exact (List.not_mem_nil hx).elim | exact hlt0 x (by simp [hx]))) (trodAll_cons_mk (Below.trod laidOut (by kernel_rfl) (of_decide_eq_true (by kernel_rfl)) h1k hb (fun x hx => by first | exact (List.not_mem_nil hx).elim | exact hlt0 x (by simp [hx]))) trodAll_mk0), rfl, hb.frame _, fun h => by cases h⟩

theorem over : Rows.triggerPlaysRow.holds Try.pinned (OpenSpec.ofChange Rows.triggerPlaysSpec) :=
  OpenClaim.holds_of_wide 3 Try.f3 rfl rfl rfl rfl rfl rfl rfl ⟨rfl, rfl, rfl, rfl, rfl⟩ rfl rfl rfl rfl rfl (by kernel_rfl) Try.func3 (by kernel_rfl)
    (of_decide_eq_true (by kernel_rfl)) (by unfold Func.isWrapper; first | (rw [if_pos (by decide +kernel)]; kernel_rfl) | (rw [if_neg (by decide +kernel)]; exact ⟨rfl, rfl⟩))
    (fun os started H enc _ => lifted os started H enc)
end Go.Proofs.Ytoplkinlgneidaa.Plays
namespace Go.Proofs.Ytoplkinlgneidaa

/-- THE STATEMENT -/
theorem trigger_plays : Rows.TriggerPlaysSaid := Plays.over
#print axioms trigger_plays
end Go.Proofs.Ytoplkinlgneidaa
