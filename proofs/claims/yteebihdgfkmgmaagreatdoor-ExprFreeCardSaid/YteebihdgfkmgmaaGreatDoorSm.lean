/-
Whether a term may be gone through; Check and Size.
-/
import Derived.Test.YteebihdgfkmgmaaGreatDoorFt
import Derived.Test.YteebihdgfkmgmaaGreatDoorSp2
namespace Go.Proofs.YteebihdgfkmgmaaGreatDoor
open Go.ChangeShapes Go.WideShapes Go.RowKit

set_option maxRecDepth 100000 in
set_option maxHeartbeats 1000000 in
theorem small_any (d : Nat) (v : Value) (t : Nd) (w : World) (hT : NdAt w (fun k => k < w.heap.size) d v t) :
    Calls Tryz.prog 17 #[v] w fun e w' => (∃ b, e = .returned (.bool b) ∧ (b = true → FewN 60 t)) ∧ Below w.heap.size w w' := by
  obtain ⟨A, c, K, kc, rfl⟩ := hT.form
  have HT := Lib.hid hT
  clear hT
  go_enter Tryz.func17, Tryz.ntmps17
  go_wp2_with (fail)
  have hb1 := (Below.refl w.heap.size w).alloc (Nat.le_refl _) (.cells #[.string ⟨t.op.toArray⟩, .int .i64 t.int, .string ⟨t.text.toArray⟩, .int .i64 t.ty.kind, .slice A t.ty.args.length c, .slice K t.kids.length kc] 27)
  have hs1 : (w.alloc (.cells #[.string ⟨t.op.toArray⟩, .int .i64 t.int, .string ⟨t.text.toArray⟩, .int .i64 t.ty.kind, .slice A t.ty.args.length c, .slice K t.kids.length kc] 27)).heap.size = w.heap.size + 1 := by simp
  have hb2 := hb1.alloc (by omega : w.heap.size ≤ (w.alloc (.cells #[.string ⟨t.op.toArray⟩, .int .i64 t.int, .string ⟨t.text.toArray⟩, .int .i64 t.ty.kind, .slice A t.ty.args.length c, .slice K t.kids.length kc] 27)).heap.size) (.cells #[.int .i64 5000] 3)
  have HL := heap_alloc_new (w.alloc (.cells #[.string ⟨t.op.toArray⟩, .int .i64 t.int, .string ⟨t.text.toArray⟩, .int .i64 t.ty.kind, .slice A t.ty.args.length c, .slice K t.kids.length kc] 27)) (.cells #[.int .i64 5000] 3)
  rw [hs1] at HL
  refine (few_any 60 d (fun k => k < w.heap.size) (w.heap.size + 1) _ t 5000 _ (by omega) (NdAt.move (fun b hb _ => ⟨hb, fun _ => World.cell?_of_block (hb2.block b hb)⟩) d _ _ HT.out) (fun b hb => by omega) HL (by omega) (by omega)).mono ?_
  rintro e w3 ⟨⟨b, l', rfl, h1, h2, h3, h4⟩, ho⟩
  have hb3 := hb2.trans (ho.below (by omega) (by simp; omega))
  go_wp2_with (fail)
  go_ret
  exact ⟨⟨b, rfl, fun hb => (h4 hb).2⟩, hb3⟩

/-- A term that may be gone through can be read by a writer. -/
theorem few_rg : ∀ (r d e : Nat) (n : Nd), IntN d n → FewN e n → RgN r n
  | 0, _, _, _, _, _ => trivial
  | r + 1, 0, _, _, h, _ => h.elim
  | r + 1, _ + 1, 0, _, _, h => h.elim
  | r + 1, d + 1, e + 1, n, ⟨h0, h1, h2⟩, ⟨g0, _, _, _, g4⟩ => ⟨h0, h1, by omega, fun k hk => few_rg r d e k (h2 k hk) (g4 k hk)⟩
end Go.Proofs.YteebihdgfkmgmaaGreatDoor
