/-
Show of package kind.
-/
import Derived.Test.YtdoadedglpjldaaDoorWr
namespace Go.Proofs.YtdoadedglpjldaaDoor
open Go.RowKit

theorem textL_small (f : Ty → List UInt8) (n : Nat) : ∀ (l : List Ty) (i : Nat), (∀ a ∈ l, (f a).length ≤ n) → (textL f l i).length ≤ l.length * (n + 1)
  | [], _, _ => by simp [textL]
  | a :: l, i, h => by
    have h1 := h a (List.mem_cons_self ..)
    have h2 := textL_small f n l (i + 1) (fun b hb => h b (List.mem_cons_of_mem _ hb))
    simp only [textL, List.length_cons, List.length_append, Nat.add_mul, Nat.one_mul] at *
    omega

theorem textT_small : ∀ (r : Nat) (t : Ty) (q : Nat), measureT r t = some q → (textT r t).length ≤ 9 * (2 ^ r - 1)
  | 0, t, q, h => by simp [measureT] at h
  | r + 1, t, q, h => by
    obtain ⟨x, hx, hxa, hxw, hall⟩ := measure_right h
    have h6 := words_small x hxw
    have ha := words_args x hxw
    have hl := textL_small (textT r) (9 * (2 ^ r - 1)) t.args 0 (fun a hm => by
      obtain ⟨q', hq⟩ := hall a hm
      exact textT_small r a q' hq)
    have hn : x.name.data.toList.length = x.name.size := by simp
    have hm : t.args.length * (9 * (2 ^ r - 1) + 1) ≤ 2 * (9 * (2 ^ r - 1) + 1) := Nat.mul_le_mul_right _ (by omega)
    have hp : 2 ^ (r + 1) = 2 * 2 ^ r := by rw [Nat.pow_succ, Nat.mul_comm]
    have hpos : 0 < 2 ^ r := Nat.pow_pos (by omega)
    simp only [textT, hx, Option.getD_some, List.length_append]
    have hif : (if 0 < t.args.length then [(41 : UInt8)] else []).length ≤ 1 := by split <;> simp
    omega

/-- What Show answers with. -/
def ShOut (t : Ty) (e : Ending) : Option Nat → Prop
  | none => e = .returned (.tuple #[.string ⟨#[]⟩, .int .i64 20])
  | some _ => e = .returned (.tuple #[.string ⟨(textT 6 t).toArray⟩, .int .i64 0])

set_option maxRecDepth 100000 in
set_option maxHeartbeats 400000 in
theorem show_any (d : Nat) (S : Nat → Prop) (v : Value) (t : Ty) (w : World) (h : TyAt w S d v t) (hG : Glob w) :
    Calls Tryd.prog 12 #[v] w fun e w' => ShOut t e (measureT 6 t) ∧ Below w.heap.size w w' := by
  have hT : TyAt w (fun k => k < w.heap.size) d v t := h.move fun b _ hl => ⟨hl, fun _ => rfl⟩
  have hGl := hG.lt
  have HT := Lib.hid hT
  obtain ⟨A, c, rfl⟩ := h.form
  clear hT
  go_enter Tryd.func12, Tryd.ntmps12
  go_wp2_with (fail)
  refine (check_any d _ _ t _ (HT.out.below ((Below.refl _ w).alloc (Nat.le_refl _) _)) (hG.kept (Below.heap_alloc w _ 0 hG.lt))).mono ?_
  rintro e w1 ⟨he, hb⟩
  have hb1 := ((Below.refl w.heap.size w).alloc (Nat.le_refl _) _).trans (hb.mono (by simp : w.heap.size ≤ _))
  have hs1 := hb.size
  simp only [World.size_alloc] at hs1
  have hc1 := (hb.block w.heap.size (by simp)).trans (heap_alloc_new w _)
  have c0 := cell2_0 hc1
  have c1 := cell2_1 hc1
  have hlt1 : w.heap.size < w1.heap.size := by omega
  cases hm : measureT 6 t with
  | none =>
    rw [hm] at he
    obtain rfl : e = .returned (.int .i64 20) := he
    have HM := Lib.hid hm
    clear hm
    go_wp2
    go_ret2
    rw [HM.out]
    exact ⟨rfl, hb1⟩
  | some q =>
    rw [hm] at he
    obtain rfl : e = .returned (.int .i64 0) := he
    have hsm := textT_small 6 t q hm
    have HM := Lib.hid hm
    clear hm
    go_wp2_with (fail)
    have hB0 : Bld (w1.alloc (.cells #[.pointer none, .slice none 0 0] 68)) w1.heap.size (bc []) :=
      .inl ⟨Nat.le_refl _, .slice none 0 0, heap_alloc_new w1 _, World.ownsRow_nil _ _ _ _, by simp [Value.ownBlock]⟩
    have hb2 := hb1.trans ((Below.refl w.heap.size w1).alloc (by omega) (.cells #[.pointer none, .slice none 0 0] 68))
    refine (write_any 6 d (fun k => k < w.heap.size) w1.heap.size _ t q [] _ (HT.out.move fun b hS hl => ⟨hS, fun _ => World.cell?_of_block (hb2.block b hl)⟩) HM.out (fun k hk => by omega) hB0 (hG.kept (hb2.block 0 hGl)) (by omega) (by simp) (by simp only [List.length_nil]; omega)).mono ?_
    rintro e w3 ⟨rfl, hB3, hF3⟩
    have hs3 := hF3.below.size
    simp only [World.size_alloc] at hs3
    go_wp2_with (fail)
    refine (Tryd.Builder_String_any_k w1.heap.size w1.heap.size (textT 6 t) _ (Lib.IsBuilderF.of hB3) (by omega)).mono ?_
    rintro e w4 ⟨rfl, _, hb4, _⟩
    go_wp2
    go_ret2
    rw [HM.out]
    exact ⟨rfl, (hb2.trans (hF3.below.mono (by omega))).trans (hb4.mono (by omega))⟩
end Go.Proofs.YtdoadedglpjldaaDoor
