/-
Fire of the program.
-/
import Derived.Test.YtoplkinlgneidaaPf
import Derived.ScopeJumps
import Derived.WalkMore
set_option linter.unusedVariables false
namespace Go.Proofs.Ytoplkinlgneidaa
open Go.RowKit

/-- A scope out of which the run goes forward to its one label, if at all: the walk goes on behind the label. -/
theorem wp_scope_fwd {P : Program} {a : Act} {w : World} {Q : Exit → Act → World → Prop} {c rest : Code} (l : Nat) (hf : findLabel c l = some rest)
    (first : c.wp P (Exit.jump l (fun a w => rest.wp P (Exit.jump l (fun _ _ => False) Q) a w) Q) a w) : (Code.scope c).wp P Q a w := by
  refine wp_scope_jumps l (fun a w => rest.wp P (Exit.jump l (fun _ _ => False) Q) a w) (fun _ _ => 0) hf first (fun a w hJ => wp_mono hJ fun e a' w' h => ?_)
  cases e with
  | goto l' => exact ⟨h.1, h.2.elim⟩
  | _ => exact h

section
variable {Q : Exit → Act → World → Prop} {l : Nat} {J : Act → World → Prop} {a : Act} {w : World}
theorem jump_ret : Exit.jump l J Q .ret a w = Q .ret a w := rfl
theorem jump_normal : Exit.jump l J Q .normal a w = Q .normal a w := rfl
theorem jump_goto (h : J a w) : Exit.jump l J Q (.goto l) a w := ⟨rfl, h⟩
end

theorem heap_set_some {w : World} {k : Nat} {p : Addr} {u : Value} {ob : Obj} (hk : k ≠ p.block) (h : w.heap[k]? = some ob) : (w.setCell p u).heap[k]? = some ob := (Below.heap_setCell w p u k hk).trans h

theorem set_at {w : World} {X : Nat} {a b : Value} {t : TypeId} (h : w.heap[X]? = some (.cells #[a, b] t (0, 0))) (c : Value) : (w.setCell ⟨X, 0, none⟩ c).heap[X]? = some (.cells #[c, b] t (0, 0)) ∧ (w.setCell ⟨X, 1, none⟩ c).heap[X]? = some (.cells #[a, c] t (0, 0)) := by
  constructor <;> simp [World.setCell, Array.getElem?_modify, h]

theorem put3_heap {w : World} {g : Nat} {a0 a1 a2 b0 b1 b2 : Value} {t : TypeId} (h : w.heap[g]? = some (.cells #[a0, a1, a2] t (0, 0))) : (((w.setCell ⟨g, 0, none⟩ b0).setCell ⟨g, 1, none⟩ b1).setCell ⟨g, 2, none⟩ b2).heap[g]? = some (.cells #[b0, b1, b2] t (0, 0)) := by
  simp [World.setCell, Array.getElem?_modify, h]

/-- May a pane of timing t be fired in stage s? -/
def okF (s t : Int) : Prop := 0 ≤ t ∧ t ≤ 2 ∧ s ≠ 3 ∧ (t = 2 ∨ s = 0)

instance (s t : Int) : Decidable (okF s t) := by unfold okF; infer_instance

theorem stF_eq {t : Int} (l : Bool) (h0 : 0 ≤ t) (h2 : t ≤ 2) : stF t l = if l = true then 3 else t := by
  unfold stF
  split
  · rfl
  · split
    · omega
    · split <;> omega

set_option maxRecDepth 100000 in
set_option maxHeartbeats 1000000 in
theorem fire_no (g : Nat) (n s t : Int) (l : Bool) (w : World) (h : Ln w g n s) (ho : ¬ okF s t) :
    Calls Try.prog 31 #[.pointer (some ⟨g, 0, none⟩), .int .i64 t, .bool l] w fun e w' => e = .returned (.tuple #[.agg #[.int .i64 0, .int .i64 0, .bool false], .int .i64 90]) ∧ Below w.heap.size w w' := by
  have c0 := cell2_0 h
  have c1 := cell2_1 h
  have hgl := cell_lt h
  have HO := Lib.hid ho
  clear h ho
  rcases Decidable.em (t < 0) with h1 | h1
  ·
    have d1 : decide (t < 0) = true := decide_eq_true h1
    go_enter Try.func31, Try.ntmps31
    go_wp2
    refine wp_scope_fwd 0 rfl ?_
    go_wp2
    go_step3
    refine And.intro rfl ?_
    go_wp2
    dsimp +zetaDelta only [jump_ret]
    refine bodyPost_ret (v := .tuple #[.agg #[.int .i64 0, .int .i64 0, .bool false], .int .i64 90]) (by simp [results, Try.results31, go_sem]) rfl ?_
    exact ⟨rfl, ((Below.refl _ w).alloc (Nat.le_refl _) _).alloc (by simp) _⟩
  rcases Decidable.em (2 < t) with h2 | h2
  ·
    have d1 : decide (t < 0) = false := decide_eq_false h1
    have d2 : decide (2 < t) = true := decide_eq_true h2
    go_enter Try.func31, Try.ntmps31
    go_wp2
    refine wp_scope_fwd 0 rfl ?_
    go_wp2
    go_step3
    refine And.intro rfl ?_
    go_wp2
    dsimp +zetaDelta only [jump_ret]
    refine bodyPost_ret (v := .tuple #[.agg #[.int .i64 0, .int .i64 0, .bool false], .int .i64 90]) (by simp [results, Try.results31, go_sem]) rfl ?_
    exact ⟨rfl, ((Below.refl _ w).alloc (Nat.le_refl _) _).alloc (by simp) _⟩
  rcases Decidable.em (s = 3) with rfl | h3
  ·
    have d1 : decide (t < 0) = false := decide_eq_false h1
    have d2 : decide (2 < t) = false := decide_eq_false h2
    go_enter Try.func31, Try.ntmps31
    go_wp2
    refine wp_scope_fwd 0 rfl ?_
    go_wp2
    go_step3
    refine And.intro rfl ?_
    go_wp2
    dsimp +zetaDelta only [jump_ret]
    refine bodyPost_ret (v := .tuple #[.agg #[.int .i64 0, .int .i64 0, .bool false], .int .i64 90]) (by simp [results, Try.results31, go_sem]) rfl ?_
    exact ⟨rfl, ((Below.refl _ w).alloc (Nat.le_refl _) _).alloc (by simp) _⟩
  ·
    have d1 : decide (t < 0) = false := decide_eq_false h1
    have d2 : decide (2 < t) = false := decide_eq_false h2
    have d3 : (s == 3) = false := by simp [h3]
    have n2 : ¬ t = 2 := fun e => HO.out ⟨by omega, by omega, h3, .inl e⟩
    have n0 : ¬ s = 0 := fun e => HO.out ⟨by omega, by omega, h3, .inr e⟩
    have d4 : (t == 2) = false := by simp [n2]
    have d5 : (t != 2) = true := by simp [n2]
    have d6 : (s == 0) = false := by simp [n0]
    have d7 : (s != 0) = true := by simp [n0]
    go_enter Try.func31, Try.ntmps31
    go_wp2
    refine wp_scope_fwd 0 rfl ?_
    go_wp2
    go_step3
    refine And.intro rfl ?_
    go_wp2
    dsimp +zetaDelta only [jump_ret]
    refine bodyPost_ret (v := .tuple #[.agg #[.int .i64 0, .int .i64 0, .bool false], .int .i64 90]) (by simp [results, Try.results31, go_sem]) rfl ?_
    exact ⟨rfl, ((Below.refl _ w).alloc (Nat.le_refl _) _).alloc (by simp) _⟩

set_option maxRecDepth 100000 in
set_option maxHeartbeats 1000000 in
theorem fire_yes (g : Nat) (n s t : Int) (l : Bool) (w : World) (h : Ln w g n s) (hn : 0 ≤ n) (hn2 : n < 4611686018427387904) (ho : okF s t) :
    Calls Try.prog 31 #[.pointer (some ⟨g, 0, none⟩), .int .i64 t, .bool l] w fun e w' => e = .returned (.tuple #[.agg #[.int .i64 n, .int .i64 t, .bool l], .int .i64 0]) ∧ Ln w' g (n + 1) (stF t l) ∧ Only g w w' := by
  obtain ⟨h0, h2, h3, h4⟩ := ho
  have c0 := cell2_0 h
  have c1 := cell2_1 h
  have cf := cells_f h
  have hgl := cell_lt h
  have H := Lib.hid h
  clear h
  have d1 : decide (t < 0) = false := decide_eq_false (by omega)
  have d2 : decide (2 < t) = false := decide_eq_false (by omega)
  have d3 : (s == 3) = false := by simp [h3]
  have hw1 : IntKind.i64.wrap (n + 1) = n + 1 := IntWalk.i64_in _ (by omega)
  generalize hst : stF t l = z
  have HST := Lib.hid hst
  have hi := fun w => (istage_any n t l w)
  rw [hst] at hi
  clear hst h3
  rcases Decidable.em (t = 2) with rfl | n2
  ·
    go_enter Try.func31, Try.ntmps31
    go_wp2
    refine wp_scope_fwd 0 rfl ?_
    go_upto_region 6 with (fail)
    have x1 : (((w.setCell ⟨g, 0, none⟩ (.int .i64 (n + 1))).alloc (.cells #[.int .i64 0, .int .i64 0, .bool false] 49)).alloc (.cells #[.int .i64 n, .int .i64 2, .bool l] 49)).heap[g]? = some (.cells #[.int .i64 (n + 1), .int .i64 s] 78 (0, 0)) := heap_alloc_some (heap_alloc_some (set_at H.out _).1)
    have x2 : (((w.setCell ⟨g, 0, none⟩ (.int .i64 (n + 1))).alloc (.cells #[.int .i64 0, .int .i64 0, .bool false] 49)).alloc (.cells #[.int .i64 n, .int .i64 2, .bool l] 49)).heap[w.heap.size]? = some (.cells #[.int .i64 0, .int .i64 0, .bool false] 49 (0, 0)) := heap_alloc_some (heap_new_at (by simp))
    have x3 : (((w.setCell ⟨g, 0, none⟩ (.int .i64 (n + 1))).alloc (.cells #[.int .i64 0, .int .i64 0, .bool false] 49)).alloc (.cells #[.int .i64 n, .int .i64 2, .bool l] 49)).heap[w.heap.size + 1]? = some (.cells #[.int .i64 n, .int .i64 2, .bool l] 49 (0, 0)) := heap_new_at (by simp)
    have hO : Only g w (((w.setCell ⟨g, 0, none⟩ (.int .i64 (n + 1))).alloc (.cells #[.int .i64 0, .int .i64 0, .bool false] 49)).alloc (.cells #[.int .i64 n, .int .i64 2, .bool l] 49)) := ((Only.set_ g 0 w _).alloc_ _).alloc_ _
    generalize (((w.setCell ⟨g, 0, none⟩ (.int .i64 (n + 1))).alloc (.cells #[.int .i64 0, .int .i64 0, .bool false] 49)).alloc (.cells #[.int .i64 n, .int .i64 2, .bool l] 49)) = W at x1 x2 x3 hO ⊢
    have HX1 := Lib.hid x1
    have HX2 := Lib.hid x2
    have HX3 := Lib.hid x3
    have HO := Lib.hid hO
    have c1 := cell2_1 x1
    have cf := cells_f x1
    have b0 := cell3_0 x3
    have b1 := cell3_1 x3
    have b2 := cell3_2 x3
    have hgW := cell_lt x1
    have hbW := cell_lt x3
    clear x1 x2 x3 hO c0
    go_upto_region 7 with (go_at_call 37; refine (hi _).mono ?_; rintro e wa ⟨rfl, rfl⟩)
    have x1 : ((W.setCell ⟨g, 1, none⟩ (.int .i64 z)).alloc (.cells #[.int .i64 n, .int .i64 2, .bool l] 49)).heap[g]? = some (.cells #[.int .i64 (n + 1), .int .i64 z] 78 (0, 0)) := heap_alloc_some (set_at HX1.out _).2
    have x2 : ((W.setCell ⟨g, 1, none⟩ (.int .i64 z)).alloc (.cells #[.int .i64 n, .int .i64 2, .bool l] 49)).heap[w.heap.size]? = some (.cells #[.int .i64 0, .int .i64 0, .bool false] 49 (0, 0)) := heap_alloc_some (heap_set_some (by show w.heap.size ≠ g; omega) HX2.out)
    have x3 : ((W.setCell ⟨g, 1, none⟩ (.int .i64 z)).alloc (.cells #[.int .i64 n, .int .i64 2, .bool l] 49)).heap[w.heap.size + 1]? = some (.cells #[.int .i64 n, .int .i64 2, .bool l] 49 (0, 0)) := heap_alloc_some (heap_set_some (by show w.heap.size + 1 ≠ g; omega) HX3.out)
    have hO : Only g w ((W.setCell ⟨g, 1, none⟩ (.int .i64 z)).alloc (.cells #[.int .i64 n, .int .i64 2, .bool l] 49)) := (HO.out.trans (Only.set_ g 1 _ _)).alloc_ _
    generalize ((W.setCell ⟨g, 1, none⟩ (.int .i64 z)).alloc (.cells #[.int .i64 n, .int .i64 2, .bool l] 49)) = W2 at x1 x2 x3 hO ⊢
    clear b0 b1 b2 c1 cf
    have HX1' := Lib.hid x1
    have HO' := Lib.hid hO
    have HX2' := Lib.hid x2
    have a0 := cell3_0 x2
    have a1 := cell3_1 x2
    have a2 := cell3_2 x2
    have af := cells_f x2
    have b0 := cell3_0 x3
    have b1 := cell3_1 x3
    have b2 := cell3_2 x3
    have haW := cell_lt x2
    clear x1 x2 x3 hO
    go_wp2
    have hp := put3_heap (b0 := .int .i64 n) (b1 := .int .i64 2) (b2 := .bool l) HX2'.out
    have p0 := cell3_0 hp
    have p1 := cell3_1 hp
    have p2 := cell3_2 hp
    clear hp
    dsimp +zetaDelta only [jump_ret]
    refine bodyPost_ret (v := .tuple #[.agg #[.int .i64 n, .int .i64 2, .bool l], .int .i64 0]) (by simp [results, Try.results31, go_sem, p0, p1, p2]) rfl ?_
    refine ⟨rfl, ?_, ?_⟩
    · have hne : g ≠ w.heap.size := by omega
      exact heap_set_some hne (heap_set_some hne (heap_set_some hne HX1'.out))
    · exact only_far (only_far (only_far HO'.out (Nat.le_refl _) _) (Nat.le_refl _) _) (Nat.le_refl _) _
  ·
    have hs0 : s = 0 := by omega
    subst hs0
    have d4 : (t == 2) = false := by simp [n2]
    have d5 : (t != 2) = true := by simp [n2]
    go_enter Try.func31, Try.ntmps31
    go_wp2
    refine wp_scope_fwd 0 rfl ?_
    go_upto_region 6 with (fail)
    have x1 : (((w.setCell ⟨g, 0, none⟩ (.int .i64 (n + 1))).alloc (.cells #[.int .i64 0, .int .i64 0, .bool false] 49)).alloc (.cells #[.int .i64 n, .int .i64 t, .bool l] 49)).heap[g]? = some (.cells #[.int .i64 (n + 1), .int .i64 0] 78 (0, 0)) := heap_alloc_some (heap_alloc_some (set_at H.out _).1)
    have x2 : (((w.setCell ⟨g, 0, none⟩ (.int .i64 (n + 1))).alloc (.cells #[.int .i64 0, .int .i64 0, .bool false] 49)).alloc (.cells #[.int .i64 n, .int .i64 t, .bool l] 49)).heap[w.heap.size]? = some (.cells #[.int .i64 0, .int .i64 0, .bool false] 49 (0, 0)) := heap_alloc_some (heap_new_at (by simp))
    have x3 : (((w.setCell ⟨g, 0, none⟩ (.int .i64 (n + 1))).alloc (.cells #[.int .i64 0, .int .i64 0, .bool false] 49)).alloc (.cells #[.int .i64 n, .int .i64 t, .bool l] 49)).heap[w.heap.size + 1]? = some (.cells #[.int .i64 n, .int .i64 t, .bool l] 49 (0, 0)) := heap_new_at (by simp)
    have hO : Only g w (((w.setCell ⟨g, 0, none⟩ (.int .i64 (n + 1))).alloc (.cells #[.int .i64 0, .int .i64 0, .bool false] 49)).alloc (.cells #[.int .i64 n, .int .i64 t, .bool l] 49)) := ((Only.set_ g 0 w _).alloc_ _).alloc_ _
    generalize (((w.setCell ⟨g, 0, none⟩ (.int .i64 (n + 1))).alloc (.cells #[.int .i64 0, .int .i64 0, .bool false] 49)).alloc (.cells #[.int .i64 n, .int .i64 t, .bool l] 49)) = W at x1 x2 x3 hO ⊢
    have HX1 := Lib.hid x1
    have HX2 := Lib.hid x2
    have HX3 := Lib.hid x3
    have HO := Lib.hid hO
    have c1 := cell2_1 x1
    have cf := cells_f x1
    have b0 := cell3_0 x3
    have b1 := cell3_1 x3
    have b2 := cell3_2 x3
    have hgW := cell_lt x1
    have hbW := cell_lt x3
    clear x1 x2 x3 hO c0
    go_upto_region 7 with (go_at_call 37; refine (hi _).mono ?_; rintro e wa ⟨rfl, rfl⟩)
    have x1 : ((W.setCell ⟨g, 1, none⟩ (.int .i64 z)).alloc (.cells #[.int .i64 n, .int .i64 t, .bool l] 49)).heap[g]? = some (.cells #[.int .i64 (n + 1), .int .i64 z] 78 (0, 0)) := heap_alloc_some (set_at HX1.out _).2
    have x2 : ((W.setCell ⟨g, 1, none⟩ (.int .i64 z)).alloc (.cells #[.int .i64 n, .int .i64 t, .bool l] 49)).heap[w.heap.size]? = some (.cells #[.int .i64 0, .int .i64 0, .bool false] 49 (0, 0)) := heap_alloc_some (heap_set_some (by show w.heap.size ≠ g; omega) HX2.out)
    have x3 : ((W.setCell ⟨g, 1, none⟩ (.int .i64 z)).alloc (.cells #[.int .i64 n, .int .i64 t, .bool l] 49)).heap[w.heap.size + 1]? = some (.cells #[.int .i64 n, .int .i64 t, .bool l] 49 (0, 0)) := heap_alloc_some (heap_set_some (by show w.heap.size + 1 ≠ g; omega) HX3.out)
    have hO : Only g w ((W.setCell ⟨g, 1, none⟩ (.int .i64 z)).alloc (.cells #[.int .i64 n, .int .i64 t, .bool l] 49)) := (HO.out.trans (Only.set_ g 1 _ _)).alloc_ _
    generalize ((W.setCell ⟨g, 1, none⟩ (.int .i64 z)).alloc (.cells #[.int .i64 n, .int .i64 t, .bool l] 49)) = W2 at x1 x2 x3 hO ⊢
    clear b0 b1 b2 c1 cf
    have HX1' := Lib.hid x1
    have HO' := Lib.hid hO
    have HX2' := Lib.hid x2
    have a0 := cell3_0 x2
    have a1 := cell3_1 x2
    have a2 := cell3_2 x2
    have af := cells_f x2
    have b0 := cell3_0 x3
    have b1 := cell3_1 x3
    have b2 := cell3_2 x3
    have haW := cell_lt x2
    clear x1 x2 x3 hO
    go_wp2
    have hp := put3_heap (b0 := .int .i64 n) (b1 := .int .i64 t) (b2 := .bool l) HX2'.out
    have p0 := cell3_0 hp
    have p1 := cell3_1 hp
    have p2 := cell3_2 hp
    clear hp
    dsimp +zetaDelta only [jump_ret]
    refine bodyPost_ret (v := .tuple #[.agg #[.int .i64 n, .int .i64 t, .bool l], .int .i64 0]) (by simp [results, Try.results31, go_sem, p0, p1, p2]) rfl ?_
    refine ⟨rfl, ?_, ?_⟩
    · have hne : g ≠ w.heap.size := by omega
      exact heap_set_some hne (heap_set_some hne (heap_set_some hne HX1'.out))
    · exact only_far (only_far (only_far HO'.out (Nat.le_refl _) _) (Nat.le_refl _) _) (Nat.le_refl _) _

end Go.Proofs.Ytoplkinlgneidaa
