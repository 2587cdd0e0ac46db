/-
A machine in memory; within, sum, Check, New.
-/
import Derived.Test.YtoplkinlgneidaaPt
set_option linter.unusedVariables false
namespace Go.Proofs.Ytoplkinlgneidaa
open Go.RowKit

theorem cells_at {w : World} {g : Nat} {cs : Array Value} {t : TypeId} (h : w.heap[g]? = some (.cells cs t (0, 0))) (i : Nat) (v : Value) (hv : cs[i]? = some v) : w.cell? ⟨g, i, none⟩ = some v := by simp [World.cell?, h, hv]

/-- Only blocks R and S, and what is new, have turned. -/
structure Only2 (R S : Nat) (w w' : World) : Prop where
  os : w'.os = w.os
  tape : w'.tape = w.tape
  output : w'.output = w.output
  size : w.heap.size ≤ w'.heap.size
  block : ∀ k, k < w.heap.size → k ≠ R → k ≠ S → w'.heap[k]? = w.heap[k]?

theorem Only2.refl (R S : Nat) (w : World) : Only2 R S w w := ⟨rfl, rfl, rfl, Nat.le_refl _, fun _ _ _ _ => rfl⟩

theorem Only2.trans {R S : Nat} {a b c : World} (h : Only2 R S a b) (k : Only2 R S b c) : Only2 R S a c :=
  ⟨k.os.trans h.os, k.tape.trans h.tape, k.output.trans h.output, Nat.le_trans h.size k.size, fun i hi h1 h2 => (k.block i (Nat.lt_of_lt_of_le hi h.size) h1 h2).trans (h.block i hi h1 h2)⟩

theorem Only2.of_only {R S : Nat} {a b : World} (h : Only R a b) : Only2 R S a b := ⟨h.os, h.tape, h.output, h.size, fun i hi h1 _ => h.block i hi (fun e => h1 (Option.some.inj e))⟩

theorem Only2.of_only' {R S : Nat} {a b : World} (h : Only S a b) : Only2 R S a b := ⟨h.os, h.tape, h.output, h.size, fun i hi _ h2 => h.block i hi (fun e => h2 (Option.some.inj e))⟩

theorem Only2.of_below {R S : Nat} {a b : World} (h : Below a.heap.size a b) : Only2 R S a b := ⟨h.os, h.tape, h.output, h.size, fun i hi _ _ => h.block i hi⟩

theorem Only2.below {R S B : Nat} {a b : World} (h : Only2 R S a b) (hR : B ≤ R) (hS : B ≤ S) (hB : B ≤ a.heap.size) : Below B a b := ⟨h.os, h.tape, h.output, h.size, fun k hk => h.block k (by omega) (by omega) (by omega)⟩

theorem Only2.at {R S g : Nat} {a b : World} {o : Obj} (h : Only2 R S a b) (hg : a.heap[g]? = some o) (h1 : g ≠ R) (h2 : g ≠ S) : b.heap[g]? = some o := (h.block g (cell_lt hg) h1 h2).trans hg

theorem Only2.set_ {R S : Nat} {w w' : World} (h : Only2 R S w w') {p : Addr} (hp : p.block = R ∨ p.block = S ∨ w.heap.size ≤ p.block) (u : Value) : Only2 R S w (w'.setCell p u) :=
  ⟨h.os, h.tape, h.output, by simpa [World.setCell] using h.size, fun k hk h1 h2 => (Below.heap_setCell w' p u k (by omega)).trans (h.block k hk h1 h2)⟩

theorem Only2.alloc_ {R S : Nat} {a b : World} (h : Only2 R S a b) (o : Obj) : Only2 R S a (b.alloc o) :=
  ⟨h.os, h.tape, h.output, by have := h.size; simp; omega, fun k hk h1 h2 => (Below.heap_alloc b o k (Nat.lt_of_lt_of_le hk h.size)).trans (h.block k hk h1 h2)⟩

theorem Only2.drewN {R S : Nat} {a b : World} (h : Only2 R S a b) (n : Nat) : Only2 R S a (b.drewN n) := ⟨h.os, h.tape, h.output, h.size, h.block⟩

/-- The eight cells of a machine. -/
def mcs (g : Nat) (E L T : Int) (a : Bool) (fr : Int) (p c : Bool) : Array Value := #[.int .i64 E, .int .i64 L, .int .i64 T, .bool a, .pointer (some ⟨g, 0, none⟩), .int .i64 fr, .bool p, .bool c]

/-- A machine lies in block m, its line in block g. -/
structure Mc (w : World) (m g : Nat) (E L T : Int) (a : Bool) (n s fr : Int) (p c : Bool) : Prop where
  ne : m ≠ g
  cells : w.heap[m]? = some (.cells (mcs g E L T a fr p c) 67 (0, 0))
  line : Ln w g n s

/-- A spec is right. -/
def SpecOk (E L T : Int) : Prop := (0 ≤ E ∧ E ≤ 1000) ∧ (0 ≤ L ∧ L ≤ 1000) ∧ (0 ≤ T ∧ T ≤ 1048576) ∧ (L = 0 ∨ ¬ T = 0)

instance (E L T : Int) : Decidable (SpecOk E L T) := by unfold SpecOk; infer_instance

theorem within_yes (n lo hi : Int) (w : World) (h : lo ≤ n ∧ n ≤ hi) : Calls Try.prog 20 #[.int .i64 n, .int .i64 lo, .int .i64 hi] w fun e w' => e = .returned (.bool true) ∧ w = w' := by
  have h1 : decide (lo ≤ n) = true := decide_eq_true h.1
  have h2 : decide (n ≤ hi) = true := decide_eq_true h.2
  clear h
  go_enter Try.func20, Try.ntmps20
  go_wp2
  go_ret
  exact ⟨rfl, rfl⟩

theorem within_no (n lo hi : Int) (w : World) (h : ¬ (lo ≤ n ∧ n ≤ hi)) : Calls Try.prog 20 #[.int .i64 n, .int .i64 lo, .int .i64 hi] w fun e w' => e = .returned (.bool false) ∧ w = w' := by
  by_cases h0 : lo ≤ n
  · have h1 : decide (lo ≤ n) = true := decide_eq_true h0
    have h2 : decide (n ≤ hi) = false := decide_eq_false (fun k => h ⟨h0, k⟩)
    clear h h0
    go_enter Try.func20, Try.ntmps20
    go_wp2
    go_ret
    exact ⟨rfl, rfl⟩
  · have h1 : decide (lo ≤ n) = false := decide_eq_false h0
    clear h h0
    go_enter Try.func20, Try.ntmps20
    go_wp2
    go_ret
    exact ⟨rfl, rfl⟩

theorem sum_any (n v : Int) (w : World) (h0 : 0 ≤ n) (h1 : n ≤ 4611686018427387904) (h2 : 0 ≤ v) (h3 : v ≤ 4611686018427387900) : Calls Try.prog 28 #[.int .i64 n, .int .i64 v] w fun e w' => e = .returned (.int .i64 (n + v)) ∧ w = w' := by
  have hs : IntKind.i64.wrap (9223372036854775807 - n) = 9223372036854775807 - n := IntWalk.i64_in _ (by omega)
  have ha : IntKind.i64.wrap (n + v) = n + v := IntWalk.i64_in _ (by omega)
  have hd : v ≤ 9223372036854775807 - n := by omega
  go_enter Try.func28, Try.ntmps28
  go_wp2
  go_ret
  exact ⟨rfl, rfl⟩

set_option maxRecDepth 100000 in
theorem check_yes (E L T : Int) (a : Bool) (w : World) (h : SpecOk E L T) : Calls Try.prog 10 #[.agg #[.int .i64 E, .int .i64 L, .int .i64 T, .bool a]] w fun e w' => e = .returned (.int .i64 0) ∧ w' = w.alloc (.cells #[.int .i64 E, .int .i64 L, .int .i64 T, .bool a] 23) := by
  obtain ⟨h1, h2, h3, h4⟩ := h
  have HC1 := fun w => Lib.hid (within_yes E 0 1000 w h1)
  have HC2 := fun w => Lib.hid (within_yes L 0 1000 w h2)
  have HC3 := fun w => Lib.hid (within_yes T 0 1048576 w h3)
  clear h1 h2 h3
  by_cases hl : L = 0
  · subst hl
    clear h4
    go_enter Try.func10, Try.ntmps10
    go_wp2_with (first
      | (go_at_call 20; (with_reducible refine (HC1 _).out.mono ?_); rintro e w1 ⟨rfl, rfl⟩)
      | (go_at_call 20; (with_reducible refine (HC2 _).out.mono ?_); rintro e w1 ⟨rfl, rfl⟩)
      | (go_at_call 20; (with_reducible refine (HC3 _).out.mono ?_); rintro e w1 ⟨rfl, rfl⟩))
    go_ret
    exact ⟨rfl, rfl⟩
  · have ht : ¬ T = 0 := by omega
    have d1 : (L == 0) = false := by simp [hl]
    have d2 : (L != 0) = true := by simp [hl]
    have d3 : (T == 0) = false := by simp [ht]
    clear h4 hl ht
    go_enter Try.func10, Try.ntmps10
    go_wp2_with (first
      | (go_at_call 20; (with_reducible refine (HC1 _).out.mono ?_); rintro e w1 ⟨rfl, rfl⟩)
      | (go_at_call 20; (with_reducible refine (HC2 _).out.mono ?_); rintro e w1 ⟨rfl, rfl⟩)
      | (go_at_call 20; (with_reducible refine (HC3 _).out.mono ?_); rintro e w1 ⟨rfl, rfl⟩))
    go_ret
    exact ⟨rfl, rfl⟩

set_option maxRecDepth 100000 in
theorem check_no (E L T : Int) (a : Bool) (w : World) (h : ¬ SpecOk E L T) : Calls Try.prog 10 #[.agg #[.int .i64 E, .int .i64 L, .int .i64 T, .bool a]] w fun e w' => e = .returned (.int .i64 100) ∧ w' = w.alloc (.cells #[.int .i64 E, .int .i64 L, .int .i64 T, .bool a] 23) := by
  by_cases h1 : 0 ≤ E ∧ E ≤ 1000
  · have HC1 := fun w => Lib.hid (within_yes E 0 1000 w h1)
    by_cases h2 : 0 ≤ L ∧ L ≤ 1000
    · have HC2 := fun w => Lib.hid (within_yes L 0 1000 w h2)
      by_cases h3 : 0 ≤ T ∧ T ≤ 1048576
      · have HC3 := fun w => Lib.hid (within_yes T 0 1048576 w h3)
        have hl : ¬ L = 0 := fun e => h ⟨h1, h2, h3, .inl e⟩
        have ht : T = 0 := Decidable.byContradiction fun e => h ⟨h1, h2, h3, .inr e⟩
        subst ht
        have d1 : (L == 0) = false := by simp [hl]
        have d2 : (L != 0) = true := by simp [hl]
        clear h1 h2 h3 h hl
        go_enter Try.func10, Try.ntmps10
        go_wp2_with (first
          | (go_at_call 20; (with_reducible refine (HC1 _).out.mono ?_); rintro e w1 ⟨rfl, rfl⟩)
          | (go_at_call 20; (with_reducible refine (HC2 _).out.mono ?_); rintro e w1 ⟨rfl, rfl⟩)
          | (go_at_call 20; (with_reducible refine (HC3 _).out.mono ?_); rintro e w1 ⟨rfl, rfl⟩))
        go_ret
        exact ⟨rfl, rfl⟩
      · have HC3 := fun w => Lib.hid (within_no T 0 1048576 w h3)
        clear h1 h2 h3 h
        go_enter Try.func10, Try.ntmps10
        go_wp2_with (first
          | (go_at_call 20; (with_reducible refine (HC1 _).out.mono ?_); rintro e w1 ⟨rfl, rfl⟩)
          | (go_at_call 20; (with_reducible refine (HC2 _).out.mono ?_); rintro e w1 ⟨rfl, rfl⟩)
          | (go_at_call 20; (with_reducible refine (HC3 _).out.mono ?_); rintro e w1 ⟨rfl, rfl⟩))
        go_ret
        exact ⟨rfl, rfl⟩
    · have HC2 := fun w => Lib.hid (within_no L 0 1000 w h2)
      clear h1 h2 h
      go_enter Try.func10, Try.ntmps10
      go_wp2_with (first
        | (go_at_call 20; (with_reducible refine (HC1 _).out.mono ?_); rintro e w1 ⟨rfl, rfl⟩)
        | (go_at_call 20; (with_reducible refine (HC2 _).out.mono ?_); rintro e w1 ⟨rfl, rfl⟩))
      go_ret
      exact ⟨rfl, rfl⟩
  · have HC1 := fun w => Lib.hid (within_no E 0 1000 w h1)
    clear h1 h
    go_enter Try.func10, Try.ntmps10
    go_wp2_with (go_at_call 20; (with_reducible refine (HC1 _).out.mono ?_); rintro e w1 ⟨rfl, rfl⟩)
    go_ret
    exact ⟨rfl, rfl⟩

theorem agrees0 (w : World) : Calls Try.prog 34 #[.agg #[.int .i64 0, .int .i64 0, .int .i64 0, .bool false, .bool false]] w fun e w' => e = .returned (.bool true) ∧ w' = w.alloc (.cells #[.int .i64 0, .int .i64 0, .int .i64 0, .bool false, .bool false] 51) := by
  go_enter Try.func34, Try.ntmps34
  go_wp2
  go_ret
  exact ⟨rfl, rfl⟩

theorem load0 (w : World) : Calls Try.prog 35 #[.int .i64 0, .int .i64 0] w fun e w' => e = .returned (.tuple #[.pointer (some ⟨w.heap.size, 0, none⟩), .int .i64 0]) ∧ w' = w.alloc (.cells #[.int .i64 0, .int .i64 0] 78) := by
  go_enter Try.func35, Try.ntmps35
  go_wp2
  refine wp_scope_fwd 0 rfl ?_
  go_wp2
  dsimp +zetaDelta only [jump_ret]
  go_ret2
  exact ⟨rfl, rfl⟩

/-- A new machine. -/
def NewOut (E L T : Int) (a : Bool) (w : World) (e : Ending) (w' : World) : Prop :=
  ∃ m g, e = .returned (.tuple #[.pointer (some ⟨m, 0, none⟩), .int .i64 0]) ∧ w.heap.size ≤ m ∧ w.heap.size ≤ g ∧ Mc w' m g E L T a 0 0 0 false false ∧ Below w.heap.size w w'

end Go.Proofs.Ytoplkinlgneidaa
