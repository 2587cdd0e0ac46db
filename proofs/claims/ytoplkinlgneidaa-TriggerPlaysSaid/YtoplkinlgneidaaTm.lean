/-
Regions that call what makes memory; slices of ints; states held against each other; the invalid and the long of TriggerSums.
-/
import Derived.Test.YtoplkinlgneidaaTl
set_option linter.unusedVariables false
namespace Go.Proofs.Ytoplkinlgneidaa
open Go.RowKit

/-- A world in which all that lay in W lies unturned. -/
structure Wb (W : World) where
  w : World
  h : Below W.heap.size W w

instance (W : World) : Inhabited (Wb W) := ⟨⟨W, Below.refl _ _⟩⟩

theorem wp_region_quiet_below {P : Program} {id : Nat} {Q : Exit → Act → World → Prop} {a : Act} {w : World} {l : List Oper} (hm : P.follows .mixedOrders = true) (hB : Region.lexB .any l.toArray = true)
    (h : wpQuiet P l.toArray (fun w' => ∃ p : Wb w, w' = p.w) (fun a' => ∀ w', (∃ p : Wb w, w' = p.w) → Q .normal a' w') l a) : (Code.region id l.toArray true).wp P Q a w :=
  wp_region_quiet (C := fun w' => ∃ p : Wb w, w' = p.w) hm hB ⟨⟨w.drew, below_drew_some (Below.refl _ _)⟩, rfl⟩ (by simpa using h)

theorem Wb.call {P : Program} {f : FuncId} {args : Array Value} {W : World} {p : Wb W} {v : Value} (h : Calls P f args p.w fun e w' => e = .returned v ∧ Below p.w.heap.size p.w w') : Calls P f args p.w fun e w'' => e = .returned v ∧ ∃ q : Wb W, w'' = q.w :=
  h.mono fun _ w'' ⟨he, hb⟩ => ⟨he, ⟨w'', p.h.trans (hb.mono p.h.size)⟩, rfl⟩

theorem Wb.cell {W : World} {b o : Nat} {v : Value} (h : W.cell? ⟨b, o, none⟩ = some v) (hb : b < W.heap.size) (p : Wb W) : p.w.cell? ⟨b, o, none⟩ = some v := (p.h.cell (p := ⟨b, o, none⟩) hb).trans h

/-- The value v is a slice that reads as the numbers l. -/
def NsAt (w : World) (v : Value) (l : List Int) : Prop :=
  ∃ a c, v = .slice a l.length c ∧ l.length ≤ c ∧ (0 < l.length → ∃ b o, a = some ⟨b, o, none⟩ ∧ b < w.heap.size ∧ ∀ j x, l[j]? = some x → w.cell? ⟨b, o + j, none⟩ = some (.int .i64 x))

/-- Two states are held against each other. -/
theorem eqS (T : TypeId) (hT : Try.prog.underlying T = some (.struct (Try.prog.fieldsOf T))) (hs : Try.prog.stoodInHeld T = false) (hf : (Try.prog.fieldsOf T).toList.map (fun f => (f.name, f.type, f.offset)) = [("Next", 3, 0), ("Stage", 3, 1), ("Fresh", 3, 2), ("Passed", 4, 3), ("Closed", 4, 4)]) (w : World) (n s f n' s' f' : Int) (p c p' c' : Bool) :
    (Op.equalIn 10000 T (.agg #[.int .i64 n, .int .i64 s, .int .i64 f, .bool p, .bool c]) (.agg #[.int .i64 n', .int .i64 s', .int .i64 f', .bool p', .bool c'])).run Try.prog w = .ok (n == n' && s == s' && f == f' && p == p' && c == c') w := by
  rw [run_equalIn_agg w 9999 T _ _ hT hs]
  generalize (Try.prog.fieldsOf T).toList = fs at hf
  rcases fs with _ | ⟨f0, _ | ⟨f1, _ | ⟨f2, _ | ⟨f3, _ | ⟨f4, _ | ⟨f5, r⟩⟩⟩⟩⟩⟩
  · simp at hf
  · simp at hf
  · simp at hf
  · simp at hf
  · simp at hf
  · simp only [List.map_cons, List.map_nil, List.cons.injEq, Prod.mk.injEq, and_true] at hf
    obtain ⟨⟨n0, t0, o0⟩, ⟨n1, t1, o1⟩, ⟨n2, t2, o2⟩, ⟨n3, t3, o3⟩, ⟨n4, t4, o4⟩⟩ := hf
    simp [Op.eqFields, n0, t0, o0, n1, t1, o1, n2, t2, o2, n3, t3, o3, n4, t4, o4, part, go_sem, Try.underlying3, Try.underlying4]
    by_cases h0 : n = n'
    · by_cases h1 : s = s'
      · by_cases h2 : f = f'
        · by_cases h3 : p = p'
          · by_cases h4 : c = c'
            · simp [h0, h1, h2, h3, h4]
            · simp [h0, h1, h2, h3, h4]
          · simp [h0, h1, h2, h3]
        · simp [h0, h1, h2]
      · simp [h0, h1]
    · simp [h0]
  · simp at hf

theorem Try.neqS (w : World) (n s f n' s' f' : Int) (p c p' c' : Bool) : (binOp .neq 51 (.agg #[.int .i64 n, .int .i64 s, .int .i64 f, .bool p, .bool c]) (.agg #[.int .i64 n', .int .i64 s', .int .i64 f', .bool p', .bool c'])).run Try.prog w = .ok (.bool (!(n == n' && s == s' && f == f' && p == p' && c == c'))) w := by
  have h := eqS 51 (by kernel_rfl) (by kernel_rfl) (by kernel_rfl) w n s f n' s' f' p c p' c'
  rw [run_neq_struct, h]; rfl

theorem Try.eqlS (w : World) (n s f n' s' f' : Int) (p c p' c' : Bool) : (binOp .eql 51 (.agg #[.int .i64 n, .int .i64 s, .int .i64 f, .bool p, .bool c]) (.agg #[.int .i64 n', .int .i64 s', .int .i64 f', .bool p', .bool c'])).run Try.prog w = .ok (.bool (n == n' && s == s' && f == f' && p == p' && c == c')) w := by
  have h := eqS 51 (by kernel_rfl) (by kernel_rfl) (by kernel_rfl) w n s f n' s' f' p c p' c'
  rw [run_eql_struct, h]; rfl

theorem Try.guardS (op : BinOp) (w : World) (x y : Operand) (xs ys : Array Value) : (eqGuard op 51 x y (.agg xs) (.agg ys)).run Try.prog w = .ok () w := run_eqGuard_agg w op _ _ _ _ _ (by kernel_rfl)

theorem Try.fieldS (w : World) (n s fr : Int) (p c : Bool) : (Instr.field 51 (.agg #[.int .i64 n, .int .i64 s, .int .i64 fr, .bool p, .bool c]) 2).run Try.prog w = .ok (.int .i64 fr) w := by
  simp [Instr.field, asAgg, go_sem]

end Go.Proofs.Ytoplkinlgneidaa
