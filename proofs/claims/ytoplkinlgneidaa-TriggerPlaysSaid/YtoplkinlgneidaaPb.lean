/-
What every text of this seat leans on: worlds, cells, slices of panes, a line in memory.
-/
import Derived.Test.YtoplkinlgneidaaProg
import Derived.WalkKit
import Derived.WalkSpells
import Derived.WalkLawsBesides
import Derived.Lib.Hide
import Derived.Lib.SmallJoins
import Derived.Outline
import Derived.Deep.LoopGhost
import Derived.BigQuiet
import Derived.Deep.QuietTactic
import Derived.StillTailTactics
import Derived.Deep.RegionHeld3
import Derived.Deep.RegionWith
import Derived.Deep.RegionLaw
import Derived.Deep.AppendLies
import Derived.Deep.DeepCutAuto
import Derived.Deep.DeepFit
import Derived.Maps.AppendAt
import Derived.Laws.MakeOwn
import Derived.IntWalk
import Derived.Laws.StructEq
namespace Go.Proofs.Ytoplkinlgneidaa
open Go.RowKit

theorem cell_lt {w : World} {g : Nat} {o : Obj} (h : w.heap[g]? = some o) : g < w.heap.size := (Array.getElem?_eq_some_iff.1 h).1

theorem cell2_0 {w : World} {g : Nat} {a b : Value} {t : TypeId} (h : w.heap[g]? = some (.cells #[a, b] t (0, 0))) : w.cell? ⟨g, 0, none⟩ = some a := by simp [World.cell?, h]

theorem cell2_1 {w : World} {g : Nat} {a b : Value} {t : TypeId} (h : w.heap[g]? = some (.cells #[a, b] t (0, 0))) : w.cell? ⟨g, 1, none⟩ = some b := by simp [World.cell?, h]

theorem cell3_0 {w : World} {g : Nat} {a b c : Value} {t : TypeId} (h : w.heap[g]? = some (.cells #[a, b, c] t (0, 0))) : w.cell? ⟨g, 0, none⟩ = some a := by simp [World.cell?, h]

theorem cell3_1 {w : World} {g : Nat} {a b c : Value} {t : TypeId} (h : w.heap[g]? = some (.cells #[a, b, c] t (0, 0))) : w.cell? ⟨g, 1, none⟩ = some b := by simp [World.cell?, h]

theorem cell3_2 {w : World} {g : Nat} {a b c : Value} {t : TypeId} (h : w.heap[g]? = some (.cells #[a, b, c] t (0, 0))) : w.cell? ⟨g, 2, none⟩ = some c := by simp [World.cell?, h]

theorem cells_f {w : World} {g : Nat} {cs : Array Value} {t : TypeId} (h : w.heap[g]? = some (.cells cs t (0, 0))) (i : Nat) : w.frozen? ⟨g, i, none⟩ = false := by simp [World.frozen?, h]

/-- Only block R, and what is new, has turned. -/
def Only (R : Nat) (w w' : World) : Prop := w.grownBy w' (some R)

theorem Only.refl (R : Nat) (w : World) : Only R w w := ⟨rfl, rfl, rfl, Nat.le_refl _, fun _ _ _ => rfl⟩

theorem Only.trans {R : Nat} {a b c : World} (h : Only R a b) (k : Only R b c) : Only R a c :=
  ⟨k.os.trans h.os, k.tape.trans h.tape, k.output.trans h.output, Nat.le_trans h.size k.size, fun i hi hne => (k.block i (Nat.lt_of_lt_of_le hi h.size) hne).trans (h.block i hi hne)⟩

theorem Only.of_below {R : Nat} {a b : World} (h : Below a.heap.size a b) : Only R a b := ⟨h.os, h.tape, h.output, h.size, fun i hi _ => h.block i hi⟩

theorem Only.set_ (R i : Nat) (w : World) (u : Value) : Only R w (w.setCell ⟨R, i, none⟩ u) :=
  ⟨rfl, rfl, rfl, by simp [World.setCell], fun k _ hk => Below.heap_setCell w _ u k (fun e => hk (by rw [e]))⟩

theorem Only.below {R B : Nat} {a b : World} (h : Only R a b) (hR : B ≤ R) (hB : B ≤ a.heap.size) : Below B a b := ⟨h.os, h.tape, h.output, h.size, fun k hk => h.block k (by omega) (fun e => by injection e; omega)⟩

theorem Only.at {R g : Nat} {a b : World} {o : Obj} (h : Only R a b) (hg : a.heap[g]? = some o) (hne : g ≠ R) : b.heap[g]? = some o := (h.block g (cell_lt hg) (fun e => hne (Option.some.inj e))).trans hg

theorem only_far {R : Nat} {w w' : World} (h : Only R w w') {p : Addr} (hp : w.heap.size ≤ p.block) (u : Value) : Only R w (w'.setCell p u) :=
  ⟨h.os, h.tape, h.output, by simpa [World.setCell] using h.size, fun k hk hne => (Below.heap_setCell w' p u k (by omega)).trans (h.block k hk hne)⟩

theorem Only.alloc_ {R : Nat} {a b : World} (h : Only R a b) (o : Obj) : Only R a (b.alloc o) :=
  ⟨h.os, h.tape, h.output, by have := h.size; simp; omega, fun k hk hne => (Below.heap_alloc b o k (Nat.lt_of_lt_of_le hk h.size)).trans (h.block k hk hne)⟩

theorem Only.drewN {R : Nat} {a b : World} (h : Only R a b) (n : Nat) : Only R a (b.drewN n) := ⟨h.os, h.tape, h.output, h.size, h.block⟩

theorem below_at {B g : Nat} {a b : World} {o : Obj} (h : Below B a b) (hg : a.heap[g]? = some o) (hB : g < B) : b.heap[g]? = some o := (h.block g hB).trans hg

theorem addr_add (b o k : Nat) : (⟨b, o, none⟩ : Addr).add k = ⟨b, o + k, none⟩ := by
  unfold Addr.add
  split
  · rename_i h; subst h; rfl
  · rfl

theorem cell_drew_some {w : World} {a : Addr} {v : Value} (h : w.cell? a = some v) : w.drew.cell? a = some v := h

theorem below_drew_some {B : Nat} {a w : World} (h : Below B a w) : Below B a w.drew := ⟨h.os, h.tape, h.output, h.size, h.block⟩

theorem cell_alloc_some {w : World} {a : Addr} {v : Value} {o : Obj} (h : w.cell? a = some v) : (w.alloc o).cell? a = some v := by
  rw [← h]
  exact World.cell?_of_block (Below.heap_alloc w o a.block (World.block_lt_of_cell? w _ h))

theorem heap_new_at {X : World} {cs : Array Value} {t : TypeId} {g : Nat} (h : X.heap.size = g) : (X.alloc (.cells cs t)).heap[g]? = some (.cells cs t (0, 0)) := by subst h; exact heap_alloc_new X _

theorem heap_alloc_some {w : World} {k : Nat} {o ob : Obj} (h : w.heap[k]? = some ob) : (w.alloc o).heap[k]? = some ob := (Below.heap_alloc w o k (Array.getElem?_eq_some_iff.1 h).1).trans h

/-- A pane: Index, Timing, Last. -/
abbrev Inf := Int × Int × Bool

/-- The three cells of a pane. -/
def encI (x : Inf) : List Value := [.int .i64 x.1, .int .i64 x.2.1, .bool x.2.2]

/-- The cells of panes. -/
def flat (l : List Inf) : List Value := l.flatMap encI

theorem flat_snoc (l : List Inf) (x : Inf) : flat (l ++ [x]) = flat l ++ [.int .i64 x.1, .int .i64 x.2.1, .bool x.2.2] := by simp [flat, encI]

theorem flat_length (l : List Inf) : (flat l).length = l.length * 3 := by
  induction l with
  | nil => rfl
  | cons x r ih => simp only [flat, List.flatMap_cons, List.length_append, List.length_cons] at ih ⊢; rw [ih]; simp [encI]; omega

theorem flat_get : ∀ (l : List Inf) (j : Nat) (x : Inf), l[j]? = some x → (flat l)[j * 3]? = some (.int .i64 x.1) ∧ (flat l)[j * 3 + 1]? = some (.int .i64 x.2.1) ∧ (flat l)[j * 3 + 2]? = some (.bool x.2.2)
  | y :: r, 0, x, h => by simp at h; subst h; simp [flat, encI]
  | y :: r, j + 1, x, h => by
    have h' : r[j]? = some x := by simpa using h
    have ih := flat_get r j x h'
    have e : flat (y :: r) = .int .i64 y.1 :: .int .i64 y.2.1 :: .bool y.2.2 :: flat r := by simp [flat, encI]
    rw [e, show (j + 1) * 3 = j * 3 + 1 + 1 + 1 by omega]
    exact ⟨by simpa using ih.1, by simpa using ih.2.1, by simpa using ih.2.2⟩

theorem flat_one (l : List Inf) : ∀ u ∈ flat l, u.oneCell' = true := by
  intro u hu
  unfold flat at hu
  rw [List.mem_flatMap] at hu
  obtain ⟨x, _, hx⟩ := hu
  simp [encI] at hx
  rcases hx with rfl | rfl | rfl <;> rfl

/-- The cells of the panes l lie at b, o. -/
def InAt (w : World) (b o : Nat) (l : List Inf) : Prop := ∀ j x, l[j]? = some x → w.cell? ⟨b, o + j * 3, none⟩ = some (.int .i64 x.1) ∧ w.cell? ⟨b, o + j * 3 + 1, none⟩ = some (.int .i64 x.2.1) ∧ w.cell? ⟨b, o + j * 3 + 2, none⟩ = some (.bool x.2.2)

/-- The value v is a slice that reads as the panes l; its cells lie in blocks for which S holds. -/
def IsAt (w : World) (S : Nat → Prop) (v : Value) (l : List Inf) : Prop :=
  ∃ a c, v = .slice a l.length c ∧ l.length ≤ c ∧ (0 < l.length → ∃ b o, a = some ⟨b, o, none⟩ ∧ S b ∧ b < w.heap.size ∧ InAt w b o l)

theorem IsAt.move {w w' : World} {S S' : Nat → Prop} {v : Value} {l : List Inf} (h : IsAt w S v l) (hk : ∀ b, S b → b < w.heap.size → S' b ∧ b < w'.heap.size ∧ ∀ o, w'.cell? ⟨b, o, none⟩ = w.cell? ⟨b, o, none⟩) : IsAt w' S' v l := by
  obtain ⟨a, c, hv, hc, h⟩ := h
  refine ⟨a, c, hv, hc, fun hl => ?_⟩
  obtain ⟨b, o, ha, hb, hlt, hj⟩ := h hl
  obtain ⟨k0, k1, k2⟩ := hk b hb hlt
  exact ⟨b, o, ha, k0, k1, fun j x hx => ⟨(k2 _).trans (hj j x hx).1, (k2 _).trans (hj j x hx).2.1, (k2 _).trans (hj j x hx).2.2⟩⟩

theorem IsAt.below {w w' : World} {S : Nat → Prop} {v : Value} {l : List Inf} (h : IsAt w S v l) (hb : Below w.heap.size w w') : IsAt w' S v l :=
  h.move (fun b hs hl => ⟨hs, by have := hb.size; omega, fun o => hb.cell (p := ⟨b, o, none⟩) hl⟩)

theorem own_form {w : World} {base : Nat} {e : TypeId} {size : Nat} {v : Value} {n : Nat} {xs : List Value} (h : w.ownsRow base e size v n xs) (hn : 0 < n) :
    ∃ g cap, v = .slice (some ⟨g, 0, none⟩) n cap ∧ base ≤ g ∧ g < w.heap.size ∧ n ≤ cap := by
  rcases h.2 with ⟨_, h0⟩ | ⟨g, cap, cur, hv, hb, hg, hnc, _⟩
  · omega
  · exact ⟨g, cap, hv, hb, cell_lt hg, hnc⟩

theorem own_slice {w : World} {B : Nat} {e : TypeId} {size : Nat} {v : Value} {n : Nat} {xs : List Value} (h : w.ownsRow B e size v n xs) : ∃ A c, v = .slice A n c := by
  rcases h.2 with ⟨rfl, rfl⟩ | ⟨g', cap, cur, rfl, _⟩
  · exact ⟨_, _, rfl⟩
  · exact ⟨_, _, rfl⟩

/-- What is owned as panes' cells reads as panes. -/
theorem IsAt.own {w : World} {B : Nat} {e : TypeId} {v : Value} {l : List Inf} (h : w.ownsRow B e 3 v l.length (flat l)) : IsAt w (fun b => B ≤ b) v l := by
  have hc := fun g hg => h.cells (g := g) hg
  rcases h.2 with ⟨rfl, h0⟩ | ⟨g, cap, cur, rfl, hbg, hg, hnc, _⟩
  · obtain rfl : l = [] := List.length_eq_zero_iff.1 h0
    exact ⟨none, 0, rfl, Nat.le_refl _, fun h => absurd h (Nat.lt_irrefl _)⟩
  · refine ⟨some ⟨g, 0, none⟩, cap, rfl, hnc, fun _ => ⟨g, 0, rfl, hbg, cell_lt hg, fun j x hx => ?_⟩⟩
    obtain ⟨f0, f1, f2⟩ := flat_get l j x hx
    have a0 := hc g rfl _ _ f0
    have a1 := hc g rfl _ _ f1
    have a2 := hc g rfl _ _ f2
    rw [addr_add] at a0 a1 a2
    simp only [Nat.zero_add] at a0 a1 a2 ⊢
    exact ⟨a0, a1, a2⟩

theorem own_low {w w' : World} {B e size n : Nat} {v : Value} {xs : List Value} (h : w.ownsRow B e size v n xs) (hb : Below w.heap.size w w') : w'.ownsRow B e size v n xs := by
  refine h.kept (row := none) ⟨hb.os, hb.tape, hb.output, hb.size, fun k hk _ => hb.block k hk⟩ ?_
  cases hv : v.ownBlock with
  | none => exact .inl rfl
  | some k => exact .inr (by simp)

theorem own_only {w w' : World} {B R e size n : Nat} {v : Value} {xs : List Value} (h : w.ownsRow B e size v n xs) (hb : Only R w w') (hR : R < B) : w'.ownsRow B e size v n xs := by
  refine h.kept hb ?_
  cases hv : v.ownBlock with
  | none => exact .inl rfl
  | some k => exact .inr (fun e => by have := (h.lt k hv).1; injection e; omega)

/-- The line whose next index is n, whose stage is s, lies in block g. -/
def Ln (w : World) (g : Nat) (n s : Int) : Prop := w.heap[g]? = some (.cells #[.int .i64 n, .int .i64 s] 78 (0, 0))

theorem Ln.low {w w' : World} {g B : Nat} {n s : Int} (h : Ln w g n s) (hb : Below B w w') (hg : g < B) : Ln w' g n s := (hb.block g hg).trans h

theorem ret_bool {a b : Bool} (h : a = b) : Ending.returned (.bool a) = .returned (.bool b) := by rw [h]
theorem ret_int {k : IntKind} {a b : Int} (h : a = b) : Ending.returned (.int k a) = .returned (.int k b) := by rw [h]

theorem Try.infoI : (Try.prog.info? 49).map (fun i => (i.zero, i.size, i.bytes)) = some (some (.agg #[.int .i64 0, .int .i64 0, .bool false]), 3, 24) := by kernel_rfl

/-- Two panes are held against each other. -/
theorem eqI (T : TypeId) (hT : Try.prog.underlying T = some (.struct (Try.prog.fieldsOf T))) (hs : Try.prog.stoodInHeld T = false) (hf : (Try.prog.fieldsOf T).toList.map (fun f => (f.name, f.type, f.offset)) = [("Index", 3, 0), ("Timing", 3, 1), ("Last", 4, 2)]) (w : World) (a b a' b' : Int) (c c' : Bool) :
    (Op.equalIn 10000 T (.agg #[.int .i64 a, .int .i64 b, .bool c]) (.agg #[.int .i64 a', .int .i64 b', .bool c'])).run Try.prog w = .ok (a == a' && b == b' && c == c') w := by
  rw [run_equalIn_agg w 9999 T _ _ hT hs]
  generalize (Try.prog.fieldsOf T).toList = fs at hf
  rcases fs with _ | ⟨f0, _ | ⟨f1, _ | ⟨f2, _ | ⟨f3, r⟩⟩⟩⟩
  · simp at hf
  · simp at hf
  · simp at hf
  · simp only [List.map_cons, List.map_nil, List.cons.injEq, Prod.mk.injEq, and_true] at hf
    obtain ⟨⟨n0, t0, o0⟩, ⟨n1, t1, o1⟩, ⟨n2, t2, o2⟩⟩ := hf
    simp [Op.eqFields, n0, t0, o0, n1, t1, o1, n2, t2, o2, part, go_sem, Try.underlying3, Try.underlying4]
    by_cases ha : a = a'
    · by_cases hb : b = b'
      · by_cases hc : c = c'
        · simp [ha, hb, hc]
        · simp [ha, hb, hc]
      · simp [ha, hb]
    · simp [ha]
  · simp at hf

theorem Try.neqI (w : World) (a b a' b' : Int) (c c' : Bool) : (binOp .neq 49 (.agg #[.int .i64 a, .int .i64 b, .bool c]) (.agg #[.int .i64 a', .int .i64 b', .bool c'])).run Try.prog w = .ok (.bool (!(a == a' && b == b' && c == c'))) w := by
  rw [run_neq_struct, eqI 49 (by kernel_rfl) (by kernel_rfl) (by kernel_rfl)]; rfl

theorem Try.eqlI (w : World) (a b a' b' : Int) (c c' : Bool) : (binOp .eql 49 (.agg #[.int .i64 a, .int .i64 b, .bool c]) (.agg #[.int .i64 a', .int .i64 b', .bool c'])).run Try.prog w = .ok (.bool (a == a' && b == b' && c == c')) w := by
  rw [run_eql_struct, eqI 49 (by kernel_rfl) (by kernel_rfl) (by kernel_rfl)]; rfl

theorem Try.neqR (w : World) (a b a' b' : Int) (c c' : Bool) : (binOp .neq 76 (.agg #[.int .i64 a, .int .i64 b, .bool c]) (.agg #[.int .i64 a', .int .i64 b', .bool c'])).run Try.prog w = .ok (.bool (!(a == a' && b == b' && c == c'))) w := by
  rw [run_neq_struct, eqI 76 (by kernel_rfl) (by kernel_rfl) (by kernel_rfl)]; rfl

theorem Try.guardI (op : BinOp) (w : World) (x y : Operand) (xs ys : Array Value) : (eqGuard op 49 x y (.agg xs) (.agg ys)).run Try.prog w = .ok () w := run_eqGuard_agg w op _ _ _ _ _ (by kernel_rfl)

theorem Try.guardR (op : BinOp) (w : World) (x y : Operand) (xs ys : Array Value) : (eqGuard op 76 x y (.agg xs) (.agg ys)).run Try.prog w = .ok () w := run_eqGuard_agg w op _ _ _ _ _ (by kernel_rfl)

end Go.Proofs.Ytoplkinlgneidaa
