/-
What every text of this seat leans on: worlds, cells, slices of windows.
-/
import Derived.Test.YtpkieiahhkgjoaaDoorProg
import Derived.WalkKit
import Derived.WalkSpells
import Derived.WalkLawsBesides
import Derived.Lib.Hide
import Derived.Lib.SmallJoins
import Derived.Outline
import Derived.Deep.LoopGhost
import Derived.BigQuiet
import Derived.Deep.QuietTactic
import Derived.StillTailTactics
import Derived.Deep.RegionHeld3
import Derived.Deep.RegionWith
import Derived.Deep.DeepCutAuto
import Derived.Deep.DeepFit
import Derived.Maps.AppendAt
import Derived.Laws.MakeOwn
import Derived.IntWalk
import Derived.Test.YtpkieiahhkgjoaaDoorVp
namespace Go.Proofs.YtpkieiahhkgjoaaDoor
open Go.RowKit

theorem cell_lt {w : World} {g : Nat} {o : Obj} (h : w.heap[g]? = some o) : g < w.heap.size := (Array.getElem?_eq_some_iff.1 h).1

theorem cell2_0 {w : World} {g : Nat} {a b : Value} {t : TypeId} (h : w.heap[g]? = some (.cells #[a, b] t (0, 0))) : w.cell? ⟨g, 0, none⟩ = some a := by simp [World.cell?, h]

theorem cell2_1 {w : World} {g : Nat} {a b : Value} {t : TypeId} (h : w.heap[g]? = some (.cells #[a, b] t (0, 0))) : w.cell? ⟨g, 1, none⟩ = some b := by simp [World.cell?, h]

theorem cells_f {w : World} {g : Nat} {cs : Array Value} {t : TypeId} (h : w.heap[g]? = some (.cells cs t (0, 0))) (i : Nat) : w.frozen? ⟨g, i, none⟩ = false := by simp [World.frozen?, h]

theorem bcell {W w1 : World} (hb : Below W.heap.size W w1) : (∀ b o, b < W.heap.size → w1.cell? ⟨b, o, none⟩ = W.cell? ⟨b, o, none⟩) ∧ (∀ b o, b < W.heap.size → w1.frozen? ⟨b, o, none⟩ = W.frozen? ⟨b, o, none⟩) :=
  ⟨fun b o h => hb.cell (p := ⟨b, o, none⟩) h, fun b o h => hb.frozen (p := ⟨b, o, none⟩) h⟩

theorem cell_two_new (w : World) (a b : Value) (t : TypeId) (B : Nat) (hB : B = w.heap.size) : ∀ j u, [a, b][j]? = some u → (w.alloc (.cells #[a, b] t)).cell? ((⟨B, 0, none⟩ : Addr).add j) = some u := by
  subst hB
  intro j u hj
  match j, hj with
  | 0, hj => simp at hj; subst hj; simp [Addr.add]
  | 1, hj => simp at hj; subst hj; simp [Addr.add]
  | j + 2, hj => simp at hj

theorem two_one (a b : Int) : ∀ u ∈ [Value.int .i64 a, Value.int .i64 b], u.oneCell' = true := by
  intro u hu
  simp at hu
  rcases hu with rfl | rfl <;> rfl

/-- The two cells of a window. -/
def encW (x : Wn) : List Value := [.int .i64 x.1, .int .i64 x.2]

/-- The cells of windows. -/
def flat (l : List Wn) : List Value := l.flatMap encW

theorem flat_snoc (l : List Wn) (x : Wn) : flat (l ++ [x]) = flat l ++ [.int .i64 x.1, .int .i64 x.2] := by simp [flat, encW]

theorem flat_length (l : List Wn) : (flat l).length = l.length * 2 := by
  induction l with
  | nil => rfl
  | cons x r ih => simp only [flat, List.flatMap_cons, List.length_append, List.length_cons] at ih ⊢; rw [ih]; simp [encW]; omega

theorem flat_get : ∀ (l : List Wn) (j : Nat) (x : Wn), l[j]? = some x → (flat l)[j * 2]? = some (.int .i64 x.1) ∧ (flat l)[j * 2 + 1]? = some (.int .i64 x.2)
  | y :: r, 0, x, h => by simp at h; subst h; simp [flat, encW]
  | y :: r, j + 1, x, h => by
    have h' : r[j]? = some x := by simpa using h
    have ih := flat_get r j x h'
    have e : flat (y :: r) = .int .i64 y.1 :: .int .i64 y.2 :: flat r := by simp [flat, encW]
    rw [e, show (j + 1) * 2 = j * 2 + 1 + 1 by omega]
    exact ⟨by simpa using ih.1, by simpa using ih.2⟩

/-- The value v is a slice that reads as the windows l; its cells lie in a block from B on. -/
def WsAt (w : World) (B : Nat) (v : Value) (l : List Wn) : Prop :=
  ∃ a c, v = .slice a l.length c ∧ l.length ≤ c ∧ (0 < l.length → ∃ b o, a = some ⟨b, o, none⟩ ∧ B ≤ b ∧ b < w.heap.size ∧
    ∀ j x, l[j]? = some x → w.cell? ⟨b, o + j * 2, none⟩ = some (.int .i64 x.1) ∧ w.cell? ⟨b, o + j * 2 + 1, none⟩ = some (.int .i64 x.2))

theorem WsAt.move {w w' : World} {B B' : Nat} {v : Value} {l : List Wn} (h : WsAt w B v l) (hk : ∀ b, B ≤ b → b < w.heap.size → b < w'.heap.size ∧ ∀ o, w'.cell? ⟨b, o, none⟩ = w.cell? ⟨b, o, none⟩) (hB : B' ≤ B) : WsAt w' B' v l := by
  obtain ⟨a, c, hv, hc, h⟩ := h
  refine ⟨a, c, hv, hc, fun hl => ?_⟩
  obtain ⟨b, o, ha, hb, hlt, hj⟩ := h hl
  obtain ⟨k1, k2⟩ := hk b hb hlt
  exact ⟨b, o, ha, by omega, k1, fun j x hx => ⟨(k2 _).trans (hj j x hx).1, (k2 _).trans (hj j x hx).2⟩⟩

theorem WsAt.below {w w' : World} {B : Nat} {v : Value} {l : List Wn} (h : WsAt w B v l) (hb : Below w.heap.size w w') : WsAt w' B v l :=
  h.move (fun b _ hl => ⟨by have := hb.size; omega, fun o => hb.cell (p := ⟨b, o, none⟩) hl⟩) (Nat.le_refl _)

theorem WsAt.low {w : World} {B B' : Nat} {v : Value} {l : List Wn} (h : WsAt w B v l) (hB : B' ≤ B) : WsAt w B' v l := h.move (fun _ _ hl => ⟨hl, fun _ => rfl⟩) hB

theorem WsAt.nil (w : World) (B : Nat) : WsAt w B (.slice none 0 0) [] := ⟨none, 0, rfl, Nat.le_refl _, fun h => absurd h (Nat.lt_irrefl _)⟩

theorem WsAt.form {w : World} {B : Nat} {v : Value} {l : List Wn} (h : WsAt w B v l) : ∃ a c, v = .slice a l.length c ∧ l.length ≤ c := by
  obtain ⟨a, c, h1, h2, _⟩ := h
  exact ⟨a, c, h1, h2⟩

/-- What is owned as windows' cells reads as windows. -/
theorem WsAt.own {w : World} {B : Nat} {e : TypeId} {v : Value} {l : List Wn} (h : w.ownsRow B e 2 v l.length (flat l)) : WsAt w B v l := by
  have hc := fun g hg => h.cells (g := g) hg
  rcases h.2 with ⟨rfl, h0⟩ | ⟨g, cap, cur, rfl, hbg, hg, hnc, _⟩
  · obtain rfl : l = [] := List.length_eq_zero_iff.1 h0
    exact WsAt.nil _ _
  · refine ⟨some ⟨g, 0, none⟩, cap, rfl, hnc, fun _ => ⟨g, 0, rfl, hbg, cell_lt hg, fun j x hx => ?_⟩⟩
    obtain ⟨f0, f1⟩ := flat_get l j x hx
    have a0 := hc g rfl _ _ f0
    have a1 := hc g rfl _ _ f1
    have ad : ∀ k, (⟨g, 0, none⟩ : Addr).add k = ⟨g, k, none⟩ := fun k => by unfold Addr.add; split <;> simp_all
    rw [ad] at a0 a1
    rw [Nat.zero_add]
    exact ⟨a0, a1⟩

theorem own_form {w : World} {base : Nat} {e : TypeId} {size : Nat} {v : Value} {n : Nat} {xs : List Value} (h : w.ownsRow base e size v n xs) (hn : 0 < n) :
    ∃ g cap, v = .slice (some ⟨g, 0, none⟩) n cap ∧ base ≤ g ∧ g < w.heap.size ∧ n ≤ cap := by
  rcases h.2 with ⟨_, h0⟩ | ⟨g, cap, cur, hv, hb, hg, hnc, _⟩
  · omega
  · exact ⟨g, cap, hv, hb, cell_lt hg, hnc⟩

theorem own_slice {w : World} {B : Nat} {e : TypeId} {size : Nat} {v : Value} {n : Nat} {xs : List Value} (h : w.ownsRow B e size v n xs) : ∃ A c, v = .slice A n c := by
  rcases h.2 with ⟨rfl, rfl⟩ | ⟨g', cap, cur, rfl, _⟩
  · exact ⟨_, _, rfl⟩
  · exact ⟨_, _, rfl⟩

theorem cell_drew_some {w : World} {a : Addr} {v : Value} (h : w.cell? a = some v) : w.drew.cell? a = some v := h

theorem below_drew_some {B : Nat} {a w : World} (h : Below B a w) : Below B a w.drew := ⟨h.os, h.tape, h.output, h.size, h.block⟩

/-- A world in which all that lay in W lies unturned. -/
structure Wb (W : World) where
  w : World
  h : Below W.heap.size W w

instance (W : World) : Inhabited (Wb W) := ⟨⟨W, Below.refl _ _⟩⟩

theorem wp_region_quiet_below {P : Program} {id : Nat} {Q : Exit → Act → World → Prop} {a : Act} {w : World} {l : List Oper} (hm : P.follows .mixedOrders = true) (hB : Region.lexB .any l.toArray = true)
    (h : wpQuiet P l.toArray (fun w' => ∃ p : Wb w, w' = p.w) (fun a' => ∀ w', (∃ p : Wb w, w' = p.w) → Q .normal a' w') l a) : (Code.region id l.toArray true).wp P Q a w :=
  wp_region_quiet (C := fun w' => ∃ p : Wb w, w' = p.w) hm hB ⟨⟨w.drew, below_drew_some (Below.refl _ _)⟩, rfl⟩ (by simpa using h)

theorem Wb.call {P : Program} {f : FuncId} {args : Array Value} {W : World} {p : Wb W} {v : Value} (h : Calls P f args p.w fun e w' => e = .returned v ∧ Below p.w.heap.size p.w w') : Calls P f args p.w fun e w'' => e = .returned v ∧ ∃ q : Wb W, w'' = q.w :=
  h.mono fun _ w'' ⟨he, hb⟩ => ⟨he, ⟨w'', p.h.trans (hb.mono p.h.size)⟩, rfl⟩

theorem Wb.cell {W : World} {b o : Nat} {v : Value} (h : W.cell? ⟨b, o, none⟩ = some v) (hb : b < W.heap.size) (p : Wb W) : p.w.cell? ⟨b, o, none⟩ = some v := (p.h.cell (p := ⟨b, o, none⟩) hb).trans h

theorem heap_new_at {X : World} {cs : Array Value} {t : TypeId} {g : Nat} (h : X.heap.size = g) : (X.alloc (.cells cs t)).heap[g]? = some (.cells cs t (0, 0)) := by subst h; exact heap_alloc_new X _

theorem heap_alloc_some {w : World} {k : Nat} {o ob : Obj} (h : w.heap[k]? = some ob) : (w.alloc o).heap[k]? = some ob := (Below.heap_alloc w o k (Array.getElem?_eq_some_iff.1 h).1).trans h

theorem ret_int {k : IntKind} {a b : Int} (h : a = b) : Ending.returned (.int k a) = .returned (.int k b) := by rw [h]

theorem ret_bool {a b : Bool} (h : a = b) : Ending.returned (.bool a) = .returned (.bool b) := by rw [h]

theorem Tryd.infoW : (Tryd.prog.info? 33).map (fun i => (i.zero, i.size, i.bytes)) = some (some (.agg #[.int .i64 0, .int .i64 0]), 2, 16) := by kernel_rfl
end Go.Proofs.YtpkieiahhkgjoaaDoor
