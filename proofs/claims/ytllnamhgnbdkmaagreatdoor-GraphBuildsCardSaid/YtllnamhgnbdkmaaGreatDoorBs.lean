/-
What every text of this seat leans on: worlds, cells, slices. Ported from the texts of layer 3.
-/
import Derived.Test.YtllnamhgnbdkmaaGreatDoorProg
import Derived.WalkKit
import Derived.WalkSpells
import Derived.WalkLawsBesides
import Derived.Lib.Hide
import Derived.Lib.BufferRead
import Derived.Lib.SmallJoins
import Derived.Outline
import Derived.Deep.LoopGhost
import Derived.BigQuiet
import Derived.Deep.QuietTactic
import Derived.Deep.RegionHeld3
import Derived.Deep.RegionWith
import Derived.Deep.DeepCutAuto
import Derived.Deep.DeepFit
import Derived.Maps.AppendAt
import Derived.Laws.MakeOwn
import Derived.IntWalk
namespace Go.Proofs.YtllnamhgnbdkmaaGreatDoor
open Go.RowKit
theorem u8_beq_true {a b : UInt8} (h : a = b) : ((a.toNat : Int) == (b.toNat : Int)) = true := by simp [h]
theorem u8_beq_false {a b : UInt8} (h : a ≠ b) : ((a.toNat : Int) == (b.toNat : Int)) = false := by
  simp
  intro e
  exact h (UInt8.toNat_inj.1 (by omega))
def Only (R : Nat) (w w' : World) : Prop := w.grownBy w' (some R)
theorem Only.refl (R : Nat) (w : World) : Only R w w := ⟨rfl, rfl, rfl, Nat.le_refl _, fun _ _ _ => rfl⟩
theorem Only.trans {R : Nat} {a b c : World} (h : Only R a b) (k : Only R b c) : Only R a c :=
  ⟨k.os.trans h.os, k.tape.trans h.tape, k.output.trans h.output, Nat.le_trans h.size k.size, fun i hi hne => (k.block i (Nat.lt_of_lt_of_le hi h.size) hne).trans (h.block i hi hne)⟩
theorem Only.of_below {R : Nat} {a b : World} (h : Below a.heap.size a b) : Only R a b := ⟨h.os, h.tape, h.output, h.size, fun i hi _ => h.block i hi⟩
theorem Only.set_ (R i : Nat) (w : World) (u : Value) : Only R w (w.setCell ⟨R, i, none⟩ u) :=
  ⟨rfl, rfl, rfl, by simp [World.setCell], fun k _ hk => Below.heap_setCell w _ u k (fun e => hk (by rw [e]))⟩
theorem Only.drewN {R : Nat} {a b : World} (h : Only R a b) (n : Nat) : Only R a (b.drewN n) := ⟨h.os, h.tape, h.output, h.size, h.block⟩
theorem Only.below {R B : Nat} {a b : World} (h : Only R a b) (hR : B ≤ R) (hB : B ≤ a.heap.size) : Below B a b := ⟨h.os, h.tape, h.output, h.size, fun k hk => h.block k (by omega) (fun e => by injection e; omega)⟩
theorem cell_lt {w : World} {g : Nat} {o : Obj} (h : w.heap[g]? = some o) : g < w.heap.size := (Array.getElem?_eq_some_iff.1 h).1
theorem cell3_0 {w : World} {g : Nat} {a b c : Value} {t : TypeId} (h : w.heap[g]? = some (.cells #[a, b, c] t (0, 0))) : w.cell? ⟨g, 0, none⟩ = some a := by simp [World.cell?, h]
theorem cell3_1 {w : World} {g : Nat} {a b c : Value} {t : TypeId} (h : w.heap[g]? = some (.cells #[a, b, c] t (0, 0))) : w.cell? ⟨g, 1, none⟩ = some b := by simp [World.cell?, h]
theorem cell3_2 {w : World} {g : Nat} {a b c : Value} {t : TypeId} (h : w.heap[g]? = some (.cells #[a, b, c] t (0, 0))) : w.cell? ⟨g, 2, none⟩ = some c := by simp [World.cell?, h]
theorem cell3_f {w : World} {g : Nat} {cs : Array Value} {t : TypeId} (h : w.heap[g]? = some (.cells cs t (0, 0))) (i : Nat) : w.frozen? ⟨g, i, none⟩ = false := by simp [World.frozen?, h]
theorem only_far {R : Nat} {w w' : World} (h : Only R w w') {p : Addr} (hp : w.heap.size ≤ p.block) (u : Value) : Only R w (w'.setCell p u) :=
  ⟨h.os, h.tape, h.output, by simpa [World.setCell] using h.size, fun k hk hne => (Below.heap_setCell w' p u k (by omega)).trans (h.block k hk hne)⟩
inductive Ty where
  | mk (kind : Int) (args : List Ty)
def Ty.kind : Ty → Int | .mk k _ => k
def Ty.args : Ty → List Ty | .mk _ l => l
def TyAt (w : World) (S : Nat → Prop) : Nat → Value → Ty → Prop
  | 0, _, _ => False
  | d + 1, v, t => ∃ A c, v = .agg #[.int .i64 t.kind, .slice A t.args.length c] ∧ t.args.length ≤ c ∧ (0 < t.args.length → ∃ b o, A = some ⟨b, o, none⟩ ∧ S b ∧
      ∀ (j : Nat) (a : Ty), t.args[j]? = some a → ∃ u0 u1, w.cell? ⟨b, o + j * 2, none⟩ = some u0 ∧ w.cell? ⟨b, o + j * 2 + 1, none⟩ = some u1 ∧ TyAt w S d (.agg #[u0, u1]) a)
theorem TyAt.move {w w' : World} {S S' : Nat → Prop} (hk : ∀ b, S b → b < w.heap.size → S' b ∧ ∀ o, w'.cell? ⟨b, o, none⟩ = w.cell? ⟨b, o, none⟩) : ∀ (d : Nat) (v : Value) (t : Ty), TyAt w S d v t → TyAt w' S' d v t
  | 0, _, _, h => h
  | d + 1, v, t, ⟨A, c, hv, hc, h⟩ => ⟨A, c, hv, hc, fun hl => by
      obtain ⟨b, o, hA, hS, hj⟩ := h hl
      have hlt : b < w.heap.size := by
        obtain ⟨u0, u1, h0, _⟩ := hj 0 _ (List.getElem?_eq_getElem hl)
        exact World.block_lt_of_cell? w _ h0
      obtain ⟨hS', hcell⟩ := hk b hS hlt
      refine ⟨b, o, hA, hS', fun j a ha => ?_⟩
      obtain ⟨u0, u1, h0, h1, h2⟩ := hj j a ha
      exact ⟨u0, u1, (hcell _).trans h0, (hcell _).trans h1, TyAt.move hk d _ _ h2⟩⟩
theorem TyAt.more {w : World} {S : Nat → Prop} : ∀ (d d' : Nat) (v : Value) (t : Ty), d ≤ d' → TyAt w S d v t → TyAt w S d' v t
  | 0, _, _, _, _, h => h.elim
  | d + 1, 0, _, _, hd, _ => by omega
  | d + 1, d' + 1, v, t, hd, ⟨A, c, hv, hc, h⟩ => ⟨A, c, hv, hc, fun hl => by
      obtain ⟨b, o, hA, hS, hj⟩ := h hl
      refine ⟨b, o, hA, hS, fun j a ha => ?_⟩
      obtain ⟨u0, u1, h0, h1, h2⟩ := hj j a ha
      exact ⟨u0, u1, h0, h1, TyAt.more d d' _ _ (by omega) h2⟩⟩
theorem cell2_0 {w : World} {g : Nat} {a b : Value} {t : TypeId} (h : w.heap[g]? = some (.cells #[a, b] t (0, 0))) : w.cell? ⟨g, 0, none⟩ = some a := by simp [World.cell?, h]
theorem cell2_1 {w : World} {g : Nat} {a b : Value} {t : TypeId} (h : w.heap[g]? = some (.cells #[a, b] t (0, 0))) : w.cell? ⟨g, 1, none⟩ = some b := by simp [World.cell?, h]
theorem TyAt.form {w : World} {S : Nat → Prop} {d : Nat} {v : Value} {t : Ty} (h : TyAt w S d v t) : ∃ A c, v = .agg #[.int .i64 t.kind, .slice A t.args.length c] := by
  cases d with
  | zero => exact h.elim
  | succ d => obtain ⟨A, c, hv, _⟩ := h; exact ⟨A, c, hv⟩
theorem cell_two_new (w : World) (a b : Value) (t : TypeId) (B : Nat) (hB : B = w.heap.size) : ∀ j u, [a, b][j]? = some u → (w.alloc (.cells #[a, b] t)).cell? ((⟨B, 0, none⟩ : Addr).add j) = some u := by
  subst hB
  intro j u hj
  match j, hj with
  | 0, hj => simp at hj; subst hj; simp [Addr.add]
  | 1, hj => simp at hj; subst hj; simp [Addr.add]
  | j + 2, hj => simp at hj
theorem two_one (a : Int) (A : Option Addr) (n c : Nat) : ∀ u ∈ [Value.int .i64 a, Value.slice A n c], u.oneCell' = true := by
  intro u hu
  simp at hu
  rcases hu with rfl | rfl <;> rfl
theorem own_form {w : World} {base : Nat} {e : TypeId} {size : Nat} {v : Value} {n : Nat} {xs : List Value} (h : w.ownsRow base e size v n xs) (hn : 0 < n) :
    ∃ g cap, v = .slice (some ⟨g, 0, none⟩) n cap ∧ base ≤ g ∧ g < w.heap.size ∧ n ≤ cap := by
  rcases h.2 with ⟨_, h0⟩ | ⟨g, cap, cur, hv, hb, hg, hnc, _⟩
  · omega
  · exact ⟨g, cap, hv, hb, cell_lt hg, hnc⟩
theorem cell_one_new' (w : World) (a : Value) (t : TypeId) (B : Nat) (hB : B = w.heap.size) : ∀ j u, [a][j]? = some u → (w.alloc (.cells #[a] t)).cell? ((⟨B, 0, none⟩ : Addr).add j) = some u := by
  subst hB
  intro j u hj
  match j, hj with
  | 0, hj => simp at hj; subst hj; simp [Addr.add]
  | j + 1, hj => simp at hj
theorem own_slice {w : World} {B : Nat} {e : TypeId} {size : Nat} {v : Value} {n : Nat} {xs : List Value} (h : w.ownsRow B e size v n xs) : ∃ A c, v = .slice A n c := by
  rcases h.2 with ⟨rfl, rfl⟩ | ⟨g', cap, cur, rfl, _⟩
  · exact ⟨_, _, rfl⟩
  · exact ⟨_, _, rfl⟩
theorem TyAt.below {w w' : World} {S : Nat → Prop} {d : Nat} {v : Value} {t : Ty} (h : TyAt w S d v t) (hb : Below w.heap.size w w') : TyAt w' S d v t :=
  h.move fun b hS hl => ⟨hS, fun _ => World.cell?_of_block (hb.block b hl)⟩
theorem list_two {α : Type} {l : List α} (h : l.length = 2) : ∃ a b, l = [a, b] := by
  match l, h with
  | [a, b], _ => exact ⟨a, b, rfl⟩
theorem pick_list {α : Type} (P : Nat → α → Prop) : ∀ (n : Nat), (∀ i, i < n → ∃ t, P i t) → ∃ l : List α, l.length = n ∧ ∀ i t, l[i]? = some t → P i t
  | 0, _ => ⟨[], rfl, fun i t h => by simp at h⟩
  | n + 1, h => by
    obtain ⟨l, hl, hP⟩ := pick_list P n (fun i hi => h i (by omega))
    obtain ⟨t, ht⟩ := h n (by omega)
    refine ⟨l ++ [t], by simp [hl], fun i u hu => ?_⟩
    rcases Nat.lt_or_ge i l.length with hlt | hge
    · rw [List.getElem?_append_left hlt] at hu
      exact hP i u hu
    · have hi : i = n := by
        have := (List.getElem?_eq_some_iff.1 hu).1
        simp at this
        omega
      subst hi
      rw [List.getElem?_append_right (by omega)] at hu
      simp [hl] at hu
      subst hu
      exact ht
theorem spot_none {w : World} {a : Addr} {v : Value} (h : w.cell? a = some v) : a = ⟨a.block, a.off, none⟩ := by
  cases a with
  | mk b o s =>
    cases s with
    | none => rfl
    | some s =>
      unfold World.cell? at h
      split at h <;> simp at h
theorem add_two0 (b o k : Nat) : ((⟨b, o, none⟩ : Addr).add k).add 0 = ⟨b, o + k, none⟩ := by
  simp only [Addr.add]
  by_cases hk : k = 0 <;> simp [hk]
theorem add_two1 (b o k : Nat) : ((⟨b, o, none⟩ : Addr).add k).add 1 = ⟨b, o + k + 1, none⟩ := by
  simp only [Addr.add]
  by_cases hk : k = 0 <;> simp [hk]
theorem cell1_0 {w : World} {g : Nat} {a : Value} {t : TypeId} (h : w.heap[g]? = some (.cells #[a] t (0, 0))) : w.cell? ⟨g, 0, none⟩ = some a := by simp [World.cell?, h]
theorem one_stored {w : World} {g : Nat} {a : Value} {t : TypeId} (h : w.heap[g]? = some (.cells #[a] t (0, 0))) (c : Value) : (w.setCell ⟨g, 0, none⟩ c).heap[g]? = some (.cells #[c] t (0, 0)) := by
  simp [World.setCell, Array.getElem?_modify, h]
theorem TyAt.only {w w' : World} {L d : Nat} {S : Nat → Prop} {v : Value} {t : Ty} (h : TyAt w S d v t) (hS : ∀ b, S b → b ≠ L) (ho : Only L w w') : TyAt w' S d v t :=
  h.move fun b hSb hl => ⟨hSb, fun _ => World.cell?_of_block (ho.block b hl (by simpa using hS b hSb))⟩
theorem only_alloc' {R : Nat} {a w : World} (h : Only R a w) (o : Obj) : Only R a (w.alloc o) := h.trans (Only.of_below ((Below.refl _ _).alloc (Nat.le_refl _) _))
theorem arg_cells {w : World} {S : Nat → Prop} {d b o j : Nat} {l : List Ty} (hc : ∀ (j : Nat) (a : Ty), l[j]? = some a → ∃ u0 u1, w.cell? ⟨b, o + j * 2, none⟩ = some u0 ∧ w.cell? ⟨b, o + j * 2 + 1, none⟩ = some u1 ∧ TyAt w S d (.agg #[u0, u1]) a) (h : j < l.length) :
    ∃ A' c', w.cell? ⟨b, o + j * 2, none⟩ = some (.int .i64 (l[j]).kind) ∧ w.cell? ⟨b, o + j * 2 + 1, none⟩ = some (.slice A' (l[j]).args.length c') ∧ TyAt w S d (.agg #[.int .i64 (l[j]).kind, .slice A' (l[j]).args.length c']) (l[j]) ∧ b < w.heap.size := by
  obtain ⟨u0, u1, h0, h1, h2⟩ := hc j _ (List.getElem?_eq_getElem h)
  have hbl := World.block_lt_of_cell? w _ h0
  obtain ⟨A', c', he'⟩ := h2.form
  injection he' with he'
  obtain ⟨rfl, rfl⟩ : u0 = .int .i64 (l[j]).kind ∧ u1 = .slice A' (l[j]).args.length c' := by
    have := congrArg Array.toList he'
    simpa using this
  exact ⟨A', c', h0, h1, h2, hbl⟩
theorem Only.grown {R : Nat} {a w w' : World} {row : Option Nat} (h : Only R a w) (hg : w.grownBy w' row) (hr : ∀ k, row = some k → a.heap.size ≤ k) : Only R a w' :=
  ⟨hg.os.trans h.os, hg.tape.trans h.tape, hg.output.trans h.output, Nat.le_trans h.size hg.size, fun k hk hne => (hg.block k (Nat.lt_of_lt_of_le hk h.size) (fun e => by have := hr k e.symm; omega)).trans (h.block k hk hne)⟩
theorem Only.far {R : Nat} {w w' : World} {p : Addr} {u : Value} (hp : w.heap.size ≤ p.block) (h : Only R w w') : Only R w (w'.setCell p u) := only_far h hp u
theorem Only.more {R : Nat} {w w' : World} {o : Obj} (h : Only R w w') : Only R w (w'.alloc o) := only_alloc' h o
theorem heap_new_at {X : World} {cs : Array Value} {t : TypeId} {g : Nat} (h : X.heap.size = g) : (X.alloc (.cells cs t)).heap[g]? = some (.cells cs t (0, 0)) := by subst h; exact heap_alloc_new X _
end Go.Proofs.YtllnamhgnbdkmaaGreatDoor
