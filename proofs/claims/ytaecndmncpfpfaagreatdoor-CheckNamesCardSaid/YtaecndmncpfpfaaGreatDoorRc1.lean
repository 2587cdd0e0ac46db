import Derived.Test.YtaecndmncpfpfaaGreatDoorProg
import Derived.WalkKit
import Derived.WalkSpells
import Derived.WalkLawsBesides
import Derived.Lib.Hide
import Derived.Lib.BufferRead
import Derived.Lib.SmallJoins
import Derived.Outline
import Derived.Deep.LoopGhost
import Derived.BigQuiet
import Derived.Deep.QuietTactic
import Derived.Deep.RegionHeld3
import Derived.Deep.RegionWith
import Derived.Deep.DeepCutAuto
import Derived.Deep.DeepFit
import Derived.Maps.AppendAt
import Derived.Laws.MakeOwn
import Derived.IntWalk
namespace Go.Proofs.YtaecndmncpfpfaaGreatDoor
open Go.RowKit
theorem u8_beq_true {a b : UInt8} (h : a = b) : ((a.toNat : Int) == (b.toNat : Int)) = true := by simp [h]
theorem u8_beq_false {a b : UInt8} (h : a ≠ b) : ((a.toNat : Int) == (b.toNat : Int)) = false := by
 simp
 intro e
 exact h (UInt8.toNat_inj.1 (by omega))
def Only (R : Nat) (w w' : World) : Prop := w.grownBy w' (some R)
theorem Only.refl (R : Nat) (w : World) : Only R w w := ⟨rfl, rfl, rfl, Nat.le_refl _, fun _ _ _ => rfl⟩
theorem Only.trans {R : Nat} {a b c : World} (h : Only R a b) (k : Only R b c) : Only R a c :=
 ⟨k.os.trans h.os, k.tape.trans h.tape, k.output.trans h.output, Nat.le_trans h.size k.size, fun i hi hne => (k.block i (Nat.lt_of_lt_of_le hi h.size) hne).trans (h.block i hi hne)⟩
theorem Only.of_below {R : Nat} {a b : World} (h : Below a.heap.size a b) : Only R a b := ⟨h.os, h.tape, h.output, h.size, fun i hi _ => h.block i hi⟩
theorem Only.set_ (R i : Nat) (w : World) (u : Value) : Only R w (w.setCell ⟨R, i, none⟩ u) :=
 ⟨rfl, rfl, rfl, by simp [World.setCell], fun k _ hk => Below.heap_setCell w _ u k (fun e => hk (by rw [e]))⟩
theorem Only.drewN {R : Nat} {a b : World} (h : Only R a b) (n : Nat) : Only R a (b.drewN n) := ⟨h.os, h.tape, h.output, h.size, h.block⟩
theorem Only.below {R B : Nat} {a b : World} (h : Only R a b) (hR : B ≤ R) (hB : B ≤ a.heap.size) : Below B a b := ⟨h.os, h.tape, h.output, h.size, fun k hk => h.block k (by omega) (fun e => by injection e; omega)⟩
theorem zC {w : World} {g : Nat} {o : Obj} (h : w.heap[g]? = some o) : g < w.heap.size := (Array.getElem?_eq_some_iff.1 h).1
theorem cell3_0 {w : World} {g : Nat} {a b c : Value} {t : TypeId} (h : w.heap[g]? = some (.cells #[a, b, c] t (0, 0))) : w.cell? ⟨g, 0, none⟩ = some a := by simp [World.cell?, h]
theorem yF {w : World} {g : Nat} {a b c : Value} {t : TypeId} (h : w.heap[g]? = some (.cells #[a, b, c] t (0, 0))) : w.cell? ⟨g, 1, none⟩ = some b := by simp [World.cell?, h]
theorem cell3_2 {w : World} {g : Nat} {a b c : Value} {t : TypeId} (h : w.heap[g]? = some (.cells #[a, b, c] t (0, 0))) : w.cell? ⟨g, 2, none⟩ = some c := by simp [World.cell?, h]
theorem zB {w : World} {g : Nat} {cs : Array Value} {t : TypeId} (h : w.heap[g]? = some (.cells cs t (0, 0))) (i : Nat) : w.frozen? ⟨g, i, none⟩ = false := by simp [World.frozen?, h]
theorem only_far {R : Nat} {w w' : World} (h : Only R w w') {p : Addr} (hp : w.heap.size ≤ p.block) (u : Value) : Only R w (w'.setCell p u) :=
 ⟨h.os, h.tape, h.output, by simpa [World.setCell] using h.size, fun k hk hne => (Below.heap_setCell w' p u k (by omega)).trans (h.block k hk hne)⟩
inductive Ty where
 | mk (kind : Int) (args : List Ty)
def Ty.kind : Ty → Int | .mk k _ => k
def Ty.args : Ty → List Ty | .mk _ l => l
def TyAt (w : World) (S : Nat → Prop) : Nat → Value → Ty → Prop
 | 0, _, _ => False
 | d + 1, v, t => ∃ A c, v = .agg #[.int .i64 t.kind, .slice A t.args.length c] ∧ t.args.length ≤ c ∧ (0 < t.args.length → ∃ b o, A = some ⟨b, o, none⟩ ∧ S b ∧
     ∀ (j : Nat) (a : Ty), t.args[j]? = some a → ∃ u0 u1, w.cell? ⟨b, o + j * 2, none⟩ = some u0 ∧ w.cell? ⟨b, o + j * 2 + 1, none⟩ = some u1 ∧ TyAt w S d (.agg #[u0, u1]) a)
theorem TyAt.move {w w' : World} {S S' : Nat → Prop} (hk : ∀ b, S b → b < w.heap.size → S' b ∧ ∀ o, w'.cell? ⟨b, o, none⟩ = w.cell? ⟨b, o, none⟩) : ∀ (d : Nat) (v : Value) (t : Ty), TyAt w S d v t → TyAt w' S' d v t
 | 0, _, _, h => h
 | d + 1, v, t, ⟨A, c, hv, hc, h⟩ => ⟨A, c, hv, hc, fun hl => by
     obtain ⟨b, o, hA, hS, hj⟩ := h hl
     have hlt : b < w.heap.size := by
      obtain ⟨u0, u1, h0, _⟩ := hj 0 _ (List.getElem?_eq_getElem hl)
      exact World.block_lt_of_cell? w _ h0
     obtain ⟨hS', hcell⟩ := hk b hS hlt
     refine ⟨b, o, hA, hS', fun j a ha => ?_⟩
     obtain ⟨u0, u1, h0, h1, h2⟩ := hj j a ha
     exact ⟨u0, u1, (hcell _).trans h0, (hcell _).trans h1, TyAt.move hk d _ _ h2⟩⟩
theorem TyAt.more {w : World} {S : Nat → Prop} : ∀ (d d' : Nat) (v : Value) (t : Ty), d ≤ d' → TyAt w S d v t → TyAt w S d' v t
 | 0, _, _, _, _, h => h.elim
 | d + 1, 0, _, _, hd, _ => by omega
 | d + 1, d' + 1, v, t, hd, ⟨A, c, hv, hc, h⟩ => ⟨A, c, hv, hc, fun hl => by
     obtain ⟨b, o, hA, hS, hj⟩ := h hl
     refine ⟨b, o, hA, hS, fun j a ha => ?_⟩
     obtain ⟨u0, u1, h0, h1, h2⟩ := hj j a ha
     exact ⟨u0, u1, h0, h1, TyAt.more d d' _ _ (by omega) h2⟩⟩
theorem zG {w : World} {g : Nat} {a b : Value} {t : TypeId} (h : w.heap[g]? = some (.cells #[a, b] t (0, 0))) : w.cell? ⟨g, 0, none⟩ = some a := by simp [World.cell?, h]
theorem zF {w : World} {g : Nat} {a b : Value} {t : TypeId} (h : w.heap[g]? = some (.cells #[a, b] t (0, 0))) : w.cell? ⟨g, 1, none⟩ = some b := by simp [World.cell?, h]
theorem TyAt.form {w : World} {S : Nat → Prop} {d : Nat} {v : Value} {t : Ty} (h : TyAt w S d v t) : ∃ A c, v = .agg #[.int .i64 t.kind, .slice A t.args.length c] := by
 cases d with
 | zero => exact h.elim
 | succ d => obtain ⟨A, c, hv, _⟩ := h; exact ⟨A, c, hv⟩
theorem cell_two_new (w : World) (a b : Value) (t : TypeId) (B : Nat) (hB : B = w.heap.size) : ∀ j u, [a, b][j]? = some u → (w.alloc (.cells #[a, b] t)).cell? ((⟨B, 0, none⟩ : Addr).add j) = some u := by
 subst hB
 intro j u hj
 match j, hj with
 | 0, hj => simp at hj; subst hj; simp [Addr.add]
 | 1, hj => simp at hj; subst hj; simp [Addr.add]
 | j + 2, hj => simp at hj
theorem two_one (a : Int) (A : Option Addr) (n c : Nat) : ∀ u ∈ [Value.int .i64 a, Value.slice A n c], u.oneCell' = true := by
 intro u hu
 simp at hu
 rcases hu with rfl | rfl <;> rfl
theorem own_form {w : World} {base : Nat} {e : TypeId} {size : Nat} {v : Value} {n : Nat} {xs : List Value} (h : w.ownsRow base e size v n xs) (hn : 0 < n) :
    ∃ g cap, v = .slice (some ⟨g, 0, none⟩) n cap ∧ base ≤ g ∧ g < w.heap.size ∧ n ≤ cap := by
 rcases h.2 with ⟨_, h0⟩ | ⟨g, cap, cur, hv, hb, hg, hnc, _⟩
 · omega
 · exact ⟨g, cap, hv, hb, zC hg, hnc⟩
theorem cell_one_new' (w : World) (a : Value) (t : TypeId) (B : Nat) (hB : B = w.heap.size) : ∀ j u, [a][j]? = some u → (w.alloc (.cells #[a] t)).cell? ((⟨B, 0, none⟩ : Addr).add j) = some u := by
 subst hB
 intro j u hj
 match j, hj with
 | 0, hj => simp at hj; subst hj; simp [Addr.add]
 | j + 1, hj => simp at hj
theorem own_slice {w : World} {B : Nat} {e : TypeId} {size : Nat} {v : Value} {n : Nat} {xs : List Value} (h : w.ownsRow B e size v n xs) : ∃ A c, v = .slice A n c := by
 rcases h.2 with ⟨rfl, rfl⟩ | ⟨g', cap, cur, rfl, _⟩
 · exact ⟨_, _, rfl⟩
 · exact ⟨_, _, rfl⟩
theorem TyAt.below {w w' : World} {S : Nat → Prop} {d : Nat} {v : Value} {t : Ty} (h : TyAt w S d v t) (hb : Below w.heap.size w w') : TyAt w' S d v t :=
 h.move fun b hS hl => ⟨hS, fun _ => World.cell?_of_block (hb.block b hl)⟩
theorem list_two {α : Type} {l : List α} (h : l.length = 2) : ∃ a b, l = [a, b] := by
 match l, h with
 | [a, b], _ => exact ⟨a, b, rfl⟩
theorem pick_list {α : Type} (P : Nat → α → Prop) : ∀ (n : Nat), (∀ i, i < n → ∃ t, P i t) → ∃ l : List α, l.length = n ∧ ∀ i t, l[i]? = some t → P i t
 | 0, _ => ⟨[], rfl, fun i t h => by simp at h⟩
 | n + 1, h => by
   obtain ⟨l, hl, hP⟩ := pick_list P n (fun i hi => h i (by omega))
   obtain ⟨t, ht⟩ := h n (by omega)
   refine ⟨l ++ [t], by simp [hl], fun i u hu => ?_⟩
   rcases Nat.lt_or_ge i l.length with hlt | hge
   · rw [List.getElem?_append_left hlt] at hu
     exact hP i u hu
   · have hi : i = n := by
       have := (List.getElem?_eq_some_iff.1 hu).1
       simp at this
       omega
     subst hi
     rw [List.getElem?_append_right (by omega)] at hu
     simp [hl] at hu
     subst hu
     exact ht
theorem spot_none {w : World} {a : Addr} {v : Value} (h : w.cell? a = some v) : a = ⟨a.block, a.off, none⟩ := by
 cases a with
 | mk b o s =>
   cases s with
   | none => rfl
   | some s =>
     unfold World.cell? at h
     split at h <;> simp at h
theorem add_two0 (b o k : Nat) : ((⟨b, o, none⟩ : Addr).add k).add 0 = ⟨b, o + k, none⟩ := by
 simp only [Addr.add]
 by_cases hk : k = 0 <;> simp [hk]
theorem add_two1 (b o k : Nat) : ((⟨b, o, none⟩ : Addr).add k).add 1 = ⟨b, o + k + 1, none⟩ := by
 simp only [Addr.add]
 by_cases hk : k = 0 <;> simp [hk]
theorem cell1_0 {w : World} {g : Nat} {a : Value} {t : TypeId} (h : w.heap[g]? = some (.cells #[a] t (0, 0))) : w.cell? ⟨g, 0, none⟩ = some a := by simp [World.cell?, h]
theorem one_stored {w : World} {g : Nat} {a : Value} {t : TypeId} (h : w.heap[g]? = some (.cells #[a] t (0, 0))) (c : Value) : (w.setCell ⟨g, 0, none⟩ c).heap[g]? = some (.cells #[c] t (0, 0)) := by
 simp [World.setCell, Array.getElem?_modify, h]
theorem TyAt.only {w w' : World} {L d : Nat} {S : Nat → Prop} {v : Value} {t : Ty} (h : TyAt w S d v t) (hS : ∀ b, S b → b ≠ L) (ho : Only L w w') : TyAt w' S d v t :=
 h.move fun b hSb hl => ⟨hSb, fun _ => World.cell?_of_block (ho.block b hl (by simpa using hS b hSb))⟩
theorem yJ {R : Nat} {a w : World} (h : Only R a w) (o : Obj) : Only R a (w.alloc o) := h.trans (Only.of_below ((Below.refl _ _).alloc (Nat.le_refl _) _))
theorem arg_cells {w : World} {S : Nat → Prop} {d b o j : Nat} {l : List Ty} (hc : ∀ (j : Nat) (a : Ty), l[j]? = some a → ∃ u0 u1, w.cell? ⟨b, o + j * 2, none⟩ = some u0 ∧ w.cell? ⟨b, o + j * 2 + 1, none⟩ = some u1 ∧ TyAt w S d (.agg #[u0, u1]) a) (h : j < l.length) :
    ∃ A' c', w.cell? ⟨b, o + j * 2, none⟩ = some (.int .i64 (l[j]).kind) ∧ w.cell? ⟨b, o + j * 2 + 1, none⟩ = some (.slice A' (l[j]).args.length c') ∧ TyAt w S d (.agg #[.int .i64 (l[j]).kind, .slice A' (l[j]).args.length c']) (l[j]) ∧ b < w.heap.size := by
 obtain ⟨u0, u1, h0, h1, h2⟩ := hc j _ (List.getElem?_eq_getElem h)
 have hbl := World.block_lt_of_cell? w _ h0
 obtain ⟨A', c', he'⟩ := h2.form
 injection he' with he'
 obtain ⟨rfl, rfl⟩ : u0 = .int .i64 (l[j]).kind ∧ u1 = .slice A' (l[j]).args.length c' := by
  have := congrArg Array.toList he'
  simpa using this
 exact ⟨A', c', h0, h1, h2, hbl⟩
theorem zX {w : World} {a : Addr} {v : Value} (h : w.cell? a = some v) : w.drew.cell? a = some v := h
theorem zW {w : World} {a : Addr} {v : Value} {o : Obj} (h : w.cell? a = some v) : (w.alloc o).cell? a = some v := (World.cell?_alloc_some w a o (by simp [h])).trans h
theorem cell_set_some {w : World} {a q : Addr} {v u : Value} (hq : a.block ≠ q.block) (h : w.cell? a = some v) : (w.setCell q u).cell? a = some v := by
 exact (World.cell?_setCell_other w q a u (fun e => hq (by rw [e]))).trans h
theorem Below.set_own {a w : World} {p : Addr} {u : Value} (hp : a.heap.size ≤ p.block) (h : Below a.heap.size a w) : Below a.heap.size a (w.setCell p u) := h.setCell hp u
def bcl (l : List UInt8) : List Value := l.map fun b => .int .u8 (b.toNat : Int)
theorem bcl_snoc (l : List UInt8) (x : UInt8) : bcl (l ++ [x]) = bcl l ++ [.int .u8 (x.toNat : Int)] := by simp [bcl]
theorem Only.grown {R : Nat} {a w w' : World} {row : Option Nat} (h : Only R a w) (hg : w.grownBy w' row) (hr : ∀ k, row = some k → a.heap.size ≤ k) : Only R a w' :=
 ⟨hg.os.trans h.os, hg.tape.trans h.tape, hg.output.trans h.output, Nat.le_trans h.size hg.size, fun k hk hne => (hg.block k (Nat.lt_of_lt_of_le hk h.size) (fun e => by have := hr k e.symm; omega)).trans (h.block k hk hne)⟩
set_option maxRecDepth 100000 in
theorem string_run {w wr : World} {B : Nat} {acc : List UInt8} {A : Option Addr} {n c : Nat} (h : wr.ownsRow B 5 1 (.slice A n c) acc.length (bcl acc)) (hb : ∀ k, (Value.slice A n c).ownBlock = some k → w.heap[k]? = wr.heap[k]?) :
    (convert 120 9 (.slice A n c)).run Tryz.prog w = .ok (.string ⟨acc.toArray⟩) w := by
 rcases h.2 with ⟨e, h0⟩ | ⟨g, cap, cur, e, _, hg, _, _, _, htk⟩
 · injection e with e1 e2 e3
   subst e1; subst e2; subst e3
   rw [Lib.run_convert_nil_bytes w 120 9 5 0 Tryz.underlying120 Tryz.underlying5 Tryz.underlying9, List.eq_nil_of_length_eq_zero h0]
 · injection e with e1 e2 e3
   subst e1; subst e2; subst e3
   have hg2 := (hb g rfl).trans hg
   exact run_convert_bytes_back w 120 9 5 ⟨g, 0, none⟩ c acc Tryz.underlying120 Tryz.underlying5 Tryz.underlying9 (Lib.bytes_of_row hg2 (by rw [← Nat.mul_one acc.length, htk]; rfl))
theorem wp_scope_enter2 {P : Program} {a : Act} {w : World} {Q : Exit → Act → World → Prop} {p1 p2 rest : Code} {l : Nat} (J : Act → World → Prop) (μ : Act → World → Nat)
    (hf : findLabel (p1.seq (p2.seq ((Code.label l).seq rest))) l = some (Code.skip.seq rest))
    (first : p1.wp P (Exit.then (fun a w => p2.wp P (Exit.then J fun _ _ _ => False) a w) fun _ _ _ => False) a w)
    (pass : ∀ a w, J a w → rest.wp P (Exit.jump l (fun a' w' => J a' w' ∧ μ a' w' < μ a w) Q) a w) : (Code.scope (p1.seq (p2.seq ((Code.label l).seq rest)))).wp P Q a w := by
 refine wp_scope_jumps l J μ hf ?_ (fun a w hJ => wp_seq (wp_skip (pass a w hJ)))
 refine wp_seq (wp_mono first fun e a1 w1 h => ?_)
 cases e with
 | normal =>
   refine wp_seq (wp_mono h fun e a1 w1 h => ?_)
   cases e with
   | normal =>
     refine wp_seq (wp_label ?_)
     refine wp_mono (pass a1 w1 h) fun e a2 w2 h2 => ?_
     cases e with
     | goto l' => exact ⟨h2.1, h2.2.1⟩
     | _ => exact h2
   | _ => exact h.elim
 | _ => exact h.elim
theorem Only.far {R : Nat} {w w' : World} {p : Addr} {u : Value} (hp : w.heap.size ≤ p.block) (h : Only R w w') : Only R w (w'.setCell p u) := only_far h hp u
theorem Only.more {R : Nat} {w w' : World} {o : Obj} (h : Only R w w') : Only R w (w'.alloc o) := yJ h o
theorem heap_new_at {X : World} {cs : Array Value} {t : TypeId} {g : Nat} (h : X.heap.size = g) : (X.alloc (.cells cs t)).heap[g]? = some (.cells cs t (0, 0)) := by subst h; exact heap_alloc_new X _
theorem below_at {w w' : World} {k : Nat} {ob : Obj} (hb : Below w.heap.size w w') (h : w.heap[k]? = some ob) : w'.heap[k]? = some ob := (hb.block k (zC h)).trans h
end Go.Proofs.YtaecndmncpfpfaaGreatDoor
namespace Go.Proofs.YtaecndmncpfpfaaGreatDoor
open Go.RowKit
def lkB (l : List UInt8) (m : Nat) : UInt8 := (l[m]?).getD 0
def isDig (b : UInt8) : Bool := decide (48 ≤ b.toNat) && decide (b.toNat ≤ 57)
def isLet (b : UInt8) : Bool := decide (97 ≤ b.toNat) && decide (b.toNat ≤ 122)
def isPl (b : UInt8) : Bool := decide (32 ≤ b.toNat) && decide (b.toNat ≤ 126) && decide (b.toNat ≠ 34) && decide (b.toNat ≠ 92)
def skF (l : List UInt8) : Nat → Nat → Nat
 | 0, m => m
 | f + 1, m => if lkB l m = 32 then skF l f (m + 1) else m
def skip (l : List UInt8) (m : Nat) : Nat := skF l (l.length - m) m
theorem lkB_at {l : List UInt8} {m : Nat} (h : m < l.length) : lkB l m = l[m] := by
 unfold lkB
 rw [List.getElem?_eq_getElem h]; rfl
theorem lkB_end {l : List UInt8} {m : Nat} (h : l.length ≤ m) : lkB l m = 0 := by
 unfold lkB
 rw [List.getElem?_eq_none_iff.2 h]; rfl
theorem lkB_lt {l : List UInt8} {m : Nat} (h : lkB l m ≠ 0) : m < l.length := by
 rcases Nat.lt_or_ge m l.length with h' | h'
 · exact h'
 · exact absurd (lkB_end h') h
theorem skip_on {l : List UInt8} {m : Nat} (h : lkB l m = 32) : skip l m = skip l (m + 1) := by
 have hlt : m < l.length := lkB_lt (by rw [h]; decide)
 unfold skip
 rw [show l.length - m = (l.length - (m + 1)) + 1 by omega]
 simp only [skF, if_pos h]
theorem skip_off {l : List UInt8} {m : Nat} (h : lkB l m ≠ 32) : skip l m = m := by
 unfold skip
 cases hf : l.length - m with
 | zero => rfl
 | succ f => simp only [skF, if_neg h]
def rdB (l : List UInt8) (m : Nat) (b : UInt8) : Bool := decide (lkB l m = b)
def mostN (neg : Bool) : Nat := if neg then 9223372036854775808 else 9223372036854775807
def barN (neg : Bool) (n : Nat) (begun : Bool) (d : Nat) : Bool := (decide (n = 0) && (begun || (neg && decide (d = 0)))) || decide ((mostN neg - d) / 10 < n)
def nmF (l : List UInt8) (neg : Bool) : Nat → Nat → Nat → Bool → Nat × Nat × Bool
 | 0, m, n, begun => (m, n, begun)
 | f + 1, m, n, begun => if isDig (lkB l m) && !barN neg n begun (lkB l m - 48).toNat then nmF l neg f (m + 1) (10 * n + (lkB l m - 48).toNat) true else (m, n, begun)
def hexI (b : UInt8) : Option Nat := if isDig b then some (b.toNat - 48) else if 97 ≤ b.toNat ∧ b.toNat ≤ 102 then some (b.toNat - 87) else none
def smC (h : Nat) : Bool := (List.range 16).any fun x => !isPl (UInt8.ofNat (16 * h + x))
def codS (l : List UInt8) (m : Nat) : Nat × Option UInt8 := match hexI (lkB l m) with
 | none => (m, none)
 | some h => if smC h then (match hexI (lkB l (m + 1)) with
     | none => (m + 1, none)
     | some x => if isPl (UInt8.ofNat (16 * h + x)) then (m + 1, none) else (m + 2, some (UInt8.ofNat (16 * h + x))))
   else (m, none)
def letS (l : List UInt8) (m : Nat) : Nat × Option UInt8 := if lkB l m = 92 then codS l (m + 1) else if isPl (lkB l m) then (m + 1, some (lkB l m)) else (m, none)
def strF (l : List UInt8) : Nat → List UInt8 → Nat → Nat × Option (List UInt8)
 | 0, _, m => (m, none)
 | f + 1, acc, m => if lkB l m = 34 then (m + 1, some acc) else if acc.length < 256 then (match letS l m with
     | (m', none) => (m', none)
     | (m', some b) => strF l f (acc ++ [b]) m') else (m, none)
def nlF (l : List UInt8) : Nat → Nat → Nat
 | 0, n => n
 | f + 1, n => if n < l.length ∧ (isLet (lkB l n) || (decide (0 < n) && (isDig (lkB l n) || decide (lkB l n = 95)))) = true then nlF l f (n + 1) else n
def nmL (l : List UInt8) : Nat := nlF l 16 0
def spel (l : List UInt8) (m : Nat) : List UInt8 := (l.drop m).take (nmL (l.drop m))
end Go.Proofs.YtaecndmncpfpfaaGreatDoor
namespace Go.Proofs.YtaecndmncpfpfaaGreatDoor
open Go.RowKit
def bl (s : ByteArray) : List UInt8 := s.data.toList
theorem zT (s : ByteArray) : (bl s).length = s.size := by unfold bl; exact Array.length_toList
theorem bl_at (s : ByteArray) (m : Nat) (h : m < s.size) : lkB (bl s) m = s[m] := by
 rw [lkB_at (by rw [zT]; exact h)]; rfl
theorem bl_end (s : ByteArray) : lkB (bl s) s.size = 0 := lkB_end (by rw [zT]; exact Nat.le_refl _)
structure Rdr (w : World) (R : Nat) (s : ByteArray) (m : Nat) : Prop where
 box : w.heap[R]? = some (.cells #[.string s, .int .i64 (m : Int)] 105 (0, 0))
 le : m ≤ s.size
 len : s.size ≤ 1000000
theorem Rdr.lt {w : World} {R : Nat} {s : ByteArray} {m : Nat} (h : Rdr w R s m) : R < w.heap.size := zC h.box
theorem Rdr.below {w w' : World} {R : Nat} {s : ByteArray} {m : Nat} (h : Rdr w R s m) (hb : Below w.heap.size w w') : Rdr w' R s m := ⟨(hb.block R h.lt).trans h.box, h.le, h.len⟩
theorem Rdr.go {w : World} {R : Nat} {s : ByteArray} {m : Nat} (h : Rdr w R s m) (m' : Nat) (hm : m' ≤ s.size) : Rdr (w.setCell ⟨R, 1, none⟩ (.int .i64 (m' : Int))) R s m' := by
 refine ⟨?_, hm, h.len⟩
 simp [World.setCell, Array.getElem?_modify, h.box]
theorem str_index (s : ByteArray) (p : Nat) (h : p < s.size) (_hs : s.size ≤ 1000000) (W : World) : (Instr.index 9 (.string s) (.int .i64 (p : Int))).run Tryz.prog W = .ok (.int .u8 ((s[p].toNat : Nat) : Int)) W := by
 go_simp
set_option maxHeartbeats 400000 in
theorem look_any (R : Nat) (s : ByteArray) (m : Nat) (w : World) (h : Rdr w R s m) :
    Calls Tryz.prog 84 #[.pointer (some ⟨R, 0, none⟩)] w fun e w' => e = .returned (.int .u8 ((lkB (bl s) m).toNat : Int)) ∧ Below w.heap.size w w' := by
 have c0 := zG h.box
 have c1 := zF h.box
 have hlen := h.len
 have hle := h.le
 by_cases hm : m < s.size
 · have hne : ((m : Int) == (s.size : Int)) = false := beq_eq_false_iff_ne.2 (by omega)
   have hix := str_index s m hm hlen
   have HE := Lib.hid (bl_at s m hm)
   clear h
   go_enter Tryz.func84, Tryz.ntmps84
   go_wp2_with (fail)
   go_quiet ((fail))
   go_wp2_with (fail)
   go_quiet ((fail))
   go_wp2_with (fail)
   go_ret
   rw [HE.out]
   exact ⟨rfl, below_drewN (below_drewN (Below.refl _ _) _) _⟩
 · have hme : m = s.size := by omega
   subst hme
   have hne : ((s.size : Int) == (s.size : Int)) = true := by simp
   have HE := Lib.hid (bl_end s)
   clear h
   go_enter Tryz.func84, Tryz.ntmps84
   go_wp2_with (fail)
   go_quiet ((fail))
   go_wp2_with (fail)
   go_ret
   rw [HE.out]
   exact ⟨rfl, below_drewN (Below.refl _ _) _⟩
theorem isDigit_any (b : UInt8) (w : World) : Calls Tryz.prog 85 #[.int .u8 (b.toNat : Int)] w fun e w' => e = .returned (.bool (isDig b)) ∧ w = w' := by
 by_cases h1 : 48 ≤ b.toNat
 · have g1 : decide ((48 : Int) ≤ (b.toNat : Int)) = true := by simp; omega
   have HF : Hid (isDig b = decide ((b.toNat : Int) ≤ 57)) := by show _ = _; unfold isDig; rw [decide_eq_true h1, Bool.true_and]; congr 1; apply propext; omega
   go_enter Tryz.func85, Tryz.ntmps85
   go_wp2
   go_ret
   rw [HF.out]
   exact ⟨rfl, rfl⟩
 · have g1 : decide ((48 : Int) ≤ (b.toNat : Int)) = false := by simp; omega
   have HF : Hid (isDig b = false) := by show _ = _; unfold isDig; rw [decide_eq_false h1, Bool.false_and]
   go_enter Tryz.func85, Tryz.ntmps85
   go_wp2
   go_ret
   rw [HF.out]
   exact ⟨rfl, rfl⟩
theorem isLetter_any (b : UInt8) (w : World) : Calls Tryz.prog 88 #[.int .u8 (b.toNat : Int)] w fun e w' => e = .returned (.bool (isLet b)) ∧ w = w' := by
 by_cases h1 : 97 ≤ b.toNat
 · have g1 : decide ((97 : Int) ≤ (b.toNat : Int)) = true := by simp; omega
   have HF : Hid (isLet b = decide ((b.toNat : Int) ≤ 122)) := by show _ = _; unfold isLet; rw [decide_eq_true h1, Bool.true_and]; congr 1; apply propext; omega
   go_enter Tryz.func88, Tryz.ntmps88
   go_wp2
   go_ret
   rw [HF.out]
   exact ⟨rfl, rfl⟩
 · have g1 : decide ((97 : Int) ≤ (b.toNat : Int)) = false := by simp; omega
   have HF : Hid (isLet b = false) := by show _ = _; unfold isLet; rw [decide_eq_false h1, Bool.false_and]
   go_enter Tryz.func88, Tryz.ntmps88
   go_wp2
   go_ret
   rw [HF.out]
   exact ⟨rfl, rfl⟩
set_option maxHeartbeats 400000 in
theorem isPlain_any (b : UInt8) (w : World) : Calls Tryz.prog 154 #[.int .u8 (b.toNat : Int)] w fun e w' => e = .returned (.bool (isPl b)) ∧ w = w' := by
 by_cases h1 : 32 ≤ b.toNat ∧ b.toNat ≤ 126 ∧ b.toNat ≠ 34
 · obtain ⟨h1, h2, h3⟩ := h1
   have g1 : decide ((32 : Int) ≤ (b.toNat : Int)) = true := by simp; omega
   have g2 : decide ((b.toNat : Int) ≤ 126) = true := by simp; omega
   have g3 : ((b.toNat : Int) != 34) = true := by simp; omega
   have HF : Hid (isPl b = ((b.toNat : Int) != 92)) := by show _ = _; unfold isPl; rw [decide_eq_true h1, decide_eq_true h2, decide_eq_true h3, Bool.true_and, Bool.true_and, Bool.true_and, Bool.eq_iff_iff]; simp; omega
   clear h1 h2 h3
   go_enter Tryz.func154, Tryz.ntmps154
   go_wp2
   go_ret
   rw [HF.out]
   exact ⟨rfl, rfl⟩
 · have HF : Hid (isPl b = false) := by show _ = _; unfold isPl; simp; omega
   by_cases a1 : 32 ≤ b.toNat
   · have g1 : decide ((32 : Int) ≤ (b.toNat : Int)) = true := by simp; omega
     by_cases a2 : b.toNat ≤ 126
     · have g2 : decide ((b.toNat : Int) ≤ 126) = true := by simp; omega
       have g3 : ((b.toNat : Int) != 34) = false := by simp; omega
       clear h1 a1 a2
       go_enter Tryz.func154, Tryz.ntmps154
       go_wp2
       go_ret
       rw [HF.out]
       exact ⟨rfl, rfl⟩
     · have g2 : decide ((b.toNat : Int) ≤ 126) = false := by simp; omega
       clear h1 a1 a2
       go_enter Tryz.func154, Tryz.ntmps154
       go_wp2
       go_ret
       rw [HF.out]
       exact ⟨rfl, rfl⟩
   · have g1 : decide ((32 : Int) ≤ (b.toNat : Int)) = false := by simp; omega
     clear h1 a1
     go_enter Tryz.func154, Tryz.ntmps154
     go_wp2
     go_ret
     rw [HF.out]
     exact ⟨rfl, rfl⟩
end Go.Proofs.YtaecndmncpfpfaaGreatDoor
namespace Go.Proofs.YtaecndmncpfpfaaGreatDoor
open Go.RowKit
def atOf (R : Nat) (w : World) : Nat := match w.cell? ⟨R, 1, none⟩ with
 | some (.int _ i) => i.toNat
 | _ => 0
theorem at_of {w : World} {R : Nat} {s : ByteArray} {m : Nat} (h : Rdr w R s m) : atOf R w = m := by
 unfold atOf
 rw [zF h.box]
 exact Int.toNat_natCast m
set_option maxRecDepth 100000 in
set_option maxHeartbeats 400000 in
theorem skip_any (R : Nat) (s : ByteArray) (m : Nat) (w : World) (h : Rdr w R s m) :
    Calls Tryz.prog 52 #[.pointer (some ⟨R, 0, none⟩)] w fun e w' => (∃ v, e = .returned v) ∧ Only R w w' ∧ Rdr w' R s (skip (bl s) m) := by
 have HR := Lib.hid h
 have hle := h.le
 have hlen := h.len
 clear h
 go_enter Tryz.func52, Tryz.ntmps52
 go_wp2_with (fail)
 go_loopw [] (fun wr => ∃ m' : Nat, m' ≤ s.size ∧ Hid (Rdr wr R s m') ∧ Hid (skip (bl s) m' = skip (bl s) m) ∧ Hid (Only R w wr)) (fun wr => s.size - atOf R wr)
 case atStart => exact ⟨m, hle, HR, Lib.hid rfl, Lib.hid (Only.refl _ _)⟩
 case round =>
  obtain ⟨m', hm', HR', HS, HO⟩ := hrel
  go_wp2_with (fail)
  refine (look_any R s m' wr HR'.out).mono ?_
  rintro e w2 ⟨rfl, hb⟩
  have HR2 := Lib.hid (HR'.out.below hb)
  have c1 := zF HR2.out.box
  have f1 := zB HR2.out.box 1
  have hlt := HR2.out.lt
  have HO2 := Lib.hid (HO.out.trans (Only.of_below hb))
  have hat := at_of HR'.out
  clear hb
  by_cases h32 : lkB (bl s) m' = 32
  · have hb32 : (((lkB (bl s) m').toNat : Int) == 32) = true := by rw [h32]; rfl
    have hlm : m' < s.size := by have := lkB_lt (l := bl s) (m := m') (by rw [h32]; decide); rwa [zT] at this
    have HS2 := Lib.hid ((skip_on h32).symm.trans HS.out)
    clear h32
    go_wp2_with (fail)
    go_roundw
    case rel => exact ⟨m' + 1, by omega, Lib.hid (by rw [show (m' : Int) + 1 = ((m' + 1 : Nat) : Int) by omega]; exact HR2.out.go (m' + 1) (by omega)), HS2, Lib.hid (HO2.out.trans (Only.set_ R 1 w2 _))⟩
    case measure =>
     have hat2 : atOf R (w2.setCell ⟨R, 1, none⟩ (.int .i64 ((m' : Int) + 1))) = m' + 1 := by rw [show (m' : Int) + 1 = ((m' + 1 : Nat) : Int) by omega]; exact at_of (HR2.out.go (m' + 1) (by omega))
     rw [hat, hat2]
     omega
  · have hb32 : (((lkB (bl s) m').toNat : Int) == 32) = false := u8_beq_false (b := 32) h32
    have HE := Lib.hid ((skip_off h32).symm.trans HS.out)
    clear h32
    go_wp2_with (fail)
    go_end0
    exact ⟨⟨_, rfl⟩, HO2.out, by rw [← HE.out]; exact HR2.out⟩
def nx (ok : Bool) (m : Nat) : Nat := if ok then m + 1 else m
def RbOut (R : Nat) (s : ByteArray) (ok : Bool) (m1 : Nat) (w : World) (e : Ending) (w' : World) : Prop := e = .returned (.bool ok) ∧ Only R w w' ∧ Rdr w' R s m1
set_option maxHeartbeats 400000 in
theorem readByte_any (R : Nat) (s : ByteArray) (m : Nat) (b : UInt8) (w : World) (hb0 : b ≠ 0) (h : Rdr w R s m) :
    Calls Tryz.prog 129 #[.pointer (some ⟨R, 0, none⟩), .int .u8 (b.toNat : Int)] w fun e w' => RbOut R s (rdB (bl s) m b) (nx (rdB (bl s) m b) m) w e w' := by
 have HR := Lib.hid h
 have hle := h.le
 have hlen := h.len
 clear h
 go_enter Tryz.func129, Tryz.ntmps129
 go_wp2_with (fail)
 refine (look_any R s m w HR.out).mono ?_
 rintro e w2 ⟨rfl, hb⟩
 have HR2 := Lib.hid (HR.out.below hb)
 have c1 := zF HR2.out.box
 have f1 := zB HR2.out.box 1
 have hlt := HR2.out.lt
 have HO2 := Lib.hid (Only.of_below (R := R) hb)
 clear hb
 by_cases hq : lkB (bl s) m = b
 · have hne : (((lkB (bl s) m).toNat : Int) != (b.toNat : Int)) = false := by rw [hq]; simp
   have HF : Hid (rdB (bl s) m b = true) := by show _ = _; unfold rdB; rw [decide_eq_true hq]
   have hlm : m < s.size := by have := lkB_lt (l := bl s) (m := m) (by rw [hq]; exact hb0); rwa [zT] at this
   clear hq
   go_wp2_with (fail)
   go_ret
   rw [HF.out]
   exact ⟨rfl, HO2.out.trans (Only.set_ R 1 w2 _), by rw [show (m : Int) + 1 = ((m + 1 : Nat) : Int) by omega]; exact HR2.out.go (m + 1) (by omega)⟩
 · have hne : (((lkB (bl s) m).toNat : Int) != (b.toNat : Int)) = true := by
     simp only [bne, u8_beq_false hq, Bool.not_false]
   have HF : Hid (rdB (bl s) m b = false) := by show _ = _; unfold rdB; rw [decide_eq_false hq]
   clear hq
   go_wp2_with (fail)
   go_ret
   rw [HF.out]
   exact ⟨rfl, HO2.out, HR2.out⟩
set_option maxHeartbeats 400000 in
theorem readMark_any (R : Nat) (s : ByteArray) (m : Nat) (b : UInt8) (w : World) (hb0 : b ≠ 0) (h : Rdr w R s m) :
    Calls Tryz.prog 161 #[.pointer (some ⟨R, 0, none⟩), .int .u8 (b.toNat : Int)] w fun e w' => RbOut R s (rdB (bl s) (skip (bl s) m) b) (nx (rdB (bl s) (skip (bl s) m) b) (skip (bl s) m)) w e w' := by
 have HR := Lib.hid h
 clear h
 go_enter Tryz.func161, Tryz.ntmps161
 go_wp2_with (fail)
 refine (skip_any R s m w HR.out).mono ?_
 rintro e w2 ⟨⟨v, rfl⟩, ho, hr⟩
 have HR2 := Lib.hid hr
 have HO2 := Lib.hid ho
 clear hr ho
 go_wp2_with (fail)
 refine (readByte_any R s _ b w2 hb0 HR2.out).mono ?_
 rintro e w3 ⟨rfl, ho, hr⟩
 have HR3 := Lib.hid hr
 have HO3 := Lib.hid ho
 clear hr ho
 go_wp2_with (fail)
 go_ret
 exact ⟨rfl, HO2.out.trans HO3.out, HR3.out⟩
theorem dig_sub {b : UInt8} (h : isDig b = true) : IntKind.u8.wrap ((b.toNat : Int) - 48) = (b.toNat : Int) - 48 ∧ 48 ≤ b.toNat ∧ b.toNat ≤ 57 := by
 unfold isDig at h
 simp at h
 refine ⟨?_, h.1, h.2⟩
 simp only [IntKind.wrap, IntKind.bits, IntKind.signed]
 simp
 omega
def DgOut (R : Nat) (s : ByteArray) (m : Nat) (w : World) (e : Ending) (w' : World) : Prop :=
 if isDig (lkB (bl s) m) = true then e = .returned (.tuple #[.int .i64 (((lkB (bl s) m).toNat : Int) - 48), .bool true]) ∧ Only R w w' ∧ Rdr w' R s (m + 1)
 else e = .returned (.tuple #[.int .i64 0, .bool false]) ∧ Only R w w' ∧ Rdr w' R s m
set_option maxHeartbeats 400000 in
theorem readDigit_any (R : Nat) (s : ByteArray) (m : Nat) (w : World) (h : Rdr w R s m) :
    Calls Tryz.prog 176 #[.pointer (some ⟨R, 0, none⟩)] w fun e w' => DgOut R s m w e w' := by
 have HR := Lib.hid h
 have hle := h.le
 have hlen := h.len
 clear h
 go_enter Tryz.func176, Tryz.ntmps176
 go_wp2_with (fail)
 refine (look_any R s m w HR.out).mono ?_
 rintro e w2 ⟨rfl, hb⟩
 have HR2 := Lib.hid (HR.out.below hb)
 have c1 := zF HR2.out.box
 have f1 := zB HR2.out.box 1
 have hlt := HR2.out.lt
 have HO2 := Lib.hid (Only.of_below (R := R) hb)
 clear hb
 go_wp2_with (fail)
 refine (isDigit_any (lkB (bl s) m) w2).mono ?_
 rintro e w3 ⟨rfl, rfl⟩
 cases hd : isDig (lkB (bl s) m) with
 | true =>
   obtain ⟨d1, d2, d3⟩ := dig_sub hd
   have hlm : m < s.size := by have := lkB_lt (l := bl s) (m := m) (by intro e; rw [e] at hd; exact absurd hd (by decide)); rwa [zT] at this
   have HD := Lib.hid hd
   clear hd
   go_wp2_with (fail)
   go_ret2
   unfold DgOut
   rw [if_pos HD.out]
   exact ⟨rfl, HO2.out.trans (Only.set_ R 1 w2 _), by rw [show (m : Int) + 1 = ((m + 1 : Nat) : Int) by omega]; exact HR2.out.go (m + 1) (by omega)⟩
 | false =>
   have HD := Lib.hid hd
   clear hd
   go_wp2_with (fail)
   go_ret2
   unfold DgOut
   rw [if_neg (by rw [HD.out]; decide)]
   exact ⟨rfl, HO2.out, HR2.out⟩
