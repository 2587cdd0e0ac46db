/-
Ported from the texts of layer 2: Bas.
-/
import Derived.Test.YtbafplnolmdlnaaDoorProg
import Derived.WalkKit
import Derived.WalkSpells
import Derived.WalkLawsBesides
import Derived.Lib.Hide
import Derived.Outline
import Derived.Deep.LoopGhost
import Derived.BigQuiet
import Derived.Deep.QuietTactic
import Derived.Maps.AppendAt
import Derived.Laws.MakeOwn
namespace Go.Proofs.YtbafplnolmdlnaaDoor
open Go.RowKit

theorem info82 : (Tryd.prog.info? 101).map (fun i => (i.zero, i.size, i.bytes)) = some (some (.agg #[.int .i64 0, .int .i64 0, .string ByteArray.empty]), 3, 32) := by kernel_rfl

theorem cells82 : Tryd.prog.cellsOf 101 = 3 := by kernel_rfl

/-- What a kind is called, and how many Args it has. -/
structure Wd where
  kind : Int
  args : Int
  name : ByteArray

/-- The cells of a list of words. -/
def flatW : List Wd → List Value
  | [] => []
  | x :: l => .int .i64 x.kind :: .int .i64 x.args :: .string x.name :: flatW l

theorem flatW_length : ∀ l : List Wd, (flatW l).length = l.length * 3
  | [] => rfl
  | x :: l => by simp [flatW, flatW_length l]; omega

theorem flatW_append : ∀ l m : List Wd, flatW (l ++ m) = flatW l ++ flatW m
  | [], _ => rfl
  | x :: l, m => by simp [flatW, flatW_append l m]

theorem flatW_at : ∀ (l : List Wd) (k : Nat) (x : Wd), l[k]? = some x →
    (flatW l)[k * 3]? = some (.int .i64 x.kind) ∧ (flatW l)[k * 3 + 1]? = some (.int .i64 x.args) ∧ (flatW l)[k * 3 + 2]? = some (.string x.name)
  | [], k, x, h => by simp at h
  | y :: l, 0, x, h => by simp at h; subst h; simp [flatW]
  | y :: l, k + 1, x, h => by
    have h' : l[k]? = some x := by simpa using h
    obtain ⟨a, b, c⟩ := flatW_at l k x h'
    refine ⟨?_, ?_, ?_⟩
    · rw [show (k + 1) * 3 = k * 3 + 3 by omega]; simpa [flatW] using a
    · rw [show (k + 1) * 3 + 1 = k * 3 + 1 + 3 by omega]; simpa [flatW] using b
    · rw [show (k + 1) * 3 + 2 = k * 3 + 2 + 3 by omega]; simpa [flatW] using c

theorem cell_three_new (w : World) (a b c : Value) (t : TypeId) (B : Nat) (hB : B = w.heap.size) : ∀ j u, [a, b, c][j]? = some u → (w.alloc (.cells #[a, b, c] t)).cell? ((⟨B, 0, none⟩ : Addr).add j) = some u := by
  subst hB
  intro j u hj
  match j, hj with
  | 0, hj => simp at hj; subst hj; simp [Addr.add]
  | 1, hj => simp at hj; subst hj; simp [Addr.add]
  | 2, hj => simp at hj; subst hj; simp [Addr.add]
  | j + 3, hj => simp at hj

theorem u8_beq_true {a b : UInt8} (h : a = b) : ((a.toNat : Int) == (b.toNat : Int)) = true := by simp [h]

theorem u8_beq_false {a b : UInt8} (h : a ≠ b) : ((a.toNat : Int) == (b.toNat : Int)) = false := by
  simp
  intro e
  exact h (UInt8.toNat_inj.1 (by omega))

def w1 : Wd := ⟨1, 0, ⟨#[98, 111, 111, 108]⟩⟩

def w2 : Wd := ⟨2, 0, ⟨#[105, 110, 116]⟩⟩

def w3 : Wd := ⟨3, 0, ⟨#[116, 101, 120, 116]⟩⟩

def w4 : Wd := ⟨4, 0, ⟨#[98, 121, 116, 101, 115]⟩⟩

def w5 : Wd := ⟨5, 0, ⟨#[112, 111, 105, 110, 116]⟩⟩

def w6 : Wd := ⟨6, 2, ⟨#[112, 97, 105, 114]⟩⟩

def w7 : Wd := ⟨7, 1, ⟨#[108, 105, 115, 116]⟩⟩

def w9 : Wd := ⟨9, 1, ⟨#[111, 112, 116, 105, 111, 110]⟩⟩

/-- The words of all kinds of types. -/
def words : List Wd := [w1, w2, w3, w4, w5, w6, w7, w9]

/-- The words of types that are at most this deep. -/
def fitW (room : Int) (l : List Wd) : List Wd := l.filter fun x => decide (1 < room) || decide (x.args = 0)

def wordsRow : Array Value := #[.int .i64 1, .int .i64 0, .string ⟨#[98, 111, 111, 108]⟩, .int .i64 2, .int .i64 0, .string ⟨#[105, 110, 116]⟩, .int .i64 3, .int .i64 0, .string ⟨#[116, 101, 120, 116]⟩, .int .i64 4, .int .i64 0, .string ⟨#[98, 121, 116, 101, 115]⟩, .int .i64 5, .int .i64 0, .string ⟨#[112, 111, 105, 110, 116]⟩, .int .i64 6, .int .i64 2, .string ⟨#[112, 97, 105, 114]⟩, .int .i64 7, .int .i64 1, .string ⟨#[108, 105, 115, 116]⟩, .int .i64 9, .int .i64 1, .string ⟨#[111, 112, 116, 105, 111, 110]⟩]

/-- The table of words lies in the package's variable. -/
def Glob (w : World) : Prop := ∃ t fr, w.heap[0]? = some (.cells wordsRow t fr)

theorem Glob.lt {w : World} (h : Glob w) : 0 < w.heap.size := by
  obtain ⟨t, fr, h⟩ := h
  exact (Array.getElem?_eq_some_iff.1 h).1

theorem Glob.kept {w w' : World} (h : Glob w) (hw : w'.heap[0]? = w.heap[0]?) : Glob w' := by
  obtain ⟨t, fr, h⟩ := h
  exact ⟨t, fr, hw.trans h⟩

theorem words_at0 : ∀ w : World, (Instr.index 107 (.agg wordsRow) (.int .i64 ((0 : Nat) : Int))).run Tryd.prog w = .ok (.agg #[.int .i64 w1.kind, .int .i64 w1.args, .string w1.name]) w := fun _ => by kernel_rfl

theorem words_at1 : ∀ w : World, (Instr.index 107 (.agg wordsRow) (.int .i64 ((1 : Nat) : Int))).run Tryd.prog w = .ok (.agg #[.int .i64 w2.kind, .int .i64 w2.args, .string w2.name]) w := fun _ => by kernel_rfl

theorem words_at2 : ∀ w : World, (Instr.index 107 (.agg wordsRow) (.int .i64 ((2 : Nat) : Int))).run Tryd.prog w = .ok (.agg #[.int .i64 w3.kind, .int .i64 w3.args, .string w3.name]) w := fun _ => by kernel_rfl

theorem words_at3 : ∀ w : World, (Instr.index 107 (.agg wordsRow) (.int .i64 ((3 : Nat) : Int))).run Tryd.prog w = .ok (.agg #[.int .i64 w4.kind, .int .i64 w4.args, .string w4.name]) w := fun _ => by kernel_rfl

theorem words_at4 : ∀ w : World, (Instr.index 107 (.agg wordsRow) (.int .i64 ((4 : Nat) : Int))).run Tryd.prog w = .ok (.agg #[.int .i64 w5.kind, .int .i64 w5.args, .string w5.name]) w := fun _ => by kernel_rfl

theorem words_at5 : ∀ w : World, (Instr.index 107 (.agg wordsRow) (.int .i64 ((5 : Nat) : Int))).run Tryd.prog w = .ok (.agg #[.int .i64 w6.kind, .int .i64 w6.args, .string w6.name]) w := fun _ => by kernel_rfl

theorem words_at6 : ∀ w : World, (Instr.index 107 (.agg wordsRow) (.int .i64 ((6 : Nat) : Int))).run Tryd.prog w = .ok (.agg #[.int .i64 w7.kind, .int .i64 w7.args, .string w7.name]) w := fun _ => by kernel_rfl

theorem words_at7 : ∀ w : World, (Instr.index 107 (.agg wordsRow) (.int .i64 ((7 : Nat) : Int))).run Tryd.prog w = .ok (.agg #[.int .i64 w9.kind, .int .i64 w9.args, .string w9.name]) w := fun _ => by kernel_rfl

theorem words_at (k : Nat) (x : Wd) (h : words[k]? = some x) (w : World) :
    (Instr.index 107 (.agg wordsRow) (.int .i64 (k : Int))).run Tryd.prog w = .ok (.agg #[.int .i64 x.kind, .int .i64 x.args, .string x.name]) w := by
  match k, h with
  | 0, h => (obtain rfl : w1 = x := by simpa [words] using h); exact words_at0 w
  | 1, h => (obtain rfl : w2 = x := by simpa [words] using h); exact words_at1 w
  | 2, h => (obtain rfl : w3 = x := by simpa [words] using h); exact words_at2 w
  | 3, h => (obtain rfl : w4 = x := by simpa [words] using h); exact words_at3 w
  | 4, h => (obtain rfl : w5 = x := by simpa [words] using h); exact words_at4 w
  | 5, h => (obtain rfl : w6 = x := by simpa [words] using h); exact words_at5 w
  | 6, h => (obtain rfl : w7 = x := by simpa [words] using h); exact words_at6 w
  | 7, h => (obtain rfl : w9 = x := by simpa [words] using h); exact words_at7 w
  | k + 8, h => simp [words] at h

theorem three_one (a b : Int) (s : ByteArray) : ∀ u ∈ [Value.int .i64 a, Value.int .i64 b, Value.string s], u.oneCell' = true := by
  intro u hu
  simp at hu
  rcases hu with rfl | rfl | rfl <;> rfl

/-- Only block R, and what is new, has turned. -/
def Only (R : Nat) (w w' : World) : Prop := w.grownBy w' (some R)

theorem Only.refl (R : Nat) (w : World) : Only R w w := ⟨rfl, rfl, rfl, Nat.le_refl _, fun _ _ _ => rfl⟩

theorem Only.trans {R : Nat} {a b c : World} (h : Only R a b) (k : Only R b c) : Only R a c :=
  ⟨k.os.trans h.os, k.tape.trans h.tape, k.output.trans h.output, Nat.le_trans h.size k.size, fun i hi hne => (k.block i (Nat.lt_of_lt_of_le hi h.size) hne).trans (h.block i hi hne)⟩

theorem Only.of_below {R : Nat} {a b : World} (h : Below a.heap.size a b) : Only R a b := ⟨h.os, h.tape, h.output, h.size, fun i hi _ => h.block i hi⟩

theorem Only.set_ (R i : Nat) (w : World) (u : Value) : Only R w (w.setCell ⟨R, i, none⟩ u) :=
  ⟨rfl, rfl, rfl, by simp [World.setCell], fun k _ hk => Below.heap_setCell w _ u k (fun e => hk (by rw [e]))⟩

theorem Only.drewN {R : Nat} {a b : World} (h : Only R a b) (n : Nat) : Only R a (b.drewN n) := ⟨h.os, h.tape, h.output, h.size, h.block⟩

theorem Only.below {R B : Nat} {a b : World} (h : Only R a b) (hR : B ≤ R) (hB : B ≤ a.heap.size) : Below B a b := ⟨h.os, h.tape, h.output, h.size, fun k hk => h.block k (by omega) (fun e => by injection e; omega)⟩

theorem words_small : ∀ x ∈ words, 0 < x.name.size ∧ x.name.size ≤ 6 := by decide

def wdVal (x : Wd) : Value := .agg #[.int .i64 x.kind, .int .i64 x.args, .string x.name]

def zeroWd : Wd := ⟨0, 0, ⟨#[]⟩⟩

theorem cell_lt {w : World} {g : Nat} {o : Obj} (h : w.heap[g]? = some o) : g < w.heap.size := (Array.getElem?_eq_some_iff.1 h).1

theorem cell3_0 {w : World} {g : Nat} {a b c : Value} {t : TypeId} (h : w.heap[g]? = some (.cells #[a, b, c] t (0, 0))) : w.cell? ⟨g, 0, none⟩ = some a := by simp [World.cell?, h]

theorem cell3_1 {w : World} {g : Nat} {a b c : Value} {t : TypeId} (h : w.heap[g]? = some (.cells #[a, b, c] t (0, 0))) : w.cell? ⟨g, 1, none⟩ = some b := by simp [World.cell?, h]

theorem cell3_2 {w : World} {g : Nat} {a b c : Value} {t : TypeId} (h : w.heap[g]? = some (.cells #[a, b, c] t (0, 0))) : w.cell? ⟨g, 2, none⟩ = some c := by simp [World.cell?, h]

theorem cell3_f {w : World} {g : Nat} {cs : Array Value} {t : TypeId} (h : w.heap[g]? = some (.cells cs t (0, 0))) (i : Nat) : w.frozen? ⟨g, i, none⟩ = false := by simp [World.frozen?, h]

theorem only_far {R : Nat} {w w' : World} (h : Only R w w') {p : Addr} (hp : w.heap.size ≤ p.block) (u : Value) : Only R w (w'.setCell p u) :=
  ⟨h.os, h.tape, h.output, by simpa [World.setCell] using h.size, fun k hk hne => (Below.heap_setCell w' p u k (by omega)).trans (h.block k hk hne)⟩

/-- A type, as a tree. -/
inductive Ty where
  | mk (kind : Int) (args : List Ty)

def Ty.kind : Ty → Int | .mk k _ => k

def Ty.args : Ty → List Ty | .mk _ l => l

/-- The value v is the type t, at most d deep; the slices of Args lie in blocks of S. -/
def TyAt (w : World) (S : Nat → Prop) : Nat → Value → Ty → Prop
  | 0, _, _ => False
  | d + 1, v, t => ∃ A c, v = .agg #[.int .i64 t.kind, .slice A t.args.length c] ∧ t.args.length ≤ c ∧ (0 < t.args.length → ∃ b o, A = some ⟨b, o, none⟩ ∧ S b ∧
      ∀ (j : Nat) (a : Ty), t.args[j]? = some a → ∃ u0 u1, w.cell? ⟨b, o + j * 2, none⟩ = some u0 ∧ w.cell? ⟨b, o + j * 2 + 1, none⟩ = some u1 ∧ TyAt w S d (.agg #[u0, u1]) a)

theorem TyAt.move {w w' : World} {S S' : Nat → Prop} (hk : ∀ b, S b → b < w.heap.size → S' b ∧ ∀ o, w'.cell? ⟨b, o, none⟩ = w.cell? ⟨b, o, none⟩) : ∀ (d : Nat) (v : Value) (t : Ty), TyAt w S d v t → TyAt w' S' d v t
  | 0, _, _, h => h
  | d + 1, v, t, ⟨A, c, hv, hc, h⟩ => ⟨A, c, hv, hc, fun hl => by
      obtain ⟨b, o, hA, hS, hj⟩ := h hl
      have hlt : b < w.heap.size := by
        obtain ⟨u0, u1, h0, _⟩ := hj 0 _ (List.getElem?_eq_getElem hl)
        exact World.block_lt_of_cell? w _ h0
      obtain ⟨hS', hcell⟩ := hk b hS hlt
      refine ⟨b, o, hA, hS', fun j a ha => ?_⟩
      obtain ⟨u0, u1, h0, h1, h2⟩ := hj j a ha
      exact ⟨u0, u1, (hcell _).trans h0, (hcell _).trans h1, TyAt.move hk d _ _ h2⟩⟩

theorem TyAt.more {w : World} {S : Nat → Prop} : ∀ (d d' : Nat) (v : Value) (t : Ty), d ≤ d' → TyAt w S d v t → TyAt w S d' v t
  | 0, _, _, _, _, h => h.elim
  | d + 1, 0, _, _, hd, _ => by omega
  | d + 1, d' + 1, v, t, hd, ⟨A, c, hv, hc, h⟩ => ⟨A, c, hv, hc, fun hl => by
      obtain ⟨b, o, hA, hS, hj⟩ := h hl
      refine ⟨b, o, hA, hS, fun j a ha => ?_⟩
      obtain ⟨u0, u1, h0, h1, h2⟩ := hj j a ha
      exact ⟨u0, u1, h0, h1, TyAt.more d d' _ _ (by omega) h2⟩⟩

theorem info24 : (Tryd.prog.info? 38).map (fun i => (i.zero, i.size, i.bytes)) = some (some (.agg #[.int .i64 0, .slice none 0 0]), 2, 32) := by kernel_rfl

theorem cells24 : Tryd.prog.cellsOf 38 = 2 := by kernel_rfl

theorem cell2_0 {w : World} {g : Nat} {a b : Value} {t : TypeId} (h : w.heap[g]? = some (.cells #[a, b] t (0, 0))) : w.cell? ⟨g, 0, none⟩ = some a := by simp [World.cell?, h]

theorem cell2_1 {w : World} {g : Nat} {a b : Value} {t : TypeId} (h : w.heap[g]? = some (.cells #[a, b] t (0, 0))) : w.cell? ⟨g, 1, none⟩ = some b := by simp [World.cell?, h]

theorem TyAt.form {w : World} {S : Nat → Prop} {d : Nat} {v : Value} {t : Ty} (h : TyAt w S d v t) : ∃ A c, v = .agg #[.int .i64 t.kind, .slice A t.args.length c] := by
  cases d with
  | zero => exact h.elim
  | succ d => obtain ⟨A, c, hv, _⟩ := h; exact ⟨A, c, hv⟩

theorem ty_made {r i base : Nat} {lo : Nat} {kd : Int} {acc : List Ty} {vs : Value} {cs : List Value} {S : Nat → Prop} {wr wF : World} (hcs : wr.ownsRow base 38 2 vs i cs) (hlen : acc.length = i)
    (hargs : ∀ (j : Nat) (a : Ty), acc[j]? = some a → ∃ u0 u1, cs[j * 2]? = some u0 ∧ cs[j * 2 + 1]? = some u1 ∧ TyAt wr S r (.agg #[u0, u1]) a) (hS : ∀ b, S b → base ≤ b)
    (hlo : lo ≤ base) (hk : ∀ b, base ≤ b → b < wr.heap.size → wF.heap[b]? = wr.heap[b]?) : TyAt wF (fun b => lo ≤ b) (r + 1) (.agg #[.int .i64 kd, vs]) (.mk kd acc) := by
  have hkc : ∀ b, base ≤ b → b < wr.heap.size → ∀ o, wF.cell? ⟨b, o, none⟩ = wr.cell? ⟨b, o, none⟩ := fun b hb hl o => World.cell?_of_block (hk b hb hl)
  rcases hcs.2 with ⟨rfl, h0⟩ | ⟨g, cap, cur, rfl, hbg, hg, hnc, _⟩
  · have ha : acc.length = 0 := by omega
    refine ⟨none, 0, ?_, by show acc.length ≤ 0; omega, fun hl => ?_⟩
    · show _ = Value.agg #[.int .i64 kd, .slice none acc.length 0]
      rw [ha]
    · have hl' : 0 < acc.length := hl
      omega
  · have hgl := cell_lt hg
    refine ⟨some ⟨g, 0, none⟩, cap, ?_, by show acc.length ≤ cap; omega, fun hl => ⟨g, 0, rfl, by omega, fun j a ha => ?_⟩⟩
    · show _ = Value.agg #[.int .i64 kd, .slice (some ⟨g, 0, none⟩) acc.length cap]
      rw [hlen]
    · have ha' : acc[j]? = some a := ha
      obtain ⟨u0, u1, h0, h1, h2⟩ := hargs j a ha'
      have hjl := (List.getElem?_eq_some_iff.1 ha').1
      refine ⟨u0, u1, ?_, ?_, TyAt.move (fun b hSb hbl => ⟨by have := hS b hSb; omega, hkc b (hS b hSb) hbl⟩) _ _ _ h2⟩
      · rw [Nat.zero_add, hkc g hbg hgl, hcs.cellAt _ (by omega)]; exact h0
      · rw [Nat.zero_add, hkc g hbg hgl, hcs.cellAt _ (by omega)]; exact h1

theorem cell_two_new (w : World) (a b : Value) (t : TypeId) (B : Nat) (hB : B = w.heap.size) : ∀ j u, [a, b][j]? = some u → (w.alloc (.cells #[a, b] t)).cell? ((⟨B, 0, none⟩ : Addr).add j) = some u := by
  subst hB
  intro j u hj
  match j, hj with
  | 0, hj => simp at hj; subst hj; simp [Addr.add]
  | 1, hj => simp at hj; subst hj; simp [Addr.add]
  | j + 2, hj => simp at hj

theorem two_one (a : Int) (A : Option Addr) (n c : Nat) : ∀ u ∈ [Value.int .i64 a, Value.slice A n c], u.oneCell' = true := by
  intro u hu
  simp at hu
  rcases hu with rfl | rfl <;> rfl

theorem own_form {w : World} {base : Nat} {e : TypeId} {size : Nat} {v : Value} {n : Nat} {xs : List Value} (h : w.ownsRow base e size v n xs) (hn : 0 < n) :
    ∃ g cap, v = .slice (some ⟨g, 0, none⟩) n cap ∧ base ≤ g ∧ g < w.heap.size ∧ n ≤ cap := by
  rcases h.2 with ⟨_, h0⟩ | ⟨g, cap, cur, hv, hb, hg, hnc, _⟩
  · omega
  · exact ⟨g, cap, hv, hb, cell_lt hg, hnc⟩

theorem words_args : ∀ x ∈ words, 0 ≤ x.args ∧ x.args ≤ 2 := by decide

theorem cell_one_new' (w : World) (a : Value) (t : TypeId) (B : Nat) (hB : B = w.heap.size) : ∀ j u, [a][j]? = some u → (w.alloc (.cells #[a] t)).cell? ((⟨B, 0, none⟩ : Addr).add j) = some u := by
  subst hB
  intro j u hj
  match j, hj with
  | 0, hj => simp at hj; subst hj; simp [Addr.add]
  | j + 1, hj => simp at hj

theorem own_slice {w : World} {B : Nat} {e : TypeId} {size : Nat} {v : Value} {n : Nat} {xs : List Value} (h : w.ownsRow B e size v n xs) : ∃ A c, v = .slice A n c := by
  rcases h.2 with ⟨rfl, rfl⟩ | ⟨g', cap, cur, rfl, _⟩
  · exact ⟨_, _, rfl⟩
  · exact ⟨_, _, rfl⟩
end Go.Proofs.YtbafplnolmdlnaaDoor
