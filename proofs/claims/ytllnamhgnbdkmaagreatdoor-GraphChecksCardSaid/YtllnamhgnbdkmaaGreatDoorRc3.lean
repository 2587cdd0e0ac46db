/-
The reader of package expr: what stands behind a word (the table). The reader of package expr: what stands behind a word (part 0). The reader of package expr: wordOf, whole. Terms: as trees, and as values. The reader of package expr: has, isName, readName. The reader of package expr: readNumber.
-/
import Derived.Test.YtllnamhgnbdkmaaGreatDoorRc7
import Derived.Lib.Repeat
import Derived.Test.YtllnamhgnbdkmaaGreatDoorShelf
namespace Go.Proofs.YtllnamhgnbdkmaaGreatDoor
open Go.RowKit

/-- The words, but list, and what stands behind each. -/
def wdL : List (List UInt8 × List UInt8) := [([116, 114, 117, 101], []), ([102, 97, 108, 115, 101], []), ([105, 116], []), ([115, 105, 100, 101], [100]), ([110, 105, 108], [116]), ([110, 111, 110, 101], [116]), ([110, 101, 103], [101]), ([110, 111, 116], [101]), ([102, 105, 114, 115, 116], [101]), ([115, 101, 99, 111, 110, 100], [101]), ([108, 101, 110], [101]), ([115, 111, 114, 116], [101]), ([115, 111, 109, 101], [101]), ([105, 115, 95, 115, 111, 109, 101], [101]), ([115, 105, 122, 101], [101]), ([98, 121, 116, 101, 115], [101]), ([116, 101, 120, 116], [101]), ([115, 104, 111, 119], [101]), ([114, 101], [101]), ([105, 109], [101]), ([99, 111, 110, 106], [101]), ([114, 97, 110, 103, 101], [101]), ([97, 100, 100], [101, 101]), ([115, 117, 98], [101, 101]), ([109, 117, 108], [101, 101]), ([100, 105, 118], [101, 101]), ([109, 111, 100], [101, 101]), ([101, 113], [101, 101]), ([108, 116], [101, 101]), ([97, 110, 100], [101, 101]), ([111, 114], [101, 101]), ([112, 97, 105, 114], [101, 101]), ([99, 111, 110, 115], [101, 101]), ([99, 111, 110, 99, 97, 116], [101, 101]), ([97, 116], [101, 101]), ([111, 114, 95, 101, 108, 115, 101], [101, 101]), ([106, 111, 105, 110], [101, 101]), ([112, 111, 105, 110, 116], [101, 101]), ([105, 102], [101, 101, 101]), ([99, 117, 116], [101, 101, 101]), ([108, 101, 116], [110, 101, 101]), ([109, 97, 112], [101, 110, 101]), ([102, 105, 108, 116, 101, 114], [101, 110, 101]), ([102, 111, 108, 100], [101, 101, 110, 110, 101])]
def listW : List UInt8 := [108, 105, 115, 116]
/-- What stands behind a word, and how much of it must. -/
def wdP (s : List UInt8) : Option (List UInt8 × Nat) := if s = listW then some (List.replicate 64 101, 1) else (wdL.find? fun x => decide (x.1 = s)).map fun x => (x.2, x.2.length)

/-- What wordOf answers with. -/
def WdOut (e : Ending) : Option (List UInt8 × Nat) → Prop
  | none => e = .returned (.tuple #[.agg #[.string ⟨#[]⟩, .int .i64 0], .bool false])
  | some (p, n) => e = .returned (.tuple #[.agg #[.string ⟨p.toArray⟩, .int .i64 (n : Int)], .bool true])
end Go.Proofs.YtllnamhgnbdkmaaGreatDoor

namespace Go.Proofs.YtllnamhgnbdkmaaGreatDoor
open Go.RowKit

end Go.Proofs.YtllnamhgnbdkmaaGreatDoor
namespace Go.Proofs.YtllnamhgnbdkmaaGreatDoor
open Go.RowKit

end Go.Proofs.YtllnamhgnbdkmaaGreatDoor

namespace Go.Proofs.YtllnamhgnbdkmaaGreatDoor
open Go.RowKit

end Go.Proofs.YtllnamhgnbdkmaaGreatDoor
namespace Go.Proofs.YtllnamhgnbdkmaaGreatDoor
open Go.RowKit

theorem repeat_64 : Lib.repeatL [101] 64 = List.replicate 64 101 := by decide +kernel
theorem find_none {s : List UInt8} : ∀ l : List (List UInt8 × List UInt8), l.find? (fun x => decide (x.1 = s)) = none → ∀ x ∈ l, (s == x.1) = false
  | [], _, x, hx => by simp at hx
  | y :: l, h, x, hx => by
    rw [List.find?_cons] at h
    split at h
    · cases h
    · rename_i hy
      rcases List.mem_cons.1 hx with rfl | hx
      · have : ¬ x.1 = s := by simpa using hy
        simp
        exact fun e => this e.symm
      · exact find_none l h x hx

end Go.Proofs.YtllnamhgnbdkmaaGreatDoor
namespace Go.Proofs.YtllnamhgnbdkmaaGreatDoor
open Go.RowKit

/-- A term. -/
inductive Nd where
  | mk (op : List UInt8) (int : Int) (text : List UInt8) (ty : Ty) (kids : List Nd)
def Nd.op : Nd → List UInt8 | .mk o _ _ _ _ => o
def Nd.int : Nd → Int | .mk _ i _ _ _ => i
def Nd.text : Nd → List UInt8 | .mk _ _ t _ _ => t
def Nd.ty : Nd → Ty | .mk _ _ _ t _ => t
def Nd.kids : Nd → List Nd | .mk _ _ _ _ l => l
def ty0 : Ty := .mk 0 []

/-- The value v is the term n, at most d deep; its slices lie in blocks of S. -/
def NdAt (w : World) (S : Nat → Prop) : Nat → Value → Nd → Prop
  | 0, _, _ => False
  | d + 1, v, n => ∃ A c K k, v = .agg #[.string ⟨n.op.toArray⟩, .int .i64 n.int, .string ⟨n.text.toArray⟩, .int .i64 n.ty.kind, .slice A n.ty.args.length c, .slice K n.kids.length k] ∧
      (∃ dt, TyAt w S dt (.agg #[.int .i64 n.ty.kind, .slice A n.ty.args.length c]) n.ty) ∧ n.kids.length ≤ k ∧
      (0 < n.kids.length → ∃ b o, K = some ⟨b, o, none⟩ ∧ S b ∧ ∀ (j : Nat) (a : Nd), n.kids[j]? = some a → ∃ u0 u1 u2 u3 u4 u5, w.cell? ⟨b, o + j * 6, none⟩ = some u0 ∧ w.cell? ⟨b, o + j * 6 + 1, none⟩ = some u1 ∧ w.cell? ⟨b, o + j * 6 + 2, none⟩ = some u2 ∧ w.cell? ⟨b, o + j * 6 + 3, none⟩ = some u3 ∧ w.cell? ⟨b, o + j * 6 + 4, none⟩ = some u4 ∧ w.cell? ⟨b, o + j * 6 + 5, none⟩ = some u5 ∧ NdAt w S d (.agg #[u0, u1, u2, u3, u4, u5]) a)

theorem NdAt.form {w : World} {S : Nat → Prop} {d : Nat} {v : Value} {n : Nd} (h : NdAt w S d v n) : ∃ A c K k, v = .agg #[.string ⟨n.op.toArray⟩, .int .i64 n.int, .string ⟨n.text.toArray⟩, .int .i64 n.ty.kind, .slice A n.ty.args.length c, .slice K n.kids.length k] := by
  cases d with
  | zero => exact h.elim
  | succ d => obtain ⟨A, c, K, k, hv, _⟩ := h; exact ⟨A, c, K, k, hv⟩

theorem NdAt.move {w w' : World} {S S' : Nat → Prop} (hk : ∀ b, S b → b < w.heap.size → S' b ∧ ∀ o, w'.cell? ⟨b, o, none⟩ = w.cell? ⟨b, o, none⟩) : ∀ (d : Nat) (v : Value) (n : Nd), NdAt w S d v n → NdAt w' S' d v n
  | 0, _, _, h => h
  | d + 1, v, n, ⟨A, c, K, k, hv, ⟨dt, ht⟩, hlk, h⟩ => ⟨A, c, K, k, hv, ⟨dt, TyAt.move hk dt _ _ ht⟩, hlk, fun hl => by
      obtain ⟨b, o, hK, hS, hj⟩ := h hl
      have hlt : b < w.heap.size := by
        obtain ⟨u0, u1, u2, u3, u4, u5, h0, _⟩ := hj 0 _ (List.getElem?_eq_getElem hl)
        exact World.block_lt_of_cell? w _ h0
      obtain ⟨hS', hcell⟩ := hk b hS hlt
      refine ⟨b, o, hK, hS', fun j a ha => ?_⟩
      obtain ⟨u0, u1, u2, u3, u4, u5, h0, h1, h2, h3, h4, h5, h6⟩ := hj j a ha
      exact ⟨u0, u1, u2, u3, u4, u5, (hcell _).trans h0, (hcell _).trans h1, (hcell _).trans h2, (hcell _).trans h3, (hcell _).trans h4, (hcell _).trans h5, NdAt.move hk d _ _ h6⟩⟩

theorem NdAt.below {w w' : World} {S : Nat → Prop} {d : Nat} {v : Value} {n : Nd} (h : NdAt w S d v n) (hb : Below w.heap.size w w') : NdAt w' S d v n :=
  NdAt.move (fun b hS hl => ⟨hS, fun o => hb.cell (p := ⟨b, o, none⟩) hl⟩) d v n h
theorem NdAt.wider {w : World} {S S' : Nat → Prop} {d : Nat} {v : Value} {n : Nd} (h : NdAt w S d v n) (hS : ∀ b, S b → S' b) : NdAt w S' d v n :=
  NdAt.move (fun b hb _ => ⟨hS b hb, fun _ => rfl⟩) d v n h
theorem NdAt.only {w w' : World} {R d : Nat} {S : Nat → Prop} {v : Value} {n : Nd} (h : NdAt w S d v n) (hS : ∀ b, S b → b ≠ R) (ho : Only R w w') : NdAt w' S d v n :=
  NdAt.move (fun b hb hl => ⟨hb, fun _ => World.cell?_of_block (ho.block b hl (by simpa using hS b hb))⟩) d v n h

theorem ty_zero (w : World) (S : Nat → Prop) : TyAt w S 1 (.agg #[.int .i64 0, .slice none 0 0]) ty0 := ⟨none, 0, rfl, Nat.le_refl _, fun h => absurd h (by simp [ty0, Ty.args])⟩
/-- A term that has no Kids and no Type. -/
theorem NdAt.leaf (w : World) (S : Nat → Prop) (d : Nat) (o : List UInt8) (i : Int) (t : List UInt8) : NdAt w S (d + 1) (.agg #[.string ⟨o.toArray⟩, .int .i64 i, .string ⟨t.toArray⟩, .int .i64 0, .slice none 0 0, .slice none 0 0]) (.mk o i t ty0 []) :=
  ⟨none, 0, none, 0, rfl, ⟨1, ty_zero w S⟩, Nat.le_refl _, fun h => absurd h (by simp [Nd.kids])⟩

theorem cell6_0 {w : World} {g : Nat} {a0 a1 a2 a3 a4 a5 : Value} {t : TypeId} (h : w.heap[g]? = some (.cells #[a0, a1, a2, a3, a4, a5] t (0, 0))) : w.cell? ⟨g, 0, none⟩ = some a0 := by simp [World.cell?, h]
theorem cell6_1 {w : World} {g : Nat} {a0 a1 a2 a3 a4 a5 : Value} {t : TypeId} (h : w.heap[g]? = some (.cells #[a0, a1, a2, a3, a4, a5] t (0, 0))) : w.cell? ⟨g, 1, none⟩ = some a1 := by simp [World.cell?, h]
theorem cell6_2 {w : World} {g : Nat} {a0 a1 a2 a3 a4 a5 : Value} {t : TypeId} (h : w.heap[g]? = some (.cells #[a0, a1, a2, a3, a4, a5] t (0, 0))) : w.cell? ⟨g, 2, none⟩ = some a2 := by simp [World.cell?, h]
theorem cell6_3 {w : World} {g : Nat} {a0 a1 a2 a3 a4 a5 : Value} {t : TypeId} (h : w.heap[g]? = some (.cells #[a0, a1, a2, a3, a4, a5] t (0, 0))) : w.cell? ⟨g, 3, none⟩ = some a3 := by simp [World.cell?, h]
theorem cell6_4 {w : World} {g : Nat} {a0 a1 a2 a3 a4 a5 : Value} {t : TypeId} (h : w.heap[g]? = some (.cells #[a0, a1, a2, a3, a4, a5] t (0, 0))) : w.cell? ⟨g, 4, none⟩ = some a4 := by simp [World.cell?, h]
theorem cell6_5 {w : World} {g : Nat} {a0 a1 a2 a3 a4 a5 : Value} {t : TypeId} (h : w.heap[g]? = some (.cells #[a0, a1, a2, a3, a4, a5] t (0, 0))) : w.cell? ⟨g, 5, none⟩ = some a5 := by simp [World.cell?, h]
theorem put6_heap {w : World} {g : Nat} {a0 a1 a2 a3 a4 a5 b0 b1 b2 b3 b4 b5 : Value} {t : TypeId} (h : w.heap[g]? = some (.cells #[a0, a1, a2, a3, a4, a5] t (0, 0))) : ((((((w.setCell ⟨g, 0, none⟩ b0).setCell ⟨g, 1, none⟩ b1).setCell ⟨g, 2, none⟩ b2).setCell ⟨g, 3, none⟩ b3).setCell ⟨g, 4, none⟩ b4).setCell ⟨g, 5, none⟩ b5).heap[g]? = some (.cells #[b0, b1, b2, b3, b4, b5] t (0, 0)) := by
  simp [World.setCell, Array.getElem?_modify, h]
theorem set6_block {w : World} {g b : Nat} {b0 b1 b2 b3 b4 b5 : Value} (hne : b ≠ g) : ((((((w.setCell ⟨g, 0, none⟩ b0).setCell ⟨g, 1, none⟩ b1).setCell ⟨g, 2, none⟩ b2).setCell ⟨g, 3, none⟩ b3).setCell ⟨g, 4, none⟩ b4).setCell ⟨g, 5, none⟩ b5).heap[b]? = w.heap[b]? := by
  rw [Below.heap_setCell _ _ _ _ hne, Below.heap_setCell _ _ _ _ hne, Below.heap_setCell _ _ _ _ hne, Below.heap_setCell _ _ _ _ hne, Below.heap_setCell _ _ _ _ hne, Below.heap_setCell _ _ _ _ hne]

/-- Some term or other. -/
def JunkN (v : Value) : Prop := ∃ (o : ByteArray) (i : Int) (t : ByteArray) (k : Int) (A : Option Addr) (n c : Nat) (K : Option Addr) (m e : Nat), v = .agg #[.string o, .int .i64 i, .string t, .int .i64 k, .slice A n c, .slice K m e]
theorem NdAt.junk {w : World} {S : Nat → Prop} {d : Nat} {v : Value} {n : Nd} (h : NdAt w S d v n) : JunkN v := by
  obtain ⟨A, c, K, k, rfl⟩ := h.form
  exact ⟨_, _, _, _, _, _, _, _, _, _, rfl⟩
end Go.Proofs.YtllnamhgnbdkmaaGreatDoor
namespace Go.Proofs.YtllnamhgnbdkmaaGreatDoor
open Go.RowKit

theorem str_bl (s : ByteArray) : (⟨(bl s).toArray⟩ : ByteArray) = s := by
  unfold bl
  cases s; simp
def hasB (p : List UInt8) (b : UInt8) : Bool := decide (0 ≤ Lib.indexByte p b)
/-- Whether all of it is a name. -/
def isNm (l : List UInt8) : Bool := decide (l ≠ []) && decide (nmL l = l.length) && (wdP l).isNone

end Go.Proofs.YtllnamhgnbdkmaaGreatDoor

namespace Go.Proofs.YtllnamhgnbdkmaaGreatDoor
open Go.RowKit

def nameN (t : List UInt8) : Nd := .mk [110, 97, 109, 101] 0 t ty0 []
/-- A name, where no other expression may stand. -/
def nameR (l : List UInt8) (m : Nat) : Nat × Option Nd := (m + (spel l m).length, if isNm (spel l m) then some (nameN (spel l m)) else none)

theorem spel_le (l : List UInt8) (m : Nat) : (spel l m).length ≤ 16 := by
  unfold spel
  have := nmL_le (l.drop m)
  rw [List.length_take]
  omega

end Go.Proofs.YtllnamhgnbdkmaaGreatDoor
namespace Go.Proofs.YtllnamhgnbdkmaaGreatDoor
open Go.RowKit

/-- A scope that is entered five statements ahead of the one label that its jumps go to. -/
theorem wp_scope_enter5 {P : Program} {a : Act} {w : World} {Q : Exit → Act → World → Prop} {p1 p2 p3 p4 p5 rest : Code} {l : Nat} (J : Act → World → Prop) (μ : Act → World → Nat)
    (hf : findLabel (p1.seq (p2.seq (p3.seq (p4.seq (p5.seq ((Code.label l).seq rest)))))) l = some (Code.skip.seq rest))
    (first : p1.wp P (Exit.then (fun a w => p2.wp P (Exit.then (fun a w => p3.wp P (Exit.then (fun a w => p4.wp P (Exit.then (fun a w => p5.wp P (Exit.then J fun _ _ _ => False) a w) fun _ _ _ => False) a w) fun _ _ _ => False) a w) fun _ _ _ => False) a w) fun _ _ _ => False) a w)
    (pass : ∀ a w, J a w → rest.wp P (Exit.jump l (fun a' w' => J a' w' ∧ μ a' w' < μ a w) Q) a w) : (Code.scope (p1.seq (p2.seq (p3.seq (p4.seq (p5.seq ((Code.label l).seq rest))))))).wp P Q a w := by
  refine wp_scope_jumps l J μ hf ?_ (fun a w hJ => wp_seq (wp_skip (pass a w hJ)))
  refine wp_seq (wp_mono first fun e a1 w1 h => ?_)
  cases e with
  | normal =>
    refine wp_seq (wp_mono h fun e a1 w1 h => ?_)
    cases e with
    | normal =>
      refine wp_seq (wp_mono h fun e a1 w1 h => ?_)
      cases e with
      | normal =>
        refine wp_seq (wp_mono h fun e a1 w1 h => ?_)
        cases e with
        | normal =>
          refine wp_seq (wp_mono h fun e a1 w1 h => ?_)
          cases e with
          | normal =>
            refine wp_seq (wp_label ?_)
            refine wp_mono (pass a1 w1 h) fun e a2 w2 h2 => ?_
            cases e with
            | goto l' => exact ⟨h2.1, h2.2.1⟩
            | _ => exact h2
          | _ => exact h.elim
        | _ => exact h.elim
      | _ => exact h.elim
    | _ => exact h.elim
  | _ => exact h.elim

theorem nm_on {l : List UInt8} {neg : Bool} {m n : Nat} {begun : Bool} : nmF l neg (l.length - m) m n begun = (if isDig (lkB l m) && !barN neg n begun (lkB l m - 48).toNat then nmF l neg (l.length - (m + 1)) (m + 1) (10 * n + (lkB l m - 48).toNat) true else (m, n, begun)) := by
  rcases Nat.lt_or_ge m l.length with h | h
  · rw [show l.length - m = (l.length - (m + 1)) + 1 by omega]
    rfl
  · have h0 : isDig (lkB l m) = false := by rw [lkB_end h]; decide
    rw [show l.length - m = 0 by omega, h0]
    rfl

theorem sub48 (b : UInt8) : IntKind.u8.wrap ((b.toNat : Int) - 48) = ((b - 48).toNat : Int) := by
  have hb := b.toNat_lt
  have h : (b - 48).toNat = (b.toNat + 208) % 256 := by
    rw [UInt8.toNat_sub]
    simp
    omega
  rw [h]
  simp only [IntKind.wrap, IntKind.bits, IntKind.signed]
  simp
  omega

/-- A number's value. -/
def numV (neg : Bool) (n : Nat) : Int := if neg then -(n : Int) else (n : Int)
theorem neg_back (n : Nat) (h : n ≤ 9223372036854775808) : wrap64 (IntKind.u64.wrap (-(n : Int))) = -(n : Int) := by
  simp only [wrap64, IntKind.wrap, IntKind.bits, IntKind.signed]
  simp
  omega
theorem pos_back (n : Nat) (h : n ≤ 9223372036854775807) : wrap64 (n : Int) = (n : Int) := by
  simp only [wrap64]
  omega

def numS (l : List UInt8) (m : Nat) : Nat × Nat × Bool := nmF l (rdB l m 45) (l.length - nx (rdB l m 45) m) (nx (rdB l m 45) m) 0 false

end Go.Proofs.YtllnamhgnbdkmaaGreatDoor
