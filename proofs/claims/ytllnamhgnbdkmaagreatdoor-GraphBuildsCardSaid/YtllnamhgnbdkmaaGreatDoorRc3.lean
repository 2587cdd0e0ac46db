/-
Package expr: what its reader reads, as plain functions over a text's bytes. The reader of package expr: look, the kinds of bytes, skipBlanks, readByte, readMark, readDigit. The reader of package expr: readCoded, readLetter. The reader of package expr: nameLength, readSpelt.
-/
import Derived.Test.YtllnamhgnbdkmaaGreatDoorBs
import Derived.Test.YtllnamhgnbdkmaaGreatDoorShelf
import Derived.Lib.Repeat
namespace Go.Proofs.YtllnamhgnbdkmaaGreatDoor
open Go.RowKit
def lkB (l : List UInt8) (m : Nat) : UInt8 := (l[m]?).getD 0
def skF (l : List UInt8) : Nat → Nat → Nat
  | 0, m => m
  | f + 1, m => if lkB l m = 32 then skF l f (m + 1) else m
def skip (l : List UInt8) (m : Nat) : Nat := skF l (l.length - m) m
end Go.Proofs.YtllnamhgnbdkmaaGreatDoor
namespace Go.Proofs.YtllnamhgnbdkmaaGreatDoor
open Go.RowKit
def bl (s : ByteArray) : List UInt8 := s.data.toList
theorem ret_bool {a b : Bool} (h : a = b) : Ending.returned (.bool a) = .returned (.bool b) := by rw [h]
end Go.Proofs.YtllnamhgnbdkmaaGreatDoor
namespace Go.Proofs.YtllnamhgnbdkmaaGreatDoor
open Go.RowKit
def nx (ok : Bool) (m : Nat) : Nat := if ok then m + 1 else m
end Go.Proofs.YtllnamhgnbdkmaaGreatDoor
namespace Go.Proofs.YtllnamhgnbdkmaaGreatDoor
open Go.RowKit
end Go.Proofs.YtllnamhgnbdkmaaGreatDoor
namespace Go.Proofs.YtllnamhgnbdkmaaGreatDoor
open Go.RowKit
end Go.Proofs.YtllnamhgnbdkmaaGreatDoor
namespace Go.Proofs.YtllnamhgnbdkmaaGreatDoor
open Go.RowKit
theorem info5 : (Tryz.prog.info? 5).map (fun i => (i.zero, i.size, i.bytes)) = some (some (.int .u8 0), 1, 1) := by kernel_rfl
end Go.Proofs.YtllnamhgnbdkmaaGreatDoor
namespace Go.Proofs.YtllnamhgnbdkmaaGreatDoor
open Go.RowKit
end Go.Proofs.YtllnamhgnbdkmaaGreatDoor
namespace Go.Proofs.YtllnamhgnbdkmaaGreatDoor
open Go.RowKit
theorem clone_any (s : ByteArray) (w : World) (hs : s.size ≤ 1000000) : Calls Tryz.prog 86 #[.string s] w fun e w' => e = .returned (.string s) ∧ Below w.heap.size w w' := by
  go_enter Tryz.func86, Tryz.ntmps86
  go_wp2_with (fail)
  refine (Tryz.stringslite_Clone s w (by omega)).mono ?_
  rintro e w2 ⟨rfl, hb⟩
  go_wp2_with (fail)
  go_ret
  exact ⟨rfl, hb⟩
end Go.Proofs.YtllnamhgnbdkmaaGreatDoor
namespace Go.Proofs.YtllnamhgnbdkmaaGreatDoor
open Go.RowKit
end Go.Proofs.YtllnamhgnbdkmaaGreatDoor
namespace Go.Proofs.YtllnamhgnbdkmaaGreatDoor
open Go.RowKit
end Go.Proofs.YtllnamhgnbdkmaaGreatDoor
namespace Go.Proofs.YtllnamhgnbdkmaaGreatDoor
open Go.RowKit
end Go.Proofs.YtllnamhgnbdkmaaGreatDoor
namespace Go.Proofs.YtllnamhgnbdkmaaGreatDoor
open Go.RowKit
end Go.Proofs.YtllnamhgnbdkmaaGreatDoor
namespace Go.Proofs.YtllnamhgnbdkmaaGreatDoor
open Go.RowKit
end Go.Proofs.YtllnamhgnbdkmaaGreatDoor
namespace Go.Proofs.YtllnamhgnbdkmaaGreatDoor
open Go.RowKit
inductive Nd where
  | mk (op : List UInt8) (int : Int) (text : List UInt8) (ty : Ty) (kids : List Nd)
def Nd.op : Nd → List UInt8 | .mk o _ _ _ _ => o
def Nd.int : Nd → Int | .mk _ i _ _ _ => i
def Nd.text : Nd → List UInt8 | .mk _ _ t _ _ => t
def Nd.ty : Nd → Ty | .mk _ _ _ t _ => t
def Nd.kids : Nd → List Nd | .mk _ _ _ _ l => l
def NdAt (w : World) (S : Nat → Prop) : Nat → Value → Nd → Prop
  | 0, _, _ => False
  | d + 1, v, n => ∃ A c K k, v = .agg #[.string ⟨n.op.toArray⟩, .int .i64 n.int, .string ⟨n.text.toArray⟩, .int .i64 n.ty.kind, .slice A n.ty.args.length c, .slice K n.kids.length k] ∧
      (∃ dt, TyAt w S dt (.agg #[.int .i64 n.ty.kind, .slice A n.ty.args.length c]) n.ty) ∧ n.kids.length ≤ k ∧
      (0 < n.kids.length → ∃ b o, K = some ⟨b, o, none⟩ ∧ S b ∧ ∀ (j : Nat) (a : Nd), n.kids[j]? = some a → ∃ u0 u1 u2 u3 u4 u5, w.cell? ⟨b, o + j * 6, none⟩ = some u0 ∧ w.cell? ⟨b, o + j * 6 + 1, none⟩ = some u1 ∧ w.cell? ⟨b, o + j * 6 + 2, none⟩ = some u2 ∧ w.cell? ⟨b, o + j * 6 + 3, none⟩ = some u3 ∧ w.cell? ⟨b, o + j * 6 + 4, none⟩ = some u4 ∧ w.cell? ⟨b, o + j * 6 + 5, none⟩ = some u5 ∧ NdAt w S d (.agg #[u0, u1, u2, u3, u4, u5]) a)
theorem NdAt.form {w : World} {S : Nat → Prop} {d : Nat} {v : Value} {n : Nd} (h : NdAt w S d v n) : ∃ A c K k, v = .agg #[.string ⟨n.op.toArray⟩, .int .i64 n.int, .string ⟨n.text.toArray⟩, .int .i64 n.ty.kind, .slice A n.ty.args.length c, .slice K n.kids.length k] := by
  cases d with
  | zero => exact h.elim
  | succ d => obtain ⟨A, c, K, k, hv, _⟩ := h; exact ⟨A, c, K, k, hv⟩
theorem NdAt.move {w w' : World} {S S' : Nat → Prop} (hk : ∀ b, S b → b < w.heap.size → S' b ∧ ∀ o, w'.cell? ⟨b, o, none⟩ = w.cell? ⟨b, o, none⟩) : ∀ (d : Nat) (v : Value) (n : Nd), NdAt w S d v n → NdAt w' S' d v n
  | 0, _, _, h => h
  | d + 1, v, n, ⟨A, c, K, k, hv, ⟨dt, ht⟩, hlk, h⟩ => ⟨A, c, K, k, hv, ⟨dt, TyAt.move hk dt _ _ ht⟩, hlk, fun hl => by
      obtain ⟨b, o, hK, hS, hj⟩ := h hl
      have hlt : b < w.heap.size := by
        obtain ⟨u0, u1, u2, u3, u4, u5, h0, _⟩ := hj 0 _ (List.getElem?_eq_getElem hl)
        exact World.block_lt_of_cell? w _ h0
      obtain ⟨hS', hcell⟩ := hk b hS hlt
      refine ⟨b, o, hK, hS', fun j a ha => ?_⟩
      obtain ⟨u0, u1, u2, u3, u4, u5, h0, h1, h2, h3, h4, h5, h6⟩ := hj j a ha
      exact ⟨u0, u1, u2, u3, u4, u5, (hcell _).trans h0, (hcell _).trans h1, (hcell _).trans h2, (hcell _).trans h3, (hcell _).trans h4, (hcell _).trans h5, NdAt.move hk d _ _ h6⟩⟩
theorem NdAt.below {w w' : World} {S : Nat → Prop} {d : Nat} {v : Value} {n : Nd} (h : NdAt w S d v n) (hb : Below w.heap.size w w') : NdAt w' S d v n :=
  NdAt.move (fun b hS hl => ⟨hS, fun o => hb.cell (p := ⟨b, o, none⟩) hl⟩) d v n h
theorem NdAt.only {w w' : World} {R d : Nat} {S : Nat → Prop} {v : Value} {n : Nd} (h : NdAt w S d v n) (hS : ∀ b, S b → b ≠ R) (ho : Only R w w') : NdAt w' S d v n :=
  NdAt.move (fun b hb hl => ⟨hb, fun _ => World.cell?_of_block (ho.block b hl (by simpa using hS b hb))⟩) d v n h
end Go.Proofs.YtllnamhgnbdkmaaGreatDoor
namespace Go.Proofs.YtllnamhgnbdkmaaGreatDoor
open Go.RowKit
end Go.Proofs.YtllnamhgnbdkmaaGreatDoor
namespace Go.Proofs.YtllnamhgnbdkmaaGreatDoor
open Go.RowKit
end Go.Proofs.YtllnamhgnbdkmaaGreatDoor
namespace Go.Proofs.YtllnamhgnbdkmaaGreatDoor
open Go.RowKit
end Go.Proofs.YtllnamhgnbdkmaaGreatDoor
