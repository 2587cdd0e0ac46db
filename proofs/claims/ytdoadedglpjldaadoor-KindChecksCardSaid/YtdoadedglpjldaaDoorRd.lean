import Derived.Test.YtdoadedglpjldaaDoorWds
import Derived.BigQuiet
import Derived.Deep.QuietTactic
import Derived.StillTailTactics
import Derived.ScopeJumps
namespace Go.Proofs.YtdoadedglpjldaaDoor
open Go.RowKit

/-- Block R holds a reader: its text, and the place where it stands. -/
def Rdr (w : World) (R : Nat) (s : ByteArray) (at_ : Nat) : Prop := w.heap[R]? = some (.cells #[.string s, .int .i64 (at_ : Int)] 77 (0, 0))

theorem Rdr.c0 {w : World} {R : Nat} {s : ByteArray} {n : Nat} (h : Rdr w R s n) : w.cell? ⟨R, 0, none⟩ = some (.string s) := by
  unfold Rdr at h; simp [World.cell?, h]
theorem Rdr.c1 {w : World} {R : Nat} {s : ByteArray} {n : Nat} (h : Rdr w R s n) : w.cell? ⟨R, 1, none⟩ = some (.int .i64 (n : Int)) := by
  unfold Rdr at h; simp [World.cell?, h]
theorem Rdr.f1 {w : World} {R : Nat} {s : ByteArray} {n : Nat} (h : Rdr w R s n) : w.frozen? ⟨R, 1, none⟩ = false := by
  unfold Rdr at h; simp [World.frozen?, h]
theorem Rdr.lt {w : World} {R : Nat} {s : ByteArray} {n : Nat} (h : Rdr w R s n) : R < w.heap.size := by
  unfold Rdr at h; exact (Array.getElem?_eq_some_iff.1 h).1
theorem Rdr.set_ {w : World} {R : Nat} {s : ByteArray} {n : Nat} (h : Rdr w R s n) (m : Int) (k : Nat) (hm : m = k) : Rdr (w.setCell ⟨R, 1, none⟩ (.int .i64 m)) R s k := by
  subst hm
  unfold Rdr at h ⊢
  simp [World.setCell, Array.getElem?_modify, h]
theorem Rdr.kept {w w' : World} {R : Nat} {s : ByteArray} {n : Nat} (h : Rdr w R s n) (hw : w'.heap[R]? = w.heap[R]?) : Rdr w' R s n := hw.trans h

/-- Only block R, and what is new, has turned. -/
def Only (R : Nat) (w w' : World) : Prop := w.grownBy w' (some R)
theorem Only.refl (R : Nat) (w : World) : Only R w w := ⟨rfl, rfl, rfl, Nat.le_refl _, fun _ _ _ => rfl⟩
theorem Only.trans {R : Nat} {a b c : World} (h : Only R a b) (k : Only R b c) : Only R a c :=
  ⟨k.os.trans h.os, k.tape.trans h.tape, k.output.trans h.output, Nat.le_trans h.size k.size, fun i hi hne => (k.block i (Nat.lt_of_lt_of_le hi h.size) hne).trans (h.block i hi hne)⟩
theorem Only.of_below {R : Nat} {a b : World} (h : Below a.heap.size a b) : Only R a b := ⟨h.os, h.tape, h.output, h.size, fun i hi _ => h.block i hi⟩
theorem Only.set_ (R i : Nat) (w : World) (u : Value) : Only R w (w.setCell ⟨R, i, none⟩ u) :=
  ⟨rfl, rfl, rfl, by simp [World.setCell], fun k _ hk => Below.heap_setCell w _ u k (fun e => hk (by rw [e]))⟩
theorem Only.drewN {R : Nat} {a b : World} (h : Only R a b) (n : Nat) : Only R a (b.drewN n) := ⟨h.os, h.tape, h.output, h.size, h.block⟩
theorem Only.below {R B : Nat} {a b : World} (h : Only R a b) (hR : B ≤ R) (hB : B ≤ a.heap.size) : Below B a b := ⟨h.os, h.tape, h.output, h.size, fun k hk => h.block k (by omega) (fun e => by injection e; omega)⟩

set_option maxRecDepth 100000 in
theorem readByte_end (R : Nat) (s : ByteArray) (b : UInt8) (w : World) (h : Rdr w R s s.size) :
    Calls Tryd.prog 45 #[.pointer (some ⟨R, 0, none⟩), .int .u8 b.toNat] w fun e w' => e = .returned (.bool false) ∧ ∃ n, w' = w.drewN n := by
  have c0 := h.c0
  have c1 := h.c1
  have f1 := h.f1
  have hd : (((s.size : Int)) == (s.size : Int)) = true := by simp
  go_enter Tryd.func45, Tryd.ntmps45
  go_wp2
  go_quiet (fail)
  go_wp2
  go_ret
  exact ⟨rfl, _, rfl⟩

set_option maxRecDepth 100000 in
theorem readByte_no (R : Nat) (s : ByteArray) (n : Nat) (b : UInt8) (w : World) (h : Rdr w R s n) (hn : n < s.size) (hb : s[n] ≠ b) :
    Calls Tryd.prog 45 #[.pointer (some ⟨R, 0, none⟩), .int .u8 b.toNat] w fun e w' => e = .returned (.bool false) ∧ ∃ n, w' = w.drewN n := by
  have c0 := h.c0
  have c1 := h.c1
  have f1 := h.f1
  have hd : ((n : Int) == (s.size : Int)) = false := by simp; omega
  have hx : ((s[n].toNat : Int) != (b.toNat : Int)) = true := by simp [bne, u8_beq_false hb]
  clear hb
  go_enter Tryd.func45, Tryd.ntmps45
  go_wp2
  go_quiet (fail)
  go_wp2
  go_ret
  exact ⟨rfl, _, rfl⟩

set_option maxRecDepth 100000 in
theorem readByte_yes (R : Nat) (s : ByteArray) (n : Nat) (b : UInt8) (w : World) (h : Rdr w R s n) (hs : s.size ≤ 1000000) (hn : n < s.size) (hb : s[n] = b) :
    Calls Tryd.prog 45 #[.pointer (some ⟨R, 0, none⟩), .int .u8 b.toNat] w fun e w' => e = .returned (.bool true) ∧ Rdr w' R s (n + 1) ∧ Only R w w' := by
  have c0 := h.c0
  have c1 := h.c1
  have f1 := h.f1
  have hd : ((n : Int) == (s.size : Int)) = false := by simp; omega
  have hx : ((s[n].toNat : Int) != (b.toNat : Int)) = false := by simp [bne, u8_beq_true hb]
  clear hb
  go_enter Tryd.func45, Tryd.ntmps45
  go_wp2
  go_quiet (fail)
  go_wp2
  go_ret
  exact ⟨rfl, Rdr.set_ (w := w.drewN nq) h _ _ (by omega), ((Only.refl R w).drewN _).trans (Only.set_ _ _ _ _)⟩
end Go.Proofs.YtdoadedglpjldaaDoor
