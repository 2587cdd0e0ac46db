/-
Package expr: readPart, whatever the part is.
-/
import Derived.Test.YtdmkcemgbajdkaaDoorPw
import Derived.Test.YtdmkcemgbajdkaaDoorRt
namespace Go.Proofs.YtdmkcemgbajdkaaDoor
open Go.RowKit

theorem glob_only {R : Nat} (hR : 2 < R) {w w' : World} (h : Only R w w') (hG : Knd.Glob w) : Knd.Glob w' := hG.kept (h.block 2 hG.lt (by simp; omega))
theorem glob_kv {R P : Nat} {vs : Value} (hR : 2 < R) (hP : 2 < P) (hv : vs.ownBlock ≠ some 2) {w w' : World} (h : Kv R P vs w w') (hG : Knd.Glob w) : Knd.Glob w' := hG.kept (h.block 2 hG.lt (by omega) (by omega) (fun e => hv e.symm))

theorem index_of {p : List UInt8} {b : UInt8} (h : b ∈ p) : 0 ≤ Lib.indexByte p b := by
  induction p with
  | nil => cases h
  | cons c l ih =>
    unfold Lib.indexByte
    split
    · omega
    · rename_i hc
      rcases List.mem_cons.1 h with e | e
      · subst e; simp at hc
      · have := ih e
        have hne : (Lib.indexByte l b == -1) = false := beq_eq_false_iff_ne.2 (by omega)
        rw [hne]
        simp
        omega
theorem hasB_of {p : List UInt8} {b : UInt8} (h : b ∈ p) : hasB p b = true := by
  unfold hasB
  rw [decide_eq_true_eq]
  exact index_of h

/-- readExpr's contract, at a room. -/
def ExOk (r R : Nat) (s : ByteArray) : Prop := ∀ (m : Nat) (w : World), Knd.Glob w → Rdr w R s m → Calls Tryd.prog 17 #[.pointer (some ⟨R, 0, none⟩), .int .i64 (r : Int)] w fun e w' => NOut (r + 1) R s w e w' (exprR Knd.parseT (bl s) r m)

theorem word_part (r R P : Nat) (s : ByteArray) (hR : 2 < R) (hRP : R < P) (hX : 0 < r → ExOk r R s) (b : UInt8) (hb : (b = 100 ∨ b = 101 ∨ b = 110 ∨ b = 116) ∧ (b = 101 → 0 < r)) (m : Nat) (nd : Nd) (A : Option Addr) (c : Nat) (vs : Value) (cs : List Value) (w : World)
    (hG : Knd.Glob w) (hrd : Rdr w R s m) (hpn : PnI w P (r + 1) nd A c vs cs) (hkl : nd.kids.length ≤ 1000) :
    Calls Tryd.prog 51 #[.pointer (some ⟨R, 0, none⟩), .pointer (some ⟨P, 0, none⟩), .int .u8 (b.toNat : Int), .int .i64 (r : Int)] w fun e w' => POut (r + 1) R P s vs w e w' (partR Knd.parseT (exprR Knd.parseT (bl s) r) (bl s) b m nd) := by
  have hgo : ∀ w w', Only R w w' → Knd.Glob w → Knd.Glob w' := fun w w' h hG => glob_only hR h hG
  obtain ⟨hb, h0⟩ := hb
  rcases hb with rfl | rfl | rfl | rfl
  · rw [show (((100 : UInt8).toNat : Nat) : Int) = 100 by decide]
    exact part_digit Knd.parseT _ r R P s m (r : Int) nd A c vs cs w hrd hpn hRP
  · rw [show (((101 : UInt8).toNat : Nat) : Int) = 101 by decide]
    exact part_expr Knd.parseT _ r R P s m (r : Int) Knd.Glob hgo (hX (h0 rfl)) nd A c vs cs w hG hrd hpn hRP hkl
  · rw [show (((110 : UInt8).toNat : Nat) : Int) = 110 by decide]
    exact part_name Knd.parseT _ r R P s m (r : Int) nd A c vs cs w hrd hpn hRP hkl
  · rw [show (((116 : UInt8).toNat : Nat) : Int) = 116 by decide]
    exact part_type Knd.parseT _ r R P s m (r : Int) nd A c vs cs w hrd hpn hRP Knd.Glob hgo hG (fun m w hG h => readType_any R s m w hR hG h)
end Go.Proofs.YtdmkcemgbajdkaaDoor
