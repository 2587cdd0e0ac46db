/-
Check and Size; the walk of ExprSizes.
-/
import Derived.Test.YtdmkcemgbajdkaaDoorSm
import Derived.Test.YtdmkcemgbajdkaaDoorSzp
import Derived.Test.YtdmkcemgbajdkaaDoorAwk
namespace Go.Proofs.YtdmkcemgbajdkaaDoor
open Go.RowKit

/-- What Check answers with. -/
def CkOut (e : Ending) : Option StW → Prop
  | none => e = .returned (.int .i64 110)
  | some _ => e = .returned (.int .i64 0)
/-- What Size answers with. -/
def SzOut (e : Ending) : Option StW → Prop
  | none => e = .returned (.tuple #[.int .i64 0, .int .i64 110])
  | some s => e = .returned (.tuple #[.int .i64 (s.2 : Int), .int .i64 0])

set_option maxRecDepth 100000 in
set_option maxHeartbeats 2000000 in
theorem exprCheck_any (d : Nat) (S : Nat → Prop) (v : Value) (n : Nd) (w : World) (hN : NdAt w S d v n) (hR : RgN 24 n) (hG : Gl w) :
    Calls Tryd.prog 14 #[v] w fun e w' => CkOut e (showW n) ∧ Below w.heap.size w w' := by
  obtain ⟨A, c, K, kc, rfl⟩ := hN.form
  have hGl := hG.kd.lt
  have hba := (Below.refl w.heap.size w).alloc (Nat.le_refl _) (.cells #[.string ⟨n.op.toArray⟩, .int .i64 n.int, .string ⟨n.text.toArray⟩, .int .i64 n.ty.kind, .slice A n.ty.args.length c, .slice K n.kids.length kc] 28)
  have hs1 : (w.alloc (.cells #[.string ⟨n.op.toArray⟩, .int .i64 n.int, .string ⟨n.text.toArray⟩, .int .i64 n.ty.kind, .slice A n.ty.args.length c, .slice K n.kids.length kc] 28)).heap.size = w.heap.size + 1 := by simp
  have hT := written_any d S _ n _ (NdAt.below hN ((Below.refl _ w).alloc (Nat.le_refl _) (.cells #[.string ⟨n.op.toArray⟩, .int .i64 n.int, .string ⟨n.text.toArray⟩, .int .i64 n.ty.kind, .slice A n.ty.args.length c, .slice K n.kids.length kc] 28))) hR (hG.below hba hGl)
  have HT := Lib.hid hT
  have HBA := Lib.hid hba
  clear hN hG hR hT hba
  go_enter Tryd.func14, Tryd.ntmps14
  go_wp2_with (fail)
  refine HT.out.mono ?_
  clear HT
  generalize w.alloc (.cells #[.string ⟨n.op.toArray⟩, .int .i64 n.int, .string ⟨n.text.toArray⟩, .int .i64 n.ty.kind, .slice A n.ty.args.length c, .slice K n.kids.length kc] 28) = w1 at *
  intro e w2 h2
  revert h2
  cases hq : showW n with
  | none =>
    intro h2
    have HQ := Lib.hid hq
    clear hq
    obtain ⟨rfl, hb2⟩ := h2
    have HB2 := Lib.hid (HBA.out.trans (hb2.mono (by omega)))
    clear hb2
    go_wp2_with (fail)
    go_ret
    rw [HQ.out]
    exact ⟨rfl, HB2.out⟩
  | some s =>
    intro h2
    have HQ := Lib.hid hq
    clear hq
    obtain ⟨b, hb, rfl, hw2, hb2, hne⟩ := h2
    have HB2 := Lib.hid (HBA.out.trans (hb2.mono (by omega)))
    clear hb2 hw2 hne
    go_wp2_with (fail)
    go_ret
    rw [HQ.out]
    exact ⟨rfl, HB2.out⟩

set_option maxRecDepth 100000 in
set_option maxHeartbeats 2000000 in
theorem exprSize_any (d : Nat) (S : Nat → Prop) (v : Value) (n : Nd) (w : World) (hN : NdAt w S d v n) (hR : RgN 24 n) (hG : Gl w) :
    Calls Tryd.prog 15 #[v] w fun e w' => SzOut e (showW n) ∧ Below w.heap.size w w' := by
  obtain ⟨A, c, K, kc, rfl⟩ := hN.form
  have hGl := hG.kd.lt
  have hba := (Below.refl w.heap.size w).alloc (Nat.le_refl _) (.cells #[.string ⟨n.op.toArray⟩, .int .i64 n.int, .string ⟨n.text.toArray⟩, .int .i64 n.ty.kind, .slice A n.ty.args.length c, .slice K n.kids.length kc] 28)
  have hs1 : (w.alloc (.cells #[.string ⟨n.op.toArray⟩, .int .i64 n.int, .string ⟨n.text.toArray⟩, .int .i64 n.ty.kind, .slice A n.ty.args.length c, .slice K n.kids.length kc] 28)).heap.size = w.heap.size + 1 := by simp
  have hT := written_any d S _ n _ (NdAt.below hN ((Below.refl _ w).alloc (Nat.le_refl _) (.cells #[.string ⟨n.op.toArray⟩, .int .i64 n.int, .string ⟨n.text.toArray⟩, .int .i64 n.ty.kind, .slice A n.ty.args.length c, .slice K n.kids.length kc] 28))) hR (hG.below hba hGl)
  have HT := Lib.hid hT
  have HBA := Lib.hid hba
  clear hN hG hR hT hba
  go_enter Tryd.func15, Tryd.ntmps15
  go_wp2_with (fail)
  refine HT.out.mono ?_
  clear HT
  generalize w.alloc (.cells #[.string ⟨n.op.toArray⟩, .int .i64 n.int, .string ⟨n.text.toArray⟩, .int .i64 n.ty.kind, .slice A n.ty.args.length c, .slice K n.kids.length kc] 28) = w1 at *
  intro e w2 h2
  revert h2
  cases hq : showW n with
  | none =>
    intro h2
    have HQ := Lib.hid hq
    clear hq
    obtain ⟨rfl, hb2⟩ := h2
    have HB2 := Lib.hid (HBA.out.trans (hb2.mono (by omega)))
    clear hb2
    go_wp2_with (fail)
    go_ret2
    rw [HQ.out]
    exact ⟨rfl, HB2.out⟩
  | some s =>
    intro h2
    have HQ := Lib.hid hq
    clear hq
    obtain ⟨b, hb, rfl, hw2, hb2, hne⟩ := h2
    have HB2 := Lib.hid (HBA.out.trans (hb2.mono (by omega)))
    obtain ⟨p, hp⟩ := hw2.at
    obtain ⟨v1, hcells, _, _⟩ := hp
    have d2 := cell3_2 hcells
    have hbl := cell_lt hcells
    clear hb2 hw2 hne hcells
    go_wp2_with (fail)
    go_ret2
    rw [HQ.out]
    exact ⟨rfl, HB2.out⟩
end Go.Proofs.YtdmkcemgbajdkaaDoor
