import Derived.Test.YtaecndmncpfpfaaGreatDoorWu
import Derived.Test.YtaecndmncpfpfaaGreatDoorRp
import Derived.KernelRfl
import Derived.Test.YtaecndmncpfpfaaGreatDoorSm
namespace Go.Proofs.YtaecndmncpfpfaaGreatDoor
open Go.RowKit
theorem itoa_1 : Lib.itoa 1 = [49] := by
 unfold Lib.itoa
 rw [if_neg (by decide), Lib.decDigits, dif_pos (by decide)]
 rfl
end Go.Proofs.YtaecndmncpfpfaaGreatDoor
namespace Go.Proofs.YtaecndmncpfpfaaGreatDoor
open Go.RowKit
theorem yG {i : Int} {t : List UInt8} {ty : Ty} {kids : List Nd} (h : bareN i t ty kids = true) : kids = [] := by
 unfold bareN at h
 simp only [Bool.and_eq_true, decide_eq_true_eq] at h
 exact List.eq_nil_of_length_eq_zero h.2.2.2.2
end Go.Proofs.YtaecndmncpfpfaaGreatDoor
namespace Go.Proofs.YtaecndmncpfpfaaGreatDoor
open Go.RowKit
def CkOut (e : Ending) : Option StW → Prop
 | none => e = .returned (.int .i64 110)
 | some _ => e = .returned (.int .i64 0)
set_option maxRecDepth 100000 in
set_option maxHeartbeats 2000000 in
theorem exprCheck_any (d : Nat) (S : Nat → Prop) (v : Value) (n : Nd) (w : World) (hN : NdAt w S d v n) (hR : RgN 24 n) (hG : Gl w) :
    Calls Tryz.prog 27 #[v] w fun e w' => CkOut e (showW n) ∧ Below w.heap.size w w' := by
 obtain ⟨A, c, K, kc, rfl⟩ := hN.form
 have hGl := hG.lt2
 have hba := (Below.refl w.heap.size w).alloc (Nat.le_refl _) (.cells #[.string ⟨n.op.toArray⟩, .int .i64 n.int, .string ⟨n.text.toArray⟩, .int .i64 n.ty.kind, .slice A n.ty.args.length c, .slice K n.kids.length kc] 41)
 have hs1 : (w.alloc (.cells #[.string ⟨n.op.toArray⟩, .int .i64 n.int, .string ⟨n.text.toArray⟩, .int .i64 n.ty.kind, .slice A n.ty.args.length c, .slice K n.kids.length kc] 41)).heap.size = w.heap.size + 1 := by simp
 have hT := written_any d S _ n _ (NdAt.below hN ((Below.refl _ w).alloc (Nat.le_refl _) (.cells #[.string ⟨n.op.toArray⟩, .int .i64 n.int, .string ⟨n.text.toArray⟩, .int .i64 n.ty.kind, .slice A n.ty.args.length c, .slice K n.kids.length kc] 41))) hR (hG.below hba hGl)
 have HT := Lib.hid hT
 have HBA := Lib.hid hba
 clear hN hG hR hT hba
 go_enter Tryz.func27, Tryz.ntmps27
 go_wp2_with (fail)
 refine HT.out.mono ?_
 clear HT
 generalize w.alloc (.cells #[.string ⟨n.op.toArray⟩, .int .i64 n.int, .string ⟨n.text.toArray⟩, .int .i64 n.ty.kind, .slice A n.ty.args.length c, .slice K n.kids.length kc] 41) = w1 at *
 intro e w2 h2
 revert h2
 cases hq : showW n with
 | none =>
   intro h2
   have HQ := Lib.hid hq
   clear hq
   obtain ⟨rfl, hb2⟩ := h2
   have HB2 := Lib.hid (HBA.out.trans (hb2.mono (by omega)))
   clear hb2
   go_wp2_with (fail)
   go_ret
   rw [HQ.out]
   exact ⟨rfl, HB2.out⟩
 | some s =>
   intro h2
   have HQ := Lib.hid hq
   clear hq
   obtain ⟨b, hb, rfl, hw2, hb2, hne⟩ := h2
   have HB2 := Lib.hid (HBA.out.trans (hb2.mono (by omega)))
   clear hb2 hw2 hne
   go_wp2_with (fail)
   go_ret
   rw [HQ.out]
   exact ⟨rfl, HB2.out⟩
