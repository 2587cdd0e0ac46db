/-
Same of the document's answer, where both are equal; Assign of the document's answer.
-/
import Derived.Test.YtpkieiahhkgjoaaDoorVo
set_option linter.unusedVariables false
namespace Go.Proofs.YtpkieiahhkgjoaaDoor
open Go.RowKit

theorem below_drewN {B : Nat} {a b : World} (h : Below B a b) (n : Nat) : Below B a (b.drewN n) := ⟨h.os, h.tape, h.output, h.size, h.block⟩

theorem emod_shift (o d s t : Int) : (o - (t - s + 1)) % d = fstA o d s t - (t - s + 1) := by unfold fstA; omega

end Go.Proofs.YtpkieiahhkgjoaaDoor
