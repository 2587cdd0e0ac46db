/-
  No cell of these rows narrows 'for every input' (looked for: loops, veiled, ifaces, maps, wideKeys, modest, calm, conditions, laid).
  DERIVED. THE GIVEN ROWS OF THIS SEAT. 4 by the template 'for every input the law returns true; each argument reads behind the call as it read before'; 0 by the template 'total and deterministic' (their statements: YtkgomnegeacceaaTotals.lean).
  GIVEN WITH THE SEED: the statements are not yours to turn. If you find one false, say at which input.
  Laid BY PROGRAM, IN A SANDBOX (cutbox-rows.mjs): the forced cells as the released guide's own fill.sh prints them over the translation 2cad7ab354f4530f… (all of the seat's roots in one cut). By AI agents, Wed Nov 11 2026. No macro, syntax, notation, axiom, sorry.
-/
import Derived.Test.YtkgomnegeacceaaChecked
import GoSem.Claim
import GoSem.ClaimJoined
import GoSem.ClaimMapViews
import Derived.JoinedTies
import Derived.KernelRfl
namespace Go.Proofs.Ytkgomnegeacceaa
/- THE CELL 'sum', in the pinned program and in every row, IS THE sha256 OF THE DUMP (.gsa) THAT YtkgomnegeacceaaProg.lean LOADS. Nothing in Lean hashes anything: it is a label: what it is worth is what the hold of that sum in a sandbox is worth. -/
noncomputable def Try.pinned : Pinned := { name := "ytkgomnegeacceaa", sum := "2cad7ab354f4530f5f90ad4dae329d6e068fe762bdf41ad63a0868292e023655", checked := Try.checked }
namespace Rows
def none {H : Type} : Left H := { results := [], args := [] }

/-- 'watershedlaw09.PaneFires': WHATEVER THE INPUT: true; the input reads as it did. -/
def paneFiresSpec : ChangeSpec := { name := "paneFires", fn := fun _ => fun
  | [d] => { results := [.lit (.bool true)], args := [d] }
  | _ => none }
def paneFiresRow : OpenClaim := { program := "ytkgomnegeacceaa", sum := "2cad7ab354f4530f5f90ad4dae329d6e068fe762bdf41ad63a0868292e023655", func := "watershed/watershedlaw09.PaneFires", spec := "paneFires", apart := false }
def PaneFiresSaid : Prop := paneFiresRow.holds Try.pinned (OpenSpec.ofChange paneFiresSpec)

/-- ITS FALSE NEIGHBOUR: 'it returns false'. Refute it at one input. -/
def paneFiresWrong : ChangeSpec := { name := "paneFires", fn := fun _ => fun
  | [d] => { results := [.lit (.bool false)], args := [d] }
  | _ => none }
def PaneFiresWrongFalsely : Prop := paneFiresRow.holds Try.pinned (OpenSpec.ofChange paneFiresWrong)

/-- 'watershedlaw09.PaneChecks': WHATEVER THE INPUT: true; the input reads as it did. -/
def paneChecksSpec : ChangeSpec := { name := "paneChecks", fn := fun _ => fun
  | [d] => { results := [.lit (.bool true)], args := [d] }
  | _ => none }
def paneChecksRow : OpenClaim := { program := "ytkgomnegeacceaa", sum := "2cad7ab354f4530f5f90ad4dae329d6e068fe762bdf41ad63a0868292e023655", func := "watershed/watershedlaw09.PaneChecks", spec := "paneChecks", apart := false }
def PaneChecksSaid : Prop := paneChecksRow.holds Try.pinned (OpenSpec.ofChange paneChecksSpec)

/-- ITS FALSE NEIGHBOUR: 'it returns false'. Refute it at one input. -/
def paneChecksWrong : ChangeSpec := { name := "paneChecks", fn := fun _ => fun
  | [d] => { results := [.lit (.bool false)], args := [d] }
  | _ => none }
def PaneChecksWrongFalsely : Prop := paneChecksRow.holds Try.pinned (OpenSpec.ofChange paneChecksWrong)

/-- 'watershedlaw09.PaneRight': WHATEVER THE INPUT: true; the input reads as it did. -/
def paneRightSpec : ChangeSpec := { name := "paneRight", fn := fun _ => fun
  | [d1, d2] => { results := [.lit (.bool true)], args := [d1, d2] }
  | _ => none }
def paneRightRow : OpenClaim := { program := "ytkgomnegeacceaa", sum := "2cad7ab354f4530f5f90ad4dae329d6e068fe762bdf41ad63a0868292e023655", func := "watershed/watershedlaw09.PaneRight", spec := "paneRight", apart := false }
def PaneRightSaid : Prop := paneRightRow.holds Try.pinned (OpenSpec.ofChange paneRightSpec)

/-- ITS FALSE NEIGHBOUR: 'it returns false'. Refute it at one input. -/
def paneRightWrong : ChangeSpec := { name := "paneRight", fn := fun _ => fun
  | [d1, d2] => { results := [.lit (.bool false)], args := [d1, d2] }
  | _ => none }
def PaneRightWrongFalsely : Prop := paneRightRow.holds Try.pinned (OpenSpec.ofChange paneRightWrong)

/-- 'watershedlaw09.PaneCounts': WHATEVER THE INPUT: true; the input reads as it did. -/
def paneCountsSpec : ChangeSpec := { name := "paneCounts", fn := fun _ => fun
  | [d] => { results := [.lit (.bool true)], args := [d] }
  | _ => none }
def paneCountsRow : OpenClaim := { program := "ytkgomnegeacceaa", sum := "2cad7ab354f4530f5f90ad4dae329d6e068fe762bdf41ad63a0868292e023655", func := "watershed/watershedlaw09.PaneCounts", spec := "paneCounts", apart := false }
def PaneCountsSaid : Prop := paneCountsRow.holds Try.pinned (OpenSpec.ofChange paneCountsSpec)

/-- ITS FALSE NEIGHBOUR: 'it returns false'. Refute it at one input. -/
def paneCountsWrong : ChangeSpec := { name := "paneCounts", fn := fun _ => fun
  | [d] => { results := [.lit (.bool false)], args := [d] }
  | _ => none }
def PaneCountsWrongFalsely : Prop := paneCountsRow.holds Try.pinned (OpenSpec.ofChange paneCountsWrong)

/- THE SECOND FORM. 'bulk': how many values and letters a reading holds, each counted each time it is reached (what is shared counts as often as it is met; a slice's spare places count too). A statement '..UptoSaid' is the law's where the arguments, and the package variables that the reading takes, are together of bulk at most 1048576: NARROWER than '..Said'. Prove '..Said' where nothing that the law and all that it calls make is longer than what came in: it says more and counts as full. Else prove '..UptoSaid'. A law counts once. -/
mutual
def uptoBulk {H : Type} : DataW H → Nat
  | .lit (.string bytes) => bytes.length + 1
  | .lit _ => 1
  | .nil => 1
  | .ptr d => uptoBulk d + 1
  | .slice elems spare => uptoBulkAll elems + uptoBulkAll spare + 1
  | .agg parts => uptoBulkAll parts + 1
  | .iface _ d => uptoBulk d + 1
  | .map entries => uptoBulkEntries entries + 1
  | .held _ => 1
def uptoBulkAll {H : Type} : List (DataW H) → Nat
  | [] => 0
  | d :: r => uptoBulk d + uptoBulkAll r
def uptoBulkEntries {H : Type} : List (Lit × DataW H) → Nat
  | [] => 0
  | x :: r => uptoBulkEntry x + uptoBulkEntries r
def uptoBulkEntry {H : Type} : Lit × DataW H → Nat
  | (.string bytes, d) => bytes.length + uptoBulk d + 1
  | (_, d) => uptoBulk d + 1
 end
def uptoSmall : (H : Type) → List (DataW H) → Bool := fun _ ds => decide (uptoBulkAll ds ≤ 1048576)
def OpenSpec.upto (s : _root_.Go.ChangeSpec) : _root_.Go.OpenSpec := { _root_.Go.OpenSpec.ofChange s with cond := some uptoSmall }

/-- 'watershedlaw09.PaneFires', WHERE WHAT IT READS IS OF BULK AT MOST 1048576: true; the input reads as it did. -/
def paneFiresUptoRow : OpenClaim := { program := "ytkgomnegeacceaa", sum := "2cad7ab354f4530f5f90ad4dae329d6e068fe762bdf41ad63a0868292e023655", func := "watershed/watershedlaw09.PaneFires", spec := "paneFires", apart := false, narrowed := true }
def PaneFiresUptoSaid : Prop := paneFiresUptoRow.holds Try.pinned (OpenSpec.upto paneFiresSpec)

/-- 'watershedlaw09.PaneChecks', WHERE WHAT IT READS IS OF BULK AT MOST 1048576: true; the input reads as it did. -/
def paneChecksUptoRow : OpenClaim := { program := "ytkgomnegeacceaa", sum := "2cad7ab354f4530f5f90ad4dae329d6e068fe762bdf41ad63a0868292e023655", func := "watershed/watershedlaw09.PaneChecks", spec := "paneChecks", apart := false, narrowed := true }
def PaneChecksUptoSaid : Prop := paneChecksUptoRow.holds Try.pinned (OpenSpec.upto paneChecksSpec)

/-- 'watershedlaw09.PaneRight', WHERE WHAT IT READS IS OF BULK AT MOST 1048576: true; the input reads as it did. -/
def paneRightUptoRow : OpenClaim := { program := "ytkgomnegeacceaa", sum := "2cad7ab354f4530f5f90ad4dae329d6e068fe762bdf41ad63a0868292e023655", func := "watershed/watershedlaw09.PaneRight", spec := "paneRight", apart := false, narrowed := true }
def PaneRightUptoSaid : Prop := paneRightUptoRow.holds Try.pinned (OpenSpec.upto paneRightSpec)

/-- 'watershedlaw09.PaneCounts', WHERE WHAT IT READS IS OF BULK AT MOST 1048576: true; the input reads as it did. -/
def paneCountsUptoRow : OpenClaim := { program := "ytkgomnegeacceaa", sum := "2cad7ab354f4530f5f90ad4dae329d6e068fe762bdf41ad63a0868292e023655", func := "watershed/watershedlaw09.PaneCounts", spec := "paneCounts", apart := false, narrowed := true }
def PaneCountsUptoSaid : Prop := paneCountsUptoRow.holds Try.pinned (OpenSpec.upto paneCountsSpec)

end Rows
end Go.Proofs.Ytkgomnegeacceaa
