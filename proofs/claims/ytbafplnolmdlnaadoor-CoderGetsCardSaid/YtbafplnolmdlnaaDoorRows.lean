/-
  NARROWER THAN 'FOR EVERY INPUT', by the rows' own cells (each row's printed sentence says how): CoderGets: loops, laid.
  DERIVED. THE GIVEN ROWS OF THIS SEAT. 1 by the template 'for every input the law returns true; each argument reads behind the call as it read before'; 0 by the template 'total and deterministic' (their statements: YtbafplnolmdlnaaDoorTotals.lean).
  GIVEN WITH THE SEED: the statements are not yours to turn. If you find one false, say at which input.
  Laid BY PROGRAM, IN A SANDBOX (cutbox-rows.mjs): the forced cells as the released guide's own fill.sh prints them over the translation c783f8e4ff474c1b… (all of the seat's roots in one cut). By AI agents, Wed Nov 11 2026. No macro, syntax, notation, axiom, sorry.
-/
import Derived.Test.YtbafplnolmdlnaaDoorChecked
import GoSem.Claim
import GoSem.ClaimJoined
import GoSem.ClaimMapViews
import Derived.JoinedTies
import Derived.KernelRfl
namespace Go.Proofs.YtbafplnolmdlnaaDoor
/- THE CELL 'sum', in the pinned program and in every row, IS THE sha256 OF THE DUMP (.gsa) THAT YtbafplnolmdlnaaDoorProg.lean LOADS. Nothing in Lean hashes anything: it is a label: what it is worth is what the hold of that sum in a sandbox is worth. -/
noncomputable def Tryd.pinned : Pinned := { name := "ytbafplnolmdlnaadoor", sum := "c783f8e4ff474c1b882dabd10277e7a12e4804b45d1de34d17eefab10a946468", checked := Tryd.checked }
namespace Rows
def none {H : Type} : Left H := { results := [], args := [] }

/- WHAT THE LISTED PACKAGE-LEVEL VARIABLES READ AS WHEN THE CALL BEGINS. Each datum BY PROGRAM (the guide's laid-datum.mjs) off the statement by which the dump's own 'gosem.cut.vars' lays the variable. In a bare row this is a premise. The card (YtbafplnolmdlnaaDoorCards.lean) ties it to the program's text. -/
def laid_watershed_kind_words {H : Type} : DataW H := .agg [.agg [.lit (.int .i64 1), .lit (.int .i64 0), .lit (.string [98, 111, 111, 108])], .agg [.lit (.int .i64 2), .lit (.int .i64 0), .lit (.string [105, 110, 116])], .agg [.lit (.int .i64 3), .lit (.int .i64 0), .lit (.string [116, 101, 120, 116])], .agg [.lit (.int .i64 4), .lit (.int .i64 0), .lit (.string [98, 121, 116, 101, 115])], .agg [.lit (.int .i64 5), .lit (.int .i64 0), .lit (.string [112, 111, 105, 110, 116])], .agg [.lit (.int .i64 6), .lit (.int .i64 2), .lit (.string [112, 97, 105, 114])], .agg [.lit (.int .i64 7), .lit (.int .i64 1), .lit (.string [108, 105, 115, 116])], .agg [.lit (.int .i64 9), .lit (.int .i64 1), .lit (.string [111, 112, 116, 105, 111, 110])]]

/-- 'watershedlaw03.CoderGets': WHATEVER THE INPUT: true; the input reads as it did. -/
def coderGetsSpec : ChangeSpec := { name := "coderGets", fn := fun _ => fun
  | [d1, d2] => { results := [.lit (.bool true)], args := [d1, d2] }
  | _ => none }
def coderGetsRow : OpenClaim := { program := "ytbafplnolmdlnaadoor", sum := "c783f8e4ff474c1b882dabd10277e7a12e4804b45d1de34d17eefab10a946468", func := "watershed/watershedlaw03.CoderGets", spec := "coderGets", recurses := true, named := ["watershed/kind.words"], loops := true, apart := false, laid := [("watershed/kind.words", laid_watershed_kind_words)] }
def CoderGetsSaid : Prop := coderGetsRow.holds Tryd.pinned (OpenSpec.ofChange coderGetsSpec)

/-- ITS FALSE NEIGHBOUR: 'it returns false'. Refute it at one input. -/
def coderGetsWrong : ChangeSpec := { name := "coderGets", fn := fun _ => fun
  | [d1, d2] => { results := [.lit (.bool false)], args := [d1, d2] }
  | _ => none }
def CoderGetsWrongFalsely : Prop := coderGetsRow.holds Tryd.pinned (OpenSpec.ofChange coderGetsWrong)

/- THE SECOND FORM. 'bulk': how many values and letters a reading holds, each counted each time it is reached (what is shared counts as often as it is met; a slice's spare places count too). A statement '..UptoSaid' is the law's where the arguments, and the package variables that the reading takes, are together of bulk at most 1048576: NARROWER than '..Said'. Prove '..Said' where nothing that the law and all that it calls make is longer than what came in: it says more and counts as full. Else prove '..UptoSaid'. A law counts once. -/
mutual
def uptoBulk {H : Type} : DataW H → Nat
  | .lit (.string bytes) => bytes.length + 1
  | .lit _ => 1
  | .nil => 1
  | .ptr d => uptoBulk d + 1
  | .slice elems spare => uptoBulkAll elems + uptoBulkAll spare + 1
  | .agg parts => uptoBulkAll parts + 1
  | .iface _ d => uptoBulk d + 1
  | .map entries => uptoBulkEntries entries + 1
  | .held _ => 1
def uptoBulkAll {H : Type} : List (DataW H) → Nat
  | [] => 0
  | d :: r => uptoBulk d + uptoBulkAll r
def uptoBulkEntries {H : Type} : List (Lit × DataW H) → Nat
  | [] => 0
  | x :: r => uptoBulkEntry x + uptoBulkEntries r
def uptoBulkEntry {H : Type} : Lit × DataW H → Nat
  | (.string bytes, d) => bytes.length + uptoBulk d + 1
  | (_, d) => uptoBulk d + 1
 end
def uptoSmall : (H : Type) → List (DataW H) → Bool := fun _ ds => decide (uptoBulkAll ds ≤ 1048576)
def OpenSpec.upto (s : _root_.Go.ChangeSpec) : _root_.Go.OpenSpec := { _root_.Go.OpenSpec.ofChange s with cond := some uptoSmall }

/-- 'watershedlaw03.CoderGets', WHERE WHAT IT READS IS OF BULK AT MOST 1048576: true; the input reads as it did. -/
def coderGetsUptoRow : OpenClaim := { program := "ytbafplnolmdlnaadoor", sum := "c783f8e4ff474c1b882dabd10277e7a12e4804b45d1de34d17eefab10a946468", func := "watershed/watershedlaw03.CoderGets", spec := "coderGets", recurses := true, named := ["watershed/kind.words"], loops := true, apart := false, laid := [("watershed/kind.words", laid_watershed_kind_words)], narrowed := true }
def CoderGetsUptoSaid : Prop := coderGetsUptoRow.holds Tryd.pinned (OpenSpec.upto coderGetsSpec)

end Rows
end Go.Proofs.YtbafplnolmdlnaaDoor
