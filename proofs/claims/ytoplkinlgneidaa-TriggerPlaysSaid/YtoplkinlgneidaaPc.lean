/-
The walk of PaneCounts.
-/
import Derived.Test.YtoplkinlgneidaaPw
set_option linter.unusedVariables false
namespace Go.Proofs.Ytoplkinlgneidaa
open Go.RowKit

end Go.Proofs.Ytoplkinlgneidaa
