/-
Same of package kind: alike, slices.EqualFunc. fresh and Make of package kind.
-/
import Derived.Test.YtllnamhgnbdkmaaGreatDoorKd
import Derived.Laws.MakeOwn
namespace Go.Proofs.YtllnamhgnbdkmaaGreatDoor.Knd
open Go.RowKit
end Go.Proofs.YtllnamhgnbdkmaaGreatDoor.Knd
namespace Go.Proofs.YtllnamhgnbdkmaaGreatDoor.Knd
open Go.RowKit
end Go.Proofs.YtllnamhgnbdkmaaGreatDoor.Knd
