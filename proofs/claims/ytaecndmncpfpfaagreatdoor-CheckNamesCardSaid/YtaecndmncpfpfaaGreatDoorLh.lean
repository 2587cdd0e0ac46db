import Derived.Test.YtaecndmncpfpfaaGreatDoorFc
import Derived.KernelRfl
import Derived.Test.YtaecndmncpfpfaaGreatDoorEn
set_option linter.unusedVariables false
set_option linter.unusedSimpArgs false
namespace Go.Proofs.YtaecndmncpfpfaaGreatDoor.L5
open Go.RowKit
def sideW : List UInt8 := [115, 105, 100, 101]
def letW : List UInt8 := [108, 101, 116]
def stepT (it : Ty) (sides : List Ty) (names : List (List UInt8 × Ty)) (ps : List Int) (op : List UInt8) (i : Int) (tx : List UInt8) (len : Nat) (fs : List (List Ty)) (kt : Nat → List UInt8) (F : List (List UInt8 × Ty) → List Int → Nat → Except (Int × List Int) Ty) : Except (Int × List Int) Ty :=
 if op = [105, 116] then .ok it
 else if op = [115, 105, 100, 101] then optR 53 ps sides[i.toNat]?
 else if op = [110, 97, 109, 101] then optR 51 ps (lastN tx names)
 else if op = [108, 101, 116] then bindR (F names (ps ++ [1]) 1) fun t => F (names ++ [(kt 0, t)]) (ps ++ [(len : Int) - 1]) (len - 1)
 else if op = [109, 97, 112] ∨ op = [102, 105, 108, 116, 101, 114] then eachR (op == [109, 97, 112]) ps (F names (ps ++ [0]) 0) fun a => F (names ++ [(kt 1, a)]) (ps ++ [(len : Int) - 1]) (len - 1)
 else if op = [102, 111, 108, 100] then foldR ps (yC (fun i => F names (ps ++ [(i : Int)]) i) 2 0) fun d a => F (names ++ [(kt 2, d), (kt 3, a)]) (ps ++ [(len : Int) - 1]) (len - 1)
 else comeR ps fs (yC (fun i => F names (ps ++ [(i : Int)]) i) len 0)
theorem inferT_step (FT : Nd → List (List Ty)) (it : Ty) (sides : List Ty) (r : Nat) (names : List (List UInt8 × Ty)) (ps : List Int) (n : Nd) :
    zM FT it sides (r + 1) names ps n = stepT it sides names ps n.op n.int n.text n.kids.length (FT n) (fun j => (kidN n j).text) (fun N P j => zM FT it sides r N P (kidN n j)) := rfl
end Go.Proofs.YtaecndmncpfpfaaGreatDoor.L5
set_option linter.unusedVariables false
set_option linter.unusedSimpArgs false
namespace Go.Proofs.YtaecndmncpfpfaaGreatDoor.L5
open Go.RowKit
