import Derived.Test.YtaecndmncpfpfaaGreatDoorGh
import Derived.Test.YtaecndmncpfpfaaGreatDoorEx
import Derived.Test.YtaecndmncpfpfaaGreatDoorLd
set_option linter.unusedVariables false
set_option linter.unusedSimpArgs false
namespace Go.Proofs.YtaecndmncpfpfaaGreatDoor.L5
open Go.ChangeShapes Go.WideShapes Go.RowKit
theorem cellsC5 : Tryz.prog.cellsOf 68 = 21 := by kernel_rfl
set_option maxRecDepth 100000 in
theorem choice_open {H : Type} {enc : TypeId × Value → H} {w : World} {base : Nat} {sp : Nat → Bool} {held : Bool} (fuel : Nat) (cs : List Value) (x : DataW H × List MemPlace) (h : DataW.trod enc Tryz.prog w base sp held fuel 68 cs = some x) :
    ∃ (c x y : Nd) (it : Ty) (sides : List Ty) (Ac Kc Ax Kx Ay Ky EA SA : Option Addr) (cc kc cx kx cy ky ek sk d : Nat), cs = [.string ⟨c.op.toArray⟩, .int .i64 c.int, .string ⟨c.text.toArray⟩, .int .i64 c.ty.kind, .slice Ac c.ty.args.length cc, .slice Kc c.kids.length kc, .string ⟨x.op.toArray⟩, .int .i64 x.int, .string ⟨x.text.toArray⟩, .int .i64 x.ty.kind, .slice Ax x.ty.args.length cx, .slice Kx x.kids.length kx, .string ⟨y.op.toArray⟩, .int .i64 y.int, .string ⟨y.text.toArray⟩, .int .i64 y.ty.kind, .slice Ay y.ty.args.length cy, .slice Ky y.kids.length ky, .int .i64 it.kind, .slice EA it.args.length ek, .slice SA sides.length sk] ∧ NdL w (.agg #[.string ⟨c.op.toArray⟩, .int .i64 c.int, .string ⟨c.text.toArray⟩, .int .i64 c.ty.kind, .slice Ac c.ty.args.length cc, .slice Kc c.kids.length kc]) c ∧ NdL w (.agg #[.string ⟨x.op.toArray⟩, .int .i64 x.int, .string ⟨x.text.toArray⟩, .int .i64 x.ty.kind, .slice Ax x.ty.args.length cx, .slice Kx x.kids.length kx]) x ∧ NdL w (.agg #[.string ⟨y.op.toArray⟩, .int .i64 y.int, .string ⟨y.text.toArray⟩, .int .i64 y.ty.kind, .slice Ay y.ty.args.length cy, .slice Ky y.kids.length ky]) y ∧ EvL w (.agg #[.int .i64 it.kind, .slice EA it.args.length ek, .slice SA sides.length sk]) it sides ∧ IntN d c ∧ IntN d x ∧ IntN d y := by
 cases fuel with
 | zero => simp [DataW.trod] at h
 | succ fuel =>
   obtain ⟨xs, n, hn, hx, hl, hxl, hf⟩ := DataW.trod_struct Tryz.underlying68 h
   rw [cellsC5] at hl
   match cs, hl with
   | [u0, u1, u2, u3, u4, u5, u6, u7, u8, u9, u10, u11, u12, u13, u14, u15, u16, u17, u18, u19, u20], _ =>
     have hxl : xs.length = 4 := hxl
     match xs, hxl with
     | [x0, x1, x2, x3], _ =>
       have f0 : DataW.trod enc Tryz.prog w base sp held n 27 (([u0, u1, u2, u3, u4, u5, u6, u7, u8, u9, u10, u11, u12, u13, u14, u15, u16, u17, u18, u19, u20].drop 0).take (Tryz.prog.cellsOf 27)) = some x0 := hf 0 _ rfl
       have f1 : DataW.trod enc Tryz.prog w base sp held n 27 (([u0, u1, u2, u3, u4, u5, u6, u7, u8, u9, u10, u11, u12, u13, u14, u15, u16, u17, u18, u19, u20].drop 6).take (Tryz.prog.cellsOf 27)) = some x1 := hf 1 _ rfl
       have f2 : DataW.trod enc Tryz.prog w base sp held n 27 (([u0, u1, u2, u3, u4, u5, u6, u7, u8, u9, u10, u11, u12, u13, u14, u15, u16, u17, u18, u19, u20].drop 12).take (Tryz.prog.cellsOf 27)) = some x2 := hf 2 _ rfl
       have f3 : DataW.trod enc Tryz.prog w base sp held n 29 (([u0, u1, u2, u3, u4, u5, u6, u7, u8, u9, u10, u11, u12, u13, u14, u15, u16, u17, u18, u19, u20].drop 18).take (Tryz.prog.cellsOf 29)) = some x3 := hf 3 _ rfl
       rw [cellsN5] at f0 f1 f2
       rw [cellsE5] at f3
       obtain ⟨c, hC, iC⟩ := nd_open n _ _ f0
       obtain ⟨x, hX, iX⟩ := nd_open n _ _ f1
       obtain ⟨y, hY, iY⟩ := nd_open n _ _ f2
       obtain ⟨it, sides, hE⟩ := env_open n _ _ f3
       obtain ⟨Ac, cc, Kc, kc, e0⟩ := hC.form
       obtain ⟨Ax, cx, Kx, kx, e1⟩ := hX.form
       obtain ⟨Ay, cy, Ky, ky, e2⟩ := hY.form
       obtain ⟨EA, ek, SA, sk, e3⟩ := hE.form
       injection e0 with e0
       injection e1 with e1
       injection e2 with e2
       injection e3 with e3
       have e0 := congrArg Array.toList e0
       have e1 := congrArg Array.toList e1
       have e2 := congrArg Array.toList e2
       have e3 := congrArg Array.toList e3
       simp only [List.drop_zero, List.take_succ_cons, List.take_zero, List.drop_succ_cons, List.cons.injEq, and_true] at e0 e1 e2 e3
       obtain ⟨rfl, rfl, rfl, rfl, rfl, rfl⟩ := e0
       obtain ⟨rfl, rfl, rfl, rfl, rfl, rfl⟩ := e1
       obtain ⟨rfl, rfl, rfl, rfl, rfl, rfl⟩ := e2
       obtain ⟨rfl, rfl, rfl⟩ := e3
       exact ⟨c, x, y, it, sides, Ac, Kc, Ax, Kx, Ay, Ky, EA, SA, cc, kc, cx, kx, cy, ky, ek, sk, n, rfl, ⟨n, NdAt.move (fun b _ hl => ⟨hl, fun _ => rfl⟩) n _ _ hC⟩, ⟨n, NdAt.move (fun b _ hl => ⟨hl, fun _ => rfl⟩) n _ _ hX⟩, ⟨n, NdAt.move (fun b _ hl => ⟨hl, fun _ => rfl⟩) n _ _ hY⟩, hE, iC, iX, iY⟩
