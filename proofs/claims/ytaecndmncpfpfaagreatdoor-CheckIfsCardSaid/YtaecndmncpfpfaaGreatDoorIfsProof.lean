import Derived.Test.YtaecndmncpfpfaaGreatDoorCards
import Derived.Test.YtaecndmncpfpfaaGreatDoorTie
import Derived.Test.YtaecndmncpfpfaaGreatDoorLd
import Derived.Test.YtaecndmncpfpfaaGreatDoorGi
import Derived.Test.YtaecndmncpfpfaaGreatDoorGo
import Derived.SevenTiedAt
import Derived.Carry
namespace Go.Proofs.YtaecndmncpfpfaaGreatDoor.IfsLaw
open Go.ChangeShapes Go.WideShapes Go.ChangeAt Go.RowKit
open Go.ChangeMaps (open_string shut_string)
open L5
set_option linter.unusedVariables false
theorem laidOut : laidOutB Tryz.prog = true := by kernel_rfl
set_option maxRecDepth 100000 in
theorem lifted (os : Os) (started : os.Started) (H : Type) (enc : TypeId × Value → H) :
    ReturnsInHanded {} Tryz.checked os 7 .any (fun w args => (Rows.checkIfsSpec.pre enc Tryz.prog Tryz.f7 [] false w args ∧ laidMetH Tryz.prog [("math/bits.deBruijn32tab", Rows.laid_math_bits_deBruijn32tab), ("math/bits.deBruijn64tab", Rows.laid_math_bits_deBruijn64tab), ("internal/strconv.uint64pow10", Rows.laid_internal_strconv_uint64pow10), ("watershed/kind.words", Rows.laid_watershed_kind_words)] w) ∧ sizedMet enc Tryz.prog Tryz.f7 (OpenSpec.ofChange Rows.checkIfsSpec) false w args)
     (Rows.checkIfsSpec.post enc Tryz.prog Tryz.f7 false true false false) := by
 refine returnsInHanded_of_change_and (C := Tryz.checked) (X := fun w _ => laidMetH Tryz.prog [("math/bits.deBruijn32tab", Rows.laid_math_bits_deBruijn32tab), ("math/bits.deBruijn64tab", Rows.laid_math_bits_deBruijn64tab), ("internal/strconv.uint64pow10", Rows.laid_internal_strconv_uint64pow10), ("watershed/kind.words", Rows.laid_watershed_kind_words)] w) (fun _ _ _ hh h => h.of_heap hh) own started (by kernel_rfl) Tryz.func7
  (ChangeSpec.witness_shaped (enc := enc) (C := Tryz.checked) (os := os) (X := fun w _ => laidMetH Tryz.prog [("math/bits.deBruijn32tab", Rows.laid_math_bits_deBruijn32tab), ("math/bits.deBruijn64tab", Rows.laid_math_bits_deBruijn64tab), ("internal/strconv.uint64pow10", Rows.laid_internal_strconv_uint64pow10), ("watershed/kind.words", Rows.laid_watershed_kind_words)] w) false (World.doorLaid Tryz.prog 400 os) #[.agg #[.string ⟨#[]⟩, .int .i64 0, .string ⟨#[]⟩, .int .i64 0, .slice none 0 0, .slice none 0 0, .string ⟨#[]⟩, .int .i64 0, .string ⟨#[]⟩, .int .i64 0, .slice none 0 0, .slice none 0 0, .string ⟨#[]⟩, .int .i64 0, .string ⟨#[]⟩, .int .i64 0, .slice none 0 0, .slice none 0 0, .int .i64 0, .slice none 0 0, .slice none 0 0]] 8 rfl (World.shaped_of_RefB (by kernel_rfl) (by kernel_rfl)) (by kernel_rfl) (by kernel_rfl) (by kernel_rfl) (door_met os _)) ?_
 intro W base args ds gs before hval0 hW _ _ hL _
 have hval : ∀ (j : Nat) t v, Tryz.f7.params[j]? = some t → args[j]? = some v → Value.okWide Tryz.prog W .any base t v := hval0
 have hW' := hW
 obtain ⟨p, q, hA0, hV, rfl, hfz, hnd⟩ := hW
 have hA : DataW.TrodAll enc Tryz.prog W 0 (fun _ => true) true Tryz.f7.params.toList args.toList ds p := hA0
 rw [Tryz.params7] at hA hval
 obtain ⟨v0, d0, rfl, rfl, h0⟩ := trodAll_one hA
 obtain ⟨rfl, rfl⟩ := trodVars_none hV
 obtain ⟨cs0, rfl, hsz0⟩ := okWide_struct Tryz.underlying68 (hval 0 68 v0 rfl rfl)
 have h0k := h0
 obtain ⟨f0, hf0⟩ := h0
 obtain ⟨c, x, y, it, sides, Ac, Kc, Ax, Kx, Ay, Ky, EA, SA, cc, kc, cx, kx, cy, ky, ek, sk, dd, hcs, hC, hX, hY, hE, iC, iX, iY⟩ := L5.choice_open f0 _ _ hf0
 have hG := gl_of_laidH hL
 have hlt0 : ∀ x ∈ p, x.block < W.heap.size := fun x hx => by simpa using hW'.lt x (by simp [hx])
 clear hA0 hval0
 have hcs' : cs0 = #[.string ⟨c.op.toArray⟩, .int .i64 c.int, .string ⟨c.text.toArray⟩, .int .i64 c.ty.kind, .slice Ac c.ty.args.length cc, .slice Kc c.kids.length kc, .string ⟨x.op.toArray⟩, .int .i64 x.int, .string ⟨x.text.toArray⟩, .int .i64 x.ty.kind, .slice Ax x.ty.args.length cx, .slice Kx x.kids.length kx, .string ⟨y.op.toArray⟩, .int .i64 y.int, .string ⟨y.text.toArray⟩, .int .i64 y.ty.kind, .slice Ay y.ty.args.length cy, .slice Ky y.kids.length ky, .int .i64 it.kind, .slice EA it.args.length ek, .slice SA sides.length sk] := by
  exact Array.toList_inj.1 (show cs0.toList = _ from hcs)
 subst hcs'
 have hwalk := L5.ifs_any W c x y it sides Ac Kc Ax Kx Ay Ky EA SA cc kc cx kx cy ky ek sk dd dd dd hC hX hY hE iC iX iY hG
 refine hwalk.mono fun e W' ⟨he, hb⟩ => ?_
 subst he
 exact ⟨_, rfl, _, _, _, [], _, [], hW', trodAll_mk1 (shut_bool Tryz.underlying4 _), trodAll_mk1 (Below.trod laidOut (by kernel_rfl) (of_decide_eq_true (by kernel_rfl)) h0k hb hlt0), rfl, hb.frame _, fun h => by cases h⟩
theorem over : Rows.CheckIfsSaid :=
 OpenClaim.holds_of_wide 7 Tryz.f7 rfl rfl rfl rfl rfl rfl rfl ⟨rfl, rfl, rfl, rfl, rfl⟩ rfl rfl rfl rfl rfl (by kernel_rfl) Tryz.func7 (by kernel_rfl)
  (of_decide_eq_true (by kernel_rfl)) (by unfold Func.isWrapper; first | (rw [if_pos (by decide +kernel)]; kernel_rfl) | (rw [if_neg (by decide +kernel)]; exact ⟨rfl, rfl⟩))
  (fun os started H enc _ => lifted os started H enc)
end Go.Proofs.YtaecndmncpfpfaaGreatDoor.IfsLaw
namespace Go.Proofs.YtaecndmncpfpfaaGreatDoor
theorem check_ifs : Rows.CheckIfsCardSaid :=
 Claim7.holds_tied_plain_at .later [] [.data, .data, .data, .data] true (true, "85a348d3c719e81abbde7062e98409f4c45e2cf1f5401f0a5ddf0d4edf965acc") false
  IfsLaw.over (fun _ h => by cases h) (by kernel_rfl) (fun _ h => by cases h) checkIfs_row_tie rfl ⟨rfl, rfl⟩ (by kernel_rfl) rfl
  (fun f fn hf hfn => by
    obtain rfl : f = 7 := Option.some.inj ((show Tryz.prog.funcNamed "watershed/watershedlaw05.CheckIfs" = some 7 by kernel_rfl).symm.trans hf) |>.symm
    obtain rfl : fn = Tryz.f7 := (Option.some.inj (Tryz.func7.symm.trans hfn)).symm
    exact ⟨by kernel_rfl, fun j t ht => by
     rw [Tryz.params7] at ht
     rcases j with _ | j
     · have h9 : t = 68 := by simpa using ht.symm
       subst h9
       exact (show Tryz.prog.wantsStandIn 68 = false by kernel_rfl)
     · simp at ht⟩)
  (by kernel_rfl)
#print axioms check_ifs
