/-
CheckNames: whatever term, env and type it is called with, the law returns true and leaves its arguments as they were; the card ties the four tables that the program's text lays (the words of types, the powers of ten, two of math/bits) to that text. No condition.
-/
import Derived.Test.YtaecndmncpfpfaaGreatDoorCards
import Derived.Test.YtaecndmncpfpfaaGreatDoorTie
import Derived.Test.YtaecndmncpfpfaaGreatDoorLd
import Derived.Test.YtaecndmncpfpfaaGreatDoorNt
import Derived.Test.YtaecndmncpfpfaaGreatDoorEx
import Derived.SevenTiedAt
import Derived.Carry
namespace Go.Proofs.YtaecndmncpfpfaaGreatDoor.NamesLaw
open Go.ChangeShapes Go.WideShapes Go.ChangeAt Go.RowKit
open Go.ChangeMaps (open_string shut_string)
open L5
set_option linter.unusedVariables false
theorem laidOut : laidOutB Tryz.prog = true := by kernel_rfl
set_option maxRecDepth 100000 in
theorem lifted (os : Os) (started : os.Started) (H : Type) (enc : TypeId × Value → H) :
    ReturnsInHanded {} Tryz.checked os 4 .any (fun w args => (Rows.checkNamesSpec.pre enc Tryz.prog Tryz.f4 [] false w args ∧ laidMetH Tryz.prog [("math/bits.deBruijn32tab", Rows.laid_math_bits_deBruijn32tab), ("math/bits.deBruijn64tab", Rows.laid_math_bits_deBruijn64tab), ("internal/strconv.uint64pow10", Rows.laid_internal_strconv_uint64pow10), ("watershed/kind.words", Rows.laid_watershed_kind_words)] w) ∧ sizedMet enc Tryz.prog Tryz.f4 (OpenSpec.ofChange Rows.checkNamesSpec) false w args)
     (Rows.checkNamesSpec.post enc Tryz.prog Tryz.f4 false true false false) := by
 refine returnsInHanded_of_change_and (C := Tryz.checked) (X := fun w _ => laidMetH Tryz.prog [("math/bits.deBruijn32tab", Rows.laid_math_bits_deBruijn32tab), ("math/bits.deBruijn64tab", Rows.laid_math_bits_deBruijn64tab), ("internal/strconv.uint64pow10", Rows.laid_internal_strconv_uint64pow10), ("watershed/kind.words", Rows.laid_watershed_kind_words)] w) (fun _ _ _ hh h => h.of_heap hh) own started (by kernel_rfl) Tryz.func4
  (ChangeSpec.witness_shaped (enc := enc) (C := Tryz.checked) (os := os) (X := fun w _ => laidMetH Tryz.prog [("math/bits.deBruijn32tab", Rows.laid_math_bits_deBruijn32tab), ("math/bits.deBruijn64tab", Rows.laid_math_bits_deBruijn64tab), ("internal/strconv.uint64pow10", Rows.laid_internal_strconv_uint64pow10), ("watershed/kind.words", Rows.laid_watershed_kind_words)] w) false (World.doorLaid Tryz.prog 400 os) #[.agg #[.string ⟨#[]⟩, .int .i64 0, .string ⟨#[]⟩, .int .i64 0, .slice none 0 0, .slice none 0 0], .agg #[.int .i64 0, .slice none 0 0, .slice none 0 0], .agg #[.int .i64 0, .slice none 0 0]] 8 rfl (World.shaped_of_RefB (by kernel_rfl) (by kernel_rfl)) (by kernel_rfl) (by kernel_rfl) (by kernel_rfl) (door_met os _)) ?_
 intro W base args ds gs before hval0 hW _ _ hL _
 have hval : ∀ (j : Nat) t v, Tryz.f4.params[j]? = some t → args[j]? = some v → Value.okWide Tryz.prog W .any base t v := hval0
 have hW' := hW
 obtain ⟨p, q, hA0, hV, rfl, hfz, hnd⟩ := hW
 have hA : DataW.TrodAll enc Tryz.prog W 0 (fun _ => true) true Tryz.f4.params.toList args.toList ds p := hA0
 rw [Tryz.params4] at hA hval
 obtain ⟨v0, v1, v2, d0, d1, d2, p0, p1, p2, rfl, rfl, rfl, h0, h1, h2⟩ := trodAll_three hA
 obtain ⟨rfl, rfl⟩ := trodVars_none hV
 obtain ⟨cs0, rfl, hsz0⟩ := okWide_struct Tryz.underlying27 (hval 0 27 v0 rfl rfl)
 obtain ⟨cs1, rfl, hsz1⟩ := okWide_struct Tryz.underlying29 (hval 1 29 v1 rfl rfl)
 obtain ⟨cs2, rfl, hsz2⟩ := okWide_struct Tryz.underlying24 (hval 2 24 v2 rfl rfl)
 have h0k := h0
 have h1k := h1
 have h2k := h2
 obtain ⟨f0, hf0⟩ := h0
 obtain ⟨f1, hf1⟩ := h1
 obtain ⟨f2, hf2⟩ := h2
 obtain ⟨c, hC, hIc⟩ := L5.nd_open f0 _ _ hf0
 obtain ⟨it, sides, hE⟩ := L5.env_open f1 _ _ hf1
 obtain ⟨m, hM⟩ := L5.ty_open f2 _ _ hf2
 have hG := gl_of_laidH hL
 have hlt0 : ∀ x ∈ p0, x.block < W.heap.size := fun x hx => by simpa using hW'.lt x (by simp [hx])
 have hlt1 : ∀ x ∈ p1, x.block < W.heap.size := fun x hx => by simpa using hW'.lt x (by simp [hx])
 have hlt2 : ∀ x ∈ p2, x.block < W.heap.size := fun x hx => by simpa using hW'.lt x (by simp [hx])
 clear hA0 hval0
 simp only [List.append_nil, List.append_assoc] at hW'
 have hC' : L5.NdL W (.agg cs0) c := ⟨f0, NdAt.move (fun b _ hl => ⟨hl, fun _ => rfl⟩) f0 _ _ hC⟩
 have hE' : L5.EvL W (.agg cs1) it sides := hE
 have hM' : L5.TyL W (.agg cs2) m := ⟨f2, hM.move fun b _ hl => ⟨hl, fun _ => rfl⟩⟩
 obtain ⟨Ac, cc, Kc, kc, e0⟩ := hC.form
 obtain ⟨EA, ek, SA, sk, e1⟩ := hE'.form
 obtain ⟨MA, mk, e2⟩ := hM.form
 have g0 : cs0 = #[.string ⟨c.op.toArray⟩, .int .i64 c.int, .string ⟨c.text.toArray⟩, .int .i64 c.ty.kind, .slice Ac c.ty.args.length cc, .slice Kc c.kids.length kc] := by injection e0
 have g1 : cs1 = #[.int .i64 it.kind, .slice EA it.args.length ek, .slice SA sides.length sk] := by injection e1
 have g2 : cs2 = #[.int .i64 m.kind, .slice MA m.args.length mk] := by injection e2
 subst g0 g1 g2
 have hwalk := L5.names_any W c it m sides Ac Kc EA SA MA cc kc ek sk mk f0 hC' hE' hM' hIc hG
 refine hwalk.mono fun e W' ⟨he, hb⟩ => ?_
 subst he
 exact ⟨_, rfl, _, _, _, [], _, [], hW', trodAll_mk1 (shut_bool Tryz.underlying4 _), trodAll_mk3 (Below.trod laidOut (by kernel_rfl) (of_decide_eq_true (by kernel_rfl)) h0k hb hlt0) (Below.trod laidOut (by kernel_rfl) (of_decide_eq_true (by kernel_rfl)) h1k hb hlt1) (Below.trod laidOut (by kernel_rfl) (of_decide_eq_true (by kernel_rfl)) h2k hb hlt2), rfl, hb.frame _, fun h => by cases h⟩
theorem over : Rows.CheckNamesSaid :=
 OpenClaim.holds_of_wide 4 Tryz.f4 rfl rfl rfl rfl rfl rfl rfl ⟨rfl, rfl, rfl, rfl, rfl⟩ rfl rfl rfl rfl rfl (by kernel_rfl) Tryz.func4 (by kernel_rfl)
  (of_decide_eq_true (by kernel_rfl)) (by unfold Func.isWrapper; first | (rw [if_pos (by decide +kernel)]; kernel_rfl) | (rw [if_neg (by decide +kernel)]; exact ⟨rfl, rfl⟩))
  (fun os started H enc _ => lifted os started H enc)
end Go.Proofs.YtaecndmncpfpfaaGreatDoor.NamesLaw
namespace Go.Proofs.YtaecndmncpfpfaaGreatDoor
theorem check_names : Rows.CheckNamesCardSaid :=
 Claim7.holds_tied_plain_at .later [] [.data, .data, .data, .data] true (true, "85a348d3c719e81abbde7062e98409f4c45e2cf1f5401f0a5ddf0d4edf965acc") false
  NamesLaw.over (fun _ h => by cases h) (by kernel_rfl) (fun _ h => by cases h) checkNames_row_tie rfl ⟨rfl, rfl⟩ (by kernel_rfl) rfl
  (fun f fn hf hfn => by
    obtain rfl : f = 4 := Option.some.inj ((show Tryz.prog.funcNamed "watershed/watershedlaw05.CheckNames" = some 4 by kernel_rfl).symm.trans hf) |>.symm
    obtain rfl : fn = Tryz.f4 := (Option.some.inj (Tryz.func4.symm.trans hfn)).symm
    exact ⟨by kernel_rfl, fun j t ht => by
     rw [Tryz.params4] at ht
     rcases j with _ | _ | _ | j
     · have h9 : t = 27 := by simpa using ht.symm
       subst h9
       exact (show Tryz.prog.wantsStandIn 27 = false by kernel_rfl)
     · have h9 : t = 29 := by simpa using ht.symm
       subst h9
       exact (show Tryz.prog.wantsStandIn 29 = false by kernel_rfl)
     · have h9 : t = 24 := by simpa using ht.symm
       subst h9
       exact (show Tryz.prog.wantsStandIn 24 = false by kernel_rfl)
     · simp at ht⟩)
  (by kernel_rfl)
#print axioms check_names
