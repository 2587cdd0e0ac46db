/-
CheckFirst: whatever term and env it is called with, the law returns true and leaves its arguments as they were; the card ties the four tables that the program's text lays (the words of types, the powers of ten, two of math/bits) to that text. No condition.
-/
import Derived.Test.YtaecndmncpfpfaaGreatDoorFc
import Derived.Test.YtaecndmncpfpfaaGreatDoorCards
import Derived.Test.YtaecndmncpfpfaaGreatDoorTie
import Derived.Test.YtaecndmncpfpfaaGreatDoorLd
import Derived.Test.YtaecndmncpfpfaaGreatDoorFa
import Derived.SevenTiedAt
import Derived.Carry
set_option linter.unusedVariables false
set_option linter.unusedSimpArgs false
namespace Go.Proofs.YtaecndmncpfpfaaGreatDoor.L5
open Go.ChangeShapes Go.WideShapes Go.RowKit
theorem cellsE5 : Tryz.prog.cellsOf 29 = 3 := by kernel_rfl
theorem list_three5 {α : Type} {l : List α} (h : l.length = 3) : ∃ a b c, l = [a, b, c] := by
  match l, h with
  | [a, b, c], _ => exact ⟨a, b, c, rfl⟩
set_option maxRecDepth 100000 in
theorem env_open {H : Type} {enc : TypeId × Value → H} {w : World} {base : Nat} {sp : Nat → Bool} {held : Bool} (fuel : Nat) (cs : List Value) (x : DataW H × List MemPlace) (h : DataW.trod enc Tryz.prog w base sp held fuel 29 cs = some x) :
    ∃ it sides, EvL w (.agg cs.toArray) it sides := by
  cases fuel with
  | zero => simp [DataW.trod] at h
  | succ fuel =>
    obtain ⟨xs, n, hn, hx, hl, hxl, hf⟩ := DataW.trod_struct Tryz.underlying29 h
    obtain rfl : n = fuel := by omega
    rw [cellsE5] at hl
    obtain ⟨c0, c1, c2, rfl⟩ := list_three5 hl
    obtain ⟨x0, x1, rfl⟩ := list_two hxl
    have f0 : DataW.trod enc Tryz.prog w base sp held n 24 (([c0, c1, c2].drop 0).take (Tryz.prog.cellsOf 24)) = some x0 := hf 0 _ rfl
    have f1 : DataW.trod enc Tryz.prog w base sp held n 22 (([c0, c1, c2].drop 2).take (Tryz.prog.cellsOf 22)) = some x1 := hf 1 _ rfl
    rw [cellsT5] at f0
    rw [cellsK23] at f1
    obtain ⟨it, hT⟩ := ty_open n [c0, c1] _ (show DataW.trod enc Tryz.prog w base sp held n 24 [c0, c1] = some x0 from f0)
    obtain ⟨A, c, e3⟩ := hT.form
    injection e3 with e3
    have e3' := congrArg Array.toList e3
    simp only [List.cons.injEq, and_true] at e3'
    obtain ⟨rfl, rfl⟩ := e3'
    have hT' : TyAt w (fun b => b < w.heap.size) n (.agg #[.int .i64 it.kind, .slice A it.args.length c]) it := hT.move fun b _ hl => ⟨hl, fun _ => rfl⟩
    rcases DataW.trod_slice Tryz.underlying22 (show DataW.trod enc Tryz.prog w base sp held n 22 [c2] = some x1 from f1) with ⟨e5, _⟩ | ⟨a, len, cap, elems, rest, n', hn', e5, _, hb, hlc, _, hel, hcell, _⟩
    · simp only [List.cons.injEq, and_true] at e5
      subst e5
      exact ⟨it, [], A, c, none, 0, n, rfl, hT', fun hl => absurd hl (Nat.lt_irrefl _)⟩
    · simp only [List.cons.injEq, and_true] at e5
      subst e5
      rw [cellsT5] at hcell
      have key : ∀ i, i < len → ∃ t, ∃ u0 u1, w.cell? ((a.add (i * 2)).add 0) = some u0 ∧ w.cell? ((a.add (i * 2)).add 1) = some u1 ∧ TyAt w (fun _ => True) n' (.agg #[u0, u1]) t := fun i hi => by
        have h := hcell i hi
        rw [List.getElem?_eq_getElem (by omega)] at h
        obtain ⟨cs', hc, ht⟩ := Option.bind_eq_some_iff.1 h
        obtain ⟨_, hcl, hat⟩ := World.cells?_some hc
        obtain ⟨u0, u1, rfl⟩ := list_two hcl
        obtain ⟨t, hT⟩ := ty_open n' _ _ ht
        exact ⟨t, u0, u1, hat 0 (by omega), hat 1 (by omega), hT⟩
      obtain ⟨l, hll, hP⟩ := pick_list _ len key
      refine ⟨it, l, A, c, some a, cap, n, ?_, hT', fun hpos => ?_⟩
      · show Value.agg #[_, _, .slice (some a) len cap] = Value.agg #[_, _, .slice (some a) l.length cap]
        rw [hll]
      · have hp : 0 < len := by omega
        obtain ⟨_, u0, _, h0, _⟩ := key 0 hp
        have ha := spot_none h0
        have ha' : (a.add (0 * 2)).add 0 = a := by simp [Addr.add]
        rw [ha'] at ha
        have hlt : a.block < w.heap.size := by
          rw [ha'] at h0
          exact World.block_lt_of_cell? w a h0
        refine ⟨a.block, a.off, by rw [← ha], hlt, fun j t hj => ?_⟩
        obtain ⟨u0, u1, h0, h1, hT⟩ := hP j t hj
        rw [ha] at h0 h1
        refine ⟨u0, u1, ?_, ?_, (TyAt.more n' n _ _ (by omega) hT).move fun b _ hl => ⟨hl, fun _ => rfl⟩⟩
        · rw [add_two0] at h0; exact h0
        · rw [add_two1] at h1; exact h1
end Go.Proofs.YtaecndmncpfpfaaGreatDoor.L5
namespace Go.Proofs.YtaecndmncpfpfaaGreatDoor.FirstLaw
open Go.ChangeShapes Go.WideShapes Go.ChangeAt Go.RowKit
open Go.ChangeMaps (open_string shut_string)
open L5
set_option linter.unusedVariables false
theorem laidOut : laidOutB Tryz.prog = true := by kernel_rfl
set_option maxRecDepth 100000 in
theorem lifted (os : Os) (started : os.Started) (H : Type) (enc : TypeId × Value → H) :
    ReturnsInHanded {} Tryz.checked os 6 .any (fun w args => (Rows.checkFirstSpec.pre enc Tryz.prog Tryz.f6 [] false w args ∧ laidMetH Tryz.prog [("math/bits.deBruijn32tab", Rows.laid_math_bits_deBruijn32tab), ("math/bits.deBruijn64tab", Rows.laid_math_bits_deBruijn64tab), ("internal/strconv.uint64pow10", Rows.laid_internal_strconv_uint64pow10), ("watershed/kind.words", Rows.laid_watershed_kind_words)] w) ∧ sizedMet enc Tryz.prog Tryz.f6 (OpenSpec.ofChange Rows.checkFirstSpec) false w args)
      (Rows.checkFirstSpec.post enc Tryz.prog Tryz.f6 false true false false) := by
  refine returnsInHanded_of_change_and (C := Tryz.checked) (X := fun w _ => laidMetH Tryz.prog [("math/bits.deBruijn32tab", Rows.laid_math_bits_deBruijn32tab), ("math/bits.deBruijn64tab", Rows.laid_math_bits_deBruijn64tab), ("internal/strconv.uint64pow10", Rows.laid_internal_strconv_uint64pow10), ("watershed/kind.words", Rows.laid_watershed_kind_words)] w) (fun _ _ _ hh h => h.of_heap hh) own started (by kernel_rfl) Tryz.func6
    (ChangeSpec.witness_shaped (enc := enc) (C := Tryz.checked) (os := os) (X := fun w _ => laidMetH Tryz.prog [("math/bits.deBruijn32tab", Rows.laid_math_bits_deBruijn32tab), ("math/bits.deBruijn64tab", Rows.laid_math_bits_deBruijn64tab), ("internal/strconv.uint64pow10", Rows.laid_internal_strconv_uint64pow10), ("watershed/kind.words", Rows.laid_watershed_kind_words)] w) false (World.doorLaid Tryz.prog 400 os) #[.agg #[.string ⟨#[]⟩, .int .i64 0, .string ⟨#[]⟩, .int .i64 0, .slice none 0 0, .slice none 0 0], .agg #[.int .i64 0, .slice none 0 0, .slice none 0 0]] 8 rfl (World.shaped_of_RefB (by kernel_rfl) (by kernel_rfl)) (by kernel_rfl) (by kernel_rfl) (by kernel_rfl) (door_met os _)) ?_
  intro W base args ds gs before hval0 hW _ _ hL _
  have hval : ∀ (j : Nat) t v, Tryz.f6.params[j]? = some t → args[j]? = some v → Value.okWide Tryz.prog W .any base t v := hval0
  have hW' := hW
  obtain ⟨p, q, hA0, hV, rfl, hfz, hnd⟩ := hW
  have hA : DataW.TrodAll enc Tryz.prog W 0 (fun _ => true) true Tryz.f6.params.toList args.toList ds p := hA0
  rw [Tryz.params6] at hA hval
  obtain ⟨v0, v1, d0, d1, p0, p1, rfl, rfl, rfl, h0, h1⟩ := trodAll_two hA
  obtain ⟨rfl, rfl⟩ := trodVars_none hV
  obtain ⟨cs0, rfl, hsz0⟩ := okWide_struct Tryz.underlying27 (hval 0 27 v0 rfl rfl)
  obtain ⟨cs1, rfl, hsz1⟩ := okWide_struct Tryz.underlying29 (hval 1 29 v1 rfl rfl)
  have h0k := h0
  have h1k := h1
  obtain ⟨f0, hf0⟩ := h0
  obtain ⟨f1, hf1⟩ := h1
  obtain ⟨n, hN, hI⟩ := L5.nd_open f0 _ _ hf0
  obtain ⟨it, sides, hE⟩ := L5.env_open f1 _ _ hf1
  have hG := gl_of_laidH hL
  have hlt0 : ∀ x ∈ p0, x.block < W.heap.size := fun x hx => by simpa using hW'.lt x (by simp [hx])
  have hlt1 : ∀ x ∈ p1, x.block < W.heap.size := fun x hx => by simpa using hW'.lt x (by simp [hx])
  clear hA0 hval0
  simp only [List.append_nil] at hW'
  have hN' : L5.NdL W (.agg cs0) n := ⟨f0, NdAt.move (fun b _ hl => ⟨hl, fun _ => rfl⟩) f0 _ _ hN⟩
  have hE' : L5.EvL W (.agg cs1) it sides := hE
  have hwalk := L5.first_any W (.agg cs0) (.agg cs1) n it sides f0 hN' hE' hI hG
  refine hwalk.mono fun e W' ⟨he, hb⟩ => ?_
  subst he
  exact ⟨_, rfl, _, _, _, [], _, [], hW', trodAll_mk1 (shut_bool Tryz.underlying4 _), trodAll_mk2 (Below.trod laidOut (by kernel_rfl) (of_decide_eq_true (by kernel_rfl)) h0k hb hlt0) (Below.trod laidOut (by kernel_rfl) (of_decide_eq_true (by kernel_rfl)) h1k hb hlt1), rfl, hb.frame _, fun h => by cases h⟩
theorem over : Rows.CheckFirstSaid :=
  OpenClaim.holds_of_wide 6 Tryz.f6 rfl rfl rfl rfl rfl rfl rfl ⟨rfl, rfl, rfl, rfl, rfl⟩ rfl rfl rfl rfl rfl (by kernel_rfl) Tryz.func6 (by kernel_rfl)
    (of_decide_eq_true (by kernel_rfl)) (by unfold Func.isWrapper; first | (rw [if_pos (by decide +kernel)]; kernel_rfl) | (rw [if_neg (by decide +kernel)]; exact ⟨rfl, rfl⟩))
    (fun os started H enc _ => lifted os started H enc)
end Go.Proofs.YtaecndmncpfpfaaGreatDoor.FirstLaw
namespace Go.Proofs.YtaecndmncpfpfaaGreatDoor
theorem check_first : Rows.CheckFirstCardSaid :=
  Claim7.holds_tied_plain_at .later [] [.data, .data, .data, .data] true (true, "85a348d3c719e81abbde7062e98409f4c45e2cf1f5401f0a5ddf0d4edf965acc") false
    FirstLaw.over (fun _ h => by cases h) (by kernel_rfl) (fun _ h => by cases h) checkFirst_row_tie rfl ⟨rfl, rfl⟩ (by kernel_rfl) rfl
    (fun f fn hf hfn => by
      obtain rfl : f = 6 := Option.some.inj ((show Tryz.prog.funcNamed "watershed/watershedlaw05.CheckFirst" = some 6 by kernel_rfl).symm.trans hf) |>.symm
      obtain rfl : fn = Tryz.f6 := (Option.some.inj (Tryz.func6.symm.trans hfn)).symm
      exact ⟨by kernel_rfl, fun j t ht => by
        rw [Tryz.params6] at ht
        rcases j with _ | _ | j
        · have h9 : t = 27 := by simpa using ht.symm
          subst h9
          exact (show Tryz.prog.wantsStandIn 27 = false by kernel_rfl)
        · have h9 : t = 29 := by simpa using ht.symm
          subst h9
          exact (show Tryz.prog.wantsStandIn 29 = false by kernel_rfl)
        · simp at ht⟩)
    (by kernel_rfl)
#print axioms check_first
end Go.Proofs.YtaecndmncpfpfaaGreatDoor
