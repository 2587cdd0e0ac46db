/-
KindMakes: whatever number and types it is called with, the law returns true and leaves its arguments as they were; the card ties the table of words to the program's text. No condition.
-/
import Derived.Test.YtdoadedglpjldaaDoorCards
import Derived.Test.YtdoadedglpjldaaDoorTie
import Derived.Test.YtdoadedglpjldaaDoorLd
import Derived.Test.YtdoadedglpjldaaDoorMks
import Derived.SevenTiedAt
import Derived.Carry
namespace Go.Proofs.YtdoadedglpjldaaDoor.Makes
open Go.ChangeShapes Go.WideShapes Go.ChangeAt Go.RowKit
open Go.ChangeMaps (open_string shut_string)
set_option linter.unusedVariables false

/-- What is read as a list of types is one. -/
theorem args_open {H : Type} {enc : TypeId × Value → H} {w : World} {base fuel : Nat} {sp : Nat → Bool} {held : Bool} {A : Option Addr} {n c : Nat} {x : DataW H × List MemPlace} (h : DataW.trod enc Tryd.prog w base sp held fuel 22 (Value.slice A n c).cells.toList = some x) :
    ∃ l : List Ty, n = l.length ∧ l.length ≤ c ∧ ∃ d, ArgsAt w (fun _ => True) d A l := by
  have hc0 : (Value.slice A n c).cells.toList = [.slice A n c] := rfl
  rw [hc0] at h
  rcases DataW.trod_slice Tryd.underlying22 h with ⟨e1, _⟩ | ⟨a, len, cap, elems, rest, n', hn', e1, _, hb, hlc, _, hel, hcell, _⟩
  · simp only [List.cons.injEq, and_true, Value.slice.injEq] at e1
    obtain ⟨rfl, rfl, rfl⟩ := e1
    exact ⟨[], rfl, Nat.le_refl _, 0, fun hl => absurd hl (by simp)⟩
  · simp only [List.cons.injEq, and_true, Value.slice.injEq] at e1
    obtain ⟨rfl, rfl, rfl⟩ := e1
    rw [cells24] at hcell
    have key : ∀ i, i < n → ∃ t, ∃ u0 u1, w.cell? ((a.add (i * 2)).add 0) = some u0 ∧ w.cell? ((a.add (i * 2)).add 1) = some u1 ∧ TyAt w (fun _ => True) n' (.agg #[u0, u1]) t := fun i hi => by
      have h := hcell i hi
      rw [List.getElem?_eq_getElem (by omega)] at h
      obtain ⟨cs', hc, ht⟩ := Option.bind_eq_some_iff.1 h
      obtain ⟨_, hcl, hat⟩ := World.cells?_some hc
      obtain ⟨u0, u1, rfl⟩ := list_two hcl
      obtain ⟨t, hT⟩ := ty_open n' _ _ ht
      exact ⟨t, u0, u1, hat 0 (by omega), hat 1 (by omega), hT⟩
    obtain ⟨l, hll, hP⟩ := pick_list _ n key
    refine ⟨l, hll.symm, by omega, n', fun hp => ?_⟩
    obtain ⟨_, u0, _, h0, _⟩ := key 0 (by omega)
    have ha := spot_none h0
    have ha' : (a.add (0 * 2)).add 0 = a := by simp [Addr.add]
    rw [ha'] at ha
    refine ⟨a.block, a.off, by rw [← ha], trivial, fun j t hj => ?_⟩
    obtain ⟨u0, u1, h0, h1, hT⟩ := hP j t hj
    rw [ha] at h0 h1
    refine ⟨u0, u1, ?_, ?_, hT⟩
    · rw [add_two0] at h0; exact h0
    · rw [add_two1] at h1; exact h1

theorem laidOut : laidOutB Tryd.prog = true := by kernel_rfl

set_option maxRecDepth 100000 in
theorem lifted (os : Os) (started : os.Started) (H : Type) (enc : TypeId × Value → H) :
    ReturnsInHanded {} Tryd.checked os 7 .any (fun w args => (Rows.kindMakesSpec.pre enc Tryd.prog Tryd.f7 [] false w args ∧ laidMetH Tryd.prog [("watershed/kind.words", Rows.laid_watershed_kind_words)] w) ∧ sizedMet enc Tryd.prog Tryd.f7 (OpenSpec.ofChange Rows.kindMakesSpec) false w args)
      (Rows.kindMakesSpec.post enc Tryd.prog Tryd.f7 false true false false) := by
  refine returnsInHanded_of_change_and (C := Tryd.checked) (X := fun w _ => laidMetH Tryd.prog [("watershed/kind.words", Rows.laid_watershed_kind_words)] w) (fun _ _ _ hh h => h.of_heap hh) own started (by kernel_rfl) Tryd.func7
    (ChangeSpec.witness_shaped (enc := enc) (C := Tryd.checked) (os := os) (X := fun w _ => laidMetH Tryd.prog [("watershed/kind.words", Rows.laid_watershed_kind_words)] w) false (World.doorLaid Tryd.prog 400 os) #[.int .i64 0, .slice none 0 0] 8 rfl (World.shaped_of_RefB (by kernel_rfl) (by kernel_rfl)) (by kernel_rfl) (by kernel_rfl) (by kernel_rfl) (door_met os _)) ?_
  intro W base args ds gs before hval0 hW _ _ hL _
  have hval : ∀ (j : Nat) t v, Tryd.f7.params[j]? = some t → args[j]? = some v → Value.okWide Tryd.prog W .any base t v := hval0
  have hW' := hW
  obtain ⟨p, q, hA0, hV, rfl, hfz, hnd⟩ := hW
  have hA : DataW.TrodAll enc Tryd.prog W 0 (fun _ => true) true Tryd.f7.params.toList args.toList ds p := hA0
  rw [Tryd.params7] at hA hval
  obtain ⟨v0, v1, d0, d1, p0, p1, rfl, rfl, rfl, h0, h1⟩ := trodAll_two hA
  obtain ⟨rfl, rfl⟩ := trodVars_none hV
  obtain ⟨k, rfl, rfl, rfl, wk⟩ := open_int Tryd.underlying3 (hval 0 3 v0 rfl rfl) h0
  obtain ⟨A0, n0, c0, rfl⟩ := okWide_slice Tryd.underlying22 (hval 1 22 v1 rfl rfl)
  have h1k := h1
  obtain ⟨fuel, hf⟩ := h1
  obtain ⟨l, rfl, hlc, d, hA⟩ := args_open hf
  have hG := glob_of_laidH hL
  have hlt : ∀ x ∈ p1, x.block < W.heap.size := fun x hx => by simpa using hW'.lt x (by simp [hx])
  clear hA0 hval0
  simp only [List.append_nil] at hW'
  refine (makes_walk d _ k A0 c0 l W hA hlc hG).mono fun e W' ⟨he, hb⟩ => ?_
  subst he
  exact ⟨_, rfl, _, _, _, [], _, [], hW', trodAll_mk1 (shut_bool Tryd.underlying4 _), trodAll_mk2 (shut_int Tryd.underlying3 wk) (Below.trod laidOut (by kernel_rfl) (of_decide_eq_true (by kernel_rfl)) h1k hb hlt), rfl, hb.frame _, fun h => by cases h⟩

theorem over : Rows.KindMakesSaid :=
  OpenClaim.holds_of_wide 7 Tryd.f7 rfl rfl rfl rfl rfl rfl rfl ⟨rfl, rfl, rfl, rfl, rfl⟩ rfl rfl rfl rfl rfl (by kernel_rfl) Tryd.func7 (by kernel_rfl)
    (of_decide_eq_true (by kernel_rfl)) (by unfold Func.isWrapper; first | (rw [if_pos (by decide +kernel)]; kernel_rfl) | (rw [if_neg (by decide +kernel)]; exact ⟨rfl, rfl⟩))
    (fun os started H enc _ => lifted os started H enc)
end Go.Proofs.YtdoadedglpjldaaDoor.Makes
namespace Go.Proofs.YtdoadedglpjldaaDoor

/-- THE STATEMENT -/
theorem kind_makes : Rows.KindMakesCardSaid :=
  Claim7.holds_tied_plain_at .later [] [.data] true (true, "efd5c750904e8a011d17d4f1319e0b40ea0ad9fbf18976f940126450e81f0b69") false
    Makes.over (fun _ h => by cases h) (by kernel_rfl) (fun _ h => by cases h) kindMakes_row_tie rfl ⟨rfl, rfl⟩ (by kernel_rfl) rfl
    (fun f fn hf hfn => by
      obtain rfl : f = 7 := Option.some.inj ((show Tryd.prog.funcNamed "watershed/watershedlaw02.KindMakes" = some 7 by kernel_rfl).symm.trans hf) |>.symm
      obtain rfl : fn = Tryd.f7 := (Option.some.inj (Tryd.func7.symm.trans hfn)).symm
      exact ⟨by kernel_rfl, fun j t ht => by
        rw [Tryd.params7] at ht
        rcases j with _ | _ | j
        · have h3 : t = 3 := by simpa using ht.symm
          subst h3
          exact (show Tryd.prog.wantsStandIn 3 = false by kernel_rfl)
        · have h22 : t = 22 := by simpa using ht.symm
          subst h22
          exact (show Tryd.prog.wantsStandIn 22 = false by kernel_rfl)
        · simp at ht⟩)
    (by kernel_rfl)
#print axioms kind_makes
end Go.Proofs.YtdoadedglpjldaaDoor
