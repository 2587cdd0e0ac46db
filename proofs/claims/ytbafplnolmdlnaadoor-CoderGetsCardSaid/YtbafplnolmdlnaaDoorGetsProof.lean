/-
CoderGets: whatever type and bytes it is called with, the law returns true and leaves its arguments as they were; the card ties the table of words to the program's text. No condition.
-/
import Derived.Test.YtbafplnolmdlnaaDoorCards
import Derived.Test.YtbafplnolmdlnaaDoorTie
import Derived.Test.YtbafplnolmdlnaaDoorLd
import Derived.Test.YtbafplnolmdlnaaDoorGtw
import Derived.SevenTiedAt
import Derived.Carry
namespace Go.Proofs.YtbafplnolmdlnaaDoor.Gets
open Go.ChangeShapes Go.WideShapes Go.ChangeAt Go.RowKit
open Go.ChangeMaps (open_string shut_string)
set_option linter.unusedVariables false

theorem add_plain (b o k : Nat) : ((⟨b, o, none⟩ : Addr).add k) = ⟨b, o + k, none⟩ := by
  simp only [Addr.add]
  by_cases hk : k = 0 <;> simp [hk]

theorem cells5 : Tryd.prog.cellsOf 5 = 1 := by kernel_rfl

/-- What is read as a list of bytes is one. -/
theorem bytes_open {H : Type} {enc : TypeId × Value → H} {w : World} {base fuel : Nat} {sp : Nat → Bool} {held : Bool} {A : Option Addr} {n c : Nat} {x : DataW H × List MemPlace} (h : DataW.trod enc Tryd.prog w base sp held fuel 25 (Value.slice A n c).cells.toList = some x) :
    ∃ l : List UInt8, n = l.length ∧ BAt w (fun _ => True) A l := by
  have hc0 : (Value.slice A n c).cells.toList = [.slice A n c] := rfl
  rw [hc0] at h
  rcases open_ints Tryd.underlying25 Tryd.underlying5 cells5 h with ⟨e1, _⟩ | ⟨a, len, cap, zs, e1, _, hl, hm, hz, _, hcell, hwz⟩
  · simp only [List.cons.injEq, and_true, Value.slice.injEq] at e1
    obtain ⟨rfl, rfl, rfl⟩ := e1
    exact ⟨[], rfl, fun hl => absurd hl (by simp)⟩
  · simp only [List.cons.injEq, and_true, Value.slice.injEq] at e1
    obtain ⟨rfl, rfl, rfl⟩ := e1
    have hzl : n ≤ zs.length := by rw [hz]; split <;> omega
    refine ⟨(zs.take n).map (fun z => UInt8.ofNat z.toNat), by simp; omega, fun hp => ?_⟩
    have hp' : 0 < n := by simp at hp; omega
    have h0 := hcell 0 (by omega)
    have ha := spot_none h0
    have ha' : a.add 0 = a := by simp [Addr.add]
    rw [ha'] at ha
    refine ⟨a.block, a.off, by rw [← ha], trivial, fun j y hj => ?_⟩
    rw [List.getElem?_map, List.getElem?_take] at hj
    split at hj
    · rename_i hjn
      obtain ⟨z, hz1, rfl⟩ := Option.map_eq_some_iff.1 hj
      have hjz : j < zs.length := (List.getElem?_eq_some_iff.1 hz1).1
      have hc := hcell j hjz
      rw [ha, add_plain] at hc
      have hgd : zs.getD j 0 = z := by rw [List.getD_eq_getElem?_getD, hz1]; rfl
      rw [hgd] at hc
      have hw := hwz z (List.mem_of_getElem? hz1)
      have hr : 0 ≤ z ∧ z < 256 := by
        simp only [Lit.wf, IntKind.min, IntKind.max, IntKind.bits, IntKind.signed] at hw
        simp at hw
        omega
      rw [hc]
      congr 2
      rw [UInt8.toNat_ofNat']
      omega
    · cases hj

theorem laidOut : laidOutB Tryd.prog = true := by kernel_rfl

set_option maxRecDepth 100000 in
theorem lifted (os : Os) (started : os.Started) (H : Type) (enc : TypeId × Value → H) :
    ReturnsInHanded {} Tryd.checked os 3 .any (fun w args => (Rows.coderGetsSpec.pre enc Tryd.prog Tryd.f3 [] false w args ∧ laidMetH Tryd.prog [("watershed/kind.words", Rows.laid_watershed_kind_words)] w) ∧ sizedMet enc Tryd.prog Tryd.f3 (OpenSpec.ofChange Rows.coderGetsSpec) false w args)
      (Rows.coderGetsSpec.post enc Tryd.prog Tryd.f3 false true false false) := by
  refine returnsInHanded_of_change_and (C := Tryd.checked) (X := fun w _ => laidMetH Tryd.prog [("watershed/kind.words", Rows.laid_watershed_kind_words)] w) (fun _ _ _ hh h => h.of_heap hh) own started (by kernel_rfl) Tryd.func3
    (ChangeSpec.witness_shaped (enc := enc) (C := Tryd.checked) (os := os) (X := fun w _ => laidMetH Tryd.prog [("watershed/kind.words", Rows.laid_watershed_kind_words)] w) false (World.doorLaid Tryd.prog 400 os) #[.agg #[.int .i64 0, .slice none 0 0], .slice none 0 0] 8 rfl (World.shaped_of_RefB (by kernel_rfl) (by kernel_rfl)) (by kernel_rfl) (by kernel_rfl) (by kernel_rfl) (door_met os _)) ?_
  intro W base args ds gs before hval0 hW _ _ hL _
  have hval : ∀ (j : Nat) t v, Tryd.f3.params[j]? = some t → args[j]? = some v → Value.okWide Tryd.prog W .any base t v := hval0
  have hW' := hW
  obtain ⟨p, q, hA0, hV, rfl, hfz, hnd⟩ := hW
  have hA : DataW.TrodAll enc Tryd.prog W 0 (fun _ => true) true Tryd.f3.params.toList args.toList ds p := hA0
  rw [Tryd.params3] at hA hval
  obtain ⟨v0, v1, d0, d1, p0, p1, rfl, rfl, rfl, h0, h1⟩ := trodAll_two hA
  obtain ⟨rfl, rfl⟩ := trodVars_none hV
  obtain ⟨cs, rfl, hsz⟩ := okWide_struct Tryd.underlying24 (hval 0 24 v0 rfl rfl)
  have h0k := h0
  obtain ⟨fuel, hf⟩ := h0
  obtain ⟨t, hT⟩ := ty_open fuel _ _ hf
  obtain ⟨A0, n0, c0, rfl⟩ := okWide_slice Tryd.underlying25 (hval 1 25 v1 rfl rfl)
  have h1k := h1
  obtain ⟨fuel1, hf1⟩ := h1
  obtain ⟨l, rfl, hB⟩ := bytes_open hf1
  have hG := glob_of_laidH hL
  have hlt : ∀ x ∈ p0, x.block < W.heap.size := fun x hx => by simpa using hW'.lt x (by simp [hx])
  have hlt1 : ∀ x ∈ p1, x.block < W.heap.size := fun x hx => by simpa using hW'.lt x (by simp [hx])
  clear hA0 hval0
  simp only [List.append_nil] at hW'
  refine (gets_walk fuel _ _ _ t A0 c0 l W hT hB hG).mono fun e W' ⟨he, hb⟩ => ?_
  subst he
  exact ⟨_, rfl, _, _, _, [], _, [], hW', trodAll_mk1 (shut_bool Tryd.underlying4 _), trodAll_mk2 (Below.trod laidOut (by kernel_rfl) (of_decide_eq_true (by kernel_rfl)) h0k hb hlt) (Below.trod laidOut (by kernel_rfl) (of_decide_eq_true (by kernel_rfl)) h1k hb hlt1), rfl, hb.frame _, fun h => by cases h⟩

theorem over : Rows.CoderGetsSaid :=
  OpenClaim.holds_of_wide 3 Tryd.f3 rfl rfl rfl rfl rfl rfl rfl ⟨rfl, rfl, rfl, rfl, rfl⟩ rfl rfl rfl rfl rfl (by kernel_rfl) Tryd.func3 (by kernel_rfl)
    (of_decide_eq_true (by kernel_rfl)) (by unfold Func.isWrapper; first | (rw [if_pos (by decide +kernel)]; kernel_rfl) | (rw [if_neg (by decide +kernel)]; exact ⟨rfl, rfl⟩))
    (fun os started H enc _ => lifted os started H enc)
end Go.Proofs.YtbafplnolmdlnaaDoor.Gets
namespace Go.Proofs.YtbafplnolmdlnaaDoor

/-- THE STATEMENT -/
theorem coder_gets : Rows.CoderGetsCardSaid :=
  Claim7.holds_tied_plain_at .later [] [.data] true (true, "8407f2a104451e8cd62c3fffc4ade37506f39ee1d13ee6fcc568c520f6e432bd") false
    Gets.over (fun _ h => by cases h) (by kernel_rfl) (fun _ h => by cases h) coderGets_row_tie rfl ⟨rfl, rfl⟩ (by kernel_rfl) rfl
    (fun f fn hf hfn => by
      obtain rfl : f = 3 := Option.some.inj ((show Tryd.prog.funcNamed "watershed/watershedlaw03.CoderGets" = some 3 by kernel_rfl).symm.trans hf) |>.symm
      obtain rfl : fn = Tryd.f3 := (Option.some.inj (Tryd.func3.symm.trans hfn)).symm
      exact ⟨by kernel_rfl, fun j t ht => by
        rw [Tryd.params3] at ht
        rcases j with _ | _ | j
        · have h24 : t = 24 := by simpa using ht.symm
          subst h24
          exact (show Tryd.prog.wantsStandIn 24 = false by kernel_rfl)
        · have h25 : t = 25 := by simpa using ht.symm
          subst h25
          exact (show Tryd.prog.wantsStandIn 25 = false by kernel_rfl)
        · simp at ht⟩)
    (by kernel_rfl)
#print axioms coder_gets
end Go.Proofs.YtbafplnolmdlnaaDoor
