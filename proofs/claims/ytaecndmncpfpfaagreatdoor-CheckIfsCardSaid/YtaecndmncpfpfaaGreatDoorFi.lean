import Derived.Test.YtaecndmncpfpfaaGreatDoorFc
import Derived.Test.YtaecndmncpfpfaaGreatDoorKm
import Derived.KernelRfl
set_option linter.unusedVariables false
set_option linter.unusedSimpArgs false
namespace Go.Proofs.YtaecndmncpfpfaaGreatDoor.Knd
open Go.RowKit
theorem eqL_self (f : Ty → Ty → Bool) : ∀ l : List Ty, (∀ a ∈ l, f a a = true) → eqL f l l = true
 | [], _ => rfl
 | a :: l, h => by
   simp only [eqL, Bool.and_eq_true]
   exact ⟨h a (List.mem_cons_self ..), eqL_self f l (fun b hb => h b (List.mem_cons_of_mem _ hb))⟩
theorem eqT_self : ∀ (r : Nat) (t : Ty) (q : Nat), measureT r t = some q → eqT r t t = true
 | 0, t, q, h => by simp [measureT] at h
 | r + 1, t, q, h => by
   obtain ⟨x, _, _, _, hall⟩ := measure_right h
   simp only [eqT, beq_self_eq_true, Bool.true_and]
   exact eqL_self _ _ fun a ha => by
    obtain ⟨q', hq⟩ := hall a ha
    exact eqT_self r a q' hq
end Go.Proofs.YtaecndmncpfpfaaGreatDoor.Knd
namespace Go.Proofs.YtaecndmncpfpfaaGreatDoor.L5
open Go.RowKit
def ndI (c x y : Nd) : Nd := .mk [105, 102] 0 [] ty0 [c, x, y]
theorem rt_same {t : Ty} (h : RT t) : Knd.sameT t t = true := by
 obtain ⟨q, hq⟩ := Option.isSome_iff_exists.1 h
 unfold Knd.sameT
 rw [h, Knd.eqT_self 6 t q hq]
 rfl
theorem rt_kind0 {t : Ty} (h : RT t) : t.kind ≠ 0 := fun h0 => by
 obtain ⟨q, hq⟩ := Option.isSome_iff_exists.1 h
 obtain ⟨x, hx, _⟩ := Knd.measure_right hq
 rw [h0] at hx
 exact absurd hx (by rw [show Knd.wordK 0 = none by decide]; simp)
theorem fits_a (r : Nat) {t : Ty} (ht : RT t) (c : Ty × Ty) (hc : c.1.kind = 0 ∨ c.1 = t) : fitsT (r + 1) c mA t = ((t, c.2), true) := by
 unfold fitsT
 rw [if_pos (show mA.kind = -1 from rfl)]
 rcases hc with hc | hc
 · rw [if_pos hc, if_pos hc, rt_same ht]
 · rw [if_neg (by rw [hc]; exact rt_kind0 ht), if_neg (by rw [hc]; exact rt_kind0 ht), hc, rt_same ht, ← hc]
theorem fitsL_step {f : Ty × Ty → Ty → Ty → (Ty × Ty) × Bool} {c c' : Ty × Ty} {w t : Ty} {ws ts : List Ty} (h : f c w t = (c', true)) : fitsL f c (w :: ws) (t :: ts) = fitsL f c' ws ts := by
 rw [fitsL, h]
theorem forms_if (c x y : Nd) : formsT (ndI c x y) = [[tT, mA, mA, mA]] := by kernel_rfl
theorem rt_bool {a : Ty} (h : RT a) (h1 : a.kind = 1) : a.args = [] := by
 obtain ⟨q, hq⟩ := Option.isSome_iff_exists.1 h
 obtain ⟨x, hx, hl, _⟩ := Knd.measure_right hq
 rw [h1] at hx
 have h0 : x.args = 0 := by
  have e : Knd.wordK 1 = some x := hx
  have e2 : (Knd.wordK 1).map (·.args) = some 0 := by decide
  rw [e] at e2
  injection e2
 rw [h0] at hl
 exact List.eq_nil_of_length_eq_zero (by omega)
theorem fitsL_bad {f : Ty × Ty → Ty → Ty → (Ty × Ty) × Bool} {c c' : Ty × Ty} {w t : Ty} {ws ts : List Ty} (h : f c w t = (c', false)) : fitsL f c (w :: ws) (t :: ts) = (c', false) := by
 rw [fitsL, h]
theorem fits_tT {a : Ty} (ha : RT a) (c : Ty × Ty) : fitsT 9 c tT a = (c, a.kind == 1) := by
 have e : fitsT 9 c tT a = if (1 : Int) = a.kind then fitsA (fitsT 8) c [] a.args else (c, false) := rfl
 rw [e]
 by_cases h : a.kind = 1
 · rw [if_pos h.symm, rt_bool ha h, h]
   rfl
 · rw [if_neg (fun x => h x.symm)]
   have : (a.kind == 1) = false := by simp [h]
   rw [this]
theorem come_if {a b d : Ty} (ha : RT a) (hb : RT b) : comeF [a, b, d] [[tT, mA, mA, mA]] = if a.kind = 1 ∧ Knd.sameT b d = true then some b else none := by
 have e1 : ([tT, mA, mA, mA] : List Ty).dropLast = [tT, mA, mA] := rfl
 have e2 : ([tT, mA, mA, mA] : List Ty).getLastD ty0 = mA := rfl
 have e3 : fitsA (fitsT 9) (ty0, ty0) [tT, mA, mA] [a, b, d] = fitsL (fitsT 9) (ty0, ty0) [tT, mA, mA] [a, b, d] := rfl
 unfold comeF
 rw [e1, e2, e3]
 by_cases h1 : a.kind = 1
 · have hd : fitsT 9 (b, ty0) mA d = ((b, ty0), Knd.sameT b d) := by
     have e : fitsT 9 (b, ty0) mA d = ((if b.kind = 0 then (d, ty0) else (b, ty0)), Knd.sameT (if b.kind = 0 then d else b) d) := rfl
     rw [e, if_neg (rt_kind0 hb), if_neg (rt_kind0 hb)]
   have hf : fitsL (fitsT 9) (ty0, ty0) [tT, mA, mA] [a, b, d] = ((b, ty0), Knd.sameT b d) := by
    rw [fitsL_step (c' := (ty0, ty0)) (by rw [fits_tT ha, h1]; rfl), fitsL_step (fits_a 8 hb (ty0, ty0) (.inl rfl))]
    cases hs : Knd.sameT b d with
    | true => rw [fitsL_step (c' := (b, ty0)) (by rw [hd, hs])]; rfl
    | false => rw [fitsL_bad (c' := (b, ty0)) (by rw [hd, hs])]
   rw [hf]
   have hfill : fillT 9 (b, ty0) mA = b := rfl
   cases hs : Knd.sameT b d with
   | true =>
     rw [if_pos rfl, hfill, if_pos (show (Knd.measureT 6 b).isSome = true from hb), if_pos ⟨h1, rfl⟩]
   | false =>
     rw [if_neg (by simp), if_neg (by simp)]
     rfl
 · rw [fitsL_bad (c' := (ty0, ty0)) (by rw [fits_tT ha]; simp [h1]), if_neg (by simp), if_neg (fun h => h1 h.1)]
   rfl
theorem res_if {it : Ty} {sides : List Ty} {c x y : Nd} (hc : InfOk FOk 23 c) (hx : InfOk FOk 23 x) (hy : InfOk FOk 23 y) : resI it sides (ndI c x y) = match resI it sides c with
    | .error (no, qs) => .error (no, 0 :: qs)
    | .ok a => match resI it sides x with
      | .error (no, qs) => .error (no, 1 :: qs)
      | .ok b => match resI it sides y with
        | .error (no, qs) => .error (no, 2 :: qs)
        | .ok d => optR 50 [] (comeF [a, b, d] [[tT, mA, mA, mA]]) := by
 have e : resI it sides (ndI c x y) = comeR [] (formsT (ndI c x y)) (kidsR (fun i => inferT formsT it sides 23 [] ([] ++ [(i : Int)]) (kidN (ndI c x y) i)) 3 0) := by
  unfold resI
  rw [show (24 : Nat) = 23 + 1 from rfl]
  unfold inferT
  rw [if_neg (by show ¬ ([105, 102] : List UInt8) = _; decide), if_neg (by show ¬ ([105, 102] : List UInt8) = _; decide), if_neg (by show ¬ ([105, 102] : List UInt8) = _; decide), if_neg (by show ¬ ([105, 102] : List UInt8) = _; decide), if_neg (by show ¬ (([105, 102] : List UInt8) = _ ∨ ([105, 102] : List UInt8) = _); decide), if_neg (by show ¬ ([105, 102] : List UInt8) = _; decide)]
  rfl
 rw [e, forms_if]
 unfold kidsR kidsR kidsR kidsR
 rw [show inferT formsT it sides 23 [] ([] ++ [((0 : Nat) : Int)]) (kidN (ndI c x y) 0) = mapP [0] (resI it sides c) from infer_kid 0 hc, show inferT formsT it sides 23 [] ([] ++ [((0 + 1 : Nat) : Int)]) (kidN (ndI c x y) (0 + 1)) = mapP [1] (resI it sides x) from infer_kid 1 hx,
  show inferT formsT it sides 23 [] ([] ++ [((0 + 1 + 1 : Nat) : Int)]) (kidN (ndI c x y) (0 + 1 + 1)) = mapP [2] (resI it sides y) from infer_kid 2 hy]
 cases resI it sides c with
 | error x => obtain ⟨no, qs⟩ := x; rfl
 | ok a =>
   cases resI it sides x with
   | error x => obtain ⟨no, qs⟩ := x; rfl
   | ok b =>
     cases resI it sides y with
     | error x => obtain ⟨no, qs⟩ := x; rfl
     | ok d => rfl
