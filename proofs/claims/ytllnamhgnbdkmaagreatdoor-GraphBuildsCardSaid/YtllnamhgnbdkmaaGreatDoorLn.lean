/-
Stage 11: slices of nodes among the arguments, opened.
-/
import Derived.Test.YtllnamhgnbdkmaaGreatDoorLr
import Derived.Test.YtllnamhgnbdkmaaGreatDoorYf
import Derived.Test.YtllnamhgnbdkmaaGreatDoorJn
import Derived.Carry
import Derived.Deep.Slices
set_option linter.unusedVariables false
set_option linter.unusedSimpArgs false
namespace Go.Proofs.YtllnamhgnbdkmaaGreatDoor
open Go.ChangeShapes Go.WideShapes Go.ChangeAt Go.RowKit Go.Shelf Go.Sort
theorem laidOut : laidOutB Tryz.prog = true := by kernel_rfl
theorem pickL {α : Type} (P : Nat → α → Prop) : ∀ (n : Nat), (∀ i, i < n → ∃ t, P i t) → ∃ l : List α, l.length = n ∧ ∀ i t, l[i]? = some t → P i t
  | 0, _ => ⟨[], rfl, fun i t h => by simp at h⟩
  | n + 1, h => by
    obtain ⟨l, hl, hP⟩ := pickL P n (fun i hi => h i (by omega))
    obtain ⟨t, ht⟩ := h n (by omega)
    refine ⟨l ++ [t], by simp [hl], fun i u hu => ?_⟩
    rcases Nat.lt_or_ge i l.length with hlt | hge
    · rw [List.getElem?_append_left hlt] at hu
      exact hP i u hu
    · have hi := (List.getElem?_eq_some_iff.1 hu).1
      obtain rfl : i = n := by simp at hi; omega
      rw [List.getElem?_append_right (by omega), hl, Nat.sub_self] at hu
      simp at hu
      subst hu
      exact ht
theorem spotN {w : World} {a : Addr} {v : Value} (h : w.cell? a = some v) : a = ⟨a.block, a.off, none⟩ := by
  cases a with
  | mk b o s =>
    cases s with
    | none => rfl
    | some s =>
      unfold World.cell? at h
      split at h <;> simp at h
section
variable {H : Type} {enc : TypeId × Value → H} {w : World} {base : Nat} {sp : Nat → Bool} {held : Bool}
set_option maxRecDepth 100000 in
theorem ints_open {fuel : Nat} {c : Value} {x : DataW H × List MemPlace} (h : DataW.trod enc Tryz.prog w base sp held fuel 41 [c] = some x) : ∃ A l cap, c = .slice A (l : List Int).length cap ∧ IntsAt w (fun _ => True) (.slice A l.length cap) l ∧ InR l := by
  rcases DataW.trod_slice Tryz.underlying41 h with ⟨e1, _⟩ | ⟨a, len, cap, elems, rest, n', hn', e1, _, hb, hlc, _, hel, hcell, _⟩
  · simp only [List.cons.injEq, and_true] at e1
    subst e1
    exact ⟨none, [], 0, rfl, IntsAt.nil _ _, fun x hx => by cases hx⟩
  · simp only [List.cons.injEq, and_true] at e1
    subst e1
    rw [cells3] at hcell
    have key : ∀ i, i < len → ∃ z : Int, w.cell? ((a.add (i * 1)).add 0) = some (.int .i64 z) ∧ i64R z := fun i hi => by
      have h := hcell i hi
      rw [List.getElem?_eq_getElem (by omega)] at h
      obtain ⟨cs', hc, ht⟩ := Option.bind_eq_some_iff.1 h
      obtain ⟨_, hcl, hat⟩ := World.cells?_some hc
      obtain ⟨z, e, _, hw⟩ := DataW.trod_int Tryz.underlying3 ht
      subst e
      exact ⟨z, hat 0 (by omega), bounds_i64 hw⟩
    obtain ⟨l, hll, hP⟩ := pickL _ len key
    refine ⟨some a, l, cap, by rw [hll], ⟨some a, cap, rfl, by omega, (fun h => by cases h), fun hp => ?_⟩, fun z hz => ?_⟩
    · obtain ⟨z0, h0, _⟩ := key 0 (by omega)
      have e0 : (a.add (0 * 1)).add 0 = a := by simp [Addr.add]
      rw [e0] at h0
      have ha := spotN h0
      refine ⟨a.block, a.off, by rw [← ha], trivial, World.block_lt_of_cell? w _ h0, fun j z hj => ?_⟩
      have h1 := (hP j z hj).1
      rw [ha, addr_add, addr_add] at h1
      rwa [show a.off + j * 1 + 0 = a.off + j by omega] at h1
    · obtain ⟨j, hj⟩ := List.getElem?_of_mem hz
      exact (hP j z hj).2
theorem cellsFn : Tryz.prog.cellsOf 47 = 4 := by kernel_rfl
theorem cellsSp : Tryz.prog.cellsOf 49 = 4 := by kernel_rfl
theorem cellsTy : Tryz.prog.cellsOf 45 = 2 := by kernel_rfl
theorem cellsI : Tryz.prog.cellsOf 41 = 1 := by kernel_rfl
theorem cellsB : Tryz.prog.cellsOf 4 = 1 := by kernel_rfl
theorem cellsNd : Tryz.prog.cellsOf 51 = 14 := by kernel_rfl
theorem list_four {α : Type} {l : List α} (h : l.length = 4) : ∃ a b c d, l = [a, b, c, d] := by
  match l, h with
  | [a, b, c, d], _ => exact ⟨a, b, c, d, rfl⟩
theorem list_seven {α : Type} {l : List α} (h : l.length = 7) : ∃ a b c d e f g, l = [a, b, c, d, e, f, g] := by
  match l, h with
  | [a, b, c, d, e, f, g], _ => exact ⟨a, b, c, d, e, f, g, rfl⟩
theorem list_fourteen {α : Type} {l : List α} (h : l.length = 14) : ∃ a b c d e f g a1 b1 c1 d1 e1 f1 g1, l = [a, b, c, d, e, f, g, a1, b1, c1, d1, e1, f1, g1] := by
  match l, h with
  | [a, b, c, d, e, f, g, a1, b1, c1, d1, e1, f1, g1], _ => exact ⟨a, b, c, d, e, f, g, a1, b1, c1, d1, e1, f1, g1, rfl⟩
theorem int_open {fuel : Nat} {c : Value} {x : DataW H × List MemPlace} (h : DataW.trod enc Tryz.prog w base sp held fuel 3 [c] = some x) : ∃ z, c = .int .i64 z ∧ i64R z := by
  obtain ⟨z, e, _, hw⟩ := DataW.trod_int Tryz.underlying3 h
  simp only [List.cons.injEq, and_true] at e
  exact ⟨z, e, bounds_i64 hw⟩
theorem text_open {fuel : Nat} {c : Value} {x : DataW H × List MemPlace} (h : DataW.trod enc Tryz.prog w base sp held fuel 9 [c] = some x) : ∃ s : List UInt8, c = .string ⟨s.toArray⟩ := by
  obtain ⟨s, e, _, hw⟩ := DataW.trod_string Tryz.underlying9 h
  simp only [List.cons.injEq, and_true] at e
  exact ⟨s.data.toList, e⟩
theorem bool_open {fuel : Nat} {c : Value} {x : DataW H × List MemPlace} (h : DataW.trod enc Tryz.prog w base sp held fuel 4 [c] = some x) : ∃ b, c = .bool b := by
  obtain ⟨b, e, _⟩ := DataW.trod_bool Tryz.underlying4 h
  simp only [List.cons.injEq, and_true] at e
  exact ⟨b, e⟩
theorem fn_open {fuel : Nat} {c0 c1 c2 c3 : Value} {x : DataW H × List MemPlace} (h : DataW.trod enc Tryz.prog w base sp held fuel 47 [c0, c1, c2, c3] = some x) : ∃ a b c d, c0 = .int .i64 a ∧ c1 = .int .i64 b ∧ c2 = .int .i64 c ∧ c3 = .int .i64 d ∧ i64R a ∧ i64R b ∧ i64R c ∧ i64R d := by
  obtain ⟨xs, n, _, hx, hl, hxl, hf⟩ := DataW.trod_struct Tryz.underlying47 h
  obtain ⟨x0, x1, x2, x3, rfl⟩ := list_four hxl
  have f0 : DataW.trod enc Tryz.prog w base sp held n 3 (([c0, c1, c2, c3].drop 0).take (Tryz.prog.cellsOf 3)) = some x0 := hf 0 _ rfl
  have f1 : DataW.trod enc Tryz.prog w base sp held n 3 (([c0, c1, c2, c3].drop 1).take (Tryz.prog.cellsOf 3)) = some x1 := hf 1 _ rfl
  have f2 : DataW.trod enc Tryz.prog w base sp held n 3 (([c0, c1, c2, c3].drop 2).take (Tryz.prog.cellsOf 3)) = some x2 := hf 2 _ rfl
  have f3 : DataW.trod enc Tryz.prog w base sp held n 3 (([c0, c1, c2, c3].drop 3).take (Tryz.prog.cellsOf 3)) = some x3 := hf 3 _ rfl
  rw [cells3] at f0 f1 f2 f3
  obtain ⟨a, ha, ra⟩ := int_open (c := c0) f0
  obtain ⟨b, hb, rb⟩ := int_open (c := c1) f1
  obtain ⟨c, hc, rc⟩ := int_open (c := c2) f2
  obtain ⟨d, hd, rd⟩ := int_open (c := c3) f3
  exact ⟨a, b, c, d, ha, hb, hc, hd, ra, rb, rc, rd⟩
theorem sp_open {fuel : Nat} {c0 c1 c2 c3 : Value} {x : DataW H × List MemPlace} (h : DataW.trod enc Tryz.prog w base sp held fuel 49 [c0, c1, c2, c3] = some x) : ∃ a b c d, c0 = .int .i64 a ∧ c1 = .int .i64 b ∧ c2 = .int .i64 c ∧ c3 = .bool d ∧ i64R a ∧ i64R b ∧ i64R c := by
  obtain ⟨xs, n, _, hx, hl, hxl, hf⟩ := DataW.trod_struct Tryz.underlying49 h
  obtain ⟨x0, x1, x2, x3, rfl⟩ := list_four hxl
  have f0 : DataW.trod enc Tryz.prog w base sp held n 3 (([c0, c1, c2, c3].drop 0).take (Tryz.prog.cellsOf 3)) = some x0 := hf 0 _ rfl
  have f1 : DataW.trod enc Tryz.prog w base sp held n 3 (([c0, c1, c2, c3].drop 1).take (Tryz.prog.cellsOf 3)) = some x1 := hf 1 _ rfl
  have f2 : DataW.trod enc Tryz.prog w base sp held n 3 (([c0, c1, c2, c3].drop 2).take (Tryz.prog.cellsOf 3)) = some x2 := hf 2 _ rfl
  have f3 : DataW.trod enc Tryz.prog w base sp held n 4 (([c0, c1, c2, c3].drop 3).take (Tryz.prog.cellsOf 4)) = some x3 := hf 3 _ rfl
  rw [cells3] at f0 f1 f2
  rw [cellsB] at f3
  obtain ⟨a, ha, ra⟩ := int_open (c := c0) f0
  obtain ⟨b, hb, rb⟩ := int_open (c := c1) f1
  obtain ⟨c, hc, rc⟩ := int_open (c := c2) f2
  obtain ⟨d, hd⟩ := bool_open (c := c3) f3
  exact ⟨a, b, c, d, ha, hb, hc, hd, ra, rb, rc⟩
set_option maxRecDepth 100000 in
theorem gn_open {fuel : Nat} {cs : List Value} {x : DataW H × List MemPlace} (hl : cs.length = 14) (h : DataW.trod enc Tryz.prog w base sp held (fuel + 1) 51 cs = some x) :
    ∃ (n : Gn) (IA SA A : Option Addr) (ic sc c : Nat), cs = (n.val IA SA A ic sc c).cells.toList ∧ GnAt w (fun _ => True) fuel (n.val IA SA A ic sc c) n ∧ GnR n ∧ i64R n.op := by
  obtain ⟨c0, c1, c2, c3, c4, c5, c6, c7, c8, c9, c10, c11, c12, c13, rfl⟩ := list_fourteen hl
  obtain ⟨xs, n, hn, hx, hl, hxl, hf⟩ := DataW.trod_struct Tryz.underlying51 h
  obtain rfl : fuel = n := by omega
  obtain ⟨x0, x1, x2, x3, x4, x5, x6, rfl⟩ := list_seven hxl
  have f0 : DataW.trod enc Tryz.prog w base sp held fuel 3 (([c0, c1, c2, c3, c4, c5, c6, c7, c8, c9, c10, c11, c12, c13].drop 0).take (Tryz.prog.cellsOf 3)) = some x0 := hf 0 _ rfl
  have f1 : DataW.trod enc Tryz.prog w base sp held fuel 41 (([c0, c1, c2, c3, c4, c5, c6, c7, c8, c9, c10, c11, c12, c13].drop 1).take (Tryz.prog.cellsOf 41)) = some x1 := hf 1 _ rfl
  have f2 : DataW.trod enc Tryz.prog w base sp held fuel 41 (([c0, c1, c2, c3, c4, c5, c6, c7, c8, c9, c10, c11, c12, c13].drop 2).take (Tryz.prog.cellsOf 41)) = some x2 := hf 2 _ rfl
  have f3 : DataW.trod enc Tryz.prog w base sp held fuel 9 (([c0, c1, c2, c3, c4, c5, c6, c7, c8, c9, c10, c11, c12, c13].drop 3).take (Tryz.prog.cellsOf 9)) = some x3 := hf 3 _ rfl
  have f4 : DataW.trod enc Tryz.prog w base sp held fuel 45 (([c0, c1, c2, c3, c4, c5, c6, c7, c8, c9, c10, c11, c12, c13].drop 4).take (Tryz.prog.cellsOf 45)) = some x4 := hf 4 _ rfl
  have f5 : DataW.trod enc Tryz.prog w base sp held fuel 47 (([c0, c1, c2, c3, c4, c5, c6, c7, c8, c9, c10, c11, c12, c13].drop 6).take (Tryz.prog.cellsOf 47)) = some x5 := hf 5 _ rfl
  have f6 : DataW.trod enc Tryz.prog w base sp held fuel 49 (([c0, c1, c2, c3, c4, c5, c6, c7, c8, c9, c10, c11, c12, c13].drop 10).take (Tryz.prog.cellsOf 49)) = some x6 := hf 6 _ rfl
  rw [cells3] at f0
  rw [cellsI] at f1 f2
  rw [cells9] at f3
  rw [cellsTy] at f4
  rw [cellsFn] at f5
  rw [cellsSp] at f6
  obtain ⟨op, rfl, rop⟩ := int_open (c := c0) f0
  obtain ⟨IA, ins, ic, rfl, hi1, hr1⟩ := ints_open (c := c1) f1
  obtain ⟨SA, side, sc, rfl, hi2, hr2⟩ := ints_open (c := c2) f2
  obtain ⟨s, rfl⟩ := text_open (c := c3) f3
  obtain ⟨t, ht⟩ := Lw5.ty_open fuel [c4, c5] x4 f4
  obtain ⟨a0, a1, a2, a3, rfl, rfl, rfl, rfl, r0, r1, r2, r3⟩ := fn_open (c0 := c6) (c1 := c7) (c2 := c8) (c3 := c9) f5
  obtain ⟨b0, b1, b2, b3, rfl, rfl, rfl, rfl, q0, q1, q2⟩ := sp_open (c0 := c10) (c1 := c11) (c2 := c12) (c3 := c13) f6
  have ht0 := ht
  obtain ⟨A, c, e⟩ := ht0.form
  injection e with e
  have e' := congrArg Array.toList e
  simp only [List.cons.injEq, and_true] at e'
  obtain ⟨rfl, rfl⟩ := e'
  exact ⟨⟨op, ins, side, s, t, a0, a1, a2, a3, b0, b1, b2, b3⟩, IA, SA, A, ic, sc, c, rfl, ⟨IA, SA, A, ic, sc, c, rfl, hi1, hi2, ht⟩, ⟨hr1, hr2, r0, r1, r2, r3, q0, q1, q2⟩, rop⟩
set_option maxRecDepth 100000 in
theorem gs_open {v : Value} {d : DataW H} {p : List MemPlace} {r : Reach} {b0 : Nat} (hv : Value.okWide Tryz.prog w r b0 22 v) (h : DataW.Trod enc Tryz.prog w base sp held 22 v d p) :
    ∃ (D : Nat) (l : List Gn), GsAt w (fun _ => True) D v l ∧ (∀ n ∈ l, GnR n ∧ i64R n.op) ∧ l.length ≤ maxLen := by
  obtain ⟨a0, len0, cap0, rfl⟩ := okWide_slice Tryz.underlying22 hv
  obtain ⟨fuel, hf⟩ := h
  rcases DataW.trod_slice Tryz.underlying22 (show DataW.trod enc Tryz.prog w base sp held fuel 22 [.slice a0 len0 cap0] = some (d, p) from hf) with ⟨e1, _⟩ | ⟨a, len, cap, elems, rest, n', hn', e1, _, hb, hlc, hcm, hel, hcell, _⟩
  · simp only [List.cons.injEq, and_true] at e1
    rw [e1]
    exact ⟨0, [], ⟨none, 0, rfl, Nat.le_refl _, fun h => by simp at h⟩, (fun n hn => by cases hn), Nat.zero_le _⟩
  · simp only [List.cons.injEq, and_true] at e1
    rw [e1]
    rw [cellsNd] at hcell
    cases n' with
    | zero =>
      by_cases hz : len = 0
      · subst hz
        exact ⟨0, [], ⟨some a, cap, rfl, Nat.zero_le _, fun h => by simp at h⟩, (fun n hn => by cases hn), Nat.zero_le _⟩
      · have h := hcell 0 (by omega)
        rw [List.getElem?_eq_getElem (by omega)] at h
        obtain ⟨cs', hc, ht⟩ := Option.bind_eq_some_iff.1 h
        simp [DataW.trod] at ht
    | succ m =>
      have key : ∀ i, i < len → ∃ n : Gn, (∃ (IA SA A : Option Addr) (ic sc c : Nat), GnAt w (fun _ => True) m (n.val IA SA A ic sc c) n ∧ ∀ (k : Nat) (u : Value), (n.val IA SA A ic sc c).cells[k]? = some u → w.cell? ((a.add (i * 14)).add k) = some u) ∧ GnR n ∧ i64R n.op := fun i hi => by
        have h := hcell i hi
        rw [List.getElem?_eq_getElem (by omega)] at h
        obtain ⟨cs', hc, ht⟩ := Option.bind_eq_some_iff.1 h
        obtain ⟨_, hcl, hat⟩ := World.cells?_some hc
        obtain ⟨n, IA, SA, A, ic, sc, c, rfl, hg, hr, hop⟩ := gn_open hcl ht
        refine ⟨n, ⟨IA, SA, A, ic, sc, c, hg, fun k u hu => ?_⟩, hr, hop⟩
        have hk := (Array.getElem?_eq_some_iff.1 hu).1
        have h1 := hat k hk
        rw [h1, Array.getElem?_toList]
        exact hu
      obtain ⟨l, hll, hP⟩ := pickL _ len key
      refine ⟨m, l, ⟨some a, cap, by rw [hll], by omega, fun hp => ?_⟩, fun n hn => ?_, by omega⟩
      · obtain ⟨n0, ⟨_, _, _, _, _, _, _, h0⟩, _⟩ := key 0 (by omega)
        have h00 := h0 0 _ rfl
        have e0 : (a.add (0 * 14)).add 0 = a := by simp [Addr.add]
        rw [e0] at h00
        have ha := spotN h00
        refine ⟨a.block, a.off, by rw [← ha], trivial, World.block_lt_of_cell? w _ h00, fun j n hj => ?_⟩
        obtain ⟨⟨IA, SA, A, ic, sc, c, hg, hu⟩, _⟩ := hP j n hj
        refine ⟨IA, SA, A, ic, sc, c, hg, fun k u hk => ?_⟩
        have h1 := hu k u hk
        rwa [ha, addr_add, addr_add] at h1
      · obtain ⟨j, hj⟩ := List.getElem?_of_mem hn
        exact (hP j n hj).2
end
end Go.Proofs.YtllnamhgnbdkmaaGreatDoor
