/-
Slices of strings that the call has made: sorted, compacted, and stored into.
-/
import Derived.Test.YtadbnlnifacblaaGreatDoorPrt
import Derived.Shelf.Slices.In.SortNone
import Derived.Test.YtadbnlnifacblaaGreatDoorFra
import Derived.Test.YtadbnlnifacblaaGreatDoorSzp
namespace Go.Proofs.YtadbnlnifacblaaGreatDoor
open Go.RowKit Go.Shelf Go.Sort
theorem putRow_grown (enc : List UInt8 → Value) (w : World) (q g off : Nat) (d : Array (List UInt8)) : w.grownBy (putRow enc (Sort.ahead w q) g off d) (some g) := by
  refine ⟨rfl, rfl, rfl, by simp [putRow, mapBlock, Sort.ahead], fun k hk hne => ?_⟩
  have : g ≠ k := fun e => hne (by rw [e])
  simp [putRow, mapBlock, Sort.ahead, Array.getElem?_modify, this]
abbrev sortL (l : List (List UInt8)) : List (List UInt8) := l.mergeSort fun x y => decide (x ≤ y)
theorem sort_own (B : Nat) (v : Value) (l : List (List UInt8)) (w : World) (h : w.ownsRow B 9 1 v l.length (l.map encStr)) (hl : l.length ≤ 1000000000) :
    Calls Tryz.prog 52 #[v] w fun e w' => e = .returned (.tuple #[]) ∧ w'.ownsRow B 9 1 v (sortL l).length ((sortL l).map encStr) ∧ w.grownBy w' v.ownBlock := by
  have h0 := h
  rcases h.2 with ⟨rfl, hz⟩ | ⟨g, cap, cur, rfl, hb, hg, hn, hm, hs, ht⟩
  · have : l = [] := List.eq_nil_of_length_eq_zero hz
    subst this
    refine (Any.slices_Sort_string_none Tryz.lays190 none 0 w).mono fun e w' ⟨he, hw⟩ => ⟨he, ?_, ?_⟩
    · rw [hw, show sortL [] = [] by simp [sortL]]; exact h0
    · rw [hw]; exact ⟨rfl, rfl, rfl, Nat.le_refl _, fun _ _ _ => rfl⟩
  · have hgl : g < w.heap.size := cell_lt hg
    have hH := holds_of_block (ss := l) hg (by simpa using ht)
    refine (Any.slices_Sort_string Tryz.lays190 g 0 cap l w hH hgl (by omega)).mono fun e w' ⟨he, n, os, hw⟩ => ⟨he, ?_, ?_⟩
    · rw [hw]
      have := ownsRow_sorted (n := n) (os := os) (ss := l) (ts := sortL l) (List.length_mergeSort l) hb hg hn hm hs
      rwa [show (sortL l).length = l.length from List.length_mergeSort l]
    · rw [hw]; exact grownBy_sorted _
theorem compact_own (B : Nat) (v : Value) (l : List (List UInt8)) (w : World) (h : w.ownsRow B 9 1 v l.length (l.map encStr)) (hl : l.length ≤ 1000000000) :
    Calls Tryz.prog 53 #[v] w fun e w' => ∃ v', e = .returned v' ∧ w'.ownsRow B 9 1 v' (Lib.compact l).length ((Lib.compact l).map encStr) ∧ v'.ownBlock = v.ownBlock ∧ w.grownBy w' v.ownBlock := by
  have h0 := h
  rcases h.2 with ⟨rfl, hz⟩ | ⟨g, cap, cur, rfl, hb, hg, hn, hm, hs, ht⟩
  · have : l = [] := List.eq_nil_of_length_eq_zero hz
    subst this
    refine (Tryz.slices_Compact_string_empty none 0 w).mono fun e w' ⟨he, hw⟩ => ⟨_, he, ?_, rfl, ?_⟩
    · rw [hw]; exact h0
    · rw [hw]; exact ⟨rfl, rfl, rfl, Nat.le_refl _, fun _ _ _ => rfl⟩
  · have hgl : g < w.heap.size := cell_lt hg
    have hH := holds_of_block (ss := l) hg (by simpa using ht)
    have hcl := Lib.compact_length_le l
    refine (Tryz.slices_Compact_string g 0 cap l w hH (by omega) (by omega)).mono fun e w' ⟨he, q, hw⟩ => ⟨_, he, ?_, rfl, ?_⟩
    · rw [hw]
      have := Lib.ownsRow_putRow (q := q) (k := (Lib.compact l).length) (ys := Lib.compact l ++ List.replicate (l.length - (Lib.compact l).length) []) h0 (by simp; omega) hcl
      rw [List.take_left] at this
      exact this
    · rw [hw]; exact putRow_grown _ _ _ _ _ _
theorem own_set {w : World} {B g : Nat} {n c : Nat} {l : List (List UInt8)} {j : Nat} {x : List UInt8} (h : w.ownsRow B 9 1 (.slice (some ⟨g, 0, none⟩) n c) l.length (l.map encStr)) (hx : l[j]? = some x) :
    (w.setCell ⟨g, j, none⟩ (encStr x)).ownsRow B 9 1 (.slice (some ⟨g, 0, none⟩) n c) l.length (l.map encStr) ∧ w.grownBy (w.setCell ⟨g, j, none⟩ (encStr x)) (some g) := by
  refine ⟨⟨h.1, ?_⟩, ⟨rfl, rfl, rfl, by simp [World.setCell], fun k _ hk => Below.heap_setCell _ _ _ _ (fun e => hk (by simp [e]))⟩⟩
  rcases h.2 with ⟨e, _⟩ | ⟨g', cap, cur, e, hb, hg, hn, hm, hs, ht⟩
  · cases e
  · have hj := (List.getElem?_eq_some_iff.1 hx).1
    have e0 := e
    injection e with e1 e2 e3
    injection e1 with e1
    injection e1 with e1
    subst e1
    refine .inr ⟨g, cap, cur.set! j (encStr x), e0, hb, ?_, hn, hm, by simpa using hs, ?_⟩
    · simp [World.setCell, Array.getElem?_modify, hg]
    · have hc : cur.toList[j]? = some (encStr x) := by
        have h1 : (cur.toList.take (l.length * 1))[j]? = (l.map encStr)[j]? := by rw [ht]
        rw [List.getElem?_take_of_lt (by omega), List.getElem?_map, hx] at h1
        exact h1
      have hset : (cur.set! j (encStr x)).toList = cur.toList := by
        rw [Array.set!_eq_setIfInBounds, Array.toList_setIfInBounds]
        apply List.ext_getElem?
        intro i
        rw [List.getElem?_set]
        split
        · rename_i hij
          subst hij
          rw [hc]
          split
          · rfl
          · rename_i hlt
            have := (List.getElem?_eq_some_iff.1 hc).1
            omega
        · rfl
      rw [hset]; exact ht
end Go.Proofs.YtadbnlnifacblaaGreatDoor
namespace Go.Proofs.YtadbnlnifacblaaGreatDoor
open Go.RowKit Go.Sort
def FeOut (B : Nat) (w' : World) (e : Ending) (n : Nd) : Prop :=
  if (showW n).isSome then ∃ v', e = .returned (.tuple #[v', .int .i64 0]) ∧ w'.ownsRow B 9 1 v' (freeL n).length ((freeL n).map encStr)
  else e = .returned (.tuple #[.slice none 0 0, .int .i64 110])
theorem mem_compact {l : List (List UInt8)} {x : List UInt8} : x ∈ Lib.compact l ↔ x ∈ l := by
  have hone : ∀ m, m ≤ l.length → (x ∈ Lib.compactUpTo l.toArray m ↔ x ∈ l.take m) := by
    intro m
    induction m with
    | zero => intro _; simp [Lib.compactUpTo]
    | succ m IH =>
      intro hm
      have hml : m < l.length := by omega
      have hI := IH (by omega)
      rw [Lib.compactUpTo_succ, List.mem_append, hI, List.take_add_one, List.mem_append, List.getElem?_eq_getElem hml]
      have hg : l.toArray[m]! = l[m] := by simp [getElem!_pos, hml]
      by_cases hk : Lib.keeps l.toArray m = true
      · rw [if_pos hk, hg]
        simp
      · rw [if_neg hk]
        have hk2 : m ≠ 0 ∧ l.toArray[m]! = l.toArray[m - 1]! := by
          unfold Lib.keeps at hk
          simp only [decide_eq_true_eq, not_or, Decidable.not_not, ne_eq] at hk
          exact hk
        have hp : l.toArray[m - 1]! = l[m - 1] := by simp [getElem!_pos, show m - 1 < l.length by omega]
        constructor
        · rintro (h | h)
          · exact .inl h
          · cases h
        · rintro (h | h)
          · exact .inl h
          · simp only [Option.toList_some, List.mem_singleton] at h
            refine .inl ?_
            rw [h, ← hg, hk2.2, hp]
            exact List.mem_take_iff_getElem.2 ⟨m - 1, by omega, rfl⟩
  have := hone l.length (Nat.le_refl _)
  rw [List.take_length] at this
  exact this
theorem mem_freeL {n : Nd} {x : List UInt8} : x ∈ freeL n ↔ x ∈ freeT 24 n [] := by
  unfold freeL
  rw [mem_compact, List.mem_mergeSort]
theorem freeL_len {n : Nd} (h : (showW n).isSome = true) : (freeL n).length ≤ 4096 := by
  unfold freeL
  have h1 := Lib.compact_length_le ((freeT 24 n []).mergeSort fun x y => decide (x ≤ y))
  rw [List.length_mergeSort] at h1
  have := free_few h []
  omega
theorem freeL_short {n : Nd} (h : (showW n).isSome = true) : ∀ x ∈ freeL n, x.length ≤ 16 := fun x hx => name_le (freeT_names 24 n [] (showW_term h) x (mem_freeL.1 hx))
set_option maxRecDepth 100000 in
set_option maxHeartbeats 4000000 in
theorem exprFree_any (d : Nat) (S : Nat → Prop) (v : Value) (n : Nd) (w : World) (hN : NdAt w S d v n) (hR : RgN 24 n) (hG : Gl w) :
    Calls Tryz.prog 20 #[v] w fun e w' => FeOut w.heap.size w' e n ∧ Below w.heap.size w w' := by
  obtain ⟨A, c, K, kc, rfl⟩ := hN.form
  have hGl := hG.lt2
  have hba := (Below.refl w.heap.size w).alloc (Nat.le_refl _) (.cells #[.string ⟨n.op.toArray⟩, .int .i64 n.int, .string ⟨n.text.toArray⟩, .int .i64 n.ty.kind, .slice A n.ty.args.length c, .slice K n.kids.length kc] 27)
  have HC1 := Lib.hid (heap_alloc_new w (.cells #[.string ⟨n.op.toArray⟩, .int .i64 n.int, .string ⟨n.text.toArray⟩, .int .i64 n.ty.kind, .slice A n.ty.args.length c, .slice K n.kids.length kc] 27))
  have hs1 : (w.alloc (.cells #[.string ⟨n.op.toArray⟩, .int .i64 n.int, .string ⟨n.text.toArray⟩, .int .i64 n.ty.kind, .slice A n.ty.args.length c, .slice K n.kids.length kc] 27)).heap.size = w.heap.size + 1 := by simp
  have HNB := Lib.hid (fun (W : World) (h : Below w.heap.size w W) => hN.below h)
  have hT := exprCheck_any d S _ n _ (HNB.out _ hba) hR (hG.below hba hGl)
  have HT := Lib.hid hT
  have HBA := Lib.hid hba
  clear hN hG hR hT hba
  go_enter Tryz.func20, Tryz.ntmps20
  go_wp2_with (fail)
  refine HT.out.mono ?_
  clear HT
  generalize w.alloc (.cells #[.string ⟨n.op.toArray⟩, .int .i64 n.int, .string ⟨n.text.toArray⟩, .int .i64 n.ty.kind, .slice A n.ty.args.length c, .slice K n.kids.length kc] 27) = w1 at *
  rintro e w2 ⟨hck, hb2⟩
  have HB2 := Lib.hid (HBA.out.trans (hb2.mono (by omega)))
  have HC2 := Lib.hid (below_at hb2 HC1.out)
  have hs2 := hb2.size
  clear hb2 HC1
  by_cases hq : (showW n).isSome = true
  · obtain ⟨x, hx⟩ := Option.isSome_iff_exists.1 hq
    rw [hx] at hck
    obtain rfl : e = .returned (.int .i64 0) := hck
    have HQ := Lib.hid hq
    have HX := Lib.hid hx
    have hF := free_any 24 d S _ (.slice none 0 0) n [] w2 (HNB.out _ HB2.out) (showW_term hq) (StrAt.nil _ _) (by simp) (by have := free_few hq []; omega)
    have HF := Lib.hid hF
    have hfl : (freeT 24 n []).length ≤ 4096 := free_few hq []
    have hsl : (sortL (freeT 24 n [])).length ≤ 4096 := by rw [show (sortL (freeT 24 n [])).length = (freeT 24 n []).length from List.length_mergeSort _]; exact hfl
    have hcl := freeL_len hq
    have HSH := Lib.hid (freeL_short hq)
    have d0 := cell6_0 HC2.out
    have d1 := cell6_1 HC2.out
    have d2 := cell6_2 HC2.out
    have d3 := cell6_3 HC2.out
    have d4 := cell6_4 HC2.out
    have d5 := cell6_5 HC2.out
    have dl := cell_lt HC2.out
    clear hq hx hF
    go_wp2_with (fail)
    refine HF.out.mono ?_
    clear HF
    rintro e w3 ⟨⟨v3, rfl, ho3⟩, hb3⟩
    have HO3 := Lib.hid ho3
    have HB3 := Lib.hid (HB2.out.trans (hb3.mono (by omega)))
    have hs3 := hb3.size
    clear ho3 hb3 d0 d1 d2 d3 d4 d5 dl HC2
    go_wp2_with (fail)
    refine (sort_own _ _ _ _ HO3.out (by omega)).mono ?_
    rintro e w4 ⟨rfl, ho4, hg4⟩
    have HO4 := Lib.hid ho4
    have HB4 := Lib.hid (HB3.out.grown hg4 (by omega) (fun k hk => by have := (HO3.out.lt k hk).1; omega))
    have hs4 := hg4.size
    clear ho4 hg4 HO3
    go_wp2_with (fail)
    refine (compact_own _ _ _ _ HO4.out (by omega)).mono ?_
    rintro e w5 ⟨v5, rfl, ho5, hv5, hg5⟩
    have HO5 : Hid (w5.ownsRow w2.heap.size 9 1 v5 (freeL n).length ((freeL n).map encStr)) := ho5
    have HB5 := Lib.hid (HB4.out.grown hg5 (by omega) (fun k hk => by have := (HO4.out.lt k hk).1; omega))
    have hs5 := hg5.size
    clear ho5 hg5 hv5 HO4
    obtain ⟨l, hle⟩ : ∃ l, l = freeL n := ⟨_, rfl⟩
    rw [← hle] at HO5 HSH hcl
    have HLE := Lib.hid hle
    clear hle
    obtain ⟨A5, c5, rfl⟩ := (StrAt.of_own HO5.out).form
    go_wp2_with (fail)
    go_loopw [20] (fun iv wr => ∃ j : Nat, iv = .int .i64 (j : Int) ∧ j ≤ l.length ∧ Hid (wr.ownsRow w2.heap.size 9 1 (.slice A5 l.length c5) l.length (l.map encStr)) ∧ Hid (Below w.heap.size w wr) ∧ w2.heap.size ≤ wr.heap.size) (fun iv _ => 5000 - (intOf iv).toNat)
    case atStart => exact ⟨0, rfl, Nat.zero_le _, HO5, HB5, by omega⟩
    case round =>
      obtain ⟨j, rfl, hj, HO, HB, hsz⟩ := hrel
      by_cases hlt : j < l.length
      · obtain ⟨x, hx⟩ : ∃ x, l[j]? = some x := ⟨_, List.getElem?_eq_getElem hlt⟩
        have hxs := HSH.out x (List.mem_of_getElem? hx)
        obtain ⟨g, rfl⟩ : ∃ g, A5 = some ⟨g, 0, none⟩ := by
          rcases HO.out.2 with ⟨_, h0⟩ | ⟨g, _, _, he, _⟩
          · omega
          · injection he with e1 e2 e3; exact ⟨g, e1⟩
        have HX := Lib.hid hx
        have hcell : ∀ W : World, W.ownsRow w2.heap.size 9 1 (.slice (some ⟨g, 0, none⟩) l.length c5) l.length (l.map encStr) → W.cell? ⟨g, j, none⟩ = some (.string ⟨x.toArray⟩) ∧ W.frozen? ⟨g, j, none⟩ = false ∧ w2.heap.size ≤ g ∧ g < W.heap.size := fun W h => by
          have hc := h.cellAt j (by omega)
          rw [List.getElem?_map, HX.out] at hc
          refine ⟨hc, ?_, ?_⟩
          · rcases h.2 with ⟨h0, _⟩ | ⟨g', _, _, he, _, hg, _⟩
            · cases h0
            · injection he with e1 _ _; injection e1 with e1; injection e1 with e1
              subst e1
              simp [World.frozen?, hg]
          · have := h.lt g rfl
            exact this
        have HCELL := Lib.hid hcell
        obtain ⟨cx, fx, hg0, hg1⟩ := hcell wr HO.out
        have hjl : ((j : Int) < (l.length : Int)) := by omega
        clear hx hcell
        go_wp2_with (fail)
        refine (clone_any ⟨x.toArray⟩ wr (by simp [ByteArray.size]; omega)).mono ?_
        rintro e w6 ⟨rfl, hb6⟩
        have HO6 := Lib.hid (HO.out.kept (row := none) ⟨hb6.os, hb6.tape, hb6.output, hb6.size, fun k hk _ => hb6.block k hk⟩ (by simp [Value.ownBlock]))
        have hsr := HB.out.size
        have HB6 := Lib.hid (HB.out.trans (hb6.mono hsr))
        have hs6 := hb6.size
        obtain ⟨cx6, fx6, _, hg6⟩ := HCELL.out w6 HO6.out
        have HSET := Lib.hid (own_set HO6.out HX.out)
        clear hb6 cx fx
        go_wp2_with (fail)
        go_roundw
        case rel => exact ⟨j + 1, by go_num, by omega, HSET.out.1, HB6.out.grown HSET.out.2 (by omega) (fun k hk => by injection hk with hk; omega), by simpa [World.setCell] using (by omega : w2.heap.size ≤ w6.heap.size)⟩
        case measure => simp [intOf]; omega
      · have hjl : ¬ ((j : Int) < (l.length : Int)) := by omega
        go_wp2_with (fail)
        go_ret2
        refine ⟨?_, HB.out⟩
        unfold FeOut
        rw [if_pos HQ.out]
        exact ⟨_, rfl, by rw [← HLE.out]; exact own_lower HO.out (by omega)⟩
  · have hn : showW n = none := by simpa using hq
    rw [hn] at hck
    obtain rfl : e = .returned (.int .i64 110) := hck
    have HQ := Lib.hid hq
    clear hq hn
    go_wp2_with (fail)
    go_ret2
    refine ⟨?_, HB2.out⟩
    unfold FeOut
    rw [if_neg HQ.out]
    rfl
end Go.Proofs.YtadbnlnifacblaaGreatDoor
