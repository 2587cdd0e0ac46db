/-
Stage 11: what is read from a line has just that line. Stage 11: a line is read back: cut, splitN. Stage 11: numbers, places, types are read back from their texts. Stage 11: the line of a right node is read as that node. Stage 11: the text of right nodes is read as these nodes. Stage 11: beginnings of right pipelines. Stage 11: places as the document has them written: one to 4, rising. Stage 11: GraphBack. Stage 11: placesOf.
-/
import Derived.Test.YtllnamhgnbdkmaaGreatDoorYc
import Derived.Test.YtllnamhgnbdkmaaGreatDoorKt
set_option linter.unusedVariables false
set_option linter.unusedSimpArgs false
namespace Go.Proofs.YtllnamhgnbdkmaaGreatDoor
open Go.RowKit Go.Shelf
theorem index_some1 {s : List UInt8} {c : UInt8} {i : Nat} (h : Lib.index s [c] = i) : s[i]? = some c ∧ ∀ k, k < i → s[k]? ≠ some c := Lib.indexByte_some (by rw [← Lib.index_one]; exact h)
theorem take_drop1 {s : List UInt8} {c : UInt8} {i : Nat} (h : s[i]? = some c) : s.take i ++ c :: s.drop (i + 1) = s := by
  obtain ⟨hi, hc⟩ := List.getElem?_eq_some_iff.1 h
  have : s.drop i = c :: s.drop (i + 1) := by rw [List.drop_eq_getElem_cons hi, hc]
  rw [← this, List.take_append_drop]
theorem cut_join {s : List UInt8} {c : UInt8} (h : (Lib.cut s [c]).2.2 = true) : (Lib.cut s [c]).1 ++ c :: (Lib.cut s [c]).2.1 = s := by
  unfold Lib.cut at h ⊢
  split
  · rename_i h0
    exact take_drop1 (index_some1 (i := (Lib.index s [c]).toNat) (by omega)).1
  · rename_i h0
    rw [if_neg h0] at h
    cases h
theorem cut_miss {s : List UInt8} {c : UInt8} (h : (Lib.cut s [c]).2.2 = false) : (Lib.cut s [c]).2.1 = [] := by
  unfold Lib.cut at h ⊢
  split
  · rename_i h0
    rw [if_pos h0] at h
    cases h
  · rfl
theorem splitK_ne (c : UInt8) : ∀ (k : Nat) (s : List UInt8), Lib.splitK [c] 0 k s ≠ []
  | 0, s => by simp [Lib.splitK]
  | k + 1, s => by unfold Lib.splitK; split <;> simp
theorem splitK_join (c : UInt8) : ∀ (k : Nat) (s : List UInt8), Lib.join (Lib.splitK [c] 0 k s) [c] = s
  | 0, s => Lib.join_one _ _
  | k + 1, s => by
    unfold Lib.splitK
    split
    · exact Lib.join_one _ _
    · rename_i h
      have h1 : Lib.index s [c] ≠ -1 := by simpa using h
      have h2 := Lib.index_ge s [c]
      obtain ⟨y, l, hl⟩ : ∃ y l, Lib.splitK [c] 0 k (s.drop ((Lib.index s [c]).toNat + 1)) = y :: l := by
        cases hs : Lib.splitK [c] 0 k (s.drop ((Lib.index s [c]).toNat + 1)) with
        | nil => exact absurd hs (splitK_ne _ _ _)
        | cons y l => exact ⟨y, l, rfl⟩
      have ih := splitK_join c k (s.drop ((Lib.index s [c]).toNat + 1))
      have hd := take_drop1 (index_some1 (s := s) (c := c) (i := (Lib.index s [c]).toNat) (by omega)).1
      rw [hl] at ih
      simp only [List.length_cons, List.length_nil, Nat.add_zero, Nat.zero_add]
      rw [hl]
      have : ∀ (x y : List UInt8) l, Lib.join (x :: y :: l) [c] = x ++ c :: Lib.join (y :: l) [c] := fun x y l => by simp [Lib.join, List.intercalate]
      rw [this, ih]
      exact hd
theorem goodN_back {p : List UInt8} {m v : Int} (h : goodN p m = some v) : Lib.itoa v = p ∧ 0 ≤ v ∧ v ≤ m := by
  unfold goodN at h
  split at h
  · split at h
    · rename_i h2
      cases h
      exact ⟨h2.2, h2.1.1, h2.1.2⟩
    · cases h
  · cases h
theorem placeT_one (v : Int) : placeT [v] = Lib.itoa v := by simp [placeT, Lib.join_one]
structure QOk (q : List UInt8 → Option (List Int)) : Prop where
  back : ∀ s l, q s = some l → placeT l = s
  few : ∀ s l, q s = some l → l.length ≤ 1000 ∧ InR l
  none : q [] = none
theorem sidesP_back {q : List UInt8 → Option (List Int)} (hq : QOk q) {p : List UInt8} {l : List Int} (h : sidesP q p = some l) : placeT l = p ∧ l.length ≤ 1000 ∧ InR l := by
  unfold sidesP at h
  split at h
  · rename_i hp
    cases h
    exact ⟨hp.symm, by simp, by simp [InR]⟩
  · exact ⟨hq.back _ _ h, hq.few _ _ h⟩
theorem modeP_back {p : List UInt8} {b : Bool} (h : modeP p = some b) : (if b = true then [97, 99, 99] else [100, 105, 115]) = p := by
  unfold modeP at h
  split at h
  · rename_i hp; cases h; exact hp.symm
  · split at h
    · rename_i hp; cases h; exact hp.symm
    · cases h
structure NBack (o : Gop) (ps : List (List UInt8)) (n : Gn) : Prop where
  op : n.op = o.number
  parts : partsP n = ps
  full : ps ≠ [[]]
  rng : GnR n
  i1 : n.ins.length ≤ 1000
  i2 : n.side.length ≤ 1000
theorem i64_of {v m : Int} (h : 0 ≤ v ∧ v ≤ m) (hm : m ≤ 9999999) : i64R v := ⟨by omega, by omega⟩
theorem zR : i64R 0 := ⟨by decide, by decide⟩
theorem inR_one {v m : Int} (h : 0 ≤ v ∧ v ≤ m) (hm : m ≤ 9999999) : InR [v] := fun x hx => by
  obtain rfl : x = v := by simpa using hx
  exact ⟨by omega, by omega⟩
theorem inR_nil : InR [] := fun x hx => by cases hx
theorem node1_back {p0 : List UInt8} {n : Gn} (h : node1 p0 = some n) : NBack gop1 [p0] n := by
  unfold node1 at h
  cases hq : (Knd.parseT p0).2 with
  | none => rw [hq] at h; cases h
  | some t =>
    rw [hq] at h
    cases h
    have hp : Knd.parseT p0 = ((Knd.parseT p0).1, some t) := Prod.ext rfl hq
    obtain ⟨h1, q, h2⟩ := Knd.parse_back hp
    refine ⟨rfl, ?_, ?_, ⟨inR_nil, inR_nil, zR, zR, zR, zR, zR, zR, zR⟩, by simp [gz], by simp [gz]⟩
    · show [Knd.textT 6 t] = [p0]
      rw [h1]
    · intro e
      obtain rfl : p0 = [] := by simpa using e
      rw [show (Knd.parseT []).2 = none by decide] at hq
      cases hq
theorem node2_back {q : List UInt8 → Option (List Int)} (hq : QOk q) {p0 p1 p2 : List UInt8} {n : Gn} (h : node2 q p0 p1 p2 = some n) : NBack gop2 [p0, p1, p2] n := by
  unfold node2 at h
  split at h
  · rename_i i s e0 e1 e2
    cases h
    obtain ⟨a1, a2⟩ := goodN_back e0
    obtain ⟨b1, b2, b3⟩ := sidesP_back hq e1
    refine ⟨rfl, ?_, by simp, ⟨inR_one a2 (by decide), b3, zR, zR, zR, zR, zR, zR, zR⟩, by simp [gz], b2⟩
    show [placeT [i], placeT s, p2] = _
    rw [placeT_one, a1, b1]
  · cases h
theorem node3_back {p0 p1 p2 p3 p4 : List UInt8} {n : Gn} (h : node3 p0 p1 p2 p3 p4 = some n) : NBack gop3 [p0, p1, p2, p3, p4] n := by
  unfold node3 at h
  split at h
  · rename_i i a b c d e0 e1 e2 e3 e4
    cases h
    obtain ⟨a1, a2⟩ := goodN_back e0
    obtain ⟨b1, b2⟩ := goodN_back e1
    obtain ⟨c1, c2⟩ := goodN_back e2
    obtain ⟨d1, d2⟩ := goodN_back e3
    obtain ⟨f1, f2⟩ := goodN_back e4
    refine ⟨rfl, ?_, by simp, ⟨inR_one a2 (by decide), inR_nil, i64_of b2 (by decide), i64_of c2 (by decide), i64_of d2 (by decide), i64_of f2 (by decide), zR, zR, zR⟩, by simp [gz], by simp [gz]⟩
    show [placeT [i], Lib.itoa a, Lib.itoa b, Lib.itoa c, Lib.itoa d] = _
    rw [placeT_one, a1, b1, c1, d1, f1]
  · cases h
theorem node4_back {p0 p1 p2 p3 p4 p5 : List UInt8} {n : Gn} (h : node4 p0 p1 p2 p3 p4 p5 = some n) : NBack gop4 [p0, p1, p2, p3, p4, p5] n := by
  unfold node4 at h
  split at h
  · rename_i i a b c d e0 e1 e2 e3 e4 e5
    cases h
    obtain ⟨a1, a2⟩ := goodN_back e0
    obtain ⟨b1, b2⟩ := goodN_back e1
    obtain ⟨c1, c2⟩ := goodN_back e2
    obtain ⟨d1, d2⟩ := goodN_back e3
    have f1 := modeP_back e4
    refine ⟨rfl, ?_, by simp, ⟨inR_one a2 (by decide), inR_nil, zR, zR, zR, zR, i64_of b2 (by decide), i64_of c2 (by decide), i64_of d2 (by decide)⟩, by simp [gz], by simp [gz]⟩
    show [placeT [i], Lib.itoa a, Lib.itoa b, Lib.itoa c, (if d = true then [97, 99, 99] else [100, 105, 115]), p5] = _
    rw [placeT_one, a1, b1, c1, d1, f1]
  · cases h
theorem node5_back {q : List UInt8 → Option (List Int)} (hq : QOk q) {p0 : List UInt8} {n : Gn} (h : node5 q p0 = some n) : NBack gop5 [p0] n := by
  unfold node5 at h
  split at h
  · rename_i s e0
    cases h
    obtain ⟨b2, b3⟩ := hq.few _ _ e0
    refine ⟨rfl, ?_, ?_, ⟨b3, inR_nil, zR, zR, zR, zR, zR, zR, zR⟩, b2, by simp [gz]⟩
    · show [placeT s] = _
      rw [hq.back _ _ e0]
    · intro e
      obtain rfl : p0 = [] := by simpa using e
      rw [hq.none] at e0
      cases e0
  · cases h
theorem node6_back {p0 : List UInt8} {n : Gn} (h : node6 p0 = some n) : NBack gop6 [p0] n := by
  unfold node6 at h
  split at h
  · rename_i i e0
    cases h
    obtain ⟨a1, a2⟩ := goodN_back e0
    refine ⟨rfl, ?_, ?_, ⟨inR_one a2 (by decide), inR_nil, zR, zR, zR, zR, zR, zR, zR⟩, by simp [gz], by simp [gz]⟩
    · show [placeT [i]] = _
      rw [placeT_one, a1]
    · intro e
      obtain rfl : p0 = [] := by simpa using e
      revert e0
      rw [show goodN [] 999 = none by decide]
      intro h; cases h
  · cases h
theorem nodeP_back {q : List UInt8 → Option (List Int)} (hq : QOk q) {o : Gop} (ho : o ∈ gops) {ps : List (List UInt8)} (hn : (ps.length : Int) = o.parts) {n : Gn} (h : nodeP q o.number ps = some n) : NBack o ps n := by
  simp only [gops, List.mem_cons, List.not_mem_nil, or_false] at ho
  rcases ho with rfl | rfl | rfl | rfl | rfl | rfl
  · match ps, hn with
    | [p0], _ => exact node1_back h
  · match ps, hn with
    | [p0, p1, p2], _ => exact node2_back hq h
  · match ps, hn with
    | [p0, p1, p2, p3, p4], _ => exact node3_back h
  · match ps, hn with
    | [p0, p1, p2, p3, p4, p5], _ => exact node4_back h
  · match ps, hn with
    | [p0], _ => exact node5_back hq h
  · match ps, hn with
    | [p0], _ => exact node6_back h
theorem gops_word : ∀ o ∈ gops, opWord o.number = o.word := by decide
theorem lineR_back {q : List UInt8 → Option (List Int)} (hq : QOk q) {line : List UInt8} {n : Gn} (h : lineR q line = some n) : lineP n = line ∧ GnR n ∧ n.ins.length ≤ 1000 ∧ n.side.length ≤ 1000 := by
  unfold lineR at h
  cases hf : gops.find? fun x => x.word == (Lib.cut line [32]).1 with
  | none => rw [hf] at h; cases h
  | some o =>
    rw [hf] at h
    have hm := List.mem_of_find?_eq_some hf
    have hw := List.find?_some hf
    simp only [beq_iff_eq] at hw
    obtain ⟨g1, g2, g3⟩ := gops_parts o hm
    unfold opR at h
    dsimp only at h
    split at h
    · cases h
    · rename_i hlt
      have hfew := splitK_few [32] (min o.parts.toNat ((Lib.cut line [32]).2.1.length + 1) - 1) (Lib.cut line [32]).2.1
      have hlen : ((Lib.splitN (Lib.cut line [32]).2.1 [32] o.parts.toNat).length : Int) = o.parts := by
        unfold Lib.splitN at hlt ⊢
        omega
      have hb := nodeP_back hq hm hlen h
      refine ⟨?_, hb.rng, hb.i1, hb.i2⟩
      have hj : Lib.join (Lib.splitN (Lib.cut line [32]).2.1 [32] o.parts.toNat) [32] = (Lib.cut line [32]).2.1 := splitK_join 32 _ _
      unfold lineP
      rw [hb.op, hb.parts, gops_word o hm, hw, hj]
      cases hc : (Lib.cut line [32]).2.2 with
      | true => exact cut_join hc
      | false =>
        exfalso
        apply hb.full
        rw [cut_miss hc]
        have : ([] : List UInt8).length + 1 = 1 := rfl
        unfold Lib.splitN
        rw [this, show min o.parts.toNat 1 - 1 = 0 by omega]
        rfl
theorem rdLines_back {q : List UInt8 → Option (List Int)} (hq : QOk q) : ∀ (f : Nat) (r : List UInt8) (k : Nat) (l : List Gn), r.length ≤ f → rdLines q f r = (k, some l) → textP l = r ∧ ∀ n ∈ l, GnR n ∧ n.ins.length ≤ 1000 ∧ n.side.length ≤ 1000
  | 0, r, k, l, hf, h => by
    obtain rfl : r = [] := List.length_eq_zero_iff.1 (by omega)
    unfold rdLines at h
    cases h
    exact ⟨rfl, fun n hn => by cases hn⟩
  | f + 1, r, k, l, hf, h => by
    unfold rdLines at h
    split at h
    · rename_i h0
      cases h
      exact ⟨h0.symm, fun n hn => by cases hn⟩
    · rename_i h0
      split at h
      · rename_i n hl hc
        have hless := cut10_less r hc h0
        cases hr : rdLines q f (Lib.cut r [10]).2.1 with
        | mk a b =>
          rw [hr] at h
          cases b with
          | none => cases h
          | some l2 =>
            cases h
            obtain ⟨g1, g2⟩ := rdLines_back hq f _ _ _ (by omega) hr
            obtain ⟨b1, b2⟩ := lineR_back hq hl
            refine ⟨?_, fun m hm => ?_⟩
            · have := cut_join hc
              unfold textP at g1 ⊢
              rw [List.flatMap_cons, g1, b1]
              simpa using this
            · rcases List.mem_cons.1 hm with rfl | hm
              · exact b2
              · exact g2 m hm
      · cases h
theorem parse_back {q : List UInt8 → Option (List Int)} (hq : QOk q) (s : List UInt8) : (∃ k e, parseP q s = (k, e, []) ∧ e ≠ 0) ∨ ∃ l, parseP q s = (0, 0, l) ∧ chkAll l = (0, 0) ∧ showP l = s ∧ (∀ n ∈ l, GnR n ∧ n.ins.length ≤ 1000 ∧ n.side.length ≤ 1000) ∧ l.length ≤ 32 := by
  unfold parseP
  cases hr : rdLines q s.length s with
  | mk k o =>
    cases o with
    | none => exact Or.inl ⟨k, 40, rfl, by decide⟩
    | some l =>
      dsimp only
      obtain ⟨h1, h2⟩ := rdLines_back hq _ _ _ _ (Nat.le_refl _) hr
      by_cases hc : (chkAll (l.take 33)).2 = 0
      · rw [if_pos hc]
        have hlen : (l.take 33).length ≤ 32 ∧ (l.take 33).length ≠ 0 := by
          refine Decidable.byContradiction fun hn => ?_
          have : (chkAll (l.take 33)).2 = 112 := by
            unfold chkAll
            rw [if_pos (by omega)]
          omega
        have hlt : l.take 33 = l := by
          rw [List.length_take] at hlen
          exact List.take_of_length_le (by omega)
        rw [hlt] at hc hlen ⊢
        refine Or.inr ⟨l, rfl, ?_, ?_, h2, hlen.1⟩
        · unfold chkAll at hc ⊢
          split
          · rename_i hx; rw [if_pos hx] at hc; cases hc
          · rename_i hx
            rw [if_neg hx] at hc
            cases hf : (List.range l.length).find? (fun i => okN l i != 0) with
            | none => rfl
            | some i =>
              rw [hf] at hc
              have := List.find?_some hf
              simp at this
              exact absurd hc this
        · unfold showP
          rw [if_pos hc, h1]
      · rw [if_neg hc]
        exact Or.inl ⟨_, _, rfl, hc⟩
end Go.Proofs.YtllnamhgnbdkmaaGreatDoor
namespace Go.Proofs.YtllnamhgnbdkmaaGreatDoor
open Go.RowKit Go.Shelf
theorem indexByte_at (c : UInt8) : ∀ (a b : List UInt8), (∀ x ∈ a, x ≠ c) → Lib.indexByte (a ++ c :: b) c = a.length
  | [], b, _ => by simp [Lib.indexByte]
  | x :: a, b, h => by
    have ih := indexByte_at c a b fun y hy => h y (List.mem_cons_of_mem _ hy)
    have hx : (x == c) = false := by simpa using h x (by simp)
    rw [List.cons_append, Lib.indexByte, if_neg (by simp [hx]), ih, if_neg (by simp)]
    simp
theorem index_at {c : UInt8} {a b : List UInt8} (h : ∀ x ∈ a, x ≠ c) : Lib.index (a ++ c :: b) [c] = a.length := by
  rw [Lib.index_one, indexByte_at c a b h]
theorem cut_at {c : UInt8} {a b : List UInt8} (h : ∀ x ∈ a, x ≠ c) : Lib.cut (a ++ c :: b) [c] = (a, b, true) := by
  unfold Lib.cut
  rw [index_at h, if_pos (by omega)]
  simp
theorem join_cons2 (c : UInt8) (x y : List UInt8) (l : List (List UInt8)) : Lib.join (x :: y :: l) [c] = x ++ c :: Lib.join (y :: l) [c] := by simp [Lib.join, List.intercalate]
theorem splitK_back (c : UInt8) : ∀ (ps : List (List UInt8)) (y : List UInt8), (∀ x ∈ ps, ∀ b ∈ x, b ≠ c) → Lib.splitK [c] 0 ps.length (Lib.join (ps ++ [y]) [c]) = ps ++ [y]
  | [], y, _ => by simp [Lib.splitK, Lib.join_one]
  | x :: ps, y, h => by
    have ih := splitK_back c ps y fun z hz => h z (List.mem_cons_of_mem _ hz)
    have hx := h x (by simp)
    obtain ⟨z, l, hl⟩ : ∃ z l, ps ++ [y] = z :: l := by
      cases ps with
      | nil => exact ⟨y, [], rfl⟩
      | cons z l => exact ⟨z, l ++ [y], rfl⟩
    rw [List.cons_append, hl, join_cons2, List.length_cons, Lib.splitK, index_at hx, if_neg (by simp), ← hl]
    simp only [List.length_cons, List.length_nil, Nat.add_zero, Nat.zero_add, Int.toNat_natCast, List.take_left]
    rw [show (x ++ c :: Lib.join (ps ++ [y]) [c]).drop (x.length + 1) = Lib.join (ps ++ [y]) [c] by simp, ih]
theorem join_ge (c : UInt8) : ∀ ps : List (List UInt8), ps.length ≤ (Lib.join ps [c]).length + 1
  | [] => by simp
  | [x] => by simp
  | x :: y :: l => by
    have := join_ge c (y :: l)
    rw [join_cons2]
    simp only [List.length_cons, List.length_append] at this ⊢
    omega
theorem splitN_back {c : UInt8} {ps : List (List UInt8)} {y : List UInt8} {n : Nat} (h : ∀ x ∈ ps, ∀ b ∈ x, b ≠ c) (hn : n = ps.length + 1) : Lib.splitN (Lib.join (ps ++ [y]) [c]) [c] n = ps ++ [y] := by
  have := join_ge c (ps ++ [y])
  unfold Lib.splitN
  simp only [List.length_append, List.length_cons, List.length_nil] at this
  rw [show min n ((Lib.join (ps ++ [y]) [c]).length + 1) - 1 = ps.length by omega]
  exact splitK_back c ps y h
theorem lineR_of {q : List UInt8 → Option (List Int)} {n : Gn} {o : Gop} (ho : o ∈ gops) (hop : n.op = o.number) {ps : List (List UInt8)} {y : List UInt8} (hps : partsP n = ps ++ [y]) (hlen : (ps.length : Int) + 1 = o.parts) (hb : ∀ x ∈ ps, ∀ b ∈ x, b ≠ 32) (hn : nodeP q o.number (ps ++ [y]) = some n) : lineR q (lineP n) = some n := by
  have hw : ∀ o ∈ gops, ∀ x ∈ o.word, x ≠ 32 := by decide
  have hf : ∀ o ∈ gops, (gops.find? fun x => x.word == o.word) = some o := by decide
  obtain ⟨g1, g2, g3⟩ := gops_parts o ho
  have hl : lineP n = o.word ++ 32 :: Lib.join (ps ++ [y]) [32] := by
    unfold lineP
    rw [hop, gops_word o ho, hps]
    rfl
  unfold lineR
  rw [hl, cut_at (hw o ho)]
  dsimp only
  rw [hf o ho]
  unfold opR
  dsimp only
  rw [splitN_back hb (by omega), if_neg (by simp; omega), hn]
end Go.Proofs.YtllnamhgnbdkmaaGreatDoor
namespace Go.Proofs.YtllnamhgnbdkmaaGreatDoor
open Go.RowKit Go.Shelf
theorem dg_val (u j : Nat) : ((Lib.dg u j).toNat : Int) = 48 + ((u / 10 ^ j % 10 : Nat) : Int) := by
  unfold Lib.dg
  have : u / 10 ^ j % 10 < 10 := Nat.mod_lt _ (by decide)
  rw [UInt8.toNat_ofNat']
  omega
theorem dec_get (u j : Nat) (h : j < (Lib.decDigits u).length) : (((Lib.decDigits u)[j]).toNat : Int) = 48 + ((u / 10 ^ ((Lib.decDigits u).length - 1 - j) % 10 : Nat) : Int) := by
  have e := Lib.decDigits_eq u
  have hl := Lib.decDigits_length u
  have h2 : (Lib.decDigits u)[j]? = some (Lib.dg u (Lib.nDigits u - 1 - j)) := by
    rw [e, List.getElem?_map, List.getElem?_range (by omega)]; rfl
  rw [List.getElem?_eq_getElem h] at h2
  injection h2 with h2
  rw [h2, dg_val, hl]
theorem dec_byte (u : Nat) : ∀ c ∈ Lib.decDigits u, 48 ≤ c.toNat ∧ c.toNat ≤ 57 := by
  intro c hc
  obtain ⟨j, hj, rfl⟩ := List.getElem_of_mem hc
  have := dec_get u j hj
  have h2 : u / 10 ^ ((Lib.decDigits u).length - 1 - j) % 10 < 10 := Nat.mod_lt _ (by decide)
  omega
theorem nd_ge (u : Nat) : 1 < Lib.nDigits u → 10 ^ (Lib.nDigits u - 1) ≤ u := by
  induction u using Nat.strongRecOn with
  | _ u ih =>
    intro h
    by_cases hu : u < 10
    · rw [Lib.nDigits_small hu] at h; omega
    · rw [Lib.nDigits_big hu] at h ⊢
      by_cases h1 : 1 < Lib.nDigits (u / 10)
      · have := ih (u / 10) (by omega) h1
        rw [show Lib.nDigits (u / 10) + 1 - 1 = (Lib.nDigits (u / 10) - 1) + 1 by omega, Nat.pow_succ]
        omega
      · rw [show Lib.nDigits (u / 10) + 1 - 1 = 1 by omega]; omega
theorem decFrom_snoc : ∀ (l : List UInt8) (acc n : Nat) (b : UInt8) (d : Nat), Lib.decFrom acc l = some n → Lib.digitVal b = some d → Lib.decFrom acc (l ++ [b]) = some (n * 10 + d)
  | [], acc, n, b, d, h, hd => by
    cases h
    simp [Lib.decFrom, hd]
  | a :: l, acc, n, b, d, h, hd => by
    rw [List.cons_append, Lib.decFrom]
    rw [Lib.decFrom] at h
    cases ha : Lib.digitVal a with
    | none => rw [ha] at h; cases h
    | some e =>
      rw [ha] at h
      exact decFrom_snoc l _ n b d h hd
theorem digitVal_of (k : Nat) (h : k < 10) : Lib.digitVal (UInt8.ofNat (48 + k)) = some k := by
  unfold Lib.digitVal
  rw [UInt8.toNat_ofNat', if_pos (by omega)]
  congr 1
  omega
theorem dec_from (u : Nat) : Lib.decFrom 0 (Lib.decDigits u) = some u := by
  induction u using Nat.strongRecOn with
  | _ u ih =>
    rw [Lib.decDigits]
    split
    · rename_i h
      rw [Lib.decFrom, digitVal_of u h]
      simp [Lib.decFrom]
    · rename_i h
      rw [decFrom_snoc _ _ _ _ _ (ih (u / 10) (by omega)) (digitVal_of (u % 10) (Nat.mod_lt _ (by decide)))]
      congr 1
      omega
theorem atoi_dec (u : Nat) : Lib.atoi (Lib.decDigits u) = some (u : Int) := by
  have hf := dec_from u
  have hb := dec_byte u
  cases h : Lib.decDigits u with
  | nil =>
    have := Lib.decDigits_length u
    have h2 := Lib.nDigits_pos u
    rw [h] at this
    simp at this
    omega
  | cons b r =>
    rw [h] at hf hb
    have h1 := hb b (by simp)
    have n45 : (b == 45) = false := by
      simp only [beq_eq_false_iff_ne, ne_eq]
      rintro rfl
      revert h1; decide
    have n43 : (b == 43) = false := by
      simp only [beq_eq_false_iff_ne, ne_eq]
      rintro rfl
      revert h1; decide
    unfold Lib.atoi
    simp only [n45, n43]
    unfold Lib.decNat
    rw [hf]
    rfl
theorem goodN_itoa {v m : Int} (h0 : 0 ≤ v) (h1 : v ≤ m) (hm : m ≤ 9999999) : goodN (Lib.itoa v) m = some v := by
  obtain ⟨u, rfl⟩ := Int.eq_ofNat_of_zero_le h0
  have hl : (Lib.decDigits u).length ≤ 18 := by
    rw [Lib.decDigits_length]
    refine Decidable.byContradiction fun hn => ?_
    have h2 := nd_ge u (by omega)
    have h3 : 10 ^ 18 ≤ 10 ^ (Lib.nDigits u - 1) := Nat.pow_le_pow_right (by decide) (by omega)
    omega
  unfold goodN
  rw [Lib.itoa_nonneg, Lib.atoiAll_short _ hl, atoi_dec]
  show (if _ then _ else _) = _
  rw [if_pos ⟨⟨h0, h1⟩, rfl⟩]
theorem itoa_byte {v : Int} (h0 : 0 ≤ v) : ∀ b ∈ Lib.itoa v, 48 ≤ b.toNat ∧ b.toNat ≤ 57 := by
  obtain ⟨u, rfl⟩ := Int.eq_ofNat_of_zero_le h0
  rw [Lib.itoa_nonneg]
  exact dec_byte u
end Go.Proofs.YtllnamhgnbdkmaaGreatDoor
namespace Go.Proofs.YtllnamhgnbdkmaaGreatDoor
open Go.RowKit Go.Shelf
def QRd (q : List UInt8 → Option (List Int)) : Prop := ∀ (a : List Gn) (ls : List Int), a.length ≤ 32 → 1 ≤ ls.length → ls.length ≤ 4 → readP a ls (-1) = true → q (placeT ls) = some ls
theorem join_byte {P : UInt8 → Prop} {c : UInt8} (hc : P c) : ∀ (l : List (List UInt8)), (∀ x ∈ l, ∀ b ∈ x, P b) → ∀ b ∈ Lib.join l [c], P b
  | [], _, b, hb => by simp [Lib.join] at hb
  | [x], h, b, hb => by rw [Lib.join_one] at hb; exact h x (by simp) b hb
  | x :: y :: l, h, b, hb => by
    rw [join_cons2] at hb
    rcases List.mem_append.1 hb with hb | hb
    · exact h x (by simp) b hb
    · rcases List.mem_cons.1 hb with rfl | hb
      · exact hc
      · exact join_byte hc (y :: l) (fun z hz => h z (List.mem_cons_of_mem _ hz)) b hb
theorem placeT_byte {l : List Int} (h : ∀ x ∈ l, 0 ≤ x) : ∀ b ∈ placeT l, 44 ≤ b.toNat ∧ b.toNat ≤ 57 := by
  unfold placeT
  split
  · intro b hb
    obtain rfl : b = 45 := by simpa using hb
    decide
  · refine join_byte (P := fun b => 44 ≤ b.toNat ∧ b.toNat ≤ 57) (by decide) _ fun x hx => ?_
    obtain ⟨v, hv, rfl⟩ := List.mem_map.1 hx
    intro b hb
    have := itoa_byte (h v hv) b hb
    omega
theorem ne32 {b : UInt8} (h : 33 ≤ b.toNat) : b ≠ 32 := fun e => by subst e; revert h; decide
theorem placeT_dash {l : List Int} (h : ∀ x ∈ l, 0 ≤ x) (h0 : l ≠ []) : placeT l ≠ [45] := by
  unfold placeT
  rw [if_neg (fun e => h0 (List.length_eq_zero_iff.1 e))]
  intro e
  have := join_byte (P := fun b => b.toNat = 44 ∨ 48 ≤ b.toNat) (c := 44) (by decide) (l.map Lib.itoa) (fun x hx b hb => by
    obtain ⟨v, hv, rfl⟩ := List.mem_map.1 hx
    have := itoa_byte (h v hv) b hb
    omega) 45 (by rw [e]; simp)
  revert this
  decide
theorem sidesP_text {q : List UInt8 → Option (List Int)} (hq : QRd q) {a : List Gn} {l : List Int} (ha : a.length ≤ 32) (hl : l.length ≤ 4) (hr : readP a l (-1) = true) : sidesP q (placeT l) = some l := by
  unfold sidesP
  cases l with
  | nil => rfl
  | cons x l =>
    rw [if_neg (placeT_dash (fun y hy => by have := (readP_ok (by decide) hr y hy).1; omega) (by simp))]
    exact hq a _ ha (by simp) hl hr
theorem ty_none {ty : Ty} (h : ty.kind = 0) (h2 : ty.args = []) : ty = tyZ := by
  cases ty
  simp only [Ty.kind, Ty.args] at h h2
  subst h h2
  rfl
theorem place_text {a : List Gn} {v : Int} (ha : a.length ≤ 32) (h : readP a [v] (-1) = true) : goodN (placeT [v]) 999 = some v ∧ 0 ≤ v := by
  have := readP_ok (by decide) h v (by simp)
  rw [placeT_one]
  have h0 : 0 ≤ v := by omega
  exact ⟨goodN_itoa h0 (by omega) (by decide), h0⟩
structure NTxt (q : List UInt8 → Option (List Int)) (n : Gn) (o : Gop) (ps : List (List UInt8)) (y : List UInt8) : Prop where
  mem : o ∈ gops
  op : n.op = o.number
  parts : partsP n = ps ++ [y]
  len : (ps.length : Int) + 1 = o.parts
  byte : ∀ x ∈ ps, ∀ b ∈ x, 33 ≤ b.toNat
  node : nodeP q o.number (ps ++ [y]) = some n
theorem ins_one {l : List Int} (h : (1 : Int) ≤ l.length ∧ (l.length : Int) ≤ 1) : ∃ v, l = [v] := List.length_eq_one_iff.1 (by omega)
theorem ins_none {l : List Int} (h : (l.length : Int) ≤ 0) : l = [] := List.length_eq_zero_iff.1 (by omega)
theorem node_text {q : List UInt8 → Option (List Int)} (hq : QRd q) {l : List Gn} {i : Nat} {n : Gn} (h : OkN l i n) (hl : l.length ≤ 32) : ∃ o ps y, NTxt q n o ps y := by
  obtain ⟨o, ho, ⟨hi0, hi1⟩, hs⟩ := h.op
  obtain ⟨hm, hn⟩ := opP_mem ho
  have hlt : (l.take i).length ≤ 32 := by rw [List.length_take]; omega
  have hform := h.form
  obtain ⟨op, ins, side, text, ty, f0, f1, f2, f3, e, ll, lt, acc⟩ := n
  dsimp only at hi0 hi1 hs hn
  have hins := readP_ok (by decide) h.ins
  have hside := readP_ok (by decide) h.side
  dsimp only at hins hside
  have hr1 := h.ins
  have hr2 := h.side
  dsimp only at hr1 hr2
  have hmm := hm
  simp only [gops, List.mem_cons, List.not_mem_nil, or_false] at hmm
  unfold formP at hform
  simp only [Bool.and_eq_true] at hform
  obtain ⟨x1, x2, x3, x4⟩ := hform
  rcases hmm with rfl | rfl | rfl | rfl | rfl | rfl
  · -- a source
    obtain rfl : op = 1 := hn.symm
    obtain rfl := ins_none hi1
    obtain rfl := ins_none hs
    simp [noTx] at x1
    simp at x2
    simp [noFn] at x3
    simp [noSp] at x4
    obtain ⟨⟨⟨rfl, rfl⟩, rfl⟩, rfl⟩ := x3
    obtain ⟨⟨⟨rfl, rfl⟩, rfl⟩, rfl⟩ := x4
    subst x1
    obtain ⟨k, hk⟩ := Option.isSome_iff_exists.1 x2
    refine ⟨gop1, [], Knd.textT 6 ty, hm, rfl, rfl, rfl, by simp, ?_⟩
    show node1 (Knd.textT 6 ty) = _
    unfold node1
    rw [Knd.parse_text hk]
    rfl
  · -- a function
    obtain rfl : op = 2 := hn.symm
    obtain ⟨v, rfl⟩ := ins_one ⟨hi0, hi1⟩
    simp at x1
    simp [noTy] at x2
    simp [noFn] at x3
    simp [noSp] at x4
    obtain ⟨⟨⟨rfl, rfl⟩, rfl⟩, rfl⟩ := x3
    obtain ⟨⟨⟨rfl, rfl⟩, rfl⟩, rfl⟩ := x4
    obtain rfl := ty_none x2.1 x2.2
    obtain ⟨g1, g2⟩ := place_text hlt hr1
    have gs := sidesP_text hq hlt (by have : (gop2.side) = 4 := rfl; omega) hr2
    refine ⟨gop2, [placeT [v], placeT side], text, hm, rfl, rfl, rfl, ?_, ?_⟩
    · intro x hx b hb
      simp only [List.mem_cons, List.not_mem_nil, or_false] at hx
      rcases hx with rfl | rfl
      · have := placeT_byte (l := [v]) (by simpa using g2) b hb; omega
      · have := placeT_byte (l := side) (fun y hy => by have := (hside y hy).1; omega) b hb; omega
    · show node2 q (placeT [v]) (placeT side) text = _
      unfold node2
      rw [g1, gs, x1]
      rfl
  · -- a windowing
    obtain rfl : op = 3 := hn.symm
    obtain ⟨v, rfl⟩ := ins_one ⟨hi0, hi1⟩
    obtain rfl := ins_none hs
    simp [noTx] at x1
    simp [noTy] at x2
    simp at x3
    simp [noSp] at x4
    obtain ⟨⟨⟨rfl, rfl⟩, rfl⟩, rfl⟩ := x4
    subst x1
    obtain rfl := ty_none x2.1 x2.2
    obtain ⟨g1, g2⟩ := place_text hlt hr1
    have hR : Wi.Rgt f0 f1 f2 f3 := of_decide_eq_true x3
    have hb : (0 ≤ f0 ∧ f0 ≤ 9999999) ∧ (0 ≤ f1 ∧ f1 ≤ 9999999) ∧ (0 ≤ f2 ∧ f2 ≤ 9999999) ∧ (0 ≤ f3 ∧ f3 ≤ 9999999) := by unfold Wi.Rgt at hR; omega
    obtain ⟨⟨b1, b2⟩, ⟨b3, b4⟩, ⟨b5, b6⟩, b7, b8⟩ := hb
    refine ⟨gop3, [placeT [v], Lib.itoa f0, Lib.itoa f1, Lib.itoa f2], Lib.itoa f3, hm, rfl, rfl, rfl, ?_, ?_⟩
    · intro x hx b hb
      simp only [List.mem_cons, List.not_mem_nil, or_false] at hx
      rcases hx with rfl | rfl | rfl | rfl
      · have := placeT_byte (l := [v]) (by simpa using g2) b hb; omega
      · have := itoa_byte b1 b hb; omega
      · have := itoa_byte b3 b hb; omega
      · have := itoa_byte b5 b hb; omega
    · show node3 (placeT [v]) (Lib.itoa f0) (Lib.itoa f1) (Lib.itoa f2) (Lib.itoa f3) = _
      unfold node3
      rw [g1, goodN_itoa b1 b2 (by decide), goodN_itoa b3 b4 (by decide), goodN_itoa b5 b6 (by decide), goodN_itoa b7 b8 (by decide)]
      rfl
  · -- a grouping
    obtain rfl : op = 4 := hn.symm
    obtain ⟨v, rfl⟩ := ins_one ⟨hi0, hi1⟩
    obtain rfl := ins_none hs
    simp at x1
    simp [noTy] at x2
    simp [noFn] at x3
    simp at x4
    obtain ⟨⟨⟨rfl, rfl⟩, rfl⟩, rfl⟩ := x3
    obtain rfl := ty_none x2.1 x2.2
    obtain ⟨g1, g2⟩ := place_text hlt hr1
    have hR : Tg.SpecOk e ll lt := of_decide_eq_true x4
    have hb : (0 ≤ e ∧ e ≤ 9999999) ∧ (0 ≤ ll ∧ ll ≤ 9999999) ∧ (0 ≤ lt ∧ lt ≤ 9999999) := by unfold Tg.SpecOk at hR; omega
    obtain ⟨⟨b1, b2⟩, ⟨b3, b4⟩, b5, b6⟩ := hb
    refine ⟨gop4, [placeT [v], Lib.itoa e, Lib.itoa ll, Lib.itoa lt, if acc = true then [97, 99, 99] else [100, 105, 115]], text, hm, rfl, rfl, rfl, ?_, ?_⟩
    · intro x hx b hb
      simp only [List.mem_cons, List.not_mem_nil, or_false] at hx
      rcases hx with rfl | rfl | rfl | rfl | rfl
      · have := placeT_byte (l := [v]) (by simpa using g2) b hb; omega
      · have := itoa_byte b1 b hb; omega
      · have := itoa_byte b3 b hb; omega
      · have := itoa_byte b5 b hb; omega
      · cases acc
        · revert b; decide
        · revert b; decide
    · have hmode : modeP (if acc = true then [97, 99, 99] else [100, 105, 115]) = some acc := by cases acc <;> rfl
      show node4 (placeT [v]) (Lib.itoa e) (Lib.itoa ll) (Lib.itoa lt) (if acc = true then [97, 99, 99] else [100, 105, 115]) text = _
      unfold node4
      rw [g1, goodN_itoa b1 b2 (by decide), goodN_itoa b3 b4 (by decide), goodN_itoa b5 b6 (by decide), hmode, x1]
      rfl
  · -- several as one
    obtain rfl : op = 5 := hn.symm
    obtain rfl := ins_none hs
    simp [noTx] at x1
    simp [noTy] at x2
    simp [noFn] at x3
    simp [noSp] at x4
    obtain ⟨⟨⟨rfl, rfl⟩, rfl⟩, rfl⟩ := x3
    obtain ⟨⟨⟨rfl, rfl⟩, rfl⟩, rfl⟩ := x4
    subst x1
    obtain rfl := ty_none x2.1 x2.2
    refine ⟨gop5, [], placeT ins, hm, rfl, rfl, rfl, by simp, ?_⟩
    show node5 q (placeT ins) = _
    unfold node5
    rw [hq _ _ hlt (by have : gop5.least = 1 := rfl; omega) (by have : gop5.most = 4 := rfl; omega) hr1]
    rfl
  · -- a sink
    obtain rfl : op = 6 := hn.symm
    obtain ⟨v, rfl⟩ := ins_one ⟨hi0, hi1⟩
    obtain rfl := ins_none hs
    simp [noTx] at x1
    simp [noTy] at x2
    simp [noFn] at x3
    simp [noSp] at x4
    obtain ⟨⟨⟨rfl, rfl⟩, rfl⟩, rfl⟩ := x3
    obtain ⟨⟨⟨rfl, rfl⟩, rfl⟩, rfl⟩ := x4
    subst x1
    obtain rfl := ty_none x2.1 x2.2
    obtain ⟨g1, g2⟩ := place_text hlt hr1
    refine ⟨gop6, [], placeT [v], hm, rfl, rfl, rfl, by simp, ?_⟩
    show node6 (placeT [v]) = _
    unfold node6
    rw [g1]
    rfl
theorem lineR_text {q : List UInt8 → Option (List Int)} (hq : QRd q) {l : List Gn} {i : Nat} {n : Gn} (h : OkN l i n) (hl : l.length ≤ 32) : lineR q (lineP n) = some n := by
  obtain ⟨o, ps, y, ht⟩ := node_text hq h hl
  exact lineR_of ht.mem ht.op ht.parts ht.len (fun x hx b hb => ne32 (ht.byte x hx b hb)) ht.node
end Go.Proofs.YtllnamhgnbdkmaaGreatDoor
namespace Go.Proofs.YtllnamhgnbdkmaaGreatDoor
open Go.RowKit Go.Shelf
theorem words_10 : ∀ x ∈ Knd.words, ∀ c ∈ x.name.data.toList, c ≠ 10 := by decide
theorem textL_10 (f : Ty → List UInt8) : ∀ (l : List Ty) (i : Nat), (∀ a ∈ l, ∀ c ∈ f a, c ≠ 10) → ∀ c ∈ Knd.textL f l i, c ≠ 10
  | [], i, _, c, hc => by cases hc
  | a :: l, i, h, c, hc => by
    rcases List.mem_cons.1 hc with rfl | hc
    · unfold Knd.aheadB
      split <;> decide
    · rcases List.mem_append.1 hc with hc | hc
      · exact h a (List.mem_cons_self ..) c hc
      · exact textL_10 f l (i + 1) (fun b hb => h b (List.mem_cons_of_mem _ hb)) c hc
theorem textT_10 : ∀ (r : Nat) (t : Ty) (q : Nat), Knd.measureT r t = some q → ∀ c ∈ Knd.textT r t, c ≠ 10
  | 0, t, q, h, c, hc => by cases hc
  | r + 1, t, q, h, c, hc => by
    obtain ⟨x, hx, _, hw, hall⟩ := Knd.measure_right h
    unfold Knd.textT at hc
    rw [hx] at hc
    rcases List.mem_append.1 hc with hc | hc
    · rcases List.mem_append.1 hc with hc | hc
      · exact words_10 x hw c hc
      · exact textL_10 _ t.args 0 (fun a ha => by obtain ⟨q', hq'⟩ := hall a ha; exact textT_10 r a q' hq') c hc
    · split at hc
      · rcases List.mem_cons.1 hc with rfl | hc
        · decide
        · cases hc
      · cases hc
theorem ne10 {b : UInt8} (h : 32 ≤ b.toNat) : b ≠ 10 := fun e => by subst e; revert h; decide
theorem isTx_10 {s : List UInt8} (h : isTx s = true) : ∀ b ∈ s, b ≠ 10 := fun b hb => by
  unfold isTx at h
  simp only [Bool.and_eq_true] at h
  have := List.all_eq_true.1 h.2 b hb
  exact ne10 (of_decide_eq_true (show decide (32 ≤ b.toNat ∧ b.toNat ≤ 126) = true from this)).1
theorem line_10 {q : List UInt8 → Option (List Int)} (hq : QRd q) {l : List Gn} {i : Nat} {n : Gn} (h : OkN l i n) (hl : l.length ≤ 32) : ∀ b ∈ lineP n, b ≠ 10 := by
  obtain ⟨o, ps, y, ht⟩ := node_text hq h hl
  have hw : ∀ o ∈ gops, ∀ x ∈ o.word, x ≠ 10 := by decide
  unfold lineP
  rw [ht.op, gops_word o ht.mem, ht.parts]
  intro b hb
  rcases List.mem_append.1 hb with hb | hb
  · exact hw o ht.mem b hb
  rcases List.mem_append.1 hb with hb | hb
  · obtain rfl : b = 32 := by simpa using hb
    decide
  refine join_byte (P := fun b => b ≠ 10) (by decide) (ps ++ [y]) (fun x hx => ?_) b hb
  rcases List.mem_append.1 hx with hx | hx
  · exact fun b hb => ne10 (by have := ht.byte x hx b hb; omega)
  · obtain rfl : x = y := by simpa using hx
    have hp := ht.parts
    have hins : ∀ v ∈ n.ins, 0 ≤ v := fun v hv => by have := (readP_ok (by decide) h.ins v hv).1; omega
    have hform := h.form
    unfold formP at hform
    simp only [Bool.and_eq_true] at hform
    obtain ⟨x1, x2, x3, x4⟩ := hform
    unfold partsP at hp
    split at hp
    · rename_i h1
      rw [if_pos h1] at x2
      obtain ⟨k, hk⟩ := Option.isSome_iff_exists.1 x2
      have := congrArg List.getLast? hp
      simp at this
      subst this
      exact textT_10 6 _ k hk
    · split at hp
      · rename_i h1
        rw [if_pos (.inl h1)] at x1
        have := congrArg List.getLast? hp
        simp at this
        subst this
        exact isTx_10 x1
      · split at hp
        · rename_i h1
          rw [if_pos h1] at x3
          have hR : Wi.Rgt n.f0 n.f1 n.f2 n.f3 := of_decide_eq_true x3
          have := congrArg List.getLast? hp
          simp at this
          subst this
          have h3 : 0 ≤ n.f3 := by unfold Wi.Rgt at hR; omega
          exact fun b hb => ne10 (by have := itoa_byte h3 b hb; omega)
        · split at hp
          · rename_i h1
            rw [if_pos (.inr h1)] at x1
            have := congrArg List.getLast? hp
            simp at this
            subst this
            exact isTx_10 x1
          · have := congrArg List.getLast? hp
            simp at this
            subst this
            exact fun b hb => ne10 (by have := placeT_byte hins b hb; omega)
theorem rdLines_text {q : List UInt8 → Option (List Int)} : ∀ (l : List Gn) (f : Nat), (∀ n ∈ l, lineR q (lineP n) = some n ∧ ∀ b ∈ lineP n, b ≠ 10) → (textP l).length ≤ f → rdLines q f (textP l) = (l.length, some l)
  | [], f, _, _ => by cases f <;> simp [rdLines, textP]
  | n :: l, f, h, hf => by
    have ht : textP (n :: l) = lineP n ++ 10 :: textP l := by simp [textP]
    rw [ht] at hf ⊢
    simp only [List.length_append, List.length_cons] at hf
    obtain ⟨h1, h2⟩ := h n (by simp)
    cases f with
    | zero => omega
    | succ f =>
      unfold rdLines
      rw [if_neg (by simp), cut_at h2]
      dsimp only
      rw [h1, rdLines_text l f (fun m hm => h m (List.mem_cons_of_mem _ hm)) (by omega)]
      rfl
theorem parse_text {q : List UInt8 → Option (List Int)} (hq : QRd q) {l : List Gn} (h : OkG l) (hc : chkAll l = (0, 0)) : parseP q (textP l) = (0, 0, l) := by
  have h1 : ∀ n ∈ l, lineR q (lineP n) = some n ∧ ∀ b ∈ lineP n, b ≠ 10 := fun n hn => by
    obtain ⟨i, hi, rfl⟩ := List.getElem_of_mem hn
    have ho := h.each i _ (List.getElem?_eq_getElem hi)
    exact ⟨lineR_text hq ho h.few, line_10 hq ho h.few⟩
  have := h.few
  unfold parseP
  rw [rdLines_text l _ h1 (Nat.le_refl _)]
  dsimp only
  rw [List.take_of_length_le (by omega), hc]
  rfl
end Go.Proofs.YtllnamhgnbdkmaaGreatDoor
namespace Go.Proofs.YtllnamhgnbdkmaaGreatDoor
open Go.RowKit Go.Shelf
end Go.Proofs.YtllnamhgnbdkmaaGreatDoor
namespace Go.Proofs.YtllnamhgnbdkmaaGreatDoor
open Go.RowKit Go.Shelf
theorem splitK_ge1 (c : UInt8) (k : Nat) (s : List UInt8) : 1 ≤ (Lib.splitK [c] 0 k s).length := List.length_pos_iff.2 (splitK_ne c k s)
def allG : List (List UInt8) → Option (List Int)
  | [] => some []
  | p :: l => (goodN p 999).bind fun v => (allG l).map (v :: ·)
def placesP (s : List UInt8) : Option (List Int) := (allG (Lib.splitN s [44] 5)).bind fun l => if l.length ≤ 4 ∧ risG l = true then some l else none
theorem placesP_some {s : List UInt8} {l : List Int} (h : placesP s = some l) : allG (Lib.splitN s [44] 5) = some l ∧ l.length ≤ 4 ∧ risG l = true := by
  unfold placesP at h
  cases hr : allG (Lib.splitN s [44] 5) with
  | none => rw [hr] at h; cases h
  | some r =>
    rw [hr, Option.bind_some] at h
    split at h
    · rename_i hc
      cases h
      exact ⟨rfl, hc⟩
    · cases h
theorem allG_back : ∀ (ps : List (List UInt8)) (l : List Int), allG ps = some l → l.map Lib.itoa = ps ∧ ∀ x ∈ l, 0 ≤ x ∧ x ≤ 999
  | [], l, h => by cases h; simp
  | p :: ps, l, h => by
    unfold allG at h
    cases hg : goodN p 999 with
    | none => rw [hg] at h; cases h
    | some v =>
      rw [hg, Option.bind_some] at h
      cases hr : allG ps with
      | none => rw [hr] at h; cases h
      | some r =>
        rw [hr] at h
        cases h
        obtain ⟨g1, g2⟩ := goodN_back hg
        obtain ⟨r1, r2⟩ := allG_back ps r hr
        refine ⟨by rw [List.map_cons, g1, r1], fun x hx => ?_⟩
        rcases List.mem_cons.1 hx with rfl | hx
        · exact g2
        · exact r2 x hx
theorem allG_text : ∀ l : List Int, (∀ x ∈ l, 0 ≤ x ∧ x ≤ 999) → allG (l.map Lib.itoa) = some l
  | [], _ => rfl
  | x :: l, h => by
    obtain ⟨h0, h1⟩ := h x (by simp)
    rw [List.map_cons, allG, goodN_itoa h0 h1 (by decide), Option.bind_some, allG_text l fun y hy => h y (List.mem_cons_of_mem _ hy)]
    rfl
theorem index_none {s : List UInt8} {c : UInt8} (h : ∀ x ∈ s, x ≠ c) : Lib.index s [c] = -1 := by
  rw [Lib.index_one]
  induction s with
  | nil => rfl
  | cons x s ih =>
    have hx : (x == c) = false := by simpa using h x (by simp)
    have ih := ih fun y hy => h y (List.mem_cons_of_mem _ hy)
    rw [Lib.indexByte, if_neg (by simp [hx]), ih]
    rfl
theorem splitK_all (c : UInt8) : ∀ (l : List (List UInt8)) (k : Nat), l ≠ [] → (∀ x ∈ l, ∀ b ∈ x, b ≠ c) → l.length ≤ k + 1 → Lib.splitK [c] 0 k (Lib.join l [c]) = l
  | [], _, h, _, _ => absurd rfl h
  | [x], 0, _, _, _ => by simp [Lib.splitK, Lib.join_one]
  | [x], k + 1, _, h, _ => by
    rw [Lib.join_one, Lib.splitK, index_none (h x (by simp))]
    rfl
  | x :: y :: l, 0, _, _, hk => by simp at hk
  | x :: y :: l, k + 1, _, h, hk => by
    have ih := splitK_all c (y :: l) k (by simp) (fun z hz => h z (List.mem_cons_of_mem _ hz)) (by simp at hk ⊢; omega)
    have hx := h x (by simp)
    rw [join_cons2, Lib.splitK, index_at hx, if_neg (by simp)]
    simp only [List.length_cons, List.length_nil, Nat.add_zero, Nat.zero_add, Int.toNat_natCast, List.take_left]
    rw [show (x ++ c :: Lib.join (y :: l) [c]).drop (x.length + 1) = Lib.join (y :: l) [c] by simp, ih]
theorem itoa_44 {v : Int} (h0 : 0 ≤ v) : ∀ b ∈ Lib.itoa v, b ≠ 44 := fun b hb e => by
  have := itoa_byte h0 b hb
  subst e
  revert this
  decide
theorem risG_of {a : List Gn} {l : List Int} (h : readP a l (-1) = true) : risG l = true := by
  rw [readP_both] at h
  simp only [Bool.and_eq_true] at h
  exact h.2
theorem placesP_ok : QOk placesP where
  back s l h := by
    obtain ⟨h1, h2, h3⟩ := placesP_some h
    obtain ⟨g1, g2⟩ := allG_back _ _ h1
    have hn := splitK_ge1 44 (min 5 (s.length + 1) - 1) s
    have hj := splitK_join 44 (min 5 (s.length + 1) - 1) s
    have e : Lib.splitN s [44] 5 = Lib.splitK [44] 0 (min 5 (s.length + 1) - 1) s := rfl
    rw [← e, ← g1] at hn hj
    rw [List.length_map] at hn
    unfold placeT
    rw [if_neg (by omega), hj]
  few s l h := by
    obtain ⟨h1, h2, h3⟩ := placesP_some h
    obtain ⟨g1, g2⟩ := allG_back _ _ h1
    exact ⟨by omega, fun x hx => by have := g2 x hx; omega⟩
  none := by decide
theorem placesP_rd : QRd placesP := fun a ls ha h1 h4 hr => by
  have hne : ls ≠ [] := fun e => by subst e; simp at h1
  have hb : ∀ x ∈ ls, 0 ≤ x ∧ x ≤ 999 := fun x hx => by
    have := readP_ok (by decide) hr x hx
    omega
  have ht : placeT ls = Lib.join (ls.map Lib.itoa) [44] := by
    unfold placeT
    rw [if_neg (by omega)]
  have hl := join_ge 44 (ls.map Lib.itoa)
  rw [List.length_map] at hl
  have hs : Lib.splitN (placeT ls) [44] 5 = ls.map Lib.itoa := by
    rw [ht]
    show Lib.splitK [44] 0 _ _ = _
    refine splitK_all 44 _ _ (by simpa using hne) (fun x hx b hb' => ?_) (by rw [List.length_map]; omega)
    obtain ⟨v, hv, rfl⟩ := List.mem_map.1 hx
    exact itoa_44 (hb v hv).1 b hb'
  unfold placesP
  rw [hs, allG_text ls hb, Option.bind_some, if_pos ⟨h4, risG_of hr⟩]
end Go.Proofs.YtllnamhgnbdkmaaGreatDoor
namespace Go.Proofs.YtllnamhgnbdkmaaGreatDoor
open Go.RowKit Go.Shelf
theorem QOk.two {q : List UInt8 → Option (List Int)} (hq : QOk q) : ∀ line n, lineR q line = some n → n.ins.length ≤ 1000000 ∧ n.side.length ≤ 1000000 := fun line n h => by
  obtain ⟨_, _, h1, h2⟩ := lineR_back hq h
  omega
end Go.Proofs.YtllnamhgnbdkmaaGreatDoor
namespace Go.Proofs.YtllnamhgnbdkmaaGreatDoor
open Go.RowKit Go.Shelf Go.Sort
theorem allG_app : ∀ (a b : List (List UInt8)), allG (a ++ b) = (allG a).bind fun x => (allG b).map (x ++ ·)
  | [], b => by
    rw [List.nil_append, show allG [] = some [] from rfl, Option.bind_some]
    cases allG b <;> rfl
  | p :: a, b => by
    rw [List.cons_append, allG, allG_app a b, allG]
    cases goodN p 999 with
    | none => rfl
    | some v =>
      rw [Option.bind_some, Option.bind_some]
      cases allG a with
      | none => rfl
      | some x =>
        rw [Option.bind_some, Option.map_some, Option.bind_some]
        cases allG b <;> rfl
theorem RdL.grown {w w' : World} {R P B : Nat} {l : List (List UInt8)} {f : Bool} {row : Option Nat} (h : RdL w R P l f) (hg : w.grownBy w' row) (hr : ∀ k, row = some k → B ≤ k) (hR : R < B) (hP : l ≠ [] → P < B) : RdL w' R P l f := by
  have hl := h.lt
  obtain ⟨h0, v, h1, A, c, e, hc, h2⟩ := h
  refine ⟨h0, v, (hg.block R hl (fun e => by have := hr R e.symm; omega)).trans h1, A, c, e, hc, fun hlen => ?_⟩
  obtain ⟨b, o, e2, rfl, hb, hx⟩ := h2 hlen
  have hPB := hP (fun e => by subst e; simp at hlen)
  exact ⟨b, o, e2, rfl, Nat.lt_of_lt_of_le hb hg.size, fun j x hj => (World.cell?_of_block (hg.block b hb (fun e => by have := hr b e.symm; omega))).trans (hx j x hj)⟩
theorem allG_more {ps : List (List UInt8)} {j : Nat} {p : List UInt8} (h : ps.take (j + 1) = ps.take j ++ [p]) : allG (ps.take (j + 1)) = (allG (ps.take j)).bind fun x => (goodN p 999).map fun v => x ++ [v] := by
  rw [h, allG_app]
  cases allG (ps.take j) with
  | none => rfl
  | some x =>
    rw [Option.bind_some, Option.bind_some, allG]
    cases goodN p 999 <;> rfl
theorem flag_more {ps : List (List UInt8)} {j : Nat} {p : List UInt8} (h : ps.take (j + 1) = ps.take j ++ [p]) (f : Bool) : (f || !(allG (ps.take j)).isSome || !(goodN p 999).isSome) = (f || !(allG (ps.take (j + 1))).isSome) := by
  rw [allG_more h]
  cases allG (ps.take j) with
  | none => cases f <;> rfl
  | some x => cases goodN p 999 <;> cases f <;> rfl
def PlI (ps : List (List UInt8)) (j : Nat) (v : List Int) : Prop := v.length = j ∧ ∀ x, allG (ps.take j) = some x → v = x
theorem PlI.more {ps : List (List UInt8)} {j : Nat} {v : List Int} (h : PlI ps j v) {p : List UInt8} (hp : ps.take (j + 1) = ps.take j ++ [p]) {n : Int} (hn : ∀ y, goodN p 999 = some y → n = y) : PlI ps (j + 1) (v ++ [n]) := by
  refine ⟨by rw [List.length_append, h.1]; rfl, fun x hx => ?_⟩
  rw [allG_more hp] at hx
  cases h1 : allG (ps.take j) with
  | none => rw [h1] at hx; cases hx
  | some u =>
    rw [h1, Option.bind_some] at hx
    cases h2 : goodN p 999 with
    | none => rw [h2] at hx; cases hx
    | some y =>
      rw [h2] at hx
      cases hx
      rw [h.2 u h1, hn y h2]
set_option maxRecDepth 100000 in
set_option maxHeartbeats 4000000 in
theorem placesOf_any : PlacesOk placesP := by
  intro w0 w R P s l f hG hb hR hs h
  obtain ⟨i0, hi, hq0, hq1, hq2⟩ := info_parts info3
  obtain ⟨ps, hps⟩ : ∃ ps, ps = Lib.splitN s [44] 5 := ⟨_, rfl⟩
  have hP1 := h.1
  have HSP : Hid (Calls Tryz.prog 78 #[.string ⟨s.toArray⟩, .string ⟨#[44]⟩, .int .i64 5] w fun e w' => (∃ c, e = .returned (.slice (some ⟨w.heap.size, 0, none⟩) ps.length c) ∧ StrsAt w' (fun b => b = w.heap.size) (.slice (some ⟨w.heap.size, 0, none⟩) ps.length c) ps) ∧ Below w.heap.size w w') := Lib.hid (by
    have := split_c s 5 w hs (by omega) (by omega) (hG.below hb)
    rwa [← hps] at this)
  have hpl : ps.length ≤ 5 := by
    have := splitK_few [44] (min 5 (s.length + 1) - 1) s
    rw [hps]
    show (Lib.splitK [44] 0 _ s).length ≤ 5
    omega
  have hpx : ∀ x ∈ ps, x.length ≤ 1000000 := fun x hx => by
    rw [hps] at hx
    have := splitK_len [44] _ s x hx
    omega
  have HPX := Lib.hid hpx
  have HQ : Hid (placesP s = (allG ps).bind fun l => if l.length ≤ 4 ∧ risG l = true then some l else none) := Lib.hid (by rw [hps]; rfl)
  have HG := Lib.hid hG
  have HB := Lib.hid hb
  have HH := Lib.hid h
  have HRL := h.lt
  have HPL : l ≠ [] → P < w.heap.size := fun hne => by
    obtain ⟨x, l', rfl⟩ := List.exists_cons_of_ne_nil hne
    exact h.ltP
  have HPLh := Lib.hid HPL
  clear hps hpx hG hb h HPL
  go_enter Tryz.func110, Tryz.ntmps110
  go_wp2_with (go_at_call 78; (with_reducible refine HSP.out.mono ?_); rintro e w1 ⟨⟨c, rfl, hst⟩, hb1⟩; have HST := Lib.hid hst; have HB1 := Lib.hid hb1; clear hst hb1)
  have HR1 : Hid (RdL w1 R P l f) := Lib.hid (HH.out.move fun b _ hl => HB1.out.block b hl)
  have HO1 : Hid (Only R w w1) := Lib.hid (Only.of_below HB1.out)
  have hown0 : w1.ownsRow w1.heap.size 3 1 (.slice none 0 0) 0 [] := World.ownsRow_nil _ _ _ _
  go_loopw [5, 13] (fun pv iv wr => ∃ (j : Nat) (v : List Int), iv = .int .i64 (j : Int) ∧ j ≤ ps.length ∧ Hid (PlI ps j v) ∧ Hid (wr.ownsRow w1.heap.size 3 1 pv j (v.map encZ)) ∧ Hid (RdL wr R P l (f || !(allG (ps.take j)).isSome)) ∧ Hid (Only R w1 wr)) (fun _ iv _ => ps.length - (intOf iv).toNat)
  case atStart => exact ⟨0, [], rfl, Nat.zero_le _, Lib.hid ⟨rfl, fun x hx => by cases hx; rfl⟩, Lib.hid hown0, Lib.hid (by simpa [allG] using HR1.out), Lib.hid (Only.refl _ _)⟩
  case round =>
    obtain ⟨j, v, rfl, hj, HPI, HOW, HRD, HOL⟩ := hrel
    have hs1 := HO1.out.size
    have hsz := Nat.le_trans HO1.out.size HOL.out.size
    by_cases hlt : j < ps.length
    · have hst : ∃ x, ps[j]? = some x := ⟨_, List.getElem?_eq_getElem hlt⟩
      obtain ⟨p, hp⟩ := hst
      have hpl2 := HPX.out p (List.mem_of_getElem? hp)
      have htk : ps.take (j + 1) = ps.take j ++ [p] := by rw [List.take_add_one, hp]; rfl
      have hjl : (j : Int) < (ps.length : Int) := by omega
      have hsc : wr.cell? ⟨w.heap.size, 0 + j, none⟩ = some (.string ⟨p.toArray⟩) := by
        obtain ⟨A, c', e, hc', h2⟩ := HST.out
        injection e with e1 e2 e3
        obtain ⟨b, o, e4, hbw, hb, hx⟩ := h2 (by omega)
        obtain rfl : b = w.heap.size := hbw
        obtain rfl : o = 0 := by rw [e4] at e1; injection e1 with e1; injection e1 with _ e5; exact e5.symm
        exact (World.cell?_of_block (a := ⟨w.heap.size, 0 + j, none⟩) (HOL.out.block w.heap.size hb (fun e => by have := Option.some.inj e; omega))).trans (hx j p hp)
      rw [Nat.zero_add] at hsc
      have HTK := Lib.hid htk
      have HNU : Hid (∀ W, Below wr.heap.size wr W → Calls Tryz.prog 131 #[.string ⟨p.toArray⟩, .int .i64 999] W fun e w' => (∃ n, e = .returned (.tuple #[.int .i64 n, .bool (goodN p 999).isSome]) ∧ ∀ v, goodN p 999 = some v → n = v) ∧ Below W.heap.size W w') := Lib.hid fun W hbW => numberOf_any p 999 W hpl2 (by omega) (HG.out.below ((HB.out.trans ((HO1.out.trans HOL.out).below hR HB.out.size)).trans (hbW.mono (by have := HB.out.size; omega))))
      clear htk hp hpl2
      obtain ⟨PA, pc, rfl⟩ := own_slice HOW.out
      go_wp2_with (first
        | (go_at_call 131; (with_reducible refine (HNU.out _ (Below.refl _ _)).mono ?_); rintro e w2 ⟨⟨n, rfl, hv⟩, hb2⟩; have HV := Lib.hid hv; have HR2 := Lib.hid (HRD.out.below (hb2.mono (Nat.le_refl _))); have HO2 := Lib.hid (only_bl HOL.out hb2); have HW2 := Lib.hid (HOW.out.kept (row := none) ⟨hb2.os, hb2.tape, hb2.output, hb2.size, fun i hi _ => hb2.block i hi⟩ (by simp [Value.ownBlock]; exact Classical.em _)); clear hv hb2)
        | (go_at_call 130; (with_reducible refine (need_any _ R P l _ _ HR2.out).mono ?_); rintro e w3 ⟨rfl, hr3, ho3⟩; have HR3 := Lib.hid hr3; have HO3 := Lib.hid (HO2.out.trans ho3); have HW3 := Lib.hid (HW2.out.kept (row := some R) ho3 (.inr (fun e => by have := (HW2.out.lt R e).1; omega))); clear hr3 ho3)
        | (at_builtin; refine wpList_append_own_at _ rfl _ _ 41 rfl w1.heap.size 3 i0 (.int .i64 0) 1 8 Tryz.underlying41 hi hq0 hq1 hq2 rfl (by decide) _ j (v.map encZ) rfl (HW3.out.alloc _) ⟨w3.heap.size, 0, none⟩ 1 1 [.int .i64 n] rfl rfl (World.news_of_block (cs := #[.int .i64 n]) (t := 3) (fr := (0, 0)) (heap_alloc_new w3 _)) (by simp [Value.oneCell']) (by unfold maxLen; omega) (by omega) (by have := HO3.out.size; simp; omega) ?_; intro v7 w7 hown7 hg7 _ hat7)
        | fail)
      have hs3 := HO3.out.size
      have H7O : Hid (w7.ownsRow w1.heap.size 3 1 v7 (j + 1) ((v ++ [n]).map encZ)) := Lib.hid (by
        rw [List.map_append]
        exact hown7)
      have hal := (Below.refl w3.heap.size w3).alloc (Nat.le_refl _) (.cells #[.int .i64 n] 3)
      have hlow : ∀ k, (Value.slice PA j pc).ownBlock = some k → w1.heap.size ≤ k := fun k hk => (HW3.out.lt k hk).1
      have H7R : Hid (RdL w7 R P l (f || !(allG (ps.take (j + 1))).isSome)) := Lib.hid (by
        rw [← flag_more HTK.out]
        exact (HR3.out.below hal).grown hg7 hlow (by omega) (fun hne => Nat.lt_of_lt_of_le (HPLh.out hne) hs1))
      have H7L : Hid (Only R w1 w7) := Lib.hid ((only_bl HO3.out hal).grown hg7 hlow)
      have H7P : Hid (PlI ps (j + 1) (v ++ [n])) := Lib.hid (HPI.out.more HTK.out HV.out)
      go_roundw
      case rel => exact ⟨j + 1, v ++ [n], by go_num, by omega, H7P, H7O, H7R, H7L⟩
      case measure => simp [intOf]; omega
    · obtain rfl : j = ps.length := by omega
      have hvl : v.length = ps.length := HPI.out.1
      have hjl : ¬ ((ps.length : Int) < (ps.length : Int)) := by omega
      have hall : ∀ x, allG ps = some x → v = x := fun x hx => HPI.out.2 x (by rw [List.take_length]; exact hx)
      have hrd := HRD.out
      rw [List.take_length] at hrd
      obtain ⟨PA, pc, rfl⟩ := own_slice HOW.out
      have hown := HOW.out
      rw [← hvl] at hown
      obtain ⟨k, hk⟩ : ∃ k, k = ps.length := ⟨_, rfl⟩
      have hia : IntsAt wr (fun b => w1.heap.size ≤ b) (.slice PA k pc) v := by rw [hk, ← hvl]; exact IntsAt.of_own hown
      have HIA := Lib.hid hia
      have hkv : v.length = k := hvl.trans hk.symm
      have hk5 : k ≤ 5 := by omega
      have HRI := Lib.hid (rising_any wr _ _ v hia (by omega))
      obtain ⟨b, hb⟩ : ∃ b, b = (decide (v.length ≤ 4) && risG v) := ⟨_, rfl⟩
      have HFL : Hid ((f || !(allG ps).isSome || !b) = (f || !(placesP s).isSome)) := Lib.hid (by
        rw [HQ.out, hb]
        cases h : allG ps with
        | none => cases f <;> rfl
        | some x =>
          rw [hall x h, Option.bind_some]
          by_cases h4 : x.length ≤ 4
          · cases hr : risG x <;> simp [h4]
          · simp [h4])
      have HVV : Hid (∀ x, f = false → placesP s = some x → v = x) := Lib.hid fun x _ hx => by
        rw [HQ.out] at hx
        cases h : allG ps with
        | none => rw [h] at hx; cases hx
        | some y =>
          rw [h, Option.bind_some] at hx
          split at hx
          · cases hx; exact hall _ h
          · cases hx
      have HRD2 := Lib.hid hrd
      have HKV := Lib.hid hkv
      rw [← hk] at hjl ⊢
      clear hvl hall hrd hown hia hk
      by_cases h4 : k ≤ 4
      · have h4i : (k : Int) ≤ 4 := by omega
        have HBB : Hid (risG v = b) := Lib.hid (by rw [hb, HKV.out]; simp [h4])
        clear hkv hb h4
        go_wp2_with (first
          | (go_at_call 89; (with_reducible refine HRI.out.mono ?_); rintro e w8 ⟨rfl, m, rfl⟩; rw [HBB.out])
          | (go_at_call 130; (with_reducible refine (need_any _ R P l _ _ (HRD2.out.below (bl_drn (Below.refl _ _) m))).mono ?_); rintro e w9 ⟨rfl, hr9, ho9⟩; have HR9 := Lib.hid hr9; have HO9 := Lib.hid ho9; clear hr9 ho9)
          | fail)
        go_ret
        refine ⟨⟨PA, v, pc, by rw [HKV.out]; rfl, HVV.out, ?_⟩, by rw [← HFL.out]; exact HR9.out, (HO1.out.trans HOL.out).trans ((Only.of_below (bl_drn (Below.refl _ _) m)).trans HO9.out)⟩
        rw [HKV.out]
        exact ((HIA.out.below (bl_drn (Below.refl _ _) m)).only (fun b hb e => by omega) HO9.out).move fun b hb hl => ⟨by omega, hl, fun _ => rfl⟩
      · have h4i : ¬ (k : Int) ≤ 4 := by omega
        have HBB : Hid (b = false) := Lib.hid (by rw [hb, HKV.out]; simp [h4])
        clear hkv hb h4
        go_wp2_with (first
          | (go_at_call 130; (with_reducible refine (need_any _ R P l _ _ HRD2.out).mono ?_); rintro e w9 ⟨rfl, hr9, ho9⟩; have HR9 := Lib.hid hr9; have HO9 := Lib.hid ho9; clear hr9 ho9)
          | fail)
        go_ret
        refine ⟨⟨PA, v, pc, by rw [HKV.out]; rfl, HVV.out, ?_⟩, by rw [← HFL.out, HBB.out]; exact HR9.out, (HO1.out.trans HOL.out).trans HO9.out⟩
        rw [HKV.out]
        exact (HIA.out.only (fun b hb e => by omega) HO9.out).move fun b hb hl => ⟨by omega, hl, fun _ => rfl⟩
end Go.Proofs.YtllnamhgnbdkmaaGreatDoor
