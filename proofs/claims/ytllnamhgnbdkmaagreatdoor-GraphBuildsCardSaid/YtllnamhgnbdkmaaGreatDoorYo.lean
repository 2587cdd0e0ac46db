/-
Stage 11: what is read from a line has just that line. Stage 11: a line is read back: cut, splitN. Stage 11: numbers, places, types are read back from their texts. Stage 11: the line of a right node is read as that node. Stage 11: the text of right nodes is read as these nodes. Stage 11: beginnings of right pipelines. Stage 11: places as the document has them written: one to 4, rising. Stage 11: GraphBack. Stage 11: placesOf.
-/
import Derived.Test.YtllnamhgnbdkmaaGreatDoorYc
import Derived.Test.YtllnamhgnbdkmaaGreatDoorKt
set_option linter.unusedVariables false
set_option linter.unusedSimpArgs false
namespace Go.Proofs.YtllnamhgnbdkmaaGreatDoor
open Go.RowKit Go.Shelf
theorem index_some1 {s : List UInt8} {c : UInt8} {i : Nat} (h : Lib.index s [c] = i) : s[i]? = some c ∧ ∀ k, k < i → s[k]? ≠ some c := Lib.indexByte_some (by rw [← Lib.index_one]; exact h)
theorem take_drop1 {s : List UInt8} {c : UInt8} {i : Nat} (h : s[i]? = some c) : s.take i ++ c :: s.drop (i + 1) = s := by
  obtain ⟨hi, hc⟩ := List.getElem?_eq_some_iff.1 h
  have : s.drop i = c :: s.drop (i + 1) := by rw [List.drop_eq_getElem_cons hi, hc]
  rw [← this, List.take_append_drop]
theorem cut_join {s : List UInt8} {c : UInt8} (h : (Lib.cut s [c]).2.2 = true) : (Lib.cut s [c]).1 ++ c :: (Lib.cut s [c]).2.1 = s := by
  unfold Lib.cut at h ⊢
  split
  · rename_i h0
    exact take_drop1 (index_some1 (i := (Lib.index s [c]).toNat) (by omega)).1
  · rename_i h0
    rw [if_neg h0] at h
    cases h
theorem cut_miss {s : List UInt8} {c : UInt8} (h : (Lib.cut s [c]).2.2 = false) : (Lib.cut s [c]).2.1 = [] := by
  unfold Lib.cut at h ⊢
  split
  · rename_i h0
    rw [if_pos h0] at h
    cases h
  · rfl
theorem splitK_ne (c : UInt8) : ∀ (k : Nat) (s : List UInt8), Lib.splitK [c] 0 k s ≠ []
  | 0, s => by simp [Lib.splitK]
  | k + 1, s => by unfold Lib.splitK; split <;> simp
theorem splitK_join (c : UInt8) : ∀ (k : Nat) (s : List UInt8), Lib.join (Lib.splitK [c] 0 k s) [c] = s
  | 0, s => Lib.join_one _ _
  | k + 1, s => by
    unfold Lib.splitK
    split
    · exact Lib.join_one _ _
    · rename_i h
      have h1 : Lib.index s [c] ≠ -1 := by simpa using h
      have h2 := Lib.index_ge s [c]
      obtain ⟨y, l, hl⟩ : ∃ y l, Lib.splitK [c] 0 k (s.drop ((Lib.index s [c]).toNat + 1)) = y :: l := by
        cases hs : Lib.splitK [c] 0 k (s.drop ((Lib.index s [c]).toNat + 1)) with
        | nil => exact absurd hs (splitK_ne _ _ _)
        | cons y l => exact ⟨y, l, rfl⟩
      have ih := splitK_join c k (s.drop ((Lib.index s [c]).toNat + 1))
      have hd := take_drop1 (index_some1 (s := s) (c := c) (i := (Lib.index s [c]).toNat) (by omega)).1
      rw [hl] at ih
      simp only [List.length_cons, List.length_nil, Nat.add_zero, Nat.zero_add]
      rw [hl]
      have : ∀ (x y : List UInt8) l, Lib.join (x :: y :: l) [c] = x ++ c :: Lib.join (y :: l) [c] := fun x y l => by simp [Lib.join, List.intercalate]
      rw [this, ih]
      exact hd
theorem goodN_back {p : List UInt8} {m v : Int} (h : goodN p m = some v) : Lib.itoa v = p ∧ 0 ≤ v ∧ v ≤ m := by
  unfold goodN at h
  split at h
  · split at h
    · rename_i h2
      cases h
      exact ⟨h2.2, h2.1.1, h2.1.2⟩
    · cases h
  · cases h
theorem placeT_one (v : Int) : placeT [v] = Lib.itoa v := by simp [placeT, Lib.join_one]
structure QOk (q : List UInt8 → Option (List Int)) : Prop where
  back : ∀ s l, q s = some l → placeT l = s
  few : ∀ s l, q s = some l → l.length ≤ 1000 ∧ InR l
  none : q [] = none
theorem sidesP_back {q : List UInt8 → Option (List Int)} (hq : QOk q) {p : List UInt8} {l : List Int} (h : sidesP q p = some l) : placeT l = p ∧ l.length ≤ 1000 ∧ InR l := by
  unfold sidesP at h
  split at h
  · rename_i hp
    cases h
    exact ⟨hp.symm, by simp, by simp [InR]⟩
  · exact ⟨hq.back _ _ h, hq.few _ _ h⟩
theorem modeP_back {p : List UInt8} {b : Bool} (h : modeP p = some b) : (if b = true then [97, 99, 99] else [100, 105, 115]) = p := by
  unfold modeP at h
  split at h
  · rename_i hp; cases h; exact hp.symm
  · split at h
    · rename_i hp; cases h; exact hp.symm
    · cases h
structure NBack (o : Gop) (ps : List (List UInt8)) (n : Gn) : Prop where
  op : n.op = o.number
  parts : partsP n = ps
  full : ps ≠ [[]]
  rng : GnR n
  i1 : n.ins.length ≤ 1000
  i2 : n.side.length ≤ 1000
theorem i64_of {v m : Int} (h : 0 ≤ v ∧ v ≤ m) (hm : m ≤ 9999999) : i64R v := ⟨by omega, by omega⟩
theorem zR : i64R 0 := ⟨by decide, by decide⟩
theorem inR_one {v m : Int} (h : 0 ≤ v ∧ v ≤ m) (hm : m ≤ 9999999) : InR [v] := fun x hx => by
  obtain rfl : x = v := by simpa using hx
  exact ⟨by omega, by omega⟩
theorem inR_nil : InR [] := fun x hx => by cases hx
theorem node1_back {p0 : List UInt8} {n : Gn} (h : node1 p0 = some n) : NBack gop1 [p0] n := by
  unfold node1 at h
  cases hq : (Knd.parseT p0).2 with
  | none => rw [hq] at h; cases h
  | some t =>
    rw [hq] at h
    cases h
    have hp : Knd.parseT p0 = ((Knd.parseT p0).1, some t) := Prod.ext rfl hq
    obtain ⟨h1, q, h2⟩ := Knd.parse_back hp
    refine ⟨rfl, ?_, ?_, ⟨inR_nil, inR_nil, zR, zR, zR, zR, zR, zR, zR⟩, by simp [gz], by simp [gz]⟩
    · show [Knd.textT 6 t] = [p0]
      rw [h1]
    · intro e
      obtain rfl : p0 = [] := by simpa using e
      rw [show (Knd.parseT []).2 = none by decide] at hq
      cases hq
theorem node2_back {q : List UInt8 → Option (List Int)} (hq : QOk q) {p0 p1 p2 : List UInt8} {n : Gn} (h : node2 q p0 p1 p2 = some n) : NBack gop2 [p0, p1, p2] n := by
  unfold node2 at h
  split at h
  · rename_i i s e0 e1 e2
    cases h
    obtain ⟨a1, a2⟩ := goodN_back e0
    obtain ⟨b1, b2, b3⟩ := sidesP_back hq e1
    refine ⟨rfl, ?_, by simp, ⟨inR_one a2 (by decide), b3, zR, zR, zR, zR, zR, zR, zR⟩, by simp [gz], b2⟩
    show [placeT [i], placeT s, p2] = _
    rw [placeT_one, a1, b1]
  · cases h
theorem node3_back {p0 p1 p2 p3 p4 : List UInt8} {n : Gn} (h : node3 p0 p1 p2 p3 p4 = some n) : NBack gop3 [p0, p1, p2, p3, p4] n := by
  unfold node3 at h
  split at h
  · rename_i i a b c d e0 e1 e2 e3 e4
    cases h
    obtain ⟨a1, a2⟩ := goodN_back e0
    obtain ⟨b1, b2⟩ := goodN_back e1
    obtain ⟨c1, c2⟩ := goodN_back e2
    obtain ⟨d1, d2⟩ := goodN_back e3
    obtain ⟨f1, f2⟩ := goodN_back e4
    refine ⟨rfl, ?_, by simp, ⟨inR_one a2 (by decide), inR_nil, i64_of b2 (by decide), i64_of c2 (by decide), i64_of d2 (by decide), i64_of f2 (by decide), zR, zR, zR⟩, by simp [gz], by simp [gz]⟩
    show [placeT [i], Lib.itoa a, Lib.itoa b, Lib.itoa c, Lib.itoa d] = _
    rw [placeT_one, a1, b1, c1, d1, f1]
  · cases h
theorem node4_back {p0 p1 p2 p3 p4 p5 : List UInt8} {n : Gn} (h : node4 p0 p1 p2 p3 p4 p5 = some n) : NBack gop4 [p0, p1, p2, p3, p4, p5] n := by
  unfold node4 at h
  split at h
  · rename_i i a b c d e0 e1 e2 e3 e4 e5
    cases h
    obtain ⟨a1, a2⟩ := goodN_back e0
    obtain ⟨b1, b2⟩ := goodN_back e1
    obtain ⟨c1, c2⟩ := goodN_back e2
    obtain ⟨d1, d2⟩ := goodN_back e3
    have f1 := modeP_back e4
    refine ⟨rfl, ?_, by simp, ⟨inR_one a2 (by decide), inR_nil, zR, zR, zR, zR, i64_of b2 (by decide), i64_of c2 (by decide), i64_of d2 (by decide)⟩, by simp [gz], by simp [gz]⟩
    show [placeT [i], Lib.itoa a, Lib.itoa b, Lib.itoa c, (if d = true then [97, 99, 99] else [100, 105, 115]), p5] = _
    rw [placeT_one, a1, b1, c1, d1, f1]
  · cases h
theorem node5_back {q : List UInt8 → Option (List Int)} (hq : QOk q) {p0 : List UInt8} {n : Gn} (h : node5 q p0 = some n) : NBack gop5 [p0] n := by
  unfold node5 at h
  split at h
  · rename_i s e0
    cases h
    obtain ⟨b2, b3⟩ := hq.few _ _ e0
    refine ⟨rfl, ?_, ?_, ⟨b3, inR_nil, zR, zR, zR, zR, zR, zR, zR⟩, b2, by simp [gz]⟩
    · show [placeT s] = _
      rw [hq.back _ _ e0]
    · intro e
      obtain rfl : p0 = [] := by simpa using e
      rw [hq.none] at e0
      cases e0
  · cases h
theorem node6_back {p0 : List UInt8} {n : Gn} (h : node6 p0 = some n) : NBack gop6 [p0] n := by
  unfold node6 at h
  split at h
  · rename_i i e0
    cases h
    obtain ⟨a1, a2⟩ := goodN_back e0
    refine ⟨rfl, ?_, ?_, ⟨inR_one a2 (by decide), inR_nil, zR, zR, zR, zR, zR, zR, zR⟩, by simp [gz], by simp [gz]⟩
    · show [placeT [i]] = _
      rw [placeT_one, a1]
    · intro e
      obtain rfl : p0 = [] := by simpa using e
      revert e0
      rw [show goodN [] 999 = none by decide]
      intro h; cases h
  · cases h
theorem nodeP_back {q : List UInt8 → Option (List Int)} (hq : QOk q) {o : Gop} (ho : o ∈ gops) {ps : List (List UInt8)} (hn : (ps.length : Int) = o.parts) {n : Gn} (h : nodeP q o.number ps = some n) : NBack o ps n := by
  simp only [gops, List.mem_cons, List.not_mem_nil, or_false] at ho
  rcases ho with rfl | rfl | rfl | rfl | rfl | rfl
  · match ps, hn with
    | [p0], _ => exact node1_back h
  · match ps, hn with
    | [p0, p1, p2], _ => exact node2_back hq h
  · match ps, hn with
    | [p0, p1, p2, p3, p4], _ => exact node3_back h
  · match ps, hn with
    | [p0, p1, p2, p3, p4, p5], _ => exact node4_back h
  · match ps, hn with
    | [p0], _ => exact node5_back hq h
  · match ps, hn with
    | [p0], _ => exact node6_back h
theorem gops_word : ∀ o ∈ gops, opWord o.number = o.word := by decide
theorem lineR_back {q : List UInt8 → Option (List Int)} (hq : QOk q) {line : List UInt8} {n : Gn} (h : lineR q line = some n) : lineP n = line ∧ GnR n ∧ n.ins.length ≤ 1000 ∧ n.side.length ≤ 1000 := by
  unfold lineR at h
  cases hf : gops.find? fun x => x.word == (Lib.cut line [32]).1 with
  | none => rw [hf] at h; cases h
  | some o =>
    rw [hf] at h
    have hm := List.mem_of_find?_eq_some hf
    have hw := List.find?_some hf
    simp only [beq_iff_eq] at hw
    obtain ⟨g1, g2, g3⟩ := gops_parts o hm
    unfold opR at h
    dsimp only at h
    split at h
    · cases h
    · rename_i hlt
      have hfew := splitK_few [32] (min o.parts.toNat ((Lib.cut line [32]).2.1.length + 1) - 1) (Lib.cut line [32]).2.1
      have hlen : ((Lib.splitN (Lib.cut line [32]).2.1 [32] o.parts.toNat).length : Int) = o.parts := by
        unfold Lib.splitN at hlt ⊢
        omega
      have hb := nodeP_back hq hm hlen h
      refine ⟨?_, hb.rng, hb.i1, hb.i2⟩
      have hj : Lib.join (Lib.splitN (Lib.cut line [32]).2.1 [32] o.parts.toNat) [32] = (Lib.cut line [32]).2.1 := splitK_join 32 _ _
      unfold lineP
      rw [hb.op, hb.parts, gops_word o hm, hw, hj]
      cases hc : (Lib.cut line [32]).2.2 with
      | true => exact cut_join hc
      | false =>
        exfalso
        apply hb.full
        rw [cut_miss hc]
        have : ([] : List UInt8).length + 1 = 1 := rfl
        unfold Lib.splitN
        rw [this, show min o.parts.toNat 1 - 1 = 0 by omega]
        rfl
theorem rdLines_back {q : List UInt8 → Option (List Int)} (hq : QOk q) : ∀ (f : Nat) (r : List UInt8) (k : Nat) (l : List Gn), r.length ≤ f → rdLines q f r = (k, some l) → textP l = r ∧ ∀ n ∈ l, GnR n ∧ n.ins.length ≤ 1000 ∧ n.side.length ≤ 1000
  | 0, r, k, l, hf, h => by
    obtain rfl : r = [] := List.length_eq_zero_iff.1 (by omega)
    unfold rdLines at h
    cases h
    exact ⟨rfl, fun n hn => by cases hn⟩
  | f + 1, r, k, l, hf, h => by
    unfold rdLines at h
    split at h
    · rename_i h0
      cases h
      exact ⟨h0.symm, fun n hn => by cases hn⟩
    · rename_i h0
      split at h
      · rename_i n hl hc
        have hless := cut10_less r hc h0
        cases hr : rdLines q f (Lib.cut r [10]).2.1 with
        | mk a b =>
          rw [hr] at h
          cases b with
          | none => cases h
          | some l2 =>
            cases h
            obtain ⟨g1, g2⟩ := rdLines_back hq f _ _ _ (by omega) hr
            obtain ⟨b1, b2⟩ := lineR_back hq hl
            refine ⟨?_, fun m hm => ?_⟩
            · have := cut_join hc
              unfold textP at g1 ⊢
              rw [List.flatMap_cons, g1, b1]
              simpa using this
            · rcases List.mem_cons.1 hm with rfl | hm
              · exact b2
              · exact g2 m hm
      · cases h
theorem parse_back {q : List UInt8 → Option (List Int)} (hq : QOk q) (s : List UInt8) : (∃ k e, parseP q s = (k, e, []) ∧ e ≠ 0) ∨ ∃ l, parseP q s = (0, 0, l) ∧ chkAll l = (0, 0) ∧ showP l = s ∧ (∀ n ∈ l, GnR n ∧ n.ins.length ≤ 1000 ∧ n.side.length ≤ 1000) ∧ l.length ≤ 32 := by
  unfold parseP
  cases hr : rdLines q s.length s with
  | mk k o =>
    cases o with
    | none => exact Or.inl ⟨k, 40, rfl, by decide⟩
    | some l =>
      dsimp only
      obtain ⟨h1, h2⟩ := rdLines_back hq _ _ _ _ (Nat.le_refl _) hr
      by_cases hc : (chkAll (l.take 33)).2 = 0
      · rw [if_pos hc]
        have hlen : (l.take 33).length ≤ 32 ∧ (l.take 33).length ≠ 0 := by
          refine Decidable.byContradiction fun hn => ?_
          have : (chkAll (l.take 33)).2 = 112 := by
            unfold chkAll
            rw [if_pos (by omega)]
          omega
        have hlt : l.take 33 = l := by
          rw [List.length_take] at hlen
          exact List.take_of_length_le (by omega)
        rw [hlt] at hc hlen ⊢
        refine Or.inr ⟨l, rfl, ?_, ?_, h2, hlen.1⟩
        · unfold chkAll at hc ⊢
          split
          · rename_i hx; rw [if_pos hx] at hc; cases hc
          · rename_i hx
            rw [if_neg hx] at hc
            cases hf : (List.range l.length).find? (fun i => okN l i != 0) with
            | none => rfl
            | some i =>
              rw [hf] at hc
              have := List.find?_some hf
              simp at this
              exact absurd hc this
        · unfold showP
          rw [if_pos hc, h1]
      · rw [if_neg hc]
        exact Or.inl ⟨_, _, rfl, hc⟩
end Go.Proofs.YtllnamhgnbdkmaaGreatDoor
namespace Go.Proofs.YtllnamhgnbdkmaaGreatDoor
open Go.RowKit Go.Shelf
end Go.Proofs.YtllnamhgnbdkmaaGreatDoor
namespace Go.Proofs.YtllnamhgnbdkmaaGreatDoor
open Go.RowKit Go.Shelf
end Go.Proofs.YtllnamhgnbdkmaaGreatDoor
namespace Go.Proofs.YtllnamhgnbdkmaaGreatDoor
open Go.RowKit Go.Shelf
end Go.Proofs.YtllnamhgnbdkmaaGreatDoor
namespace Go.Proofs.YtllnamhgnbdkmaaGreatDoor
open Go.RowKit Go.Shelf
end Go.Proofs.YtllnamhgnbdkmaaGreatDoor
namespace Go.Proofs.YtllnamhgnbdkmaaGreatDoor
open Go.RowKit Go.Shelf
end Go.Proofs.YtllnamhgnbdkmaaGreatDoor
namespace Go.Proofs.YtllnamhgnbdkmaaGreatDoor
open Go.RowKit Go.Shelf
theorem splitK_ge1 (c : UInt8) (k : Nat) (s : List UInt8) : 1 ≤ (Lib.splitK [c] 0 k s).length := List.length_pos_iff.2 (splitK_ne c k s)
def allG : List (List UInt8) → Option (List Int)
  | [] => some []
  | p :: l => (goodN p 999).bind fun v => (allG l).map (v :: ·)
def placesP (s : List UInt8) : Option (List Int) := (allG (Lib.splitN s [44] 5)).bind fun l => if l.length ≤ 4 ∧ risG l = true then some l else none
theorem placesP_some {s : List UInt8} {l : List Int} (h : placesP s = some l) : allG (Lib.splitN s [44] 5) = some l ∧ l.length ≤ 4 ∧ risG l = true := by
  unfold placesP at h
  cases hr : allG (Lib.splitN s [44] 5) with
  | none => rw [hr] at h; cases h
  | some r =>
    rw [hr, Option.bind_some] at h
    split at h
    · rename_i hc
      cases h
      exact ⟨rfl, hc⟩
    · cases h
theorem allG_back : ∀ (ps : List (List UInt8)) (l : List Int), allG ps = some l → l.map Lib.itoa = ps ∧ ∀ x ∈ l, 0 ≤ x ∧ x ≤ 999
  | [], l, h => by cases h; simp
  | p :: ps, l, h => by
    unfold allG at h
    cases hg : goodN p 999 with
    | none => rw [hg] at h; cases h
    | some v =>
      rw [hg, Option.bind_some] at h
      cases hr : allG ps with
      | none => rw [hr] at h; cases h
      | some r =>
        rw [hr] at h
        cases h
        obtain ⟨g1, g2⟩ := goodN_back hg
        obtain ⟨r1, r2⟩ := allG_back ps r hr
        refine ⟨by rw [List.map_cons, g1, r1], fun x hx => ?_⟩
        rcases List.mem_cons.1 hx with rfl | hx
        · exact g2
        · exact r2 x hx
theorem placesP_ok : QOk placesP where
  back s l h := by
    obtain ⟨h1, h2, h3⟩ := placesP_some h
    obtain ⟨g1, g2⟩ := allG_back _ _ h1
    have hn := splitK_ge1 44 (min 5 (s.length + 1) - 1) s
    have hj := splitK_join 44 (min 5 (s.length + 1) - 1) s
    have e : Lib.splitN s [44] 5 = Lib.splitK [44] 0 (min 5 (s.length + 1) - 1) s := rfl
    rw [← e, ← g1] at hn hj
    rw [List.length_map] at hn
    unfold placeT
    rw [if_neg (by omega), hj]
  few s l h := by
    obtain ⟨h1, h2, h3⟩ := placesP_some h
    obtain ⟨g1, g2⟩ := allG_back _ _ h1
    exact ⟨by omega, fun x hx => by have := g2 x hx; omega⟩
  none := by decide
end Go.Proofs.YtllnamhgnbdkmaaGreatDoor
namespace Go.Proofs.YtllnamhgnbdkmaaGreatDoor
open Go.RowKit Go.Shelf
theorem QOk.two {q : List UInt8 → Option (List Int)} (hq : QOk q) : ∀ line n, lineR q line = some n → n.ins.length ≤ 1000000 ∧ n.side.length ≤ 1000000 := fun line n h => by
  obtain ⟨_, _, h1, h2⟩ := lineR_back hq h
  omega
end Go.Proofs.YtllnamhgnbdkmaaGreatDoor
namespace Go.Proofs.YtllnamhgnbdkmaaGreatDoor
open Go.RowKit Go.Shelf Go.Sort
theorem allG_app : ∀ (a b : List (List UInt8)), allG (a ++ b) = (allG a).bind fun x => (allG b).map (x ++ ·)
  | [], b => by
    rw [List.nil_append, show allG [] = some [] from rfl, Option.bind_some]
    cases allG b <;> rfl
  | p :: a, b => by
    rw [List.cons_append, allG, allG_app a b, allG]
    cases goodN p 999 with
    | none => rfl
    | some v =>
      rw [Option.bind_some, Option.bind_some]
      cases allG a with
      | none => rfl
      | some x =>
        rw [Option.bind_some, Option.map_some, Option.bind_some]
        cases allG b <;> rfl
theorem RdL.grown {w w' : World} {R P B : Nat} {l : List (List UInt8)} {f : Bool} {row : Option Nat} (h : RdL w R P l f) (hg : w.grownBy w' row) (hr : ∀ k, row = some k → B ≤ k) (hR : R < B) (hP : l ≠ [] → P < B) : RdL w' R P l f := by
  have hl := h.lt
  obtain ⟨h0, v, h1, A, c, e, hc, h2⟩ := h
  refine ⟨h0, v, (hg.block R hl (fun e => by have := hr R e.symm; omega)).trans h1, A, c, e, hc, fun hlen => ?_⟩
  obtain ⟨b, o, e2, rfl, hb, hx⟩ := h2 hlen
  have hPB := hP (fun e => by subst e; simp at hlen)
  exact ⟨b, o, e2, rfl, Nat.lt_of_lt_of_le hb hg.size, fun j x hj => (World.cell?_of_block (hg.block b hb (fun e => by have := hr b e.symm; omega))).trans (hx j x hj)⟩
theorem allG_more {ps : List (List UInt8)} {j : Nat} {p : List UInt8} (h : ps.take (j + 1) = ps.take j ++ [p]) : allG (ps.take (j + 1)) = (allG (ps.take j)).bind fun x => (goodN p 999).map fun v => x ++ [v] := by
  rw [h, allG_app]
  cases allG (ps.take j) with
  | none => rfl
  | some x =>
    rw [Option.bind_some, Option.bind_some, allG]
    cases goodN p 999 <;> rfl
theorem flag_more {ps : List (List UInt8)} {j : Nat} {p : List UInt8} (h : ps.take (j + 1) = ps.take j ++ [p]) (f : Bool) : (f || !(allG (ps.take j)).isSome || !(goodN p 999).isSome) = (f || !(allG (ps.take (j + 1))).isSome) := by
  rw [allG_more h]
  cases allG (ps.take j) with
  | none => cases f <;> rfl
  | some x => cases goodN p 999 <;> cases f <;> rfl
def PlI (ps : List (List UInt8)) (j : Nat) (v : List Int) : Prop := v.length = j ∧ ∀ x, allG (ps.take j) = some x → v = x
theorem PlI.more {ps : List (List UInt8)} {j : Nat} {v : List Int} (h : PlI ps j v) {p : List UInt8} (hp : ps.take (j + 1) = ps.take j ++ [p]) {n : Int} (hn : ∀ y, goodN p 999 = some y → n = y) : PlI ps (j + 1) (v ++ [n]) := by
  refine ⟨by rw [List.length_append, h.1]; rfl, fun x hx => ?_⟩
  rw [allG_more hp] at hx
  cases h1 : allG (ps.take j) with
  | none => rw [h1] at hx; cases hx
  | some u =>
    rw [h1, Option.bind_some] at hx
    cases h2 : goodN p 999 with
    | none => rw [h2] at hx; cases hx
    | some y =>
      rw [h2] at hx
      cases hx
      rw [h.2 u h1, hn y h2]
set_option maxRecDepth 100000 in
set_option maxHeartbeats 4000000 in
theorem placesOf_any : PlacesOk placesP := by
  intro w0 w R P s l f hG hb hR hs h
  obtain ⟨i0, hi, hq0, hq1, hq2⟩ := info_parts info3
  obtain ⟨ps, hps⟩ : ∃ ps, ps = Lib.splitN s [44] 5 := ⟨_, rfl⟩
  have hP1 := h.1
  have HSP : Hid (Calls Tryz.prog 78 #[.string ⟨s.toArray⟩, .string ⟨#[44]⟩, .int .i64 5] w fun e w' => (∃ c, e = .returned (.slice (some ⟨w.heap.size, 0, none⟩) ps.length c) ∧ StrsAt w' (fun b => b = w.heap.size) (.slice (some ⟨w.heap.size, 0, none⟩) ps.length c) ps) ∧ Below w.heap.size w w') := Lib.hid (by
    have := split_c s 5 w hs (by omega) (by omega) (hG.below hb)
    rwa [← hps] at this)
  have hpl : ps.length ≤ 5 := by
    have := splitK_few [44] (min 5 (s.length + 1) - 1) s
    rw [hps]
    show (Lib.splitK [44] 0 _ s).length ≤ 5
    omega
  have hpx : ∀ x ∈ ps, x.length ≤ 1000000 := fun x hx => by
    rw [hps] at hx
    have := splitK_len [44] _ s x hx
    omega
  have HPX := Lib.hid hpx
  have HQ : Hid (placesP s = (allG ps).bind fun l => if l.length ≤ 4 ∧ risG l = true then some l else none) := Lib.hid (by rw [hps]; rfl)
  have HG := Lib.hid hG
  have HB := Lib.hid hb
  have HH := Lib.hid h
  have HRL := h.lt
  have HPL : l ≠ [] → P < w.heap.size := fun hne => by
    obtain ⟨x, l', rfl⟩ := List.exists_cons_of_ne_nil hne
    exact h.ltP
  have HPLh := Lib.hid HPL
  clear hps hpx hG hb h HPL
  go_enter Tryz.func110, Tryz.ntmps110
  go_wp2_with (go_at_call 78; (with_reducible refine HSP.out.mono ?_); rintro e w1 ⟨⟨c, rfl, hst⟩, hb1⟩; have HST := Lib.hid hst; have HB1 := Lib.hid hb1; clear hst hb1)
  have HR1 : Hid (RdL w1 R P l f) := Lib.hid (HH.out.move fun b _ hl => HB1.out.block b hl)
  have HO1 : Hid (Only R w w1) := Lib.hid (Only.of_below HB1.out)
  have hown0 : w1.ownsRow w1.heap.size 3 1 (.slice none 0 0) 0 [] := World.ownsRow_nil _ _ _ _
  go_loopw [5, 13] (fun pv iv wr => ∃ (j : Nat) (v : List Int), iv = .int .i64 (j : Int) ∧ j ≤ ps.length ∧ Hid (PlI ps j v) ∧ Hid (wr.ownsRow w1.heap.size 3 1 pv j (v.map encZ)) ∧ Hid (RdL wr R P l (f || !(allG (ps.take j)).isSome)) ∧ Hid (Only R w1 wr)) (fun _ iv _ => ps.length - (intOf iv).toNat)
  case atStart => exact ⟨0, [], rfl, Nat.zero_le _, Lib.hid ⟨rfl, fun x hx => by cases hx; rfl⟩, Lib.hid hown0, Lib.hid (by simpa [allG] using HR1.out), Lib.hid (Only.refl _ _)⟩
  case round =>
    obtain ⟨j, v, rfl, hj, HPI, HOW, HRD, HOL⟩ := hrel
    have hs1 := HO1.out.size
    have hsz := Nat.le_trans HO1.out.size HOL.out.size
    by_cases hlt : j < ps.length
    · have hst : ∃ x, ps[j]? = some x := ⟨_, List.getElem?_eq_getElem hlt⟩
      obtain ⟨p, hp⟩ := hst
      have hpl2 := HPX.out p (List.mem_of_getElem? hp)
      have htk : ps.take (j + 1) = ps.take j ++ [p] := by rw [List.take_add_one, hp]; rfl
      have hjl : (j : Int) < (ps.length : Int) := by omega
      have hsc : wr.cell? ⟨w.heap.size, 0 + j, none⟩ = some (.string ⟨p.toArray⟩) := by
        obtain ⟨A, c', e, hc', h2⟩ := HST.out
        injection e with e1 e2 e3
        obtain ⟨b, o, e4, hbw, hb, hx⟩ := h2 (by omega)
        obtain rfl : b = w.heap.size := hbw
        obtain rfl : o = 0 := by rw [e4] at e1; injection e1 with e1; injection e1 with _ e5; exact e5.symm
        exact (World.cell?_of_block (a := ⟨w.heap.size, 0 + j, none⟩) (HOL.out.block w.heap.size hb (fun e => by have := Option.some.inj e; omega))).trans (hx j p hp)
      rw [Nat.zero_add] at hsc
      have HTK := Lib.hid htk
      have HNU : Hid (∀ W, Below wr.heap.size wr W → Calls Tryz.prog 131 #[.string ⟨p.toArray⟩, .int .i64 999] W fun e w' => (∃ n, e = .returned (.tuple #[.int .i64 n, .bool (goodN p 999).isSome]) ∧ ∀ v, goodN p 999 = some v → n = v) ∧ Below W.heap.size W w') := Lib.hid fun W hbW => numberOf_any p 999 W hpl2 (by omega) (HG.out.below ((HB.out.trans ((HO1.out.trans HOL.out).below hR HB.out.size)).trans (hbW.mono (by have := HB.out.size; omega))))
      clear htk hp hpl2
      obtain ⟨PA, pc, rfl⟩ := own_slice HOW.out
      go_wp2_with (first
        | (go_at_call 131; (with_reducible refine (HNU.out _ (Below.refl _ _)).mono ?_); rintro e w2 ⟨⟨n, rfl, hv⟩, hb2⟩; have HV := Lib.hid hv; have HR2 := Lib.hid (HRD.out.below (hb2.mono (Nat.le_refl _))); have HO2 := Lib.hid (only_bl HOL.out hb2); have HW2 := Lib.hid (HOW.out.kept (row := none) ⟨hb2.os, hb2.tape, hb2.output, hb2.size, fun i hi _ => hb2.block i hi⟩ (by simp [Value.ownBlock]; exact Classical.em _)); clear hv hb2)
        | (go_at_call 130; (with_reducible refine (need_any _ R P l _ _ HR2.out).mono ?_); rintro e w3 ⟨rfl, hr3, ho3⟩; have HR3 := Lib.hid hr3; have HO3 := Lib.hid (HO2.out.trans ho3); have HW3 := Lib.hid (HW2.out.kept (row := some R) ho3 (.inr (fun e => by have := (HW2.out.lt R e).1; omega))); clear hr3 ho3)
        | (at_builtin; refine wpList_append_own_at _ rfl _ _ 41 rfl w1.heap.size 3 i0 (.int .i64 0) 1 8 Tryz.underlying41 hi hq0 hq1 hq2 rfl (by decide) _ j (v.map encZ) rfl (HW3.out.alloc _) ⟨w3.heap.size, 0, none⟩ 1 1 [.int .i64 n] rfl rfl (World.news_of_block (cs := #[.int .i64 n]) (t := 3) (fr := (0, 0)) (heap_alloc_new w3 _)) (by simp [Value.oneCell']) (by unfold maxLen; omega) (by omega) (by have := HO3.out.size; simp; omega) ?_; intro v7 w7 hown7 hg7 _ hat7)
        | fail)
      have hs3 := HO3.out.size
      have H7O : Hid (w7.ownsRow w1.heap.size 3 1 v7 (j + 1) ((v ++ [n]).map encZ)) := Lib.hid (by
        rw [List.map_append]
        exact hown7)
      have hal := (Below.refl w3.heap.size w3).alloc (Nat.le_refl _) (.cells #[.int .i64 n] 3)
      have hlow : ∀ k, (Value.slice PA j pc).ownBlock = some k → w1.heap.size ≤ k := fun k hk => (HW3.out.lt k hk).1
      have H7R : Hid (RdL w7 R P l (f || !(allG (ps.take (j + 1))).isSome)) := Lib.hid (by
        rw [← flag_more HTK.out]
        exact (HR3.out.below hal).grown hg7 hlow (by omega) (fun hne => Nat.lt_of_lt_of_le (HPLh.out hne) hs1))
      have H7L : Hid (Only R w1 w7) := Lib.hid ((only_bl HO3.out hal).grown hg7 hlow)
      have H7P : Hid (PlI ps (j + 1) (v ++ [n])) := Lib.hid (HPI.out.more HTK.out HV.out)
      go_roundw
      case rel => exact ⟨j + 1, v ++ [n], by go_num, by omega, H7P, H7O, H7R, H7L⟩
      case measure => simp [intOf]; omega
    · obtain rfl : j = ps.length := by omega
      have hvl : v.length = ps.length := HPI.out.1
      have hjl : ¬ ((ps.length : Int) < (ps.length : Int)) := by omega
      have hall : ∀ x, allG ps = some x → v = x := fun x hx => HPI.out.2 x (by rw [List.take_length]; exact hx)
      have hrd := HRD.out
      rw [List.take_length] at hrd
      obtain ⟨PA, pc, rfl⟩ := own_slice HOW.out
      have hown := HOW.out
      rw [← hvl] at hown
      obtain ⟨k, hk⟩ : ∃ k, k = ps.length := ⟨_, rfl⟩
      have hia : IntsAt wr (fun b => w1.heap.size ≤ b) (.slice PA k pc) v := by rw [hk, ← hvl]; exact IntsAt.of_own hown
      have HIA := Lib.hid hia
      have hkv : v.length = k := hvl.trans hk.symm
      have hk5 : k ≤ 5 := by omega
      have HRI := Lib.hid (rising_any wr _ _ v hia (by omega))
      obtain ⟨b, hb⟩ : ∃ b, b = (decide (v.length ≤ 4) && risG v) := ⟨_, rfl⟩
      have HFL : Hid ((f || !(allG ps).isSome || !b) = (f || !(placesP s).isSome)) := Lib.hid (by
        rw [HQ.out, hb]
        cases h : allG ps with
        | none => cases f <;> rfl
        | some x =>
          rw [hall x h, Option.bind_some]
          by_cases h4 : x.length ≤ 4
          · cases hr : risG x <;> simp [h4]
          · simp [h4])
      have HVV : Hid (∀ x, f = false → placesP s = some x → v = x) := Lib.hid fun x _ hx => by
        rw [HQ.out] at hx
        cases h : allG ps with
        | none => rw [h] at hx; cases hx
        | some y =>
          rw [h, Option.bind_some] at hx
          split at hx
          · cases hx; exact hall _ h
          · cases hx
      have HRD2 := Lib.hid hrd
      have HKV := Lib.hid hkv
      rw [← hk] at hjl ⊢
      clear hvl hall hrd hown hia hk
      by_cases h4 : k ≤ 4
      · have h4i : (k : Int) ≤ 4 := by omega
        have HBB : Hid (risG v = b) := Lib.hid (by rw [hb, HKV.out]; simp [h4])
        clear hkv hb h4
        go_wp2_with (first
          | (go_at_call 89; (with_reducible refine HRI.out.mono ?_); rintro e w8 ⟨rfl, m, rfl⟩; rw [HBB.out])
          | (go_at_call 130; (with_reducible refine (need_any _ R P l _ _ (HRD2.out.below (bl_drn (Below.refl _ _) m))).mono ?_); rintro e w9 ⟨rfl, hr9, ho9⟩; have HR9 := Lib.hid hr9; have HO9 := Lib.hid ho9; clear hr9 ho9)
          | fail)
        go_ret
        refine ⟨⟨PA, v, pc, by rw [HKV.out]; rfl, HVV.out, ?_⟩, by rw [← HFL.out]; exact HR9.out, (HO1.out.trans HOL.out).trans ((Only.of_below (bl_drn (Below.refl _ _) m)).trans HO9.out)⟩
        rw [HKV.out]
        exact ((HIA.out.below (bl_drn (Below.refl _ _) m)).only (fun b hb e => by omega) HO9.out).move fun b hb hl => ⟨by omega, hl, fun _ => rfl⟩
      · have h4i : ¬ (k : Int) ≤ 4 := by omega
        have HBB : Hid (b = false) := Lib.hid (by rw [hb, HKV.out]; simp [h4])
        clear hkv hb h4
        go_wp2_with (first
          | (go_at_call 130; (with_reducible refine (need_any _ R P l _ _ HRD2.out).mono ?_); rintro e w9 ⟨rfl, hr9, ho9⟩; have HR9 := Lib.hid hr9; have HO9 := Lib.hid ho9; clear hr9 ho9)
          | fail)
        go_ret
        refine ⟨⟨PA, v, pc, by rw [HKV.out]; rfl, HVV.out, ?_⟩, by rw [← HFL.out, HBB.out]; exact HR9.out, (HO1.out.trans HOL.out).trans HO9.out⟩
        rw [HKV.out]
        exact (HIA.out.only (fun b hb e => by omega) HO9.out).move fun b hb hl => ⟨by omega, hl, fun _ => rfl⟩
end Go.Proofs.YtllnamhgnbdkmaaGreatDoor
