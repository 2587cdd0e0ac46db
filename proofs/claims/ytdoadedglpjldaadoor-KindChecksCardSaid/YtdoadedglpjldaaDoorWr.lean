/-
write and Show of package kind.
-/
import Derived.Test.YtdoadedglpjldaaDoorMs
namespace Go.Proofs.YtdoadedglpjldaaDoor
open Go.RowKit

/-- A type's text. -/
def textL (f : Ty → List UInt8) : List Ty → Nat → List UInt8
  | [], _ => []
  | a :: l, i => aheadB i :: (f a ++ textL f l (i + 1))
def textT : Nat → Ty → List UInt8
  | 0, _ => []
  | r + 1, t => ((wordK t.kind).getD zeroWd).name.data.toList ++ textL (textT r) t.args 0 ++ (if 0 < t.args.length then [41] else [])

theorem textL_snoc (f : Ty → List UInt8) : ∀ (l : List Ty) (a : Ty) (i : Nat), textL f (l ++ [a]) i = textL f l i ++ aheadB (i + l.length) :: f a
  | [], a, i => by simp [textL]
  | b :: l, a, i => by
    simp only [List.cons_append, textL, textL_snoc f l a (i + 1), List.length_cons, List.append_assoc]
    rw [show i + 1 + l.length = i + (l.length + 1) by omega]

theorem textL_append (f : Ty → List UInt8) : ∀ (l m : List Ty) (i : Nat), textL f (l ++ m) i = textL f l i ++ textL f m (i + l.length)
  | [], m, i => by simp [textL]
  | b :: l, m, i => by
    simp only [List.cons_append, textL, textL_append f l m (i + 1), List.length_cons, List.append_assoc]
    rw [show i + 1 + l.length = i + (l.length + 1) by omega]

theorem textL_room (f : Ty → List UInt8) (l : List Ty) (j : Nat) (a : Ty) (hd : l.drop j = a :: l.drop (j + 1)) : (textL f (l.take j) 0).length + (1 + (f a).length) ≤ (textL f l 0).length := by
  have h : textL f l 0 = textL f (l.take j ++ l.drop j) 0 := by rw [List.take_append_drop]
  rw [h, textL_append, hd]
  simp only [textL, List.length_append, List.length_cons]
  omega

def bc (l : List UInt8) : List Value := Lib.byteCells l
theorem bc_append (l m : List UInt8) : bc (l ++ m) = bc l ++ bc m := by simp [bc, Lib.byteCells]
theorem bc_len (l : List UInt8) : (bc l).length = l.length := by simp [bc, Lib.byteCells]
theorem bc_str (s : ByteArray) : Lib.strCells s = bc s.data.toList := by simp [bc, Lib.byteCells, Lib.strCells]

theorem measureL_all (f : Ty → Option Nat) : ∀ (l : List Ty) (m d : Nat), measureL f l m = some d → ∀ a ∈ l, ∃ q, f a = some q
  | [], m, d, h, a, ha => by simp at ha
  | b :: l, m, d, h, a, ha => by
    unfold measureL at h
    cases hfb : f b with
    | none => simp [hfb] at h
    | some e =>
      simp only [hfb] at h
      rcases List.mem_cons.1 ha with rfl | ha
      · exact ⟨e, hfb⟩
      · exact measureL_all f l _ d h a ha

/-- What a right type is. -/
theorem measure_right {r : Nat} {t : Ty} {q : Nat} (h : measureT (r + 1) t = some q) : ∃ x, wordK t.kind = some x ∧ (t.args.length : Int) = x.args ∧ x ∈ words ∧ ∀ a ∈ t.args, ∃ q, measureT r a = some q := by
  unfold measureT at h
  cases hw : wordK t.kind with
  | none => simp [hw] at h
  | some x =>
    simp only [hw] at h
    split at h
    · obtain ⟨m, hm, rfl⟩ := Option.map_eq_some_iff.1 h
      exact ⟨x, rfl, by assumption, (wordK_mem hw).1, measureL_all _ _ _ _ hm⟩
    · simp at h

theorem Bld.lt {w : World} {b : Nat} {bs : List Value} (h : Bld w b bs) : b < w.heap.size := by
  rcases h with ⟨_, v, hb, _⟩ | ⟨_, v, hb, _⟩ <;> exact cell_lt hb
theorem Bld.below {w w' : World} {b : Nat} {bs : List Value} (h : Bld w b bs) (hb : Below w.heap.size w w') : Bld w' b bs := by
  have hg : w.grownBy w' none := ⟨hb.os, hb.tape, hb.output, hb.size, fun k hk _ => hb.block k hk⟩
  have key : ∀ p, Lib.BuilderAt 68 5 b b p bs w → Lib.BuilderAt 68 5 b b p bs w' := fun p ⟨h1, v, h2, h3, h4⟩ =>
    ⟨h1, v, (hb.block b (cell_lt h2)).trans h2, h3.kept hg (by cases hv : v.ownBlock <;> simp), h4⟩
  exact h.elim (fun x => .inl (key _ x)) (fun x => .inr (key _ x))
theorem BFr.of_below {b : Nat} {w w' : World} (h : Below w.heap.size w w') (hb : b ≤ w.heap.size) : BFr b w w' :=
  ⟨h.mono hb, fun k _ hk _ _ => (h.block k (cell_lt hk)).trans hk⟩

set_option maxRecDepth 100000 in
set_option maxHeartbeats 1000000 in
theorem write_any : ∀ (r d : Nat) (S : Nat → Prop) (b : Nat) (v : Value) (t : Ty) (q : Nat) (bs : List UInt8) (w : World), TyAt w S d v t → measureT r t = some q → (∀ k, S k → k < b) → Bld w b (bc bs) → Glob w → 0 < b → b < w.heap.size → bs.length + (textT r t).length ≤ 1000000 →
    Calls Tryd.prog 28 #[.pointer (some ⟨b, 0, none⟩), v] w fun e w' => e = .returned (.tuple #[]) ∧ Bld w' b (bc (bs ++ textT r t)) ∧ BFr b w w'
  | 0, d, S, b, v, t, q, bs, w, hT, hm, hS, hB, hG, hb, hbl, hl => by simp [measureT] at hm
  | r + 1, 0, S, b, v, t, q, bs, w, hT, hm, hS, hB, hG, hb, hbl, hl => hT.elim
  | r + 1, d + 1, S, b, v, t, q, bs, w, hT, hm, hS, hB, hG, hb, hbl, hl => by
    obtain ⟨x, hx, hxa, hxw, hall⟩ := measure_right hm
    have IH := fun (d : Nat) => write_any r d
    have HIH := Lib.hid IH
    have HALL := Lib.hid hall
    have HX := Lib.hid hx
    have HXA := Lib.hid hxa
    have hx2 := words_args x hxw
    have hx6 := words_small x hxw
    have hlen2 : t.args.length ≤ 2 := by omega
    obtain ⟨A, c, rfl, hlc, hA⟩ := hT
    have HA := Lib.hid hA
    clear hA IH hall hx hxa hm
    go_enter Tryd.func28, Tryd.ntmps28
    go_wp2_with (fail)
    refine (wordOf_any t.kind _ (hG.kept (Below.heap_alloc w _ 0 hG.lt))).mono ?_
    rw [HX.out]
    rintro e w1 ⟨he, hb1⟩
    obtain rfl : e = .returned (.tuple #[wdVal x, .bool true]) := he
    have hs1 := hb1.size
    simp only [World.size_alloc] at hs1
    have hlt1 : w.heap.size < w1.heap.size := by omega
    have hc1 := (hb1.block w.heap.size (by simp)).trans (heap_alloc_new w _)
    have c0 := cell2_0 hc1
    have c1 := cell2_1 hc1
    simp only [wdVal]
    have hbw1 := ((Below.refl w.heap.size w).alloc (Nat.le_refl _) _).trans (hb1.mono (by simp : w.heap.size ≤ _))
    have hTT : Hid (textT (r + 1) t = x.name.data.toList ++ textL (textT r) t.args 0 ++ (if 0 < t.args.length then [41] else [])) := by
      show _ = _; simp only [textT, HX.out, Option.getD_some]
    have hnl : x.name.data.toList.length = x.name.size := by simp
    have hl' : bs.length + (x.name.size + (textL (textT r) t.args 0).length + 1) ≤ 1000001 := by
      have h := hl
      rw [hTT.out] at h
      simp only [List.length_append, hnl] at h
      omega
    have HL := Lib.hid hl
    clear hl
    go_wp2_with (fail)
    refine (writeString_any b (bc bs) x.name _ ((hB.below hbw1).below ((Below.refl _ w1).alloc (Nat.le_refl _) _)) (by rw [bc_len]; omega)).mono ?_
    rintro e w2 ⟨rfl, hB2, hF2⟩
    have hF := (BFr.of_below (hbw1.trans ((Below.refl _ w1).alloc (by omega) (.cells #[.int .i64 x.kind, .int .i64 x.args, .string x.name] 82))) (Nat.le_of_lt hbl)).trans hF2
    have hb2 := hF2.cells (k := w.heap.size) ((Below.heap_alloc w1 _ _ hlt1).trans hc1) (by omega) (by decide)
    have hd2 := hF2.cells (k := w1.heap.size) (heap_alloc_new w1 _) (by omega) (by decide)
    clear hc1 c0 c1 hF2
    have c0 := cell2_0 hb2
    have c1 := cell2_1 hb2
    have d1 := cell3_1 hd2
    have hsz2 := cell_lt hd2
    rw [bc_str, ← bc_append] at hB2
    go_wp2
    have HB2 := Lib.hid hB2
    have HF := Lib.hid hF
    clear hB2 hF
    go_loopw [21] (fun i wr => ∃ j : Nat, i = .int .i64 j ∧ j ≤ t.args.length ∧ Hid (Bld wr b (bc (bs ++ x.name.data.toList ++ textL (textT r) (t.args.take j) 0))) ∧ BFr b w wr ∧ wr.heap[w.heap.size]? = some (.cells #[.int .i64 t.kind, .slice A t.args.length c] 24 (0, 0)) ∧ wr.heap[w1.heap.size]? = some (.cells #[.int .i64 x.kind, .int .i64 x.args, .string x.name] 82 (0, 0))) (fun i _ => 10 - (intOf i).toNat)
    case atStart => exact ⟨0, rfl, by omega, by simpa [textL] using HB2, HF.out, hb2, hd2⟩
    case round =>
      obtain ⟨j, rfl, hj, HBr, hFr, hbr, hdr⟩ := hrel
      have r0 := cell2_0 hbr
      have r1 := cell2_1 hbr
      have q1 := cell3_1 hdr
      have hrs := cell_lt hdr
      by_cases hlt : j < t.args.length
      · obtain ⟨b', o, rfl, hSb, hcells⟩ := HA.out (by omega)
        obtain ⟨u0, u1, h0, h1, h2⟩ := hcells j _ (List.getElem?_eq_getElem hlt)
        have hb'b := hS b' hSb
        have hal := HALL.out _ (List.getElem_mem hlt)
        obtain ⟨A', c', he'⟩ := h2.form
        injection he' with he'
        obtain ⟨rfl, rfl⟩ : u0 = .int .i64 (t.args[j]).kind ∧ u1 = .slice A' (t.args[j]).args.length c' := by
          have := congrArg Array.toList he'
          simpa using this
        have k0 := (hFr.below.cell (p := ⟨b', o + j * 2, none⟩) hb'b).trans h0
        have k1 := (hFr.below.cell (p := ⟨b', o + j * 2 + 1, none⟩) hb'b).trans h1
        have hd : t.args.drop j = t.args[j] :: t.args.drop (j + 1) := List.drop_eq_getElem_cons hlt
        have hts : t.args.take (j + 1) = t.args.take j ++ [t.args[j]] := by rw [List.take_add_one, List.getElem?_eq_getElem hlt]; rfl
        generalize t.args[j] = a at *
        have hroom := textL_room (textT r) t.args j a hd
        have HTS : Hid (textL (textT r) (t.args.take (j + 1)) 0 = textL (textT r) (t.args.take j) 0 ++ aheadB j :: textT r a) := by
          show _ = _
          rw [hts, textL_snoc, List.length_take, Nat.min_eq_left (by omega), Nat.zero_add]
        have H2 := Lib.hid h2
        obtain ⟨q', hal⟩ := hal
        have HALL2 := Lib.hid hal
        have hah := ahead_at j (by omega)
        clear h0 h1 h2 hd hts hcells he' hal
        go_wp2_with (fail)
        refine (writeByte_any b _ ((aheadB j).toNat : Int) _ (HBr.out.below ((Below.refl _ wr).alloc (Nat.le_refl _) _)) (by rw [bc_len]; simp only [List.length_append, hnl]; omega)).mono ?_
        rintro e w4 ⟨rfl, hB4, hF4⟩
        have hF4' := (BFr.of_below ((Below.refl _ wr).alloc (Nat.le_refl _) (.cells #[.int .i64 a.kind, .slice A' a.args.length c'] 24)) (by omega)).trans hF4
        have hn4 := hF4.cells (k := wr.heap.size) (heap_alloc_new wr _) (by omega) (by decide)
        have hb4 := hF4'.cells hbr (by omega) (by decide)
        have hd4 := hF4'.cells hdr (by omega) (by decide)
        have n0 := cell2_0 hn4
        have n1 := cell2_1 hn4
        have hrs4 := cell_lt hn4
        go_wp2_with (fail)
        have hB4' : Bld w4 b (bc (bs ++ x.name.data.toList ++ textL (textT r) (t.args.take j) 0 ++ [aheadB j])) := by rw [bc_append]; exact hB4
        refine (HIH.out d S b _ a q' _ w4 (H2.out.move fun k hSk hk => ⟨hSk, fun _ => World.cell?_of_block (((hFr.trans hF4').below).block k (hS k hSk))⟩) HALL2.out hS hB4' (hG.kept (((hFr.trans hF4').below).block 0 hb)) hb (by omega) (by simp only [List.length_append, List.length_cons, List.length_nil, hnl]; omega)).mono ?_
        rintro e w5 ⟨rfl, hB5, hF5⟩
        have hb5 := hF5.cells hb4 (by omega) (by decide)
        have hd5 := hF5.cells hd4 (by omega) (by decide)
        go_wp2
        go_roundw
        case rel => exact ⟨j + 1, by go_num, by omega, by show Bld _ _ _; rw [HTS.out]; simpa using hB5, (hFr.trans hF4').trans hF5, hb5, hd5⟩
        case measure => simp [intOf]; omega
      · obtain rfl : j = t.args.length := by omega
        have HBr' : Hid (Bld wr b (bc (bs ++ x.name.data.toList ++ textL (textT r) t.args 0))) := by
          have h := HBr.out
          rw [List.take_length] at h
          exact h
        by_cases hpos : 0 < t.args.length
        · have hgt : decide (0 < x.args) = true := by have := HXA.out; simp; omega
          go_wp2_with (fail)
          refine (writeByte_any b _ 41 _ HBr'.out (by rw [bc_len]; simp only [List.length_append, hnl]; omega)).mono ?_
          rintro e w4 ⟨rfl, hB4, hF4⟩
          go_wp2
          go_end0
          refine ⟨rfl, ?_, hFr.trans hF4⟩
          rw [hTT.out, if_pos hpos, ← List.append_assoc, ← List.append_assoc, bc_append]
          exact hB4
        · have hgt : decide (0 < x.args) = false := by have := HXA.out; simp; omega
          go_wp2
          go_end0
          refine ⟨rfl, ?_, hFr⟩
          rw [hTT.out, if_neg hpos, List.append_nil, ← List.append_assoc]
          exact HBr'.out
end Go.Proofs.YtdoadedglpjldaaDoor
