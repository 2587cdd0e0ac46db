/-
The walk of KindBack.
-/
import Derived.Test.YtdoadedglpjldaaDoorAl
import Derived.Test.YtdoadedglpjldaaDoorTxt
import Derived.Test.YtdoadedglpjldaaDoorAwk
namespace Go.Proofs.YtdoadedglpjldaaDoor
open Go.RowKit

theorem bytes_back {l : List UInt8} {s : ByteArray} (h : l = s.data.toList) : (⟨l.toArray⟩ : ByteArray) = s := by
  subst h
  simp

set_option maxRecDepth 100000 in
set_option maxHeartbeats 2000000 in
theorem back_walk (d : Nat) (S : Nat → Prop) (v : Value) (t : Ty) (s : ByteArray) (w : World) (hT : TyAt w S d v t) (hG : Glob w) :
    Calls Tryd.prog 5 #[v, .string s] w fun e w' => e = .returned (.bool true) ∧ Below w.heap.size w w' := by
  have hGl := hG.lt
  have hawk := fun (W : World) (h : Below w.heap.size w W) => awake_any W (hG.kept (h.block 0 hGl))
  have HAWK := Lib.hid hawk
  have HT := Lib.hid hT
  obtain ⟨A, c, rfl⟩ := hT.form
  have hb1 := (Below.refl w.heap.size w).alloc (Nat.le_refl _) (.cells #[.int .i64 t.kind, .slice A t.args.length c] 24)
  have hn1 := heap_alloc_new w (.cells #[.int .i64 t.kind, .slice A t.args.length c] 24)
  clear hawk hT
  go_enter Tryd.func5, Tryd.ntmps5
  go_wp2_with (fail)
  refine (fits_any d _ _ t _ (HT.out.below hb1)).mono ?_
  rintro e w2 ⟨⟨bb, rfl, _⟩, hb2⟩
  have HB2 := hb1.trans (hb2.mono hb1.size)
  have hc2 := (hb2.block w.heap.size (by simp)).trans hn1
  have c0 := cell2_0 hc2
  have c1 := cell2_1 hc2
  have hl2 := cell_lt hc2
  have HT2 := Lib.hid ((HT.out.below hb1).below hb2)
  cases bb with
  | false =>
    go_wp2_with (fail)
    refine (HAWK.out _ HB2).mono ?_
    rintro e wq ⟨rfl, hbq⟩
    go_wp2_with (fail)
    go_ret
    exact ⟨rfl, HB2.trans (hbq.mono HB2.size)⟩
  | true =>
    by_cases hs : 10000 < s.size
    · go_wp2_with (fail)
      refine (HAWK.out _ HB2).mono ?_
      rintro e wq ⟨rfl, hbq⟩
      go_wp2_with (fail)
      go_ret
      exact ⟨rfl, HB2.trans (hbq.mono HB2.size)⟩
    · go_wp2_with (fail)
      refine (show_any d _ _ t _ HT2.out (hG.kept (HB2.block 0 hGl))).mono ?_
      rintro e w3 ⟨he, hb3⟩
      have HB := HB2.trans (hb3.mono HB2.size)
      have hc3 := (hb3.block w.heap.size hl2).trans hc2
      clear c0 c1
      have c0 := cell2_0 hc3
      have c1 := cell2_1 hc3
      have hl3 := cell_lt hc3
      have HT3 := Lib.hid (HT2.out.below hb3)
      cases hm : measureT 6 t with
      | none =>
        rw [hm] at he
        obtain rfl : e = .returned (.tuple #[.string ⟨#[]⟩, .int .i64 20]) := he
        clear hm
        go_wp2_with (fail)
        refine (parse_any s _ (by omega) (hG.kept (HB.block 0 hGl))).mono ?_
        cases hp : parseT s.data.toList with
        | mk k o =>
        cases o with
        | none =>
          clear hp
          rintro e wp ⟨he, hbp⟩
          obtain rfl : e = .returned (.tuple #[.agg #[.int .i64 0, .slice none 0 0], .int .i64 (k : Int), .int .i64 40]) := he
          have HBp := (HB.trans (hbp.mono HB.size)).alloc (HB.trans (hbp.mono HB.size)).size (.cells #[.int .i64 0, .slice none 0 0] 24)
          go_wp2_with (fail)
          refine (HAWK.out _ HBp).mono ?_
          rintro e wq ⟨rfl, hbq⟩
          go_wp2_with (fail)
          go_ret
          exact ⟨rfl, HBp.trans (hbq.mono HBp.size)⟩
        | some u =>
          obtain ⟨htx, qu, hqu⟩ := parse_back hp
          have HTX := Lib.hid htx
          have HQU := Lib.hid hqu
          clear hp htx hqu
          rintro e wp ⟨⟨vu, rfl, hTu⟩, hbp⟩
          obtain ⟨Au, cu, rfl⟩ := hTu.form
          have HTu := Lib.hid hTu
          have hlp := (Nat.le_refl wp.heap.size)
          have HBp := (HB.trans (hbp.mono HB.size)).alloc (HB.trans (hbp.mono HB.size)).size (.cells #[.int .i64 u.kind, .slice Au u.args.length cu] 24)
          have hal := (Below.refl wp.heap.size wp).alloc (Nat.le_refl _) (.cells #[.int .i64 u.kind, .slice Au u.args.length cu] 24)
          have hnew := heap_alloc_new wp (.cells #[.int .i64 u.kind, .slice Au u.args.length cu] 24)
          clear hTu
          go_wp2_with (fail)
          refine (show_any 6 _ _ u _ (HTu.out.below hal) (hG.kept (HBp.block 0 hGl))).mono ?_
          rw [HQU.out]
          rintro e ws ⟨he, hbs⟩
          obtain rfl : e = .returned (.tuple #[.string s, .int .i64 0]) := by rw [← bytes_back HTX.out]; exact he
          have HBs := HBp.trans (hbs.mono HBp.size)
          have hcs := (hbs.block wp.heap.size (by simp)).trans hnew
          have cs0 := cell2_0 hcs
          have cs1 := cell2_1 hcs
          have hlps := cell_lt hcs
          go_wp2_with (fail)
          refine (check_any 6 _ _ u _ ((HTu.out.below hal).below hbs) (hG.kept (HBs.block 0 hGl))).mono ?_
          rw [HQU.out]
          rintro e wc ⟨he, hbc⟩
          obtain rfl : e = .returned (.int .i64 0) := he
          have HBc := HBs.trans (hbc.mono HBs.size)
          go_wp2_with (fail)
          refine (HAWK.out _ HBc).mono ?_
          rintro e wq ⟨rfl, hbq⟩
          go_wp2_with (fail)
          go_ret
          exact ⟨rfl, HBc.trans (hbq.mono HBc.size)⟩
      | some q =>
        rw [hm] at he
        obtain rfl : e = .returned (.tuple #[.string ⟨(textT 6 t).toArray⟩, .int .i64 0]) := he
        have hsm := textT_small 6 t q hm
        have hpt := parse_text hm
        have hss := sameT_self hm
        have HPT := Lib.hid hpt
        have HSS := Lib.hid hss
        clear hm hpt hss
        go_wp2_with (fail)
        refine (parse_any ⟨(textT 6 t).toArray⟩ _ (by show (textT 6 t).toArray.size ≤ 1000000; simp; omega) (hG.kept (HB.block 0 hGl))).mono ?_
        rw [show (ByteArray.mk (textT 6 t).toArray).data.toList = textT 6 t by simp, HPT.out]
        rintro e w4 ⟨⟨vt, rfl, hTt⟩, hb4⟩
        obtain ⟨At, ct, rfl⟩ := hTt.form
        have HTt := Lib.hid hTt
        have HB4 := (HB.trans (hb4.mono HB.size)).alloc (HB.trans (hb4.mono HB.size)).size (.cells #[.int .i64 t.kind, .slice At t.args.length ct] 24)
        have hal4 := (Below.refl w4.heap.size w4).alloc (Nat.le_refl _) (.cells #[.int .i64 t.kind, .slice At t.args.length ct] 24)
        have hc4 := (hb4.block w.heap.size hl3).trans hc3
        have hl4 := cell_lt hc4
        have d0 := cell2_0 hc4
        have d1 := cell2_1 hc4
        clear hTt c0 c1
        go_wp2_with (fail)
        refine (same_any d 6 _ _ _ _ t t _ ((HT3.out.below hb4).below hal4) (HTt.out.below hal4) (hG.kept (HB4.block 0 hGl))).mono ?_
        rw [HSS.out]
        rintro e w5 ⟨rfl, hb5⟩
        have HB := HB4.trans (hb5.mono HB4.size)
        go_wp2_with (fail)
        refine (parse_any s _ (by omega) (hG.kept (HB.block 0 hGl))).mono ?_
        cases hp : parseT s.data.toList with
        | mk k o =>
        cases o with
        | none =>
          clear hp
          rintro e wp ⟨he, hbp⟩
          obtain rfl : e = .returned (.tuple #[.agg #[.int .i64 0, .slice none 0 0], .int .i64 (k : Int), .int .i64 40]) := he
          have HBp := (HB.trans (hbp.mono HB.size)).alloc (HB.trans (hbp.mono HB.size)).size (.cells #[.int .i64 0, .slice none 0 0] 24)
          go_wp2_with (fail)
          refine (HAWK.out _ HBp).mono ?_
          rintro e wq ⟨rfl, hbq⟩
          go_wp2_with (fail)
          go_ret
          exact ⟨rfl, HBp.trans (hbq.mono HBp.size)⟩
        | some u =>
          obtain ⟨htx, qu, hqu⟩ := parse_back hp
          have HTX := Lib.hid htx
          have HQU := Lib.hid hqu
          clear hp htx hqu
          rintro e wp ⟨⟨vu, rfl, hTu⟩, hbp⟩
          obtain ⟨Au, cu, rfl⟩ := hTu.form
          have HTu := Lib.hid hTu
          have hlp := (Nat.le_refl wp.heap.size)
          have HBp := (HB.trans (hbp.mono HB.size)).alloc (HB.trans (hbp.mono HB.size)).size (.cells #[.int .i64 u.kind, .slice Au u.args.length cu] 24)
          have hal := (Below.refl wp.heap.size wp).alloc (Nat.le_refl _) (.cells #[.int .i64 u.kind, .slice Au u.args.length cu] 24)
          have hnew := heap_alloc_new wp (.cells #[.int .i64 u.kind, .slice Au u.args.length cu] 24)
          clear hTu
          go_wp2_with (fail)
          refine (show_any 6 _ _ u _ (HTu.out.below hal) (hG.kept (HBp.block 0 hGl))).mono ?_
          rw [HQU.out]
          rintro e ws ⟨he, hbs⟩
          obtain rfl : e = .returned (.tuple #[.string s, .int .i64 0]) := by rw [← bytes_back HTX.out]; exact he
          have HBs := HBp.trans (hbs.mono HBp.size)
          have hcs := (hbs.block wp.heap.size (by simp)).trans hnew
          have cs0 := cell2_0 hcs
          have cs1 := cell2_1 hcs
          have hlps := cell_lt hcs
          go_wp2_with (fail)
          refine (check_any 6 _ _ u _ ((HTu.out.below hal).below hbs) (hG.kept (HBs.block 0 hGl))).mono ?_
          rw [HQU.out]
          rintro e wc ⟨he, hbc⟩
          obtain rfl : e = .returned (.int .i64 0) := he
          have HBc := HBs.trans (hbc.mono HBs.size)
          go_wp2_with (fail)
          refine (HAWK.out _ HBc).mono ?_
          rintro e wq ⟨rfl, hbq⟩
          go_wp2_with (fail)
          go_ret
          exact ⟨rfl, HBc.trans (hbq.mono HBc.size)⟩
end Go.Proofs.YtdoadedglpjldaaDoor
