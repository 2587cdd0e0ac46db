/-
The walk of KindParses.
-/
import Derived.Test.YtdoadedglpjldaaDoorRp
import Derived.Test.YtdoadedglpjldaaDoorTxt
import Derived.Test.YtdoadedglpjldaaDoorAl
import Derived.Deep.RegionHeld3
import Derived.Test.YtdoadedglpjldaaDoorOf
import Derived.Test.YtdoadedglpjldaaDoorAwk
namespace Go.Proofs.YtdoadedglpjldaaDoor
open Go.RowKit

set_option maxRecDepth 100000 in
set_option maxHeartbeats 2000000 in
theorem parses_walk (s : ByteArray) (w : World) (hG : Glob w) :
    Calls Tryd.prog 4 #[.string s] w fun e w' => e = .returned (.bool true) ∧ Below w.heap.size w w' := by
  have hGl := hG.lt
  have hawk := fun (W : World) (h : Below w.heap.size w W) => awake_any W (hG.kept (h.block 0 hGl))
  have HAWK := Lib.hid hawk
  clear hawk
  go_enter Tryd.func4, Tryd.ntmps4
  by_cases hs : 10000 < s.size
  · go_wp2_with (fail)
    refine (HAWK.out _ (Below.refl _ _)).mono ?_
    rintro e wq ⟨rfl, hbq⟩
    go_wp2_with (fail)
    go_ret
    exact ⟨rfl, hbq⟩
  · go_wp2_with (fail)
    refine (parse_any s _ (by omega) hG).mono ?_
    cases hp : parseT s.data.toList with
    | mk k o =>
    cases o with
    | none =>
      have HP := Lib.hid hp
      clear hp
      rintro e w1 ⟨he, hb1⟩
      obtain rfl : e = .returned (.tuple #[.agg #[.int .i64 0, .slice none 0 0], .int .i64 (k : Int), .int .i64 40]) := he
      go_wp2_with (fail)
      have hl1 := hb1.size
      have ha1 := hb1.alloc hl1 (.cells #[.int .i64 0, .slice none 0 0] 24)
      have hn1 := heap_alloc_new w1 (.cells #[.int .i64 0, .slice none 0 0] 24)
      refine (rparse_any s _ (by omega)).mono ?_
      rw [HP.out]
      rintro e w2 ⟨he, hb2⟩
      obtain rfl : e = .returned (.tuple #[.agg #[.int .i64 0, .slice none 0 0], .int .i64 (k : Int), .bool false]) := he
      have hB := ha1.trans (hb2.mono ha1.size)
      have hc := (hb2.block w1.heap.size (by simp)).trans hn1
      have r0 := cell2_0 hc
      have r1 := cell2_1 hc
      have hl2 := cell_lt hc
      go_wp2_with (fail)
      refine (HAWK.out _ (hB.alloc hB.size _)).mono ?_
      rintro e wq ⟨rfl, hbq⟩
      go_wp2_with (fail)
      go_ret
      exact ⟨rfl, (hB.alloc hB.size _).trans (hbq.mono (hB.alloc hB.size _).size)⟩
    | some t =>
      have HP := Lib.hid hp
      clear hp
      rintro e w1 ⟨⟨v, rfl, hv⟩, hb1⟩
      obtain ⟨A, c, rfl⟩ := TyAt.form hv
      have HV := Lib.hid hv
      clear hv
      go_wp2_with (fail)
      have hl1 := hb1.size
      have ha1 := hb1.alloc hl1 (.cells #[.int .i64 t.kind, .slice A t.args.length c] 24)
      have hn1 := heap_alloc_new w1 (.cells #[.int .i64 t.kind, .slice A t.args.length c] 24)
      refine (rparse_any s _ (by omega)).mono ?_
      rw [HP.out]
      rintro e w2 ⟨⟨v2, rfl, hv2⟩, hb2⟩
      obtain ⟨A2, c2, rfl⟩ := TyAt.form hv2
      have HV2 := Lib.hid hv2
      have hB := ha1.trans (hb2.mono ha1.size)
      have hc := (hb2.block w1.heap.size (by simp)).trans hn1
      have r0 := cell2_0 hc
      have r1 := cell2_1 hc
      have hl2 := cell_lt hc
      clear hv2
      go_wp2_with (fail)
      obtain ⟨w0, hw0⟩ : ∃ w0, w0 = w2.alloc (.cells #[.int .i64 t.kind, .slice A2 t.args.length c2] 29) := ⟨_, rfl⟩
      rw [← hw0]
      obtain ⟨q, hq⟩ := (parse_back HP.out).2
      have HNA := Lib.hid (nar_right 6 t q hq)
      have hself := eqT_self 6 t q hq
      have ha2 := (Below.refl w2.heap.size w2).alloc (Nat.le_refl _) (.cells #[.int .i64 t.kind, .slice A2 t.args.length c2] 29)
      have hB0 := hB.alloc hB.size (.cells #[.int .i64 t.kind, .slice A2 t.args.length c2] 29)
      have hc0 := (Below.heap_alloc w2 (.cells #[.int .i64 t.kind, .slice A2 t.args.length c2] 29) _ hl2).trans hc
      have hn0 := heap_alloc_new w2 (.cells #[.int .i64 t.kind, .slice A2 t.args.length c2] 29)
      have HT1 : Hid (TyAt (w2.alloc (.cells #[.int .i64 t.kind, .slice A2 t.args.length c2] 29)) _ 6 _ t) := Lib.hid (((HV.out.below ((Below.refl w1.heap.size w1).alloc (Nat.le_refl _) _)).below hb2).below ha2)
      have HT2 : Hid (TyAt (w2.alloc (.cells #[.int .i64 t.kind, .slice A2 t.args.length c2] 29)) _ 6 _ t) := Lib.hid (HV2.out.below ha2)
      rw [← hw0] at hB0 hc0 hn0 HT1 HT2
      have hz1 := cell_lt hc0
      have hz2 := cell_lt hn0
      have hR0 : Below w0.heap.size w0 w0 := Below.refl _ _
      have HC0 := Lib.hid hc0
      have HN0 := Lib.hid hn0
      have s0 := cell2_0 hc0
      have s1 := cell2_1 hc0
      have s2 := cell2_0 hn0
      have s3 := cell2_1 hn0
      clear r0 r1 hc hn1 ha1 hb1 hb2 hB ha2 hc0 hn0 hw0 hl2 hl1 hq
      go_region_held3 (fun w' => w'.cell? ⟨w1.heap.size, 0, none⟩ = some (.int .i64 t.kind) ∧ w'.cell? ⟨w1.heap.size, 1, none⟩ = some (.slice A t.args.length c) ∧ w'.cell? ⟨w2.heap.size, 0, none⟩ = some (.int .i64 t.kind) ∧ w'.cell? ⟨w2.heap.size, 1, none⟩ = some (.slice A2 t.args.length c2) ∧ Below w0.heap.size w0 w') (exact ⟨by assumption, by assumption, by assumption, by assumption, by first | assumption | exact Below.drew (by assumption)⟩)
        (first
          | (go_at_call 10; refine (of_any 6 6 _ _ t w0.drew HNA.out (HT1.out.below (Below.refl _ _).drew)).mono ?_; rintro e w3 ⟨⟨v3, rfl, hv3⟩, hb3⟩; obtain ⟨A3, c3, rfl⟩ := TyAt.form hv3; have HV3 := Lib.hid hv3; have HB3 : Below w0.heap.size w0 w3 := (Below.refl _ w0).drew.trans hb3; clear hv3; have g0 := cell2_0 ((HB3.block _ hz1).trans HC0.out); have g1 := cell2_1 ((HB3.block _ hz1).trans HC0.out); have g2 := cell2_0 ((HB3.block _ hz2).trans HN0.out); have g3 := cell2_1 ((HB3.block _ hz2).trans HN0.out))
          | (go_at_call 17; refine (rsame_any 6 6 6 _ _ _ _ t t _ HNA.out HV3.out (HT2.out.below HB3)).mono ?_; rw [hself]; rintro e w4 ⟨rfl, hb4⟩; have HB4 : Below w0.heap.size w0 w4 := HB3.trans (hb4.mono HB3.size); have g0 := cell2_0 ((HB4.block _ hz1).trans HC0.out); have g1 := cell2_1 ((HB4.block _ hz1).trans HC0.out); have g2 := cell2_0 ((HB4.block _ hz2).trans HN0.out); have g3 := cell2_1 ((HB4.block _ hz2).trans HN0.out))
          | (go_at_call 9; refine (HAWK.out _ (hB0.trans (HB4.mono hB0.size))).mono ?_; rintro e w5 ⟨rfl, hb5⟩; have HB5 : Below w0.heap.size w0 w5 := HB4.trans (hb5.mono HB4.size); have g0 := cell2_0 ((HB5.block _ hz1).trans HC0.out); have g1 := cell2_1 ((HB5.block _ hz1).trans HC0.out); have g2 := cell2_0 ((HB5.block _ hz2).trans HN0.out); have g3 := cell2_1 ((HB5.block _ hz2).trans HN0.out)))
      go_wp2_with (fail)
      go_ret
      exact ⟨rfl, hB0.trans (HB5.mono hB0.size)⟩
end Go.Proofs.YtdoadedglpjldaaDoor
