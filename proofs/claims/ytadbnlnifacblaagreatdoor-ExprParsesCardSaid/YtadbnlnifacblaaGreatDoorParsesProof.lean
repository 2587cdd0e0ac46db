/-
ExprParses: the walk of the law.
-/
import Derived.Test.YtadbnlnifacblaaGreatDoorQf
import Derived.Test.YtadbnlnifacblaaGreatDoorOsn
import Derived.Deep.RegionHeld3
import Derived.Test.YtadbnlnifacblaaGreatDoorCards
import Derived.Test.YtadbnlnifacblaaGreatDoorTie
import Derived.Test.YtadbnlnifacblaaGreatDoorLd
import Derived.SevenTiedAt
namespace Go.Proofs.YtadbnlnifacblaaGreatDoor
open Go.RowKit
set_option maxRecDepth 100000 in
theorem exprParse_long (s : ByteArray) (w : World) (hs : 4096 < s.size) :
    Calls Tryz.prog 11 #[.string s] w fun e w' => e = .returned (.tuple #[.agg #[.string ⟨#[]⟩, .int .i64 0, .string ⟨#[]⟩, .int .i64 0, .slice none 0 0, .slice none 0 0], .int .i64 0, .int .i64 42]) ∧ Below w.heap.size w w' := by
  have hns : (4096 < (s.size : Int)) := by omega
  have hb1 := (Below.refl w.heap.size w).alloc (Nat.le_refl _) (.cells #[.string ⟨#[]⟩, .int .i64 0, .string ⟨#[]⟩, .int .i64 0, .slice none 0 0, .slice none 0 0] 27)
  go_enter Tryz.func11, Tryz.ntmps11
  go_wp2_with (fail)
  refine bodyPost_ret (v := .tuple #[.agg #[.string ⟨#[]⟩, .int .i64 0, .string ⟨#[]⟩, .int .i64 0, .slice none 0 0, .slice none 0 0], .int .i64 0, .int .i64 42]) (by simp [results, Tryz.results11, go_sem]) rfl ?_
  exact ⟨rfl, hb1⟩
set_option maxRecDepth 100000 in
set_option maxHeartbeats 4000000 in
theorem parses_walk (s : ByteArray) (w : World) (hG : Gl w) :
    Calls Tryz.prog 3 #[.string s] w fun e w' => e = .returned (.bool true) ∧ Below w.heap.size w w' := by
  have hGl := hG.lt2
  have HG := Lib.hid hG
  have HAWK := Lib.hid (fun (W : World) (h : Below w.heap.size w W) => awake_any W (hG.below h hGl))
  have hb0 := Below.refl w.heap.size w
  clear hG
  by_cases hs : 4096 < s.size
  · have hs2 : ((4096 : Int) < (s.size : Int)) := by omega
    go_enter Tryz.func3, Tryz.ntmps3
    go_wp2_with (fail)
    refine (exprParse_long s w hs).mono ?_
    rintro e w1 ⟨rfl, hb1⟩
    have hb2 := hb1.alloc hb1.size (.cells #[.string ⟨#[]⟩, .int .i64 0, .string ⟨#[]⟩, .int .i64 0, .slice none 0 0, .slice none 0 0] 27)
    go_wp2_with (fail)
    refine (HAWK.out _ hb2).mono ?_
    rintro e wz ⟨rfl, hbz⟩
    go_wp2_with (fail)
    go_ret
    exact ⟨rfl, hb2.trans (hbz.mono hb2.size)⟩
  have hs2 : ¬ ((4096 : Int) < (s.size : Int)) := by omega
  have HP1 := Lib.hid (exprParse_any s w (by omega) HG.out.kd)
  have HP2 := Lib.hid (fun w => parse_d s w (by omega))
  cases hp : parseR Knd.parseT (bl s) with
  | mk m o =>
  rw [hp] at HP1 HP2
  cases o with
  | none =>
    clear hp
    go_enter Tryz.func3, Tryz.ntmps3
    go_wp2_with (fail)
    refine HP1.out.mono ?_
    rintro e w1 ⟨he, hb1⟩
    obtain rfl : e = .returned (.tuple #[.agg #[.string ⟨#[]⟩, .int .i64 0, .string ⟨#[]⟩, .int .i64 0, .slice none 0 0, .slice none 0 0], .int .i64 (m : Int), .int .i64 40]) := he
    have hb2 := hb1.alloc hb1.size (.cells #[.string ⟨#[]⟩, .int .i64 0, .string ⟨#[]⟩, .int .i64 0, .slice none 0 0, .slice none 0 0] 27)
    have HC2 := Lib.hid (heap_alloc_new w1 (.cells #[.string ⟨#[]⟩, .int .i64 0, .string ⟨#[]⟩, .int .i64 0, .slice none 0 0, .slice none 0 0] 27))
    have HB2 := Lib.hid hb2
    have hs1 := hb1.size
    have hs3 : (w1.alloc (.cells #[.string ⟨#[]⟩, .int .i64 0, .string ⟨#[]⟩, .int .i64 0, .slice none 0 0, .slice none 0 0] 27)).heap.size = w1.heap.size + 1 := by simp
    clear hb1 hb2 HP1
    go_wp2_with (fail)
    generalize w1.alloc (.cells #[.string ⟨#[]⟩, .int .i64 0, .string ⟨#[]⟩, .int .i64 0, .slice none 0 0, .slice none 0 0] 27) = w2 at *
    refine (HP2.out w2).mono ?_
    rintro e w3 ⟨he, hb3⟩
    obtain rfl : e = .returned (.tuple #[.agg #[.string ⟨#[]⟩, .int .i64 0, .string ⟨#[]⟩, .int .i64 0, .slice none 0 0, .slice none 0 0], .int .i64 (m : Int), .bool false]) := he
    have HC3 := Lib.hid (below_at hb3 HC2.out)
    have HB3 := Lib.hid (HB2.out.trans (hb3.mono (by omega)))
    have x0 := cell6_0 HC3.out
    have x5 := cell6_5 HC3.out
    have xl := cell_lt HC3.out
    have hs4 := hb3.size
    clear hb3 HC2 HB2 HP2
    have hb4 := HB3.out.alloc HB3.out.size (.cells #[.string ⟨#[]⟩, .int .i64 0, .string ⟨#[]⟩, .int .i64 0, .slice none 0 0, .slice none 0 0] 37)
    go_wp2_with (fail)
    refine (HAWK.out _ hb4).mono ?_
    rintro e wz ⟨rfl, hbz⟩
    go_wp2_with (fail)
    go_ret
    exact ⟨rfl, hb4.trans (hbz.mono hb4.size)⟩
  | some n =>
    have HNAR : Hid (NarN 24 n) := by
      obtain ⟨_, c, q2⟩ := parse_good hp (by rw [bl_length]; omega)
      exact show_nar q2
    clear hp
    go_enter Tryz.func3, Tryz.ntmps3
    go_wp2_with (fail)
    refine HP1.out.mono ?_
    rintro e w1 ⟨⟨v, rfl, hT⟩, hb1⟩
    obtain ⟨A, c1, K, k1, rfl⟩ := hT.form
    have HT := Lib.hid hT
    have HB1 := Lib.hid hb1
    have hs1 := hb1.size
    clear hT hb1 HP1
    have hb2 := HB1.out.alloc hs1 (.cells #[.string ⟨n.op.toArray⟩, .int .i64 n.int, .string ⟨n.text.toArray⟩, .int .i64 n.ty.kind, .slice A n.ty.args.length c1, .slice K n.kids.length k1] 27)
    have hs2 : (w1.alloc (.cells #[.string ⟨n.op.toArray⟩, .int .i64 n.int, .string ⟨n.text.toArray⟩, .int .i64 n.ty.kind, .slice A n.ty.args.length c1, .slice K n.kids.length k1] 27)).heap.size = w1.heap.size + 1 := by simp
    have HC2 := Lib.hid (heap_alloc_new w1 (.cells #[.string ⟨n.op.toArray⟩, .int .i64 n.int, .string ⟨n.text.toArray⟩, .int .i64 n.ty.kind, .slice A n.ty.args.length c1, .slice K n.kids.length k1] 27))
    have HN2 := Lib.hid (NdAt.below HT.out ((Below.refl _ w1).alloc (Nat.le_refl _) (.cells #[.string ⟨n.op.toArray⟩, .int .i64 n.int, .string ⟨n.text.toArray⟩, .int .i64 n.ty.kind, .slice A n.ty.args.length c1, .slice K n.kids.length k1] 27)))
    have HB2 := Lib.hid hb2
    clear hb2
    go_wp2_with (fail)
    generalize w1.alloc (.cells #[.string ⟨n.op.toArray⟩, .int .i64 n.int, .string ⟨n.text.toArray⟩, .int .i64 n.ty.kind, .slice A n.ty.args.length c1, .slice K n.kids.length k1] 27) = w2 at *
    refine (HP2.out w2).mono ?_
    rintro e w3 ⟨⟨dd, v, rfl, hX⟩, hb3⟩
    obtain ⟨A2, c2, K2, k2, rfl⟩ := hX.form
    have HB3 := Lib.hid (HB2.out.trans (hb3.mono (by omega)))
    have hba := (Below.refl w3.heap.size w3).alloc (Nat.le_refl _) (.cells #[.string ⟨n.op.toArray⟩, .int .i64 n.int, .string ⟨n.text.toArray⟩, .int .i64 n.ty.kind, .slice A2 n.ty.args.length c2, .slice K2 n.kids.length k2] 37)
    have HC4 := Lib.hid (below_at (hb3.trans (hba.mono hb3.size)) HC2.out)
    have HN4 := Lib.hid (HN2.out.below (hb3.trans (hba.mono hb3.size)))
    have HX4 := Lib.hid (hX.below hba)
    have HK4 := Lib.hid (heap_alloc_new w3 (.cells #[.string ⟨n.op.toArray⟩, .int .i64 n.int, .string ⟨n.text.toArray⟩, .int .i64 n.ty.kind, .slice A2 n.ty.args.length c2, .slice K2 n.kids.length k2] 37))
    have hs4 : (w3.alloc (.cells #[.string ⟨n.op.toArray⟩, .int .i64 n.int, .string ⟨n.text.toArray⟩, .int .i64 n.ty.kind, .slice A2 n.ty.args.length c2, .slice K2 n.kids.length k2] 37)).heap.size = w3.heap.size + 1 := by simp
    have hs3 := hb3.size
    have HB4 := Lib.hid (HB3.out.trans (hba.mono (by omega)))
    clear hX hb3 hba HB3 HC2 HN2 HP2 HT HB1
    go_upto_region 7 with (fail)
    generalize w3.alloc (.cells #[.string ⟨n.op.toArray⟩, .int .i64 n.int, .string ⟨n.text.toArray⟩, .int .i64 n.ty.kind, .slice A2 n.ty.args.length c2, .slice K2 n.kids.length k2] 37) = w4 at *
    have x0 := cell6_0 HC4.out
    have x1 := cell6_1 HC4.out
    have x2 := cell6_2 HC4.out
    have x3 := cell6_3 HC4.out
    have x4 := cell6_4 HC4.out
    have x5 := cell6_5 HC4.out
    have xl := cell_lt HC4.out
    have y0 := cell6_0 HK4.out
    have y1 := cell6_1 HK4.out
    have y2 := cell6_2 HK4.out
    have y3 := cell6_3 HK4.out
    have y4 := cell6_4 HK4.out
    have y5 := cell6_5 HK4.out
    have yl := cell_lt HK4.out
    have hz1 : w1.heap.size < w4.heap.size := by omega
    have hz2 : w3.heap.size < w4.heap.size := by omega
    have hRR : Below w4.heap.size w4 w4 := Below.refl _ _
    go_region_held3 (fun w' => w'.cell? ⟨w1.heap.size, 0, none⟩ = some (.string ⟨n.op.toArray⟩) ∧ w'.cell? ⟨w1.heap.size, 1, none⟩ = some (.int .i64 n.int) ∧ w'.cell? ⟨w1.heap.size, 2, none⟩ = some (.string ⟨n.text.toArray⟩) ∧ w'.cell? ⟨w1.heap.size, 3, none⟩ = some (.int .i64 n.ty.kind) ∧ w'.cell? ⟨w1.heap.size, 4, none⟩ = some (.slice A n.ty.args.length c1) ∧ w'.cell? ⟨w1.heap.size, 5, none⟩ = some (.slice K n.kids.length k1) ∧ w'.cell? ⟨w3.heap.size, 0, none⟩ = some (.string ⟨n.op.toArray⟩) ∧ w'.cell? ⟨w3.heap.size, 1, none⟩ = some (.int .i64 n.int) ∧ w'.cell? ⟨w3.heap.size, 2, none⟩ = some (.string ⟨n.text.toArray⟩) ∧ w'.cell? ⟨w3.heap.size, 3, none⟩ = some (.int .i64 n.ty.kind) ∧ w'.cell? ⟨w3.heap.size, 4, none⟩ = some (.slice A2 n.ty.args.length c2) ∧ w'.cell? ⟨w3.heap.size, 5, none⟩ = some (.slice K2 n.kids.length k2) ∧ Below w4.heap.size w4 w')
      ((refine ⟨?_, ?_, ?_, ?_, ?_, ?_, ?_, ?_, ?_, ?_, ?_, ?_, ?_⟩ <;> (repeat' (first | with_reducible assumption | with_reducible refine cell_drew_some ?_ | with_reducible refine Below.drew ?_))))
      (first
        | (go_at_call 12; refine (HAWK.out _ (HB4.out.trans (HBb.mono HB4.out.size))).mono ?_; rintro e w8 ⟨rfl, hb8⟩; have HBc : Below w4.heap.size w4 w8 := HBb.trans (hb8.mono HBb.size); have y' := (HBc.block _ hz1).trans HC4.out; have z' := (HBc.block _ hz2).trans HK4.out; have x0 := cell6_0 y'; have y0 := cell6_0 z'; have x1 := cell6_1 y'; have y1 := cell6_1 z'; have x2 := cell6_2 y'; have y2 := cell6_2 z'; have x3 := cell6_3 y'; have y3 := cell6_3 z'; have x4 := cell6_4 y'; have y4 := cell6_4 z'; have x5 := cell6_5 y'; have y5 := cell6_5 z'; clear y' z')
        | (go_at_call 14; refine (same_any 25 dd 24 _ _ _ _ n n _ HNAR.out HV6.out (HX4.out.below HBa)).mono ?_; rintro e w7 ⟨⟨q, rfl, hq⟩, hb7⟩; obtain rfl : q = true := hq.2 rfl; have HBb : Below w4.heap.size w4 w7 := HBa.trans (hb7.mono HBa.size); have y' := (HBb.block _ hz1).trans HC4.out; have z' := (HBb.block _ hz2).trans HK4.out; have x0 := cell6_0 y'; have y0 := cell6_0 z'; have x1 := cell6_1 y'; have y1 := cell6_1 z'; have x2 := cell6_2 y'; have y2 := cell6_2 z'; have x3 := cell6_3 y'; have y3 := cell6_3 z'; have x4 := cell6_4 y'; have y4 := cell6_4 z'; have x5 := cell6_5 y'; have y5 := cell6_5 z'; clear y' z')
        | (go_at_call 15; refine (of_any 25 24 _ _ n w4.drew HNAR.out (HN4.out.below (Below.refl _ _).drew)).mono ?_; rintro e w6 ⟨⟨v6, rfl, hv6⟩, hb6⟩; obtain ⟨A6, c6, K6, k6, rfl⟩ := hv6.form; have HV6 := Lib.hid hv6; have HBa : Below w4.heap.size w4 w6 := (Below.refl _ w4).drew.trans hb6; clear hv6; have y' := (HBa.block _ hz1).trans HC4.out; have z' := (HBa.block _ hz2).trans HK4.out; have x0 := cell6_0 y'; have y0 := cell6_0 z'; have x1 := cell6_1 y'; have y1 := cell6_1 z'; have x2 := cell6_2 y'; have y2 := cell6_2 z'; have x3 := cell6_3 y'; have y3 := cell6_3 z'; have x4 := cell6_4 y'; have y4 := cell6_4 z'; have x5 := cell6_5 y'; have y5 := cell6_5 z'; clear y' z'))
    go_wp2_with (fail)
    go_ret
    exact ⟨rfl, HB4.out.trans (HBc.mono HB4.out.size)⟩
end Go.Proofs.YtadbnlnifacblaaGreatDoor
namespace Go.Proofs.YtadbnlnifacblaaGreatDoor.Parses
open Go.ChangeShapes Go.WideShapes Go.ChangeAt Go.RowKit
open Go.ChangeMaps (open_string shut_string)
set_option linter.unusedVariables false
section
variable {H : Type} {enc : TypeId × Value → H} {P : Program}
theorem post_plain {f : Func} {s : ChangeSpec} {apart fresh handsOn again : Bool} {W W' : World} {args : Array Value} {v : Value} {ds gs : List (DataW H)}
    (hW : DataW.Whole enc P f.params.toList s.vars apart W args.toList ds gs [])
    (hr : ∀ (b : Nat) (sp : Nat → Bool) (hd : Bool), DataW.TrodAll enc P W' b sp hd f.resultTypes.toList (v.resultList f.resultTypes.size) (s.fn H (ds ++ gs)).results [])
    (ha : ∀ sp : Nat → Bool, DataW.TrodAll enc P W' 0 sp true f.params.toList args.toList (s.fn H (ds ++ gs)).args [])
    (hv : ∀ sp : Nat → Bool, DataW.TrodVars enc P W' sp s.vars (s.fn H (ds ++ gs)).vars [])
    (hb : Below W.heap.size W W')
    (ho : ∀ (j : Nat) (t : TypeId) (r : Value), f.resultTypes[j]? = some t → (v.resultList f.resultTypes.size)[j]? = some r → Value.okWide P W' .any 0 t r) :
    s.post enc P f apart fresh handsOn again W args v W' :=
  ⟨ds, gs, [], [], [], [], hW, hr _ _ _, ha _, hv _, hb.frame _, fun _ => ⟨ho, _, _, [], ⟨[], [], trodAll_append (ha _) (hr _ _ _), hv _, rfl, (fun _ _ h => by cases h), (fun _ => List.Pairwise.nil)⟩, (fun _ h _ => h)⟩⟩
end
set_option maxRecDepth 100000 in
theorem lifted (os : Os) (started : os.Started) (H : Type) (enc : TypeId × Value → H) :
    ReturnsInHanded {} Tryz.checked os 3 .any (fun w args => (Rows.exprParsesSpec.pre enc Tryz.prog Tryz.f3 [] false w args ∧ laidMetH Tryz.prog [("math/bits.deBruijn32tab", Rows.laid_math_bits_deBruijn32tab), ("math/bits.deBruijn64tab", Rows.laid_math_bits_deBruijn64tab), ("internal/strconv.uint64pow10", Rows.laid_internal_strconv_uint64pow10), ("watershed/kind.words", Rows.laid_watershed_kind_words)] w) ∧ sizedMet enc Tryz.prog Tryz.f3 (OpenSpec.ofChange Rows.exprParsesSpec) false w args)
      (Rows.exprParsesSpec.post enc Tryz.prog Tryz.f3 false true false false) := by
  refine returnsInHanded_of_change_and (C := Tryz.checked) (X := fun w _ => laidMetH Tryz.prog [("math/bits.deBruijn32tab", Rows.laid_math_bits_deBruijn32tab), ("math/bits.deBruijn64tab", Rows.laid_math_bits_deBruijn64tab), ("internal/strconv.uint64pow10", Rows.laid_internal_strconv_uint64pow10), ("watershed/kind.words", Rows.laid_watershed_kind_words)] w) (fun _ _ _ hh h => h.of_heap hh) own started (by kernel_rfl) Tryz.func3
    (ChangeSpec.witness_shaped (enc := enc) (C := Tryz.checked) (os := os) (X := fun w _ => laidMetH Tryz.prog [("math/bits.deBruijn32tab", Rows.laid_math_bits_deBruijn32tab), ("math/bits.deBruijn64tab", Rows.laid_math_bits_deBruijn64tab), ("internal/strconv.uint64pow10", Rows.laid_internal_strconv_uint64pow10), ("watershed/kind.words", Rows.laid_watershed_kind_words)] w) false (World.doorLaid Tryz.prog 400 os) #[.string ⟨#[]⟩] 8 rfl (World.shaped_of_RefB (by kernel_rfl) (by kernel_rfl)) (by kernel_rfl) (by kernel_rfl) (by kernel_rfl) (door_met os _)) ?_
  intro W base args ds gs before hval0 hW _ _ hL _
  have hval : ∀ (j : Nat) t v, Tryz.f3.params[j]? = some t → args[j]? = some v → Value.okWide Tryz.prog W .any base t v := hval0
  have hW' := hW
  obtain ⟨p, q, hA0, hV, rfl, hfz, hnd⟩ := hW
  have hA : DataW.TrodAll enc Tryz.prog W 0 (fun _ => true) true Tryz.f3.params.toList args.toList ds p := hA0
  rw [Tryz.params3] at hA hval
  obtain ⟨v0, d0, rfl, rfl, h0⟩ := trodAll_one hA
  obtain ⟨rfl, rfl⟩ := trodVars_none hV
  obtain ⟨s, rfl, rfl, rfl, ws⟩ := open_string Tryz.underlying9 (hval 0 9 v0 rfl rfl) h0
  have hG := gl_of_laidH hL
  clear hA0 hval0
  simp only [List.append_nil] at hW'
  refine (parses_walk s W hG).mono fun e W' ⟨he, hb⟩ => ?_
  subst he
  exact ⟨_, rfl, post_plain hW' (fun _ _ _ => trodAll_mk1 (shut_bool Tryz.underlying4 _)) (fun sp => trodAll_mk1 (shut_string Tryz.underlying9 ws)) (fun _ => rfl) hb (ok_one (by kernel_rfl) rfl (okWide_bool_mk Tryz.underlying4 _))⟩
theorem over : Rows.ExprParsesSaid :=
  OpenClaim.holds_of_wide 3 Tryz.f3 rfl rfl rfl rfl rfl rfl rfl ⟨rfl, rfl, rfl, rfl, rfl⟩ rfl rfl rfl rfl rfl (by kernel_rfl) Tryz.func3 (by kernel_rfl)
    (of_decide_eq_true (by kernel_rfl)) (by unfold Func.isWrapper; first | (rw [if_pos (by decide +kernel)]; kernel_rfl) | (rw [if_neg (by decide +kernel)]; exact ⟨rfl, rfl⟩))
    (fun os started H enc _ => lifted os started H enc)
end Go.Proofs.YtadbnlnifacblaaGreatDoor.Parses
namespace Go.Proofs.YtadbnlnifacblaaGreatDoor
theorem expr_parses : Rows.ExprParsesCardSaid :=
  Claim7.holds_tied_plain_at .later [] [.data, .data, .data, .data] true (true, "a8bdc11b4e1b57862729e70209f210d7f4c6045093630bd8901efb9f3c42e365") false
    Parses.over (fun _ h => by cases h) (by kernel_rfl) (fun _ h => by cases h) exprParses_row_tie rfl ⟨rfl, rfl⟩ (by kernel_rfl) rfl
    (fun f fn hf hfn => by
      obtain rfl : f = 3 := Option.some.inj ((show Tryz.prog.funcNamed "watershed/watershedlaw04.ExprParses" = some 3 by kernel_rfl).symm.trans hf) |>.symm
      obtain rfl : fn = Tryz.f3 := (Option.some.inj (Tryz.func3.symm.trans hfn)).symm
      exact ⟨by kernel_rfl, fun j t ht => by
        rw [Tryz.params3] at ht
        have h9 : t = 9 := by
          rcases j with _ | j
          · simpa using ht.symm
          · simp at ht
        subst h9
        exact (show Tryz.prog.wantsStandIn 9 = false by kernel_rfl)⟩)
    (by kernel_rfl)
#print axioms expr_parses
end Go.Proofs.YtadbnlnifacblaaGreatDoor
