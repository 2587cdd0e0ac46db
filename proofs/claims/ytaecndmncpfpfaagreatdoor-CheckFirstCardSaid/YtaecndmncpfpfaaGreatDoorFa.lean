/-
CheckFirst: the walk.
-/
import Derived.Test.YtaecndmncpfpfaaGreatDoorFc
import Derived.Test.YtaecndmncpfpfaaGreatDoorCw
import Derived.Test.YtaecndmncpfpfaaGreatDoorEw
import Derived.Test.YtaecndmncpfpfaaGreatDoorSm
import Derived.Deep.RegionHeld3
import Derived.Deep.CutRange
set_option linter.unusedVariables false
set_option linter.unusedSimpArgs false
namespace Go.Proofs.YtaecndmncpfpfaaGreatDoor.L5
open Go.RowKit
set_option maxRecDepth 100000 in
set_option maxHeartbeats 4000000 in
theorem first_any (w : World) (nv ev : Value) (n : Nd) (it : Ty) (sides : List Ty) (din : Nat) (hN : NdL w nv n) (hE : EvL w ev it sides) (hI : IntN din n) (hG : Gl w) :
    Calls Tryz.prog 6 #[nv, ev] w fun e w' => e = .returned (.bool true) ∧ Below w.heap.size w w' := by
  have hGl := hG.lt2
  have HG := Lib.hid hG
  have HIN := Lib.hid hI
  have HAWK := Lib.hid (fun (W : World) (h : Below w.heap.size w W) => awake_any W (hG.below h hGl))
  have HNL := Lib.hid hN
  have HEL := Lib.hid hE
  obtain ⟨A, c, K, k, rfl⟩ := hN.form
  obtain ⟨EA, ek, SA, sk, rfl⟩ := hE.form
  obtain ⟨W0, hW0⟩ : ∃ W0, ((w.alloc (.cells #[.string ⟨n.op.toArray⟩, .int .i64 n.int, .string ⟨n.text.toArray⟩, .int .i64 n.ty.kind, .slice A n.ty.args.length c, .slice K n.kids.length k] 27)).alloc (.cells #[.int .i64 it.kind, .slice EA it.args.length ek, .slice SA sides.length sk] 29)) = W0 := ⟨_, rfl⟩
  have hB0 : Below w.heap.size w W0 := by
    rw [← hW0]
    exact ((Below.refl _ w).alloc (Nat.le_refl _) _).alloc (by simp) _
  have hs0 : W0.heap.size = w.heap.size + 2 := by rw [← hW0]; simp
  have b0 : W0.heap[w.heap.size]? = some (.cells #[.string ⟨n.op.toArray⟩, .int .i64 n.int, .string ⟨n.text.toArray⟩, .int .i64 n.ty.kind, .slice A n.ty.args.length c, .slice K n.kids.length k] 27 (0, 0)) := by
    rw [← hW0]
    exact alloc_old (heap_alloc_new w _)
  have b1 : W0.heap[w.heap.size + 1]? = some (.cells #[.int .i64 it.kind, .slice EA it.args.length ek, .slice SA sides.length sk] 29 (0, 0)) := by
    rw [← hW0]
    simpa using heap_alloc_new (w.alloc (.cells #[.string ⟨n.op.toArray⟩, .int .i64 n.int, .string ⟨n.text.toArray⟩, .int .i64 n.ty.kind, .slice A n.ty.args.length c, .slice K n.kids.length k] 27)) (.cells #[.int .i64 it.kind, .slice EA it.args.length ek, .slice SA sides.length sk] 29)
  have HW0 := Lib.hid hW0
  clear hW0 hN hE hI hG
  go_enter Tryz.func6, Tryz.ntmps6
  go_upto_region 1 with (fail)
  rw [HW0.out]
  clear HW0
  have n0 := cell6_0 b0
  have n1 := cell6_1 b0
  have n2 := cell6_2 b0
  have n3 := cell6_3 b0
  have n4 := cell6_4 b0
  have n5 := cell6_5 b0
  have l0 := cell_lt b0
  have m0 := cell3_0 b1
  have m1 := cell3_1 b1
  have m2 := cell3_2 b1
  have l1 := cell_lt b1
  have HB0 := Lib.hid hB0
  have HX0 := Lib.hid b0
  have HX1 := Lib.hid b1
  have HS0 := Lib.hid hs0
  clear b0 b1 hB0 hs0
  have HSM : Hid (Calls Tryz.prog 9 #[.agg #[.string ⟨n.op.toArray⟩, .int .i64 n.int, .string ⟨n.text.toArray⟩, .int .i64 n.ty.kind, .slice A n.ty.args.length c, .slice K n.kids.length k], .agg #[.int .i64 it.kind, .slice EA it.args.length ek, .slice SA sides.length sk]] W0 fun e w' => (∃ b, e = .returned (.bool b) ∧ (b = true → FewN 60 n ∧ SmE it sides)) ∧ Below W0.heap.size W0 w') := by
    obtain ⟨d, hN⟩ := HNL.out.below HB0.out
    obtain ⟨A', k', SA', sk', D, e, h1, h2⟩ := HEL.out.below HB0.out
    injection e with e
    injection e with e
    injection e with e1 e2
    injection e2 with e2 e3
    injection e3 with e3 e4
    injection e2 with e5 e6 e7
    injection e3 with e8 e9 e10
    subst e5 e7 e8 e10
    exact small_any d D _ n it sides _ _ _ _ W0 hN h1 h2
  go_wp2_with (fail)
  refine HSM.out.mono ?_
  rintro e w1 ⟨⟨b, rfl, hfn⟩, hb1⟩
  have HB1 := Lib.hid (HB0.out.trans (hb1.mono (by have := HS0.out; omega)))
  have HX01 := Lib.hid ((hb1.block _ l0).trans HX0.out)
  have HX11 := Lib.hid ((hb1.block _ l1).trans HX1.out)
  have hs1 := hb1.size
  clear hb1 HX0 HX1 n0 n1 n2 n3 n4 n5 m0 m1 m2
  cases b with
  | false =>
    go_wp2_with (fail)
    refine (HAWK.out _ HB1.out).mono ?_
    rintro e w2 ⟨rfl, hb2⟩
    have HB2 := Lib.hid (HB1.out.trans (hb2.mono (by have := HS0.out; omega)))
    clear hb2
    go_wp2_with (fail)
    go_ret
    exact ⟨rfl, HB2.out⟩
  | true =>
    obtain ⟨hf1, hf2⟩ := hfn rfl
    have HRG := Lib.hid (few_rg 24 din 60 n HIN.out hf1)
    have HNAR := Lib.hid (few_nar 60 n hf1)
    have HFEW := Lib.hid hf1
    have HSE := Lib.hid hf2
    clear hfn hf1 hf2
    have HND : Hid (∀ W, Below w1.heap.size w1 W → Calls Tryz.prog 12 #[.agg #[.string ⟨n.op.toArray⟩, .int .i64 n.int, .string ⟨n.text.toArray⟩, .int .i64 n.ty.kind, .slice A n.ty.args.length c, .slice K n.kids.length k]] W fun e w' => (∃ v', e = .returned v' ∧ NdL w' v' n) ∧ Below W.heap.size W w') := fun W h => node_law ((HNL.out.below HB1.out).below h) HNAR.out
    have HEV : Hid (∀ W, Below w1.heap.size w1 W → Calls Tryz.prog 13 #[.agg #[.int .i64 it.kind, .slice EA it.args.length ek, .slice SA sides.length sk]] W fun e w' => (∃ v', e = .returned v' ∧ EvL w' v' it sides) ∧ Below W.heap.size W w') := fun W h => env_law ((HEL.out.below HB1.out).below h) HSE.out
    obtain ⟨R, hR⟩ : ∃ R, infR (showW n).isSome it sides (resI it sides n) = R := ⟨_, rfl⟩
    have HIF : Hid (∀ (W : World) (v u : Value), Below w1.heap.size w1 W → NdL W v n → EvL W u it sides → Calls Tryz.prog 11 #[v, u] W fun e w' => InfL R W.heap.size w' e ∧ Below W.heap.size W w') := fun W v u h h1 h2 => hR ▸ infer_law h1 h2 HRG.out (HG.out.below (HB1.out.trans (h.mono (by have := HS0.out; omega))) hGl)
    have HR := Lib.hid hR
    clear hR
    have hl1 := hs1
    go_upto_region 3 with (fail)
    go_cut [5, 6, 7] from 17 to 25 (fun s5 s6 s7 wx => Below w1.heap.size w1 wx ∧ InfA R w1.heap.size wx s6 s7)
    case first =>
      have n0 := cell6_0 HX01.out
      have n1 := cell6_1 HX01.out
      have n2 := cell6_2 HX01.out
      have n3 := cell6_3 HX01.out
      have n4 := cell6_4 HX01.out
      have n5 := cell6_5 HX01.out
      have l0 := cell_lt HX01.out
      have m0 := cell3_0 HX11.out
      have m1 := cell3_1 HX11.out
      have m2 := cell3_2 HX11.out
      have l1 := cell_lt HX11.out
      go_region_held3 (fun W => W.cell? ⟨w.heap.size, 0, none⟩ = some (.string ⟨n.op.toArray⟩) ∧ W.cell? ⟨w.heap.size, 1, none⟩ = some (.int .i64 n.int) ∧ W.cell? ⟨w.heap.size, 2, none⟩ = some (.string ⟨n.text.toArray⟩) ∧ W.cell? ⟨w.heap.size, 3, none⟩ = some (.int .i64 n.ty.kind) ∧ W.cell? ⟨w.heap.size, 4, none⟩ = some (.slice A n.ty.args.length c) ∧ W.cell? ⟨w.heap.size, 5, none⟩ = some (.slice K n.kids.length k) ∧ W.cell? ⟨w.heap.size + 1, 0, none⟩ = some (.int .i64 it.kind) ∧ W.cell? ⟨w.heap.size + 1, 1, none⟩ = some (.slice EA it.args.length ek) ∧ W.cell? ⟨w.heap.size + 1, 2, none⟩ = some (.slice SA sides.length sk) ∧ Below w1.heap.size w1 W)
        (exact keep9 HX01.out HX11.out (by repeat' (first | exact HBC.out | exact HBB.out | exact HBA.out | exact Below.refl _ _ | refine bl_al ?_ _ | refine bl_dr ?_ | refine bl_set ?_ (by first | omega | (simp; done) | (simp; omega)))))
        (first
        | (go_at_call 12; refine (HND.out _ (by repeat' (first | exact Below.refl _ _ | refine bl_al ?_ _ | refine bl_dr ?_))).mono ?_; rintro e wA ⟨⟨vA, rfl, hA⟩, hbA⟩; have HNA := Lib.hid hA; have HBA : Hid (Below w1.heap.size w1 wA) := bl_tr (by repeat' (first | exact Below.refl _ _ | refine bl_al ?_ _ | refine bl_dr ?_)) hbA; have hsA := HBA.out.size; (first | (have HZ := Lib.hid ((hbA.block w1.heap.size (by simp)).trans (heap_alloc_new w1 (.cells #[.int .i64 0, .slice none 0 0] 34)))) | skip); clear hA hbA)
        | (go_at_call 13; refine (HEV.out _ (by repeat' (first | exact HBA.out | refine bl_al ?_ _ | refine bl_dr ?_))).mono ?_; rintro e wB ⟨⟨vB, rfl, hA⟩, hbA⟩; have HNB := Lib.hid (HNA.out.below (bl_tr (by repeat' (first | exact Below.refl _ _ | refine bl_al ?_ _ | refine bl_dr ?_)) hbA)); have HEB := Lib.hid hA; have HBB : Hid (Below w1.heap.size w1 wB) := bl_tr (by repeat' (first | exact HBA.out | refine bl_al ?_ _ | refine bl_dr ?_)) hbA; have hsB := HBB.out.size; (first | (have HZ2 := Lib.hid ((hbA.block _ (cell_lt HZ.out)).trans HZ.out)) | (have HZ2 := Lib.hid ((hbA.block wA.heap.size (by simp)).trans (heap_alloc_new wA (.cells #[.int .i64 0, .slice none 0 0] 34)))) | skip); clear hA hbA)
        | (go_at_call 11; refine (HIF.out _ _ _ (by repeat' (first | exact HBB.out | refine bl_al ?_ _ | refine bl_dr ?_)) (HNB.out.below (by repeat' (first | exact Below.refl _ _ | refine bl_al ?_ _ | refine bl_dr ?_))) (HEB.out.below (by repeat' (first | exact Below.refl _ _ | refine bl_al ?_ _ | refine bl_dr ?_)))).mono ?_; rintro e wC ⟨hi, hbA⟩; obtain ⟨kd, TA, tl, tc, av, no, rfl, hiA, hiT, hkd⟩ := hi.open; clear hkd; have HIA := Lib.hid hiA; have HBC : Hid (Below w1.heap.size w1 wC) := bl_tr (by repeat' (first | exact HBB.out | refine bl_al ?_ _ | refine bl_dr ?_)) hbA; have hsC := HBC.out.size; (first | (have HZ3 := Lib.hid ((hbA.block _ (cell_lt HZ2.out)).trans HZ2.out); have hq := cell_lt HZ2.out) | (have HZ3 := Lib.hid ((hbA.block wB.heap.size (by simp)).trans (heap_alloc_new wB (.cells #[.int .i64 0, .slice none 0 0] 34)))) | skip); (first | (have z0 := cell2_0 HZ3.out; have z1 := cell2_1 HZ3.out; have zf0 := cell3_f HZ3.out 0; have zf1 := cell3_f HZ3.out 1; have zl := cell_lt HZ3.out) | skip); clear hi hiA hiT hbA)
        | fail)
      all_goals (
        go_wp2_with (fail)
        go_meet
        exact ⟨by repeat' (first | exact HBC.out | refine bl_al ?_ _ | refine bl_set ?_ (by first | omega | (simp; done) | (simp; omega))), (by first | exact (HIA.out.below (bl_al (Below.refl _ _) _)).down (by omega) | exact ((HIA.out.set (by first | omega | (simp; done) | (simp; omega))).set (by first | omega | (simp; done) | (simp; omega))).down (by first | omega | (simp; done) | (simp; omega)))⟩)
    case rest =>
      obtain ⟨hbc, hia⟩ := hcut
      have HBC := Lib.hid hbc
      have HIA := Lib.hid hia
      have hx0 := (hbc.block _ (cell_lt HX01.out)).trans HX01.out
      have hx1 := (hbc.block _ (cell_lt HX11.out)).trans HX11.out
      have hsc := hbc.size
      have n0 := cell6_0 hx0
      have n1 := cell6_1 hx0
      have n2 := cell6_2 hx0
      have n3 := cell6_3 hx0
      have n4 := cell6_4 hx0
      have n5 := cell6_5 hx0
      have l0 := cell_lt hx0
      have HY1 := Lib.hid hx1
      clear hbc hia hx0 hx1
      go_upto_region 5 with (go_at_call 12; refine (HND.out _ HBC.out).mono ?_; rintro e w2 ⟨⟨v2, rfl, hA⟩, hbA⟩; obtain ⟨A2, c2, K2, k2, rfl⟩ := hA.form; have HN2 := Lib.hid hA; have HB2 := Lib.hid hbA; have hs2 := hbA.size; clear hA hbA)
      have HNW := Lib.hid (show NdL ((w2.alloc (.cells #[.string ⟨#[105, 110, 116]⟩, .int .i64 1, .string ⟨#[]⟩, .int .i64 0, .slice none 0 0, .slice none 0 0, .string ⟨n.op.toArray⟩, .int .i64 n.int, .string ⟨n.text.toArray⟩, .int .i64 n.ty.kind, .slice A2 n.ty.args.length c2, .slice K2 n.kids.length k2] 41)).alloc (.cells #[.string ⟨#[112, 97, 105, 114]⟩, .int .i64 0, .string ⟨#[]⟩, .int .i64 0, .slice none 0 0, .slice (some ⟨w2.heap.size, 0, none⟩) 2 2] 41)) (.agg #[.string ⟨#[112, 97, 105, 114]⟩, .int .i64 0, .string ⟨#[]⟩, .int .i64 0, .slice none 0 0, .slice (some ⟨w2.heap.size, 0, none⟩) 2 2]) (ndP n) by
        have hbb : Below w2.heap.size w2 ((w2.alloc (.cells #[.string ⟨#[105, 110, 116]⟩, .int .i64 1, .string ⟨#[]⟩, .int .i64 0, .slice none 0 0, .slice none 0 0, .string ⟨n.op.toArray⟩, .int .i64 n.int, .string ⟨n.text.toArray⟩, .int .i64 n.ty.kind, .slice A2 n.ty.args.length c2, .slice K2 n.kids.length k2] 41)).alloc (.cells #[.string ⟨#[112, 97, 105, 114]⟩, .int .i64 0, .string ⟨#[]⟩, .int .i64 0, .slice none 0 0, .slice (some ⟨w2.heap.size, 0, none⟩) 2 2] 41)) := bl_al (bl_al (Below.refl _ _) _) _
        refine kids_made (op := [112, 97, 105, 114]) (ks := [.mk intW 1 [] ty0 [], n]) (by simp; omega) (by simp) fun j a ha => ?_
        have hblk := alloc_old (o := .cells #[.string ⟨#[112, 97, 105, 114]⟩, .int .i64 0, .string ⟨#[]⟩, .int .i64 0, .slice none 0 0, .slice (some ⟨w2.heap.size, 0, none⟩) 2 2] 41) (heap_alloc_new w2 (.cells #[.string ⟨#[105, 110, 116]⟩, .int .i64 1, .string ⟨#[]⟩, .int .i64 0, .slice none 0 0, .slice none 0 0, .string ⟨n.op.toArray⟩, .int .i64 n.int, .string ⟨n.text.toArray⟩, .int .i64 n.ty.kind, .slice A2 n.ty.args.length c2, .slice K2 n.kids.length k2] 41))
        match j, ha with
        | 0, ha => injection ha with ha; subst ha; exact kid_of hblk rfl rfl rfl rfl rfl rfl (nd_int _ 1)
        | 1, ha => injection ha with ha; subst ha; exact kid_of hblk rfl rfl rfl rfl rfl rfl (HN2.out.below hbb)
        | j + 2, ha => simp at ha)
      have hlast : ((w2.alloc (.cells #[.string ⟨#[105, 110, 116]⟩, .int .i64 1, .string ⟨#[]⟩, .int .i64 0, .slice none 0 0, .slice none 0 0, .string ⟨n.op.toArray⟩, .int .i64 n.int, .string ⟨n.text.toArray⟩, .int .i64 n.ty.kind, .slice A2 n.ty.args.length c2, .slice K2 n.kids.length k2] 41)).alloc (.cells #[.string ⟨#[112, 97, 105, 114]⟩, .int .i64 0, .string ⟨#[]⟩, .int .i64 0, .slice none 0 0, .slice (some ⟨w2.heap.size, 0, none⟩) 2 2] 41)).heap[w2.heap.size + 1]? = some (.cells #[.string ⟨#[112, 97, 105, 114]⟩, .int .i64 0, .string ⟨#[]⟩, .int .i64 0, .slice none 0 0, .slice (some ⟨w2.heap.size, 0, none⟩) 2 2] 41 (0, 0)) := heap_new_at (by simp)
      have hbW : Below wc.heap.size wc ((w2.alloc (.cells #[.string ⟨#[105, 110, 116]⟩, .int .i64 1, .string ⟨#[]⟩, .int .i64 0, .slice none 0 0, .slice none 0 0, .string ⟨n.op.toArray⟩, .int .i64 n.int, .string ⟨n.text.toArray⟩, .int .i64 n.ty.kind, .slice A2 n.ty.args.length c2, .slice K2 n.kids.length k2] 41)).alloc (.cells #[.string ⟨#[112, 97, 105, 114]⟩, .int .i64 0, .string ⟨#[]⟩, .int .i64 0, .slice none 0 0, .slice (some ⟨w2.heap.size, 0, none⟩) 2 2] 41)) := bl_al (bl_al HB2.out _) _
      generalize (w2.alloc (.cells #[.string ⟨#[105, 110, 116]⟩, .int .i64 1, .string ⟨#[]⟩, .int .i64 0, .slice none 0 0, .slice none 0 0, .string ⟨n.op.toArray⟩, .int .i64 n.int, .string ⟨n.text.toArray⟩, .int .i64 n.ty.kind, .slice A2 n.ty.args.length c2, .slice K2 n.kids.length k2] 41)).alloc (.cells #[.string ⟨#[112, 97, 105, 114]⟩, .int .i64 0, .string ⟨#[]⟩, .int .i64 0, .slice none 0 0, .slice (some ⟨w2.heap.size, 0, none⟩) 2 2] 41) = W3 at *
      have HBW := Lib.hid hbW
      have HIA3 := Lib.hid (HIA.out.below hbW)
      have HXO := Lib.hid hlast
      have HXE := Lib.hid ((hbW.block _ (cell_lt HY1.out)).trans HY1.out)
      have hs3 := hbW.size
      have hl3 := cell_lt hlast
      clear hbW hlast n0 n1 n2 n3 n4 n5 HN2 HB2
      obtain ⟨R2, hR2⟩ : ∃ R2, infR (showW (ndP n)).isSome it sides (resI it sides (ndP n)) = R2 := ⟨_, rfl⟩
      have HR2 := Lib.hid hR2
      have HRG2 := Lib.hid (show RgN 24 (ndP n) from ⟨by show (-9223372036854775808 : Int) ≤ 0; decide, by show (0 : Int) ≤ 9223372036854775807; decide, Nat.zero_le _, fun k hk => by
        rcases List.mem_cons.1 hk with rfl | hk
        · exact ⟨by decide, by decide, by decide, fun k hk => by cases hk⟩
        · rcases List.mem_cons.1 hk with rfl | hk
          · exact few_rg 23 din 60 _ HIN.out HFEW.out
          · cases hk⟩)
      have HB3 := Lib.hid (bl_tr HBC.out HBW.out)
      have HEV2 : Hid (∀ W, Below W3.heap.size W3 W → Calls Tryz.prog 13 #[.agg #[.int .i64 it.kind, .slice EA it.args.length ek, .slice SA sides.length sk]] W fun e w' => (∃ v', e = .returned v' ∧ EvL w' v' it sides) ∧ Below W.heap.size W w') := fun W h => HEV.out W (bl_tr HB3.out h)
      have HIF2 : Hid (∀ (W : World) (v u : Value), Below W3.heap.size W3 W → NdL W v (ndP n) → EvL W u it sides → Calls Tryz.prog 11 #[v, u] W fun e w' => InfL R2 W.heap.size w' e ∧ Below W.heap.size W w') := fun W v u h h1 h2 => hR2 ▸ infer_law h1 h2 HRG2.out (HG.out.below (HB1.out.trans ((bl_tr HB3.out h).mono (by have := HS0.out; omega))) hGl)
      clear hR2
      go_cut [9, 10, 11] from 31 to 38 (fun s9 s10 s11 wx => Below W3.heap.size W3 wx ∧ InfA R2 W3.heap.size wx s10 s11 ∧ BoxA R2 W3.heap.size wx s9)
      case first =>
        have n0 := cell6_0 HXO.out
        have n1 := cell6_1 HXO.out
        have n2 := cell6_2 HXO.out
        have n3 := cell6_3 HXO.out
        have n4 := cell6_4 HXO.out
        have n5 := cell6_5 HXO.out
        have m0 := cell3_0 HXE.out
        have m1 := cell3_1 HXE.out
        have m2 := cell3_2 HXE.out
        have l1 := cell_lt HXE.out
        go_region_held3 (fun W => W.cell? ⟨w2.heap.size + 1, 0, none⟩ = some (.string ⟨#[112, 97, 105, 114]⟩) ∧ W.cell? ⟨w2.heap.size + 1, 1, none⟩ = some (.int .i64 0) ∧ W.cell? ⟨w2.heap.size + 1, 2, none⟩ = some (.string ⟨#[]⟩) ∧ W.cell? ⟨w2.heap.size + 1, 3, none⟩ = some (.int .i64 0) ∧ W.cell? ⟨w2.heap.size + 1, 4, none⟩ = some (.slice none 0 0) ∧ W.cell? ⟨w2.heap.size + 1, 5, none⟩ = some (.slice (some ⟨w2.heap.size, 0, none⟩) 2 2) ∧ W.cell? ⟨w.heap.size + 1, 0, none⟩ = some (.int .i64 it.kind) ∧ W.cell? ⟨w.heap.size + 1, 1, none⟩ = some (.slice EA it.args.length ek) ∧ W.cell? ⟨w.heap.size + 1, 2, none⟩ = some (.slice SA sides.length sk) ∧ Below W3.heap.size W3 W)
          (exact keep9b HXO.out HXE.out (by repeat' (first | exact HBC3.out | exact HBB3.out | exact Below.refl _ _ | refine bl_al ?_ _ | refine bl_dr ?_ | refine bl_set ?_ (by first | omega | (simp; done) | (simp; omega)))))
          (first
          | (go_at_call 13; refine (HEV2.out _ (by repeat' (first | exact Below.refl _ _ | refine bl_al ?_ _ | refine bl_dr ?_))).mono ?_; rintro e wB ⟨⟨vB, rfl, hA⟩, hbA⟩; have HBB3 : Hid (Below W3.heap.size W3 wB) := bl_tr (by repeat' (first | exact Below.refl _ _ | refine bl_al ?_ _ | refine bl_dr ?_)) hbA; have HNB := Lib.hid (HNW.out.below HBB3.out); have HEB := Lib.hid hA; have hsB := HBB3.out.size; (first | (have HZ2 := Lib.hid ((hbA.block W3.heap.size (by simp)).trans (heap_alloc_new W3 (.cells #[.int .i64 0, .slice none 0 0] 34)))) | skip); clear hA hbA)
          | (go_at_call 11; refine (HIF2.out _ _ _ (by repeat' (first | exact HBB3.out | refine bl_al ?_ _ | refine bl_dr ?_)) (HNB.out.below (by repeat' (first | exact Below.refl _ _ | refine bl_al ?_ _ | refine bl_dr ?_))) (HEB.out.below (by repeat' (first | exact Below.refl _ _ | refine bl_al ?_ _ | refine bl_dr ?_)))).mono ?_; rintro e wC ⟨hi, hbA⟩; obtain ⟨kd, TA, tl, tc, av, no, rfl, hiA, hiT, hkd⟩ := hi.open; have HIC := Lib.hid hiA; have HIT := Lib.hid hiT; have HKD := Lib.hid hkd; clear hkd; have HBC3 : Hid (Below W3.heap.size W3 wC) := bl_tr (by repeat' (first | exact HBB3.out | refine bl_al ?_ _ | refine bl_dr ?_)) hbA; have hsC := HBC3.out.size; (first | (have HZ3 := Lib.hid ((hbA.block _ (cell_lt HZ2.out)).trans HZ2.out); have hq := cell_lt HZ2.out) | (have HZ3 := Lib.hid ((hbA.block wB.heap.size (by simp)).trans (heap_alloc_new wB (.cells #[.int .i64 0, .slice none 0 0] 34)))) | skip); (first | (have z0 := cell2_0 HZ3.out; have z1 := cell2_1 HZ3.out; have zf0 := cell3_f HZ3.out 0; have zf1 := cell3_f HZ3.out 1; have zl := cell_lt HZ3.out) | skip); clear hi hiA hiT hbA)
          | fail)
        all_goals (
          go_wp2_with (fail)
          go_meet
          exact ⟨by repeat' (first | exact HBC3.out | refine bl_al ?_ _ | refine bl_set ?_ (by first | omega | (simp; done) | (simp; omega))), (by first | exact (HIC.out.below (bl_al (Below.refl _ _) _)).down (by omega) | exact ((HIC.out.set (by first | omega | (simp; done) | (simp; omega))).set (by first | omega | (simp; done) | (simp; omega))).down (by first | omega | (simp; done) | (simp; omega))), (by first | exact ⟨_, kd, TA, tl, tc, rfl, by first | omega | (simp; done) | (simp; omega), heap_alloc_new wC _, HKD.out, (HIT.out.below (bl_al (Below.refl _ _) _)).tyL⟩ | exact ⟨_, kd, TA, tl, tc, rfl, by first | omega | (simp; done) | (simp; omega), put2_box HZ3.out _ _, HKD.out, ((HIT.out.set (by first | omega | (simp; done) | (simp; omega))).set (by first | omega | (simp; done) | (simp; omega))).tyL⟩)⟩)
      case rest =>
        obtain ⟨hbc, hic, hbx⟩ := hcut
        obtain ⟨q, kd, TA, tl, tc, rfl, hq, hbx, hkd, _⟩ := hbx
        have HBC2 := Lib.hid hbc
        have HIC := Lib.hid hic
        have HIA4 := Lib.hid (HIA3.out.below hbc)
        have hxo := (hbc.block _ (cell_lt HXO.out)).trans HXO.out
        have hsq := hbc.size
        have n0 := cell6_0 hxo
        have n1 := cell6_1 hxo
        have n2 := cell6_2 hxo
        have n3 := cell6_3 hxo
        have n4 := cell6_4 hxo
        have n5 := cell6_5 hxo
        have l6 := cell_lt hxo
        have HKD := Lib.hid hkd
        have HNO := Lib.hid (HNW.out.below hbc)
        have HBW4 := Lib.hid (HB1.out.trans ((bl_tr HB3.out hbc).mono (by have := HS0.out; omega)))
        have HBX := Lib.hid hbx
        clear hbc hic hbx hxo hkd
        go_wp2_with (fail)
        obtain ⟨dO, hNO⟩ := HNO.out
        refine (exprCheck_any dO _ _ (ndP n) wc hNO HRG2.out (HG.out.below HBW4.out hGl)).mono ?_
        rintro e w5 ⟨hck, hb5⟩
        have HB5 := Lib.hid (HBW4.out.trans (hb5.mono (by have := HBW4.out.size; omega)))
        have HIA5 := Lib.hid (HIA4.out.below hb5)
        have HIC5 := Lib.hid (HIC.out.below hb5)
        have hbx5 := (hb5.block _ (cell_lt HBX.out)).trans HBX.out
        have x0 := cell2_0 hbx5
        have x1 := cell2_1 hbx5
        have lx := cell_lt hbx5
        have hs5 := hb5.size
        clear hb5 hNO n0 n1 n2 n3 n4 n5 hbx5
        cases hsn : showW (ndP n) with
        | none =>
          rw [hsn] at hck
          subst hck
          clear hsn
          go_wp2_with (fail)
          refine (HAWK.out _ HB5.out).mono ?_
          rintro e w6 ⟨rfl, hb6⟩
          have HB6 := Lib.hid (HB5.out.trans (hb6.mono HB5.out.size))
          clear hb6
          go_wp2_with (fail)
          go_ret
          exact ⟨rfl, HB6.out⟩
        | some x =>
          rw [hsn] at hck
          subst hck
          have hsh : (showW n).isSome = true := (sizes_pure hsn).1 n (by simp [ndP, Nd.kids])
          have hok : InfOk FOk 23 n := by
            have h := show_inf (n := ndP n) (by rw [hsn]; rfl)
            exact h.2.2.2.2.2.2 1 n rfl
          have hr1 := HR.out
          have hr2 := HR2.out
          rw [hsh] at hr1
          rw [hsn, res_pair hok] at hr2
          clear hsn hsh hok
          have hlen : ∀ c qs, R = .error (c, qs) → qs.length ≤ 24 := fun c qs h => res_len (HR.out.trans h)
          have hia := HIA5.out
          have hic := HIC5.out
          have hkd := HKD.out
          rcases pair_cases hr1 hr2 with ⟨e1, e2⟩ | ⟨c, qs, e1, e2⟩ | ⟨t, e1, e2⟩ | ⟨t, u, e1, e2, hu⟩
          · rw [e1] at hia
            rw [e2] at hic
            obtain ⟨rfl, _, _⟩ := hia
            obtain ⟨rfl, _, _⟩ := hic
            clear hr1 hr2 e1 e2 hlen hkd
            go_wp2_with (go_at_call 10; refine (HAWK.out _ HB5.out).mono ?_; rintro e w6 ⟨rfl, hb6⟩; have HB6 := Lib.hid (HB5.out.trans (hb6.mono HB5.out.size)); clear hb6)
            go_ret
            exact ⟨rfl, HB6.out⟩
          · rw [e1] at hia
            rw [e2] at hic
            have hl := hlen c qs e1
            obtain ⟨rfl, hc0, hI1⟩ := hia
            obtain ⟨rfl, _, hI2⟩ := hic
            have H0 := Lib.hid hc0
            have HI1 := Lib.hid hI1
            have HI2 := Lib.hid hI2
            have HL := Lib.hid hl
            clear hr1 hr2 e1 e2 hlen hkd hc0 hI1 hI2 hl
            by_cases h20 : c = 20
            · subst h20
              go_wp2_with (go_at_call 10; refine (HAWK.out _ HB5.out).mono ?_; rintro e w6 ⟨rfl, hb6⟩; have HB6 := Lib.hid (HB5.out.trans (hb6.mono HB5.out.size)); clear hb6)
              go_ret
              exact ⟨rfl, HB6.out⟩
            · have hb20 : (c == 20) = false := by simp [h20]
              have hc0 : (c == 0) = false := by simp [H0.out]
              have hcc : (c == c) = true := by simp
              obtain ⟨v', w', hr, hI3, hb7⟩ := app_one 1 HI1.out (by have := HL.out; omega)
              have HI3 := Lib.hid hI3
              have HB7 := Lib.hid hb7
              have HSE := Lib.hid (same_eq _ _ _ _ (1 :: qs) w' (by have := HL.out; simp; omega) (HI2.out.below HB7.out) HI3.out)
              have HRN := Lib.hid hr
              clear hI3 hb7 hr
              go_wp2_with (first
                | (at_builtin; refine wpList_append_guard (by rfl) _ _ _ rfl _ _ rfl rfl _ _ HRN.out ?_)
                | (go_at_call 18; refine HSE.out.mono ?_; rintro e w8 ⟨rfl, hb8⟩; have HB8 : Hid (Below w.heap.size w w8) := HB5.out.trans ((HB7.out.mono HB5.out.size).trans (hb8.mono (by have := HB5.out.size; have := HB7.out.size; omega))); clear hb8)
                | (go_at_call 10; refine (HAWK.out _ HB8.out).mono ?_; rintro e w6 ⟨rfl, hb6⟩; have HB6 := Lib.hid (HB8.out.trans (hb6.mono HB8.out.size)); clear hb6)
                | fail)
              go_ret
              exact ⟨rfl, HB6.out⟩
          · rw [e1] at hia
            rw [e2] at hic
            obtain ⟨rfl, rfl⟩ := hia
            obtain ⟨rfl, _, hI2⟩ := hic
            obtain ⟨a9, c9, rfl, _, _⟩ := hI2
            clear hr1 hr2 e1 e2 hlen hkd
            go_wp2_with (go_at_call 10; refine (HAWK.out _ HB5.out).mono ?_; rintro e w6 ⟨rfl, hb6⟩; have HB6 := Lib.hid (HB5.out.trans (hb6.mono HB5.out.size)); clear hb6)
            go_ret
            exact ⟨rfl, HB6.out⟩
          · rw [e1] at hia
            rw [e2] at hic
            obtain ⟨rfl, rfl⟩ := hia
            obtain ⟨rfl, rfl⟩ := hic
            have hk6 : kd = 6 := by rw [hkd, e2]; exact hu
            subst hk6
            clear hr1 hr2 e1 e2 hlen hkd hu
            go_wp2_with (go_at_call 10; refine (HAWK.out _ HB5.out).mono ?_; rintro e w6 ⟨rfl, hb6⟩; have HB6 := Lib.hid (HB5.out.trans (hb6.mono HB5.out.size)); clear hb6)
            go_ret
            exact ⟨rfl, HB6.out⟩
end Go.Proofs.YtaecndmncpfpfaaGreatDoor.L5
