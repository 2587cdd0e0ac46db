/-
CheckLists: the walk.
-/
import Derived.Test.YtaecndmncpfpfaaGreatDoorFe
import Derived.Test.YtaecndmncpfpfaaGreatDoorFc
import Derived.Test.YtaecndmncpfpfaaGreatDoorCw
import Derived.Test.YtaecndmncpfpfaaGreatDoorEw
import Derived.Test.YtaecndmncpfpfaaGreatDoorSm
import Derived.Deep.RegionHeld3
import Derived.Deep.CutRange
import Derived.Deep.AppendLies
set_option linter.unusedVariables false
set_option linter.unusedSimpArgs false
namespace Go.Proofs.YtaecndmncpfpfaaGreatDoor.L5
open Go.RowKit
set_option maxRecDepth 100000 in
set_option maxHeartbeats 4000000 in
theorem lists_any (w : World) (nv ev : Value) (n : Nd) (it : Ty) (sides : List Ty) (din : Nat) (times : Int) (hN : NdL w nv n) (hE : EvL w ev it sides) (hI : IntN din n) (hG : Gl w) :
    Calls Tryz.prog 8 #[nv, ev, .int .i64 times] w fun e w' => e = .returned (.bool true) ∧ Below w.heap.size w w' := by
  have hGl := hG.lt2
  have HG := Lib.hid hG
  have HIN := Lib.hid hI
  have HAWK := Lib.hid (fun (W : World) (h : Below w.heap.size w W) => awake_any W (hG.below h hGl))
  have HNL := Lib.hid hN
  have HEL := Lib.hid hE
  obtain ⟨A, c, K, k, rfl⟩ := hN.form
  obtain ⟨EA, ek, SA, sk, rfl⟩ := hE.form
  obtain ⟨W0, hW0⟩ : ∃ W0, ((w.alloc (.cells #[.string ⟨n.op.toArray⟩, .int .i64 n.int, .string ⟨n.text.toArray⟩, .int .i64 n.ty.kind, .slice A n.ty.args.length c, .slice K n.kids.length k] 27)).alloc (.cells #[.int .i64 it.kind, .slice EA it.args.length ek, .slice SA sides.length sk] 29)) = W0 := ⟨_, rfl⟩
  have hB0 : Below w.heap.size w W0 := by
    rw [← hW0]
    exact ((Below.refl _ w).alloc (Nat.le_refl _) _).alloc (by simp) _
  have hs0 : W0.heap.size = w.heap.size + 2 := by rw [← hW0]; simp
  have b0 : W0.heap[w.heap.size]? = some (.cells #[.string ⟨n.op.toArray⟩, .int .i64 n.int, .string ⟨n.text.toArray⟩, .int .i64 n.ty.kind, .slice A n.ty.args.length c, .slice K n.kids.length k] 27 (0, 0)) := by
    rw [← hW0]
    exact alloc_old (heap_alloc_new w _)
  have b1 : W0.heap[w.heap.size + 1]? = some (.cells #[.int .i64 it.kind, .slice EA it.args.length ek, .slice SA sides.length sk] 29 (0, 0)) := by
    rw [← hW0]
    simpa using heap_alloc_new (w.alloc (.cells #[.string ⟨n.op.toArray⟩, .int .i64 n.int, .string ⟨n.text.toArray⟩, .int .i64 n.ty.kind, .slice A n.ty.args.length c, .slice K n.kids.length k] 27)) (.cells #[.int .i64 it.kind, .slice EA it.args.length ek, .slice SA sides.length sk] 29)
  have HW0 := Lib.hid hW0
  clear hW0 hN hE hI hG
  go_enter Tryz.func8, Tryz.ntmps8
  go_upto_region 1 with (fail)
  rw [HW0.out]
  clear HW0
  have n0 := cell6_0 b0
  have n1 := cell6_1 b0
  have n2 := cell6_2 b0
  have n3 := cell6_3 b0
  have n4 := cell6_4 b0
  have n5 := cell6_5 b0
  have l0 := cell_lt b0
  have m0 := cell3_0 b1
  have m1 := cell3_1 b1
  have m2 := cell3_2 b1
  have l1 := cell_lt b1
  have HB0 := Lib.hid hB0
  have HX0 := Lib.hid b0
  have HX1 := Lib.hid b1
  have HS0 := Lib.hid hs0
  clear b0 b1 hB0 hs0
  have HSM : Hid (Calls Tryz.prog 9 #[.agg #[.string ⟨n.op.toArray⟩, .int .i64 n.int, .string ⟨n.text.toArray⟩, .int .i64 n.ty.kind, .slice A n.ty.args.length c, .slice K n.kids.length k], .agg #[.int .i64 it.kind, .slice EA it.args.length ek, .slice SA sides.length sk]] W0 fun e w' => (∃ b, e = .returned (.bool b) ∧ (b = true → FewN 60 n ∧ SmE it sides)) ∧ Below W0.heap.size W0 w') := by
    obtain ⟨d, hN⟩ := HNL.out.below HB0.out
    obtain ⟨A', k', SA', sk', D, e, h1, h2⟩ := HEL.out.below HB0.out
    injection e with e
    injection e with e
    injection e with e1 e2
    injection e2 with e2 e3
    injection e3 with e3 e4
    injection e2 with e5 e6 e7
    injection e3 with e8 e9 e10
    subst e5 e7 e8 e10
    exact small_any d D _ n it sides _ _ _ _ W0 hN h1 h2
  go_wp2_with (fail)
  refine HSM.out.mono ?_
  rintro e w1 ⟨⟨b, rfl, hfn⟩, hb1⟩
  have HB1 := Lib.hid (HB0.out.trans (hb1.mono (by have := HS0.out; omega)))
  have HX01 := Lib.hid ((hb1.block _ l0).trans HX0.out)
  have HX11 := Lib.hid ((hb1.block _ l1).trans HX1.out)
  have hs1 := hb1.size
  clear hb1 HX0 HX1 n0 n1 n2 n3 n4 n5 m0 m1 m2
  cases b with
  | false =>
    go_wp2_with (fail)
    refine (HAWK.out _ HB1.out).mono ?_
    rintro e w2 ⟨rfl, hb2⟩
    have HB2 := Lib.hid (HB1.out.trans (hb2.mono (by have := HS0.out; omega)))
    clear hb2
    go_wp2_with (fail)
    go_ret
    exact ⟨rfl, HB2.out⟩
  | true =>
    obtain ⟨hf1, hf2⟩ := hfn rfl
    by_cases hlo : times < 1
    · clear hfn hf1 hf2
      go_wp2_with (fail)
      refine (HAWK.out _ HB1.out).mono ?_
      rintro e w2 ⟨rfl, hb2⟩
      have HB2 := Lib.hid (HB1.out.trans (hb2.mono (by have := HS0.out; omega)))
      clear hb2
      go_wp2_with (fail)
      go_ret
      exact ⟨rfl, HB2.out⟩
    by_cases hhi : 5 < times
    · clear hfn hf1 hf2
      go_wp2_with (fail)
      refine (HAWK.out _ HB1.out).mono ?_
      rintro e w2 ⟨rfl, hb2⟩
      have HB2 := Lib.hid (HB1.out.trans (hb2.mono (by have := HS0.out; omega)))
      clear hb2
      go_wp2_with (fail)
      go_ret
      exact ⟨rfl, HB2.out⟩
    obtain ⟨m, rfl⟩ : ∃ m : Nat, times = (m : Int) + 1 := ⟨(times - 1).toNat, by omega⟩
    have hm4 : m ≤ 4 := by omega
    have HRG := Lib.hid (few_rg 24 din 60 n HIN.out hf1)
    have HNAR := Lib.hid (few_nar 60 n hf1)
    have HFEW := Lib.hid hf1
    have HSE := Lib.hid hf2
    clear hfn hf1 hf2
    have HND : Hid (∀ W, Below w1.heap.size w1 W → Calls Tryz.prog 12 #[.agg #[.string ⟨n.op.toArray⟩, .int .i64 n.int, .string ⟨n.text.toArray⟩, .int .i64 n.ty.kind, .slice A n.ty.args.length c, .slice K n.kids.length k]] W fun e w' => (∃ v', e = .returned v' ∧ NdL w' v' n) ∧ Below W.heap.size W w') := fun W h => node_law ((HNL.out.below HB1.out).below h) HNAR.out
    have HEV : Hid (∀ W, Below w1.heap.size w1 W → Calls Tryz.prog 13 #[.agg #[.int .i64 it.kind, .slice EA it.args.length ek, .slice SA sides.length sk]] W fun e w' => (∃ v', e = .returned v' ∧ EvL w' v' it sides) ∧ Below W.heap.size W w') := fun W h => env_law ((HEL.out.below HB1.out).below h) HSE.out
    obtain ⟨R, hR⟩ : ∃ R, infR (showW n).isSome it sides (resI it sides n) = R := ⟨_, rfl⟩
    have HIF : Hid (∀ (W : World) (v u : Value), Below w1.heap.size w1 W → NdL W v n → EvL W u it sides → Calls Tryz.prog 11 #[v, u] W fun e w' => InfL R W.heap.size w' e ∧ Below W.heap.size W w') := fun W v u h h1 h2 => hR ▸ infer_law h1 h2 HRG.out (HG.out.below (HB1.out.trans (h.mono (by have := HS0.out; omega))) hGl)
    have HR := Lib.hid hR
    clear hR
    have hl1 := hs1
    go_upto_region 3 with (fail)
    go_cut [7, 8, 9] from 33 to 41 (fun s7 s8 s9 wx => Below w1.heap.size w1 wx ∧ InfA R w1.heap.size wx s8 s9 ∧ BoxA R w1.heap.size wx s7)
    case first =>
      have n0 := cell6_0 HX01.out
      have n1 := cell6_1 HX01.out
      have n2 := cell6_2 HX01.out
      have n3 := cell6_3 HX01.out
      have n4 := cell6_4 HX01.out
      have n5 := cell6_5 HX01.out
      have l0 := cell_lt HX01.out
      have m0 := cell3_0 HX11.out
      have m1 := cell3_1 HX11.out
      have m2 := cell3_2 HX11.out
      have l1 := cell_lt HX11.out
      go_region_held3 (fun W => W.cell? ⟨w.heap.size, 0, none⟩ = some (.string ⟨n.op.toArray⟩) ∧ W.cell? ⟨w.heap.size, 1, none⟩ = some (.int .i64 n.int) ∧ W.cell? ⟨w.heap.size, 2, none⟩ = some (.string ⟨n.text.toArray⟩) ∧ W.cell? ⟨w.heap.size, 3, none⟩ = some (.int .i64 n.ty.kind) ∧ W.cell? ⟨w.heap.size, 4, none⟩ = some (.slice A n.ty.args.length c) ∧ W.cell? ⟨w.heap.size, 5, none⟩ = some (.slice K n.kids.length k) ∧ W.cell? ⟨w.heap.size + 1, 0, none⟩ = some (.int .i64 it.kind) ∧ W.cell? ⟨w.heap.size + 1, 1, none⟩ = some (.slice EA it.args.length ek) ∧ W.cell? ⟨w.heap.size + 1, 2, none⟩ = some (.slice SA sides.length sk) ∧ Below w1.heap.size w1 W)
        (exact keep9 HX01.out HX11.out (by repeat' (first | exact HBC.out | exact HBB.out | exact HBA.out | exact Below.refl _ _ | refine bl_al ?_ _ | refine bl_dr ?_ | refine bl_set ?_ (by first | omega | (simp; done) | (simp; omega)))))
        (first
        | (go_at_call 12; refine (HND.out _ (by repeat' (first | exact Below.refl _ _ | refine bl_al ?_ _ | refine bl_dr ?_))).mono ?_; rintro e wA ⟨⟨vA, rfl, hA⟩, hbA⟩; have HNA := Lib.hid hA; have HBA : Hid (Below w1.heap.size w1 wA) := bl_tr (by repeat' (first | exact Below.refl _ _ | refine bl_al ?_ _ | refine bl_dr ?_)) hbA; have hsA := HBA.out.size; (first | (have HZ := Lib.hid ((hbA.block w1.heap.size (by simp)).trans (heap_alloc_new w1 (.cells #[.int .i64 0, .slice none 0 0] 34)))) | skip); clear hA hbA)
        | (go_at_call 13; refine (HEV.out _ (by repeat' (first | exact HBA.out | refine bl_al ?_ _ | refine bl_dr ?_))).mono ?_; rintro e wB ⟨⟨vB, rfl, hA⟩, hbA⟩; have HNB := Lib.hid (HNA.out.below (bl_tr (by repeat' (first | exact Below.refl _ _ | refine bl_al ?_ _ | refine bl_dr ?_)) hbA)); have HEB := Lib.hid hA; have HBB : Hid (Below w1.heap.size w1 wB) := bl_tr (by repeat' (first | exact HBA.out | refine bl_al ?_ _ | refine bl_dr ?_)) hbA; have hsB := HBB.out.size; (first | (have HZ2 := Lib.hid ((hbA.block _ (cell_lt HZ.out)).trans HZ.out)) | (have HZ2 := Lib.hid ((hbA.block wA.heap.size (by simp)).trans (heap_alloc_new wA (.cells #[.int .i64 0, .slice none 0 0] 34)))) | skip); clear hA hbA)
        | (go_at_call 11; refine (HIF.out _ _ _ (by repeat' (first | exact HBB.out | refine bl_al ?_ _ | refine bl_dr ?_)) (HNB.out.below (by repeat' (first | exact Below.refl _ _ | refine bl_al ?_ _ | refine bl_dr ?_))) (HEB.out.below (by repeat' (first | exact Below.refl _ _ | refine bl_al ?_ _ | refine bl_dr ?_)))).mono ?_; rintro e wC ⟨hi, hbA⟩; obtain ⟨kd, TA, tl, tc, av, no, rfl, hiA, hiT, hkd⟩ := hi.open; have HIT := Lib.hid hiT; have HKD := Lib.hid hkd; clear hkd; have HIA := Lib.hid hiA; have HBC : Hid (Below w1.heap.size w1 wC) := bl_tr (by repeat' (first | exact HBB.out | refine bl_al ?_ _ | refine bl_dr ?_)) hbA; have hsC := HBC.out.size; (first | (have HZ3 := Lib.hid ((hbA.block _ (cell_lt HZ2.out)).trans HZ2.out); have hq := cell_lt HZ2.out) | (have HZ3 := Lib.hid ((hbA.block wB.heap.size (by simp)).trans (heap_alloc_new wB (.cells #[.int .i64 0, .slice none 0 0] 34)))) | skip); (first | (have z0 := cell2_0 HZ3.out; have z1 := cell2_1 HZ3.out; have zf0 := cell3_f HZ3.out 0; have zf1 := cell3_f HZ3.out 1; have zl := cell_lt HZ3.out) | skip); clear hi hiA hiT hbA)
        | fail)
      all_goals (
        go_wp2_with (fail)
        go_meet
        exact ⟨by repeat' (first | exact HBC.out | refine bl_al ?_ _ | refine bl_set ?_ (by first | omega | (simp; done) | (simp; omega))), (by first | exact (HIA.out.below (bl_al (Below.refl _ _) _)).down (by omega) | exact ((HIA.out.set (by first | omega | (simp; done) | (simp; omega))).set (by first | omega | (simp; done) | (simp; omega))).down (by first | omega | (simp; done) | (simp; omega))), (by first | exact ⟨_, kd, TA, tl, tc, rfl, by first | omega | (simp; done) | (simp; omega), heap_alloc_new wC _, HKD.out, (HIT.out.below (bl_al (Below.refl _ _) _)).tyL⟩ | exact ⟨_, kd, TA, tl, tc, rfl, by first | omega | (simp; done) | (simp; omega), put2_box HZ3.out _ _, HKD.out, ((HIT.out.set (by first | omega | (simp; done) | (simp; omega))).set (by first | omega | (simp; done) | (simp; omega))).tyL⟩)⟩)
    case rest =>
      obtain ⟨hbc, hia, q, kd, TA, tl, tc, rfl, hq, hbx, hkd, htl⟩ := hcut
      have HBC := Lib.hid hbc
      have HIA := Lib.hid hia
      have hx0 := (hbc.block _ (cell_lt HX01.out)).trans HX01.out
      have hx1 := (hbc.block _ (cell_lt HX11.out)).trans HX11.out
      have hsc := hbc.size
      have x0 := cell2_0 hbx
      have x1 := cell2_1 hbx
      have lx := cell_lt hbx
      have HBX := Lib.hid hbx
      have HTL := Lib.hid htl
      have HY0 := Lib.hid hx0
      have HY1 := Lib.hid hx1
      have HBW := Lib.hid (HB1.out.trans (hbc.mono (by have := HS0.out; omega)))
      have HGC := Lib.hid (HG.out.below HBW.out hGl)
      have hia' := HIA.out
      clear hbc hia hx0 hx1 hbx htl
      cases hRR : R with
      | error x =>
        obtain ⟨c0, qs⟩ := x
        rw [hRR] at hia'
        obtain ⟨rfl, hc0, _⟩ := hia'
        have hcb : (c0 == 0) = false := by simp [hc0]
        have hcn : (c0 != 0) = true := by simp [hc0]
        have HDE : Hid (Calls Tryz.prog 29 #[.agg #[.int .i64 kd, .slice TA tl tc]] wc fun e w' => e = .returned (.tuple #[.int .i64 0, .int .i64 20]) ∧ Below wc.heap.size wc w') := by
          obtain ⟨d, hT⟩ := HTL.out
          rw [hRR] at hT
          exact Knd.depth_any d _ _ ty0 wc hT HGC.out.kd
        clear hRR hkd
        go_wp2_with (first
          | (go_at_call 29; refine HDE.out.mono ?_; rintro e w2 ⟨rfl, hb2⟩; have HB2 := Lib.hid (HBW.out.trans (hb2.mono HBW.out.size)); clear hb2)
          | (go_at_call 10; refine (HAWK.out _ HB2.out).mono ?_; rintro e w6 ⟨rfl, hb6⟩; have HB6 := Lib.hid (HB2.out.trans (hb6.mono HB2.out.size)); clear hb6)
          | fail)
        go_ret
        exact ⟨rfl, HB6.out⟩
      | ok t =>
        rw [hRR] at hia'
        obtain ⟨rfl, rfl⟩ := hia'
        have hr := HR.out
        rw [hRR] at hr
        have hck : (showW n).isSome = true := by
          cases hs : (showW n).isSome with
          | true => rfl
          | false => rw [hs] at hr; unfold infR at hr; cases hr
        rw [hck] at hr
        have hri : rightE it sides = true := by
          cases hs : rightE it sides with
          | true => rfl
          | false => unfold infR at hr; rw [if_pos rfl, hs] at hr; cases hr
        have hrs : resI it sides n = .ok t := by unfold infR at hr; rw [if_pos rfl, if_pos hri] at hr; exact hr
        have hrt : RT t := res_right hri hrs
        obtain ⟨dp, hdp⟩ := Option.isSome_iff_exists.1 hrt
        have HDP := Lib.hid hdp
        have HRS := Lib.hid hrs
        have HRT := Lib.hid hrt
        have HRI := Lib.hid hri
        have HDE : Hid (Calls Tryz.prog 29 #[.agg #[.int .i64 kd, .slice TA tl tc]] wc fun e w' => e = .returned (.tuple #[.int .i64 (dp : Int), .int .i64 0]) ∧ Below wc.heap.size wc w') := by
          obtain ⟨d, hT⟩ := HTL.out
          rw [hRR] at hT
          have h := Knd.depth_any d _ _ t wc hT HGC.out.kd
          rw [hdp] at h
          exact h
        have HTT : Hid (TyL wc (.agg #[.int .i64 kd, .slice TA tl tc]) t) := by
          have h := HTL.out
          rw [hRR] at h
          exact h
        have hkt : kd = t.kind := by rw [hkd, hRR]; rfl
        subst hkt
        clear hRR hkd hr hck hri hrs hrt hdp
        go_upto_region 7 with (first
          | (go_at_call 29; refine HDE.out.mono ?_; rintro e w2 ⟨rfl, hb2⟩; have HB2 := Lib.hid hb2; have hs2 := hb2.size; clear hb2)
          | fail)
        obtain ⟨dN, hNd⟩ := HNL.out
        have HND2 : Hid (∀ W, Below w.heap.size w W → NdAt W (fun k => k < w.heap.size) dN _ n) := fun W h => NdAt.move (fun b hb _ => ⟨hb, fun _ => World.cell?_of_block (h.block b hb)⟩) dN _ n hNd
        have HBW2 := Lib.hid (HBW.out.trans (HB2.out.mono HBW.out.size))
        have HZ0 := Lib.hid ((HB2.out.block _ (cell_lt HY0.out)).trans HY0.out)
        have HZ1 := Lib.hid ((HB2.out.block _ (cell_lt HY1.out)).trans HY1.out)
        have hl0 := cell_lt HZ0.out
        clear hNd
        go_wp2_with (fail)
        have HLS : Hid (LsI w2 w2.heap.size n 0 none 0 [] (w2.alloc (.cells #[.string ⟨#[108, 105, 115, 116]⟩, .int .i64 0, .string ⟨#[]⟩, .int .i64 0, .slice none 0 0, .slice none 0 0] 41))) :=
          ⟨(Below.refl _ w2).alloc (Nat.le_refl _) _, rfl, heap_alloc_new w2 _, World.ownsRow_nil _ _ _ _, fun i hi => by omega⟩
        go_loopw [60] (fun iv wr => ∃ (j cp : Nat) (AA : Option Addr) (cs : List Value), iv = .int .i64 (j : Int) ∧ j ≤ m + 1 ∧ Hid (LsI w2 w2.heap.size n j AA cp cs wr)) (fun iv _ => 100 - (intOf iv).toNat)
        case atStart => exact ⟨0, 0, none, [], rfl, Nat.zero_le _, HLS⟩
        case round =>
          obtain ⟨j, cp, AA, cs, rfl, hj, HI⟩ := hrel
          have hbr := HI.out.below
          have hGr := cell_lt HI.out.box
          have t5 := cell6_5 HI.out.box
          have hz0 := (hbr.block _ hl0).trans HZ0.out
          have z0 := cell6_0 hz0
          have z1 := cell6_1 hz0
          have z2 := cell6_2 hz0
          have z3 := cell6_3 hz0
          have z4 := cell6_4 hz0
          have z5 := cell6_5 hz0
          by_cases hlt : j < m + 1
          · have hjl : ((j : Int) < (m : Int) + 1) := by omega
            obtain ⟨i0, hi, hq0, hq1, hq2⟩ := info_parts info40
            have hcl : cs.length = j * 6 := HI.out.own.1
            have hwr : w.heap.size < wr.heap.size := by have := HBW2.out.size; omega
            have HOW := Lib.hid HI.out.own
            have HRR := Lib.hid HI.out.box
            have HBR : Hid (Below w.heap.size w wr) := HBW2.out.trans (hbr.mono HBW2.out.size)
            have hcf : ∀ (V : World) (W : World) (hb : Below W.heap.size W V), True := fun _ _ _ => trivial
            clear hz0 hcf
            go_upto_region 10 with (fail)
            go_region_law
              (first
              | (go_simp; go_at_call 12; refine (of_any dN 60 _ _ n _ HNAR.out (HND2.out _ (by repeat' (first | exact HBR.out | refine Below.drew ?_)))).mono ?_; rintro e w3 ⟨⟨v3, rfl, hT3⟩, hb3⟩; obtain ⟨A3, c3, K3, k3, rfl⟩ := hT3.form; have hb3' : Below wr.heap.size wr w3 := (Below.refl _ _).drew.trans hb3; have HT3 := Lib.hid hT3; have hs3 := hb3'.size; have hG3 : w2.heap.size < w3.heap.size := (by omega); have h83 : w.heap.size < w3.heap.size := (by omega); have hbx3 : w3.heap[w2.heap.size]? = some (.cells #[.string ⟨#[108, 105, 115, 116]⟩, .int .i64 0, .string ⟨#[]⟩, .int .i64 0, .slice none 0 0, .slice AA j cp] 41 (0, 0)) := (hb3'.block _ hGr).trans HRR.out; have q5 := cell6_5 hbx3; have HOW3 : Hid (w3.ownsRow (w2.heap.size + 1) 41 6 (.slice AA j cp) j cs) := HOW.out.kept (row := none) ⟨hb3'.os, hb3'.tape, hb3'.output, by omega, fun k hk _ => hb3'.block k hk⟩ (by cases AA <;> simp [Value.ownBlock]))
              | (refine step_append_lies _ (by rfl) _ _ _ (by rfl) (w2.heap.size + 1) 41 i0 (.agg #[.string ⟨#[]⟩, .int .i64 0, .string ⟨#[]⟩, .int .i64 0, .slice none 0 0, .slice none 0 0]) 6 96 Tryz.underlying39 hi hq0 hq1 hq2 rfl (by omega) (.slice AA j cp) j cs (by rfl) (HOW3.out.alloc _) ⟨w3.heap.size, 0, none⟩ 1 1 [.string ⟨n.op.toArray⟩, .int .i64 n.int, .string ⟨n.text.toArray⟩, .int .i64 n.ty.kind, .slice A3 n.ty.args.length c3, .slice K3 n.kids.length k3] (by rfl) (by rfl) (World.news_of_block (cs := #[.string ⟨n.op.toArray⟩, .int .i64 n.int, .string ⟨n.text.toArray⟩, .int .i64 n.ty.kind, .slice A3 n.ty.args.length c3, .slice K3 n.kids.length k3]) (t := 41) (fr := (0, 0)) (heap_alloc_new w3 _)) (by simp [Value.oneCell']) (by omega) (by unfold maxLen; omega) (by omega) (by simp; omega) (w3.heap.size + 1) (by simp) ?_; intro gg cap w7 hown7 hg7 hat7 hlt7; have hP7 : w7.heap[w2.heap.size]? = some (.cells #[.string ⟨#[108, 105, 115, 116]⟩, .int .i64 0, .string ⟨#[]⟩, .int .i64 0, .slice none 0 0, .slice AA j cp] 41 (0, 0)) := (hg7.block _ (by simp; omega) (fun e => by have := (HOW.out.lt _ e.symm).1; omega)).trans ((Below.heap_alloc w3 _ _ (by omega)).trans hbx3); have q7 := cell6_5 hP7; have qf7 := frozN (i := 5) hP7; have hl7 := cell_lt hP7)
              | fail)
            all_goals (
              have HI8 := Lib.hid (LsI.next HI.out hb3' HT3.out hg7 hown7 (hat7.imp id fun h => by simpa using h))
              clear hg7 hown7 hat7 hb3' hbx3 hP7
              go_wp2_with (fail)
              go_roundw
              case rel => exact ⟨j + 1, cap, some ⟨gg, 0, none⟩, _, by go_num, by omega, HI8⟩
              case measure => simp [intOf]; omega)
          · obtain rfl : j = m + 1 := by omega
            have hND := HI.out.made
            have HLN := Lib.hid hND
            have HBX5 := Lib.hid HI.out.box
            have t0 := cell6_0 HI.out.box
            have t1 := cell6_1 HI.out.box
            have t2 := cell6_2 HI.out.box
            have t3 := cell6_3 HI.out.box
            have t4 := cell6_4 HI.out.box
            have HBR : Hid (Below w.heap.size w wr) := HBW2.out.trans (hbr.mono HBW2.out.size)
            have HBR2 : Hid (Below w2.heap.size w2 wr) := hbr
            have hsr := hbr.size
            clear hND hz0
            go_upto_region 13 with (fail)
            have hb5 : Below wr.heap.size wr ((wr.alloc (.cells #[.string ⟨#[108, 105, 115, 116]⟩, .int .i64 0, .string ⟨#[]⟩, .int .i64 0, .slice none 0 0, .slice AA (m + 1) cp] 41)).alloc (.cells #[.string ⟨#[108, 101, 110]⟩, .int .i64 0, .string ⟨#[]⟩, .int .i64 0, .slice none 0 0, .slice (some ⟨wr.heap.size, 0, none⟩) 1 1] 41)) := bl_al (bl_al (Below.refl _ _) _) _
            have hlong : NdL ((wr.alloc (.cells #[.string ⟨#[108, 105, 115, 116]⟩, .int .i64 0, .string ⟨#[]⟩, .int .i64 0, .slice none 0 0, .slice AA (m + 1) cp] 41)).alloc (.cells #[.string ⟨#[108, 101, 110]⟩, .int .i64 0, .string ⟨#[]⟩, .int .i64 0, .slice none 0 0, .slice (some ⟨wr.heap.size, 0, none⟩) 1 1] 41)) (.agg #[.string ⟨#[108, 101, 110]⟩, .int .i64 0, .string ⟨#[]⟩, .int .i64 0, .slice none 0 0, .slice (some ⟨wr.heap.size, 0, none⟩) 1 1]) (ndLen (ndL n (m + 1))) := by
              have hblk := alloc_old (o := .cells #[.string ⟨#[108, 101, 110]⟩, .int .i64 0, .string ⟨#[]⟩, .int .i64 0, .slice none 0 0, .slice (some ⟨wr.heap.size, 0, none⟩) 1 1] 41) (heap_alloc_new wr (.cells #[.string ⟨#[108, 105, 115, 116]⟩, .int .i64 0, .string ⟨#[]⟩, .int .i64 0, .slice none 0 0, .slice AA (m + 1) cp] 41))
              refine kids_made (op := [108, 101, 110]) (ks := [ndL n (m + 1)]) (by simp; omega) (by simp) fun j a ha => ?_
              match j, ha with
              | 0, ha => injection ha with ha; subst ha; exact kid_of hblk rfl rfl rfl rfl rfl rfl (HLN.out.below hb5)
              | j + 1, ha => simp at ha
            have hlb : ((wr.alloc (.cells #[.string ⟨#[108, 105, 115, 116]⟩, .int .i64 0, .string ⟨#[]⟩, .int .i64 0, .slice none 0 0, .slice AA (m + 1) cp] 41)).alloc (.cells #[.string ⟨#[108, 101, 110]⟩, .int .i64 0, .string ⟨#[]⟩, .int .i64 0, .slice none 0 0, .slice (some ⟨wr.heap.size, 0, none⟩) 1 1] 41)).heap[wr.heap.size + 1]? = some (.cells #[.string ⟨#[108, 101, 110]⟩, .int .i64 0, .string ⟨#[]⟩, .int .i64 0, .slice none 0 0, .slice (some ⟨wr.heap.size, 0, none⟩) 1 1] 41 (0, 0)) := heap_new_at (by simp)
            generalize (wr.alloc (.cells #[.string ⟨#[108, 105, 115, 116]⟩, .int .i64 0, .string ⟨#[]⟩, .int .i64 0, .slice none 0 0, .slice AA (m + 1) cp] 41)).alloc (.cells #[.string ⟨#[108, 101, 110]⟩, .int .i64 0, .string ⟨#[]⟩, .int .i64 0, .slice none 0 0, .slice (some ⟨wr.heap.size, 0, none⟩) 1 1] 41) = W5 at *
            have HLL := Lib.hid hlong
            have HL5 := Lib.hid (HLN.out.below hb5)
            have HLB := Lib.hid hlb
            have HOB := Lib.hid ((hb5.block _ hGr).trans HBX5.out)
            have HEW := Lib.hid (((hb5.block _ (cell_lt ((hbr.block _ (cell_lt HZ1.out)).trans HZ1.out))).trans ((hbr.block _ (cell_lt HZ1.out)).trans HZ1.out)))
            have HB5 := Lib.hid (bl_tr HBR2.out hb5)
            have HBW5 := Lib.hid (HBR.out.trans (hb5.mono HBR.out.size))
            have hs5 := hb5.size
            have hlbl := cell_lt hlb
            have g0 := cell6_0 hlb
            have g1 := cell6_1 hlb
            have g2 := cell6_2 hlb
            have g3 := cell6_3 hlb
            have g4 := cell6_4 hlb
            have g5 := cell6_5 hlb
            have HRG2 := Lib.hid (show RgN 24 (ndL n (m + 1)) from ⟨by show (-9223372036854775808 : Int) ≤ 0; decide, by show (0 : Int) ≤ 9223372036854775807; decide, Nat.zero_le _, fun k hk => by
              obtain rfl := List.eq_of_mem_replicate hk
              exact few_rg 23 din 60 _ HIN.out HFEW.out⟩)
            have HRG3 := Lib.hid (show RgN 24 (ndLen (ndL n (m + 1))) from ⟨by show (-9223372036854775808 : Int) ≤ 0; decide, by show (0 : Int) ≤ 9223372036854775807; decide, Nat.zero_le _, fun k hk => by
              rcases List.mem_cons.1 hk with rfl | hk
              · exact ⟨by show (-9223372036854775808 : Int) ≤ 0; decide, by show (0 : Int) ≤ 9223372036854775807; decide, Nat.zero_le _, fun k hk => by
                  obtain rfl := List.eq_of_mem_replicate hk
                  exact few_rg 22 din 60 _ HIN.out HFEW.out⟩
              · cases hk⟩)
            have HG5 := Lib.hid (HG.out.below HBW5.out hGl)
            clear hb5 hlong hlb t0 t1 t2 t3 t4 t5 z0 z1 z2 z3 z4 z5
            go_wp2_with (fail)
            obtain ⟨dO, hNO⟩ := HLL.out
            refine (exprCheck_any dO _ _ (ndLen (ndL n (m + 1))) W5 hNO HRG3.out HG5.out).mono ?_
            rintro e w6 ⟨hck, hb6⟩
            have HB6 := Lib.hid hb6
            have HB6W := Lib.hid (HBW5.out.trans (hb6.mono HBW5.out.size))
            have hs6 := hb6.size
            clear hb6 hNO g0 g1 g2 g3 g4 g5
            cases hsn : showW (ndLen (ndL n (m + 1))) with
            | none =>
              rw [hsn] at hck
              subst hck
              clear hsn
              go_wp2_with (fail)
              refine (HAWK.out _ HB6W.out).mono ?_
              rintro e w8 ⟨rfl, hb8⟩
              have HB8 := Lib.hid (HB6W.out.trans (hb8.mono HB6W.out.size))
              clear hb8
              go_wp2_with (fail)
              go_ret
              exact ⟨rfl, HB8.out⟩
            | some x =>
            rw [hsn] at hck
            subst hck
            have hshl : (showW (ndL n (m + 1))).isSome = true := (sizes_pure hsn).1 (ndL n (m + 1)) (by simp [ndLen, Nd.kids])
            have hoklist : InfOk FOk 23 (ndL n (m + 1)) := (show_inf (n := ndLen (ndL n (m + 1))) (by rw [hsn]; rfl)).2.2.2.2.2.2 0 _ rfl
            have hokn : InfOk FOk 23 n := (show_inf hshl).2.2.2.2.2.2 0 n rfl
            obtain ⟨hre, hrl⟩ := list_ends (m := m) HRI.out hoklist hokn HRS.out HRT.out HDP.out
            obtain ⟨RE, hRE⟩ : ∃ RE, (if dp = 6 then Except.error (50, []) else Except.ok t : Except (Int × List Int) Ty) = RE := ⟨_, rfl⟩
            obtain ⟨RL, hRL⟩ : ∃ RL, (if dp = 6 then Except.error (50, [0]) else Except.ok (mkT 2) : Except (Int × List Int) Ty) = RL := ⟨_, rfl⟩
            rw [hRE] at hre
            rw [hRL] at hrl
            have HRE := Lib.hid hRE
            have HRL := Lib.hid hRL
            have HEM : Hid (∀ (W : World) (v u : Value), Below w6.heap.size w6 W → NdL W v (ndL n (m + 1)) → EvL W u it sides → Calls Tryz.prog 14 #[v, u] W fun e w' => InfL RE W.heap.size w' e ∧ Below W.heap.size W w') := fun W v u h h1 h2 => by
              have := emits_law h1 h2 HRG2.out (HG.out.below (HB6W.out.trans (h.mono HB6W.out.size)) hGl)
              rw [hshl, hre] at this
              exact this
            have HLO := Lib.hid (HL5.out.below HB6.out)
            have HLG := Lib.hid (HLL.out.below HB6.out)
            have HOX := Lib.hid ((HB6.out.block _ (cell_lt HOB.out)).trans HOB.out)
            have HLX := Lib.hid ((HB6.out.block _ (cell_lt HLB.out)).trans HLB.out)
            have HEw6 := Lib.hid ((HB6.out.block _ (cell_lt HEW.out)).trans HEW.out)
            have HW26 := Lib.hid (bl_tr HB5.out HB6.out)
            have HW16 := Lib.hid (bl_tr (bl_tr HBC.out HB2.out) HW26.out)
            have hrs' : infR (showW (ndLen (ndL n (m + 1)))).isSome it sides (resI it sides (ndLen (ndL n (m + 1)))) = RL := by rw [hsn]; exact hrl
            have HRLL := Lib.hid hrs'
            have hg6 := HW26.out.size
            have hg7 := HOX.out
            clear hsn hre hrl hRE hRL hshl hoklist hokn hrs' hg7
            go_upto_region 15 with (fail)
            go_cut [14, 15, 16] from 77 to 84 (fun s1 s2 s3 wx => Below w6.heap.size w6 wx ∧ InfA RE w6.heap.size wx s2 s3 ∧ BoxA RE w6.heap.size wx s1)
            case first =>
              have n0 := cell6_0 HOX.out
              have n1 := cell6_1 HOX.out
              have n2 := cell6_2 HOX.out
              have n3 := cell6_3 HOX.out
              have n4 := cell6_4 HOX.out
              have n5 := cell6_5 HOX.out
              have m0 := cell3_0 HEw6.out
              have m1 := cell3_1 HEw6.out
              have m2 := cell3_2 HEw6.out
              have l0 := cell_lt HOX.out
              have l1 := cell_lt HEw6.out
              go_region_held3 (fun W => W.cell? ⟨w2.heap.size, 0, none⟩ = some (.string ⟨#[108, 105, 115, 116]⟩) ∧ W.cell? ⟨w2.heap.size, 1, none⟩ = some (.int .i64 0) ∧ W.cell? ⟨w2.heap.size, 2, none⟩ = some (.string ⟨#[]⟩) ∧ W.cell? ⟨w2.heap.size, 3, none⟩ = some (.int .i64 0) ∧ W.cell? ⟨w2.heap.size, 4, none⟩ = some (.slice none 0 0) ∧ W.cell? ⟨w2.heap.size, 5, none⟩ = some (.slice AA (m + 1) cp) ∧ W.cell? ⟨w.heap.size + 1, 0, none⟩ = some (.int .i64 it.kind) ∧ W.cell? ⟨w.heap.size + 1, 1, none⟩ = some (.slice EA it.args.length ek) ∧ W.cell? ⟨w.heap.size + 1, 2, none⟩ = some (.slice SA sides.length sk) ∧ Below w6.heap.size w6 W)
                (exact keep9b HOX.out HEw6.out (by repeat' (first | exact HBC3.out | exact HBB3.out | exact Below.refl _ _ | refine bl_al ?_ _ | refine bl_dr ?_ | refine bl_set ?_ (by first | omega | (simp; done) | (simp; omega)))))
                (first
                | (go_at_call 13; refine (HEV.out _ (bl_tr HW16.out (by repeat' (first | exact Below.refl _ _ | refine bl_al ?_ _ | refine bl_dr ?_)))).mono ?_; rintro e wB ⟨⟨vB, rfl, hA⟩, hbA⟩; have HBB3 : Hid (Below w6.heap.size w6 wB) := bl_tr (by repeat' (first | exact Below.refl _ _ | refine bl_al ?_ _ | refine bl_dr ?_)) hbA; have HNB := Lib.hid (HLO.out.below HBB3.out); have HEB := Lib.hid hA; have hsB := HBB3.out.size; (first | (have HZ2 := Lib.hid ((hbA.block w6.heap.size (by simp)).trans (heap_alloc_new w6 (.cells #[.int .i64 0, .slice none 0 0] 34)))) | skip); clear hA hbA)
                | (go_at_call 14; refine (HEM.out _ _ _ (by repeat' (first | exact HBB3.out | refine bl_al ?_ _ | refine bl_dr ?_)) (HNB.out.below (by repeat' (first | exact Below.refl _ _ | refine bl_al ?_ _ | refine bl_dr ?_))) (HEB.out.below (by repeat' (first | exact Below.refl _ _ | refine bl_al ?_ _ | refine bl_dr ?_)))).mono ?_; rintro e wC ⟨hi, hbA⟩; obtain ⟨kd, TA', tl', tc', av, no, rfl, hiA, hiT, hkd⟩ := hi.open; have HIC := Lib.hid hiA; have HIT := Lib.hid hiT; have HKD := Lib.hid hkd; clear hkd; have HBC3 : Hid (Below w6.heap.size w6 wC) := bl_tr (by repeat' (first | exact HBB3.out | refine bl_al ?_ _ | refine bl_dr ?_)) hbA; have hsC := HBC3.out.size; (first | (have HZ3 := Lib.hid ((hbA.block _ (cell_lt HZ2.out)).trans HZ2.out); have hq := cell_lt HZ2.out) | (have HZ3 := Lib.hid ((hbA.block wB.heap.size (by simp)).trans (heap_alloc_new wB (.cells #[.int .i64 0, .slice none 0 0] 34)))) | skip); (first | (have z0 := cell2_0 HZ3.out; have z1 := cell2_1 HZ3.out; have zf0 := cell3_f HZ3.out 0; have zf1 := cell3_f HZ3.out 1; have zl := cell_lt HZ3.out) | skip); clear hi hiA hiT hbA)
                | fail)
              all_goals (
                go_wp2_with (fail)
                go_meet
                exact ⟨by repeat' (first | exact HBC3.out | refine bl_al ?_ _ | refine bl_set ?_ (by first | omega | (simp; done) | (simp; omega))), (by first | exact (HIC.out.below (bl_al (Below.refl _ _) _)).down (by omega) | exact ((HIC.out.set (by first | omega | (simp; done) | (simp; omega))).set (by first | omega | (simp; done) | (simp; omega))).down (by first | omega | (simp; done) | (simp; omega))), (by first | exact ⟨_, kd, TA', tl', tc', rfl, (by first | omega | (simp; done) | (simp; omega)), heap_alloc_new wC _, HKD.out, (HIT.out.below (bl_al (Below.refl _ _) _)).tyL⟩ | exact ⟨_, kd, TA', tl', tc', rfl, (by first | omega | (simp; done) | (simp; omega)), put2_box HZ3.out _ _, HKD.out, ((HIT.out.set (by first | omega | (simp; done) | (simp; omega))).set (by first | omega | (simp; done) | (simp; omega))).tyL⟩)⟩)
            case rest =>
            obtain ⟨hb9, hi9, hx9⟩ := hcut
            have HB9 := Lib.hid hb9
            have HI9 := Lib.hid hi9
            have HX9 := Lib.hid hx9
            have HLG9 := Lib.hid (HLG.out.below hb9)
            have HLX9 := Lib.hid ((hb9.block _ (cell_lt HLX.out)).trans HLX.out)
            have HEw9 := Lib.hid ((hb9.block _ (cell_lt HEw6.out)).trans HEw6.out)
            have hs9 := hb9.size
            clear hb9 hi9 hx9
            have HW19 := Lib.hid (bl_tr HW16.out HB9.out)
            have HW29 := Lib.hid (bl_tr HW26.out HB9.out)
            have HBW9 := Lib.hid (HB6W.out.trans (HB9.out.mono HB6W.out.size))
            have HIL : Hid (∀ (W : World) (v u : Value), Below wc.heap.size wc W → NdL W v (ndLen (ndL n (m + 1))) → EvL W u it sides → Calls Tryz.prog 11 #[v, u] W fun e w' => InfL RL W.heap.size w' e ∧ Below W.heap.size W w') := fun W v u h h1 h2 => by
              have := infer_law h1 h2 HRG3.out (HG.out.below (HBW9.out.trans (h.mono HBW9.out.size)) hGl)
              rw [HRLL.out] at this
              exact this
            have HEwc := HEw9
            have HBXN := Lib.hid ((HW29.out.block _ (by have := HB2.out.size; have := cell_lt HBX.out; omega)).trans ((HB2.out.block _ (cell_lt HBX.out)).trans HBX.out))
            have HTTN := Lib.hid ((HTT.out.below HB2.out).below HW29.out)
            go_upto_region 16 with (fail)
            go_cut [17, 18, 19] from 85 to 92 (fun s1 s2 s3 wx => Below wc.heap.size wc wx ∧ InfA RL wc.heap.size wx s2 s3 ∧ BoxA RL wc.heap.size wx s1)
            case first =>
              have n0 := cell6_0 HLX9.out
              have n1 := cell6_1 HLX9.out
              have n2 := cell6_2 HLX9.out
              have n3 := cell6_3 HLX9.out
              have n4 := cell6_4 HLX9.out
              have n5 := cell6_5 HLX9.out
              have m0 := cell3_0 HEwc.out
              have m1 := cell3_1 HEwc.out
              have m2 := cell3_2 HEwc.out
              have l0 := cell_lt HLX9.out
              have l1 := cell_lt HEwc.out
              go_region_held3 (fun W => W.cell? ⟨wr.heap.size + 1, 0, none⟩ = some (.string ⟨#[108, 101, 110]⟩) ∧ W.cell? ⟨wr.heap.size + 1, 1, none⟩ = some (.int .i64 0) ∧ W.cell? ⟨wr.heap.size + 1, 2, none⟩ = some (.string ⟨#[]⟩) ∧ W.cell? ⟨wr.heap.size + 1, 3, none⟩ = some (.int .i64 0) ∧ W.cell? ⟨wr.heap.size + 1, 4, none⟩ = some (.slice none 0 0) ∧ W.cell? ⟨wr.heap.size + 1, 5, none⟩ = some (.slice (some ⟨wr.heap.size, 0, none⟩) 1 1) ∧ W.cell? ⟨w.heap.size + 1, 0, none⟩ = some (.int .i64 it.kind) ∧ W.cell? ⟨w.heap.size + 1, 1, none⟩ = some (.slice EA it.args.length ek) ∧ W.cell? ⟨w.heap.size + 1, 2, none⟩ = some (.slice SA sides.length sk) ∧ Below wc.heap.size wc W)
                (exact keep9b HLX9.out HEwc.out (by repeat' (first | exact HBC3.out | exact HBB3.out | exact Below.refl _ _ | refine bl_al ?_ _ | refine bl_dr ?_ | refine bl_set ?_ (by first | omega | (simp; done) | (simp; omega)))))
                (first
                | (go_at_call 13; refine (HEV.out _ (bl_tr HW19.out (by repeat' (first | exact Below.refl _ _ | refine bl_al ?_ _ | refine bl_dr ?_)))).mono ?_; rintro e wB ⟨⟨vB, rfl, hA⟩, hbA⟩; have HBB3 : Hid (Below wc.heap.size wc wB) := bl_tr (by repeat' (first | exact Below.refl _ _ | refine bl_al ?_ _ | refine bl_dr ?_)) hbA; have HNB := Lib.hid (HLG9.out.below HBB3.out); have HEB := Lib.hid hA; have hsB := HBB3.out.size; (first | (have HZ2 := Lib.hid ((hbA.block wc.heap.size (by simp)).trans (heap_alloc_new wc (.cells #[.int .i64 0, .slice none 0 0] 34)))) | skip); clear hA hbA)
                | (go_at_call 11; refine (HIL.out _ _ _ (by repeat' (first | exact HBB3.out | refine bl_al ?_ _ | refine bl_dr ?_)) (HNB.out.below (by repeat' (first | exact Below.refl _ _ | refine bl_al ?_ _ | refine bl_dr ?_))) (HEB.out.below (by repeat' (first | exact Below.refl _ _ | refine bl_al ?_ _ | refine bl_dr ?_)))).mono ?_; rintro e wC ⟨hi, hbA⟩; obtain ⟨kd, TA', tl', tc', av, no, rfl, hiA, hiT, hkd⟩ := hi.open; have HIC := Lib.hid hiA; have HIT := Lib.hid hiT; have HKD := Lib.hid hkd; clear hkd; have HBC3 : Hid (Below wc.heap.size wc wC) := bl_tr (by repeat' (first | exact HBB3.out | refine bl_al ?_ _ | refine bl_dr ?_)) hbA; have hsC := HBC3.out.size; (first | (have HZ3 := Lib.hid ((hbA.block _ (cell_lt HZ2.out)).trans HZ2.out); have hq := cell_lt HZ2.out) | (have HZ3 := Lib.hid ((hbA.block wB.heap.size (by simp)).trans (heap_alloc_new wB (.cells #[.int .i64 0, .slice none 0 0] 34)))) | skip); (first | (have z0 := cell2_0 HZ3.out; have z1 := cell2_1 HZ3.out; have zf0 := cell3_f HZ3.out 0; have zf1 := cell3_f HZ3.out 1; have zl := cell_lt HZ3.out) | skip); clear hi hiA hiT hbA)
                | fail)
              all_goals (
                go_wp2_with (fail)
                go_meet
                exact ⟨by repeat' (first | exact HBC3.out | refine bl_al ?_ _ | refine bl_set ?_ (by first | omega | (simp; done) | (simp; omega))), (by first | exact (HIC.out.below (bl_al (Below.refl _ _) _)).down (by omega) | exact ((HIC.out.set (by first | omega | (simp; done) | (simp; omega))).set (by first | omega | (simp; done) | (simp; omega))).down (by first | omega | (simp; done) | (simp; omega))), (by first | exact ⟨_, kd, TA', tl', tc', rfl, (by first | omega | (simp; done) | (simp; omega)), heap_alloc_new wC _, HKD.out, (HIT.out.below (bl_al (Below.refl _ _) _)).tyL⟩ | exact ⟨_, kd, TA', tl', tc', rfl, (by first | omega | (simp; done) | (simp; omega)), put2_box HZ3.out _ _, HKD.out, ((HIT.out.set (by first | omega | (simp; done) | (simp; omega))).set (by first | omega | (simp; done) | (simp; omega))).tyL⟩)⟩)
            case rest =>
            obtain ⟨hb9, hi9, hx9⟩ := hcut
            have HBF := Lib.hid (HBW9.out.trans (hb9.mono HBW9.out.size))
            have hiE := HI9.out.below hb9
            have hiL := hi9
            obtain ⟨q1, kd1, A1, l1', c1, rfl, hq1', hb1', hk1, ht1⟩ := HX9.out
            obtain ⟨q2, kd2, A2, l2', c2, rfl, hq2', hb2', hk2, ht2⟩ := hx9
            have hc1 := (hb9.block _ (cell_lt hb1')).trans hb1'
            have hcq := (hb9.block _ (cell_lt HBXN.out)).trans HBXN.out
            have HT1 := Lib.hid (ht1.below hb9)
            have HTT2 := Lib.hid (HTTN.out.below hb9)
            have HGF := Lib.hid (HG.out.below HBF.out hGl)
            have a0 := cell2_0 hcq
            have a1 := cell2_1 hcq
            have a2 := cell_lt hcq
            have b0 := cell2_0 hc1
            have b1 := cell2_1 hc1
            have b2 := cell_lt hc1
            have d0 := cell2_0 hb2'
            have d2 := cell_lt hb2'
            by_cases h6 : dp = 6
            · have e1 := HRE.out
              have e2 := HRL.out
              rw [if_pos h6] at e1 e2
              rw [← e1] at hiE
              rw [← e2] at hiL
              obtain ⟨rfl, _, _⟩ := hiE
              obtain ⟨rfl, _, _⟩ := hiL
              subst h6
              clear e1 e2 hb9 hi9 hb1' hk1 ht1 hb2' hk2 ht2 hc1 hcq
              go_wp2_with (go_at_call 10; refine (HAWK.out _ HBF.out).mono ?_; rintro e w8 ⟨rfl, hb8⟩; have HB8 := Lib.hid (HBF.out.trans (hb8.mono HBF.out.size)); clear hb8)
              go_ret
              exact ⟨rfl, HB8.out⟩
            · have h6b : ((dp : Int) == 6) = false := by
                have : ¬ (dp : Int) = 6 := by omega
                simpa using this
              have e1 := HRE.out
              have e2 := HRL.out
              rw [if_neg h6] at e1 e2
              rw [← e1] at hiE hk1
              rw [← e2] at hiL hk2
              obtain ⟨rfl, rfl⟩ := hiE
              obtain ⟨rfl, rfl⟩ := hiL
              obtain rfl : kd2 = 2 := hk2
              have HSM2 : Hid (Calls Tryz.prog 25 #[.agg #[.int .i64 t.kind, .slice TA tl tc], .agg #[.int .i64 kd1, .slice A1 l1' c1]] wc fun e w' => e = .returned (.bool true) ∧ Below wc.heap.size wc w') := by
                obtain ⟨x1, h1⟩ := HTT2.out
                obtain ⟨x2, h2⟩ := HT1.out
                rw [← e1] at h2
                have h := Knd.same_any x1 x2 _ _ _ _ t t wc h1 h2 HGF.out.kd
                rw [rt_same HRT.out] at h
                exact h
              clear e1 e2 hb9 hi9 hb1' hk1 ht1 ht2 hc1 hcq
              have HD2 := Lib.hid hb2'
              clear hb2'
              go_wp2_with (first
                | (go_at_call 25; refine HSM2.out.mono ?_; rintro e w7 ⟨rfl, hb7⟩; have HB7 : Hid (Below w.heap.size w w7) := HBF.out.trans (hb7.mono HBF.out.size); have hd7 := (hb7.block _ (cell_lt HD2.out)).trans HD2.out; have f0 := cell2_0 hd7; have f1 := cell_lt hd7; clear hb7 hd7 a0 a1 b0 b1 d0)
                | (go_at_call 10; refine (HAWK.out _ HB7.out).mono ?_; rintro e w8 ⟨rfl, hb8⟩; have HB8 := Lib.hid (HB7.out.trans (hb8.mono HB7.out.size)); clear hb8)
                | fail)
              go_ret
              exact ⟨rfl, HB8.out⟩
end Go.Proofs.YtaecndmncpfpfaaGreatDoor.L5
