import Derived.Test.YtaecndmncpfpfaaGreatDoorGh
import Derived.Test.YtaecndmncpfpfaaGreatDoorLh
import Derived.Test.YtaecndmncpfpfaaGreatDoorSw
import Derived.Test.YtaecndmncpfpfaaGreatDoorEm
set_option linter.unusedVariables false
set_option linter.unusedSimpArgs false
namespace Go.Proofs.YtaecndmncpfpfaaGreatDoor.L5
open Go.RowKit
set_option maxRecDepth 100000 in
set_option maxHeartbeats 40000000 in
theorem lets_any (w : World) (c x : Nd) (it : Ty) (sides : List Ty) (Ac Kc Ax Kx EA SA : Option Addr) (cc kc cx kx ek sk : Nat) (dc dx : Nat) (hC : NdL w (.agg #[.string ⟨c.op.toArray⟩, .int .i64 c.int, .string ⟨c.text.toArray⟩, .int .i64 c.ty.kind, .slice Ac c.ty.args.length cc, .slice Kc c.kids.length kc]) c) (hX : NdL w (.agg #[.string ⟨x.op.toArray⟩, .int .i64 x.int, .string ⟨x.text.toArray⟩, .int .i64 x.ty.kind, .slice Ax x.ty.args.length cx, .slice Kx x.kids.length kx]) x) (hE : EvL w (.agg #[.int .i64 it.kind, .slice EA it.args.length ek, .slice SA sides.length sk]) it sides) (hIc : IntN dc c) (hIx : IntN dx x) (hG : Gl w) :
    Calls Tryz.prog 5 #[.agg #[.string ⟨c.op.toArray⟩, .int .i64 c.int, .string ⟨c.text.toArray⟩, .int .i64 c.ty.kind, .slice Ac c.ty.args.length cc, .slice Kc c.kids.length kc], .agg #[.string ⟨x.op.toArray⟩, .int .i64 x.int, .string ⟨x.text.toArray⟩, .int .i64 x.ty.kind, .slice Ax x.ty.args.length cx, .slice Kx x.kids.length kx], .agg #[.int .i64 it.kind, .slice EA it.args.length ek, .slice SA sides.length sk]] w fun e w' => e = .returned (.bool true) ∧ Below w.heap.size w w' := by
 have hGl := hG.lt2
 have HG := Lib.hid hG
 have HIc := Lib.hid hIc
 have HIx := Lib.hid hIx
 have HAWK := Lib.hid (fun (W : World) (h : Below w.heap.size w W) => awake_any W (hG.below h hGl))
 obtain ⟨W0, hW0⟩ : ∃ W0, ((w.alloc (.cells #[.string ⟨c.op.toArray⟩, .int .i64 c.int, .string ⟨c.text.toArray⟩, .int .i64 c.ty.kind, .slice Ac c.ty.args.length cc, .slice Kc c.kids.length kc] 27)).alloc (.cells #[.string ⟨x.op.toArray⟩, .int .i64 x.int, .string ⟨x.text.toArray⟩, .int .i64 x.ty.kind, .slice Ax x.ty.args.length cx, .slice Kx x.kids.length kx] 27)).alloc (.cells #[.int .i64 it.kind, .slice EA it.args.length ek, .slice SA sides.length sk] 29) = W0 := ⟨_, rfl⟩
 have hbx : Bxs W0 w.heap.size (w.heap.size + 1) (w.heap.size + 1) (w.heap.size + 1 + 1) #[.string ⟨c.op.toArray⟩, .int .i64 c.int, .string ⟨c.text.toArray⟩, .int .i64 c.ty.kind, .slice Ac c.ty.args.length cc, .slice Kc c.kids.length kc] #[.string ⟨x.op.toArray⟩, .int .i64 x.int, .string ⟨x.text.toArray⟩, .int .i64 x.ty.kind, .slice Ax x.ty.args.length cx, .slice Kx x.kids.length kx] #[.string ⟨x.op.toArray⟩, .int .i64 x.int, .string ⟨x.text.toArray⟩, .int .i64 x.ty.kind, .slice Ax x.ty.args.length cx, .slice Kx x.kids.length kx] #[.int .i64 it.kind, .slice EA it.args.length ek, .slice SA sides.length sk] := by
  rw [← hW0]
  exact ⟨alloc_old (alloc_old (heap_alloc_new w _)), alloc_old (heap_new_at (by simp)), alloc_old (heap_new_at (by simp)), heap_new_at (by simp)⟩
 have hB0 : Below w.heap.size w W0 := by
  rw [← hW0]
  exact bl_al (bl_al (bl_al (Below.refl _ _) _) _) _
 have HW0 := Lib.hid hW0
 have HCL1 := Lib.hid (hC.below hB0)
 have HXL1 := Lib.hid (hX.below hB0)
 have HEL1 := Lib.hid (hE.below hB0)
 have HB1 := Lib.hid hB0
 have HBX := Lib.hid hbx
 clear hW0 hB0 hC hX hE hIc hIx hbx hG
 go_enter Tryz.func5, Tryz.ntmps5
 go_upto_region 1 with (fail)
 rw [HW0.out]
 clear HW0
 have n0 := cell6_0 HBX.out.b1
 have n1 := cell6_1 HBX.out.b1
 have n2 := cell6_2 HBX.out.b1
 have n3 := cell6_3 HBX.out.b1
 have n4 := cell6_4 HBX.out.b1
 have n5 := cell6_5 HBX.out.b1
 have nl := cell_lt HBX.out.b1
 have m0 := cell3_0 HBX.out.b4
 have m1 := cell3_1 HBX.out.b4
 have m2 := cell3_2 HBX.out.b4
 have ml := cell_lt HBX.out.b4
 go_wp2_with (fail)
 refine (small_law HCL1.out HEL1.out).mono ?_
 rintro e V1 ⟨⟨b1, rfl, hf1⟩, hb⟩
 have HBX := Lib.hid (HBX.out.below hb)
 have HCL1 := Lib.hid (HCL1.out.below hb)
 have HXL1 := Lib.hid (HXL1.out.below hb)
 have HEL1 := Lib.hid (HEL1.out.below hb)
 have HBA := Lib.hid (HB1.out.trans (hb.mono HB1.out.size))
 clear hb n0 n1 n2 n3 n4 n5 nl m0 m1 m2 ml
 cases b1 with
 | false =>
   clear hf1
   go_wp2_with (fail)
   refine (HAWK.out _ HBA.out).mono ?_
   rintro e wz ⟨rfl, hbz⟩
   have HBZ := Lib.hid (HBA.out.trans (hbz.mono HBA.out.size))
   clear hbz
   go_wp2_with (fail)
   go_ret
   exact ⟨rfl, HBZ.out⟩
 | true =>
 have HF1 := Lib.hid (hf1 rfl)
 clear hf1
 have n0 := cell6_0 HBX.out.b2
 have n1 := cell6_1 HBX.out.b2
 have n2 := cell6_2 HBX.out.b2
 have n3 := cell6_3 HBX.out.b2
 have n4 := cell6_4 HBX.out.b2
 have n5 := cell6_5 HBX.out.b2
 have nl := cell_lt HBX.out.b2
 have m0 := cell3_0 HBX.out.b4
 have m1 := cell3_1 HBX.out.b4
 have m2 := cell3_2 HBX.out.b4
 have ml := cell_lt HBX.out.b4
 go_wp2_with (fail)
 refine (small_law HXL1.out HEL1.out).mono ?_
 rintro e V2 ⟨⟨b2, rfl, hf2⟩, hb⟩
 have HBX := Lib.hid (HBX.out.below hb)
 have HCL1 := Lib.hid (HCL1.out.below hb)
 have HXL1 := Lib.hid (HXL1.out.below hb)
 have HEL1 := Lib.hid (HEL1.out.below hb)
 have HBA := Lib.hid (HBA.out.trans (hb.mono HBA.out.size))
 clear hb n0 n1 n2 n3 n4 n5 nl m0 m1 m2 ml
 cases b2 with
 | false =>
   clear hf2
   go_wp2_with (fail)
   refine (HAWK.out _ HBA.out).mono ?_
   rintro e wz ⟨rfl, hbz⟩
   have HBZ := Lib.hid (HBA.out.trans (hbz.mono HBA.out.size))
   clear hbz
   go_wp2_with (fail)
   go_ret
   exact ⟨rfl, HBZ.out⟩
 | true =>
 have HF2 := Lib.hid (hf2 rfl)
 clear hf2
 have m0 := cell3_0 HBX.out.b4
 have m1 := cell3_1 HBX.out.b4
 have m2 := cell3_2 HBX.out.b4
 have ml := cell_lt HBX.out.b4
 by_cases hl8 : 8 < sides.length
 · have hl9 : (8 : Int) < (sides.length : Int) := by omega
   go_wp2_with (fail)
   refine (HAWK.out _ HBA.out).mono ?_
   rintro e wz ⟨rfl, hbz⟩
   have HBZ := Lib.hid (HBA.out.trans (hbz.mono HBA.out.size))
   clear hbz
   go_wp2_with (fail)
   go_ret
   exact ⟨rfl, HBZ.out⟩
 have hl9 : ¬ ((8 : Int) < (sides.length : Int)) := by omega
 go_upto_region 3 with (fail)
 clear m0 m1 m2 ml
 have HNc := Lib.hid (few_nar 60 c HF1.out.1)
 have HNx := Lib.hid (few_nar 60 x HF2.out.1)
 have HSE := Lib.hid HF1.out.2
 have HV3 := HBA
 have HW3 : Hid (Below V2.heap.size V2 V2) := Lib.hid (Below.refl _ _)
 have HNDc : Hid (∀ W, Below V2.heap.size V2 W → Calls Tryz.prog 12 #[.agg #[.string ⟨c.op.toArray⟩, .int .i64 c.int, .string ⟨c.text.toArray⟩, .int .i64 c.ty.kind, .slice Ac c.ty.args.length cc, .slice Kc c.kids.length kc]] W fun e w' => (∃ A c' K k, e = .returned (.agg #[.string ⟨c.op.toArray⟩, .int .i64 c.int, .string ⟨c.text.toArray⟩, .int .i64 c.ty.kind, .slice A c.ty.args.length c', .slice K c.kids.length k]) ∧ NdR W.heap.size w'.heap.size w' (.agg #[.string ⟨c.op.toArray⟩, .int .i64 c.int, .string ⟨c.text.toArray⟩, .int .i64 c.ty.kind, .slice A c.ty.args.length c', .slice K c.kids.length k]) c) ∧ Below W.heap.size W w') := fun W h => node_law2 (HCL1.out.below h) HNc.out
 have HNDx : Hid (∀ W, Below V2.heap.size V2 W → Calls Tryz.prog 12 #[.agg #[.string ⟨x.op.toArray⟩, .int .i64 x.int, .string ⟨x.text.toArray⟩, .int .i64 x.ty.kind, .slice Ax x.ty.args.length cx, .slice Kx x.kids.length kx]] W fun e w' => (∃ A c' K k, e = .returned (.agg #[.string ⟨x.op.toArray⟩, .int .i64 x.int, .string ⟨x.text.toArray⟩, .int .i64 x.ty.kind, .slice A x.ty.args.length c', .slice K x.kids.length k]) ∧ NdR W.heap.size w'.heap.size w' (.agg #[.string ⟨x.op.toArray⟩, .int .i64 x.int, .string ⟨x.text.toArray⟩, .int .i64 x.ty.kind, .slice A x.ty.args.length c', .slice K x.kids.length k]) x) ∧ Below W.heap.size W w') := fun W h => node_law2 (HXL1.out.below h) HNx.out
 have HEV : Hid (∀ W, Below V2.heap.size V2 W → Calls Tryz.prog 13 #[.agg #[.int .i64 it.kind, .slice EA it.args.length ek, .slice SA sides.length sk]] W fun e w' => (∃ v', e = .returned v' ∧ EvL w' v' it sides) ∧ Below W.heap.size W w') := fun W h => env_law (HEL1.out.below h) HSE.out
 have HG3 : Hid (∀ W, Below V2.heap.size V2 W → Gl W) := Lib.hid fun W h => HG.out.below (HV3.out.trans (h.mono HV3.out.size)) hGl
 obtain ⟨Rc, hRc⟩ : ∃ R, infR (showW c).isSome it sides (resI it sides c) = R := ⟨_, rfl⟩
 have HRc := Lib.hid hRc
 have HIFc : Hid (∀ (W : World) (v u : Value), Below V2.heap.size V2 W → NdL W v c → EvL W u it sides → Calls Tryz.prog 11 #[v, u] W fun e w' => InfL Rc W.heap.size w' e ∧ Below W.heap.size W w') := Lib.hid fun W v u h h1 h2 => by
  have h3 := infer_law h1 h2 (few_rg 24 dc 60 _ HIc.out HF1.out.1) (HG3.out W h)
  rw [HRc.out] at h3
  exact h3
 clear hRc
 go_cut [7, 8, 9] from 35 to 44 (fun s1 s2 s3 wx => Below V2.heap.size V2 wx ∧ InfA Rc V2.heap.size wx s2 s3 ∧ BoxA Rc V2.heap.size wx s1)
 case first =>
  have n0 := cell6_0 HBX.out.b1
  have n1 := cell6_1 HBX.out.b1
  have n2 := cell6_2 HBX.out.b1
  have n3 := cell6_3 HBX.out.b1
  have n4 := cell6_4 HBX.out.b1
  have n5 := cell6_5 HBX.out.b1
  have m0 := cell3_0 HBX.out.b4
  have m1 := cell3_1 HBX.out.b4
  have m2 := cell3_2 HBX.out.b4
  have l0 := cell_lt HBX.out.b1
  have l1 := cell_lt HBX.out.b4
  go_region_held3 (fun W => W.cell? ⟨w.heap.size, 0, none⟩ = some (.string ⟨c.op.toArray⟩) ∧ W.cell? ⟨w.heap.size, 1, none⟩ = some (.int .i64 c.int) ∧ W.cell? ⟨w.heap.size, 2, none⟩ = some (.string ⟨c.text.toArray⟩) ∧ W.cell? ⟨w.heap.size, 3, none⟩ = some (.int .i64 c.ty.kind) ∧ W.cell? ⟨w.heap.size, 4, none⟩ = some (.slice Ac c.ty.args.length cc) ∧ W.cell? ⟨w.heap.size, 5, none⟩ = some (.slice Kc c.kids.length kc) ∧ W.cell? ⟨w.heap.size + 1 + 1, 0, none⟩ = some (.int .i64 it.kind) ∧ W.cell? ⟨w.heap.size + 1 + 1, 1, none⟩ = some (.slice EA it.args.length ek) ∧ W.cell? ⟨w.heap.size + 1 + 1, 2, none⟩ = some (.slice SA sides.length sk) ∧ Below V2.heap.size V2 W)
   (exact keep9b HBX.out.b1 HBX.out.b4 (by repeat' (first | with_reducible exact HBC3.out | with_reducible exact HBB3.out | with_reducible exact HBA3.out | with_reducible exact Below.refl _ _ | with_reducible refine bl_al ?_ _ | with_reducible refine bl_dr ?_ | (with_reducible refine bl_set ?_ ?_) | first | omega | (simp; done) | (simp; omega))))
   (first
   | (go_at_call 12; (with_reducible refine (HNDc.out _ ?_).mono ?_); (focus exact bl_tr HW3.out (by repeat' (first | with_reducible exact Below.refl _ _ | with_reducible refine bl_al ?_ _ | with_reducible refine bl_dr ?_))); rintro e wA ⟨⟨Dn, dn, Fn, fn, rfl, hr⟩, hbA⟩; have HNA := Lib.hid (hr.toL (Nat.le_refl _)); have HBA3 : Hid (Below V2.heap.size V2 wA) := bl_tr (by repeat' (first | with_reducible exact Below.refl _ _ | with_reducible refine bl_al ?_ _ | with_reducible refine bl_dr ?_)) hbA; have hsA := HBA3.out.size; (first | (have HZ := Lib.hid ((hbA.block V2.heap.size (by simp)).trans (heap_alloc_new V2 (.cells #[.int .i64 0, .slice none 0 0] 34)))) | skip); clear hr hbA)
   | (go_at_call 13; (with_reducible refine (HEV.out _ ?_).mono ?_); (focus exact bl_tr HW3.out (by repeat' (first | with_reducible exact HBA3.out | with_reducible refine bl_al ?_ _ | with_reducible refine bl_dr ?_))); rintro e wB ⟨⟨vB, rfl, hA⟩, hbA⟩; have HNB := Lib.hid (HNA.out.below (bl_tr (by repeat' (first | with_reducible exact Below.refl _ _ | with_reducible refine bl_al ?_ _ | with_reducible refine bl_dr ?_)) hbA)); have HEB := Lib.hid hA; have HBB3 : Hid (Below V2.heap.size V2 wB) := bl_tr (by repeat' (first | with_reducible exact HBA3.out | with_reducible refine bl_al ?_ _ | with_reducible refine bl_dr ?_)) hbA; have hsB := HBB3.out.size; (first | (have HZ2 := Lib.hid ((hbA.block _ (cell_lt HZ.out)).trans HZ.out)) | (have HZ2 := Lib.hid ((hbA.block wA.heap.size (by simp)).trans (heap_alloc_new wA (.cells #[.int .i64 0, .slice none 0 0] 34)))) | skip); clear hA hbA)
   | (go_at_call 11; (with_reducible refine (HIFc.out _ _ _ ?_ ?_ ?_).mono ?_); (focus exact bl_tr HW3.out (by repeat' (first | with_reducible exact HBB3.out | with_reducible refine bl_al ?_ _ | with_reducible refine bl_dr ?_))); (focus exact HNB.out.below (by repeat' (first | with_reducible exact Below.refl _ _ | with_reducible refine bl_al ?_ _ | with_reducible refine bl_dr ?_))); (focus exact HEB.out.below (by repeat' (first | with_reducible exact Below.refl _ _ | with_reducible refine bl_al ?_ _ | with_reducible refine bl_dr ?_))); rintro e wC ⟨hi, hbA⟩; obtain ⟨kd, TA', tl', tc', av, no, rfl, hiA, hiT, hkd⟩ := hi.open; have HIC := Lib.hid hiA; have HIT := Lib.hid hiT; have HKD := Lib.hid hkd; clear hkd; have HBC3 : Hid (Below V2.heap.size V2 wC) := bl_tr (by repeat' (first | with_reducible exact HBB3.out | with_reducible refine bl_al ?_ _ | with_reducible refine bl_dr ?_)) hbA; have hsC := HBC3.out.size; (first | (have HZ3 := Lib.hid ((hbA.block _ (cell_lt HZ2.out)).trans HZ2.out); have hq := cell_lt HZ2.out) | (have HZ3 := Lib.hid ((hbA.block wB.heap.size (by simp)).trans (heap_alloc_new wB (.cells #[.int .i64 0, .slice none 0 0] 34)))) | skip); (first | (have z0 := cell2_0 HZ3.out; have z1 := cell2_1 HZ3.out; have zf0 := cell3_f HZ3.out 0; have zf1 := cell3_f HZ3.out 1; have zl := cell_lt HZ3.out) | skip); clear hi hiA hiT hbA)
   | fail)
  all_goals (
   go_wp2_with (fail)
   go_meet
   exact ⟨by repeat' (first | with_reducible exact HBC3.out | with_reducible refine bl_al ?_ _ | (with_reducible refine bl_set ?_ ?_) | first | omega | (simp; done) | (simp; omega)), (by first | exact (HIC.out.below (bl_al (Below.refl _ _) _)).down (by omega) | exact ((HIC.out.set (by first | omega | (simp; done) | (simp; omega))).set (by first | omega | (simp; done) | (simp; omega))).down (by first | omega | (simp; done) | (simp; omega))), (by first | exact ⟨_, kd, TA', tl', tc', rfl, (by first | omega | (simp; done) | (simp; omega)), heap_alloc_new wC _, HKD.out, (HIT.out.below (bl_al (Below.refl _ _) _)).tyL⟩ | exact ⟨_, kd, TA', tl', tc', rfl, (by first | omega | (simp; done) | (simp; omega)), put2_box HZ3.out _ _, HKD.out, ((HIT.out.set (by first | omega | (simp; done) | (simp; omega))).set (by first | omega | (simp; done) | (simp; omega))).tyL⟩)⟩)
 case rest =>
 obtain ⟨hbc, hia, hbx⟩ := hcut
 obtain ⟨V3, hV3⟩ : ∃ W : World, W = wc := ⟨_, rfl⟩
 subst hV3
 have HBX := Lib.hid (HBX.out.below hbc)
 have HW3 := Lib.hid (bl_tr HW3.out hbc)
 have HIARc := Lib.hid hia
 have HBORc := Lib.hid hbx
 clear hbc hia hbx
 have HBA := Lib.hid (HV3.out.trans (HW3.out.mono HV3.out.size))
 obtain ⟨qt, kt, At, lt, ct, rfl, hqt, hbt, hkt, htt⟩ := HBORc.out
 have hia := HIARc.out
 cases hR : Rc with
 | error e =>
   obtain ⟨no, qs⟩ := e
   rw [hR] at hia
   obtain ⟨rfl, h0, _⟩ := hia
   have hc0 : (no == 0) = false := by simp [h0]
   have hc1 : (no != 0) = true := by simp [h0]
   clear h0 hbt hkt htt hqt hR
   go_wp2_with (fail)
   refine (HAWK.out _ HBA.out).mono ?_
   rintro e wz ⟨rfl, hbz⟩
   have HBZ := Lib.hid (HBA.out.trans (hbz.mono HBA.out.size))
   clear hbz
   go_wp2_with (fail)
   go_ret
   exact ⟨rfl, HBZ.out⟩
 | ok t =>
 rw [hR] at hia
 obtain ⟨rfl, rfl⟩ := hia
 have htt : TyL V3 (.agg #[.int .i64 kt, .slice At lt ct]) t := by rw [hR] at htt; exact htt
 obtain ⟨hck, hri, hres⟩ := infR_ok (HRc.out.trans hR)
 obtain ⟨A', c', he⟩ := htt.form
 obtain ⟨rfl, rfl, rfl, rfl⟩ : kt = t.kind ∧ At = A' ∧ lt = t.args.length ∧ ct = c' := by simpa using he
 have HTB := Lib.hid hbt
 have HTT := Lib.hid htt
 have HRI := Lib.hid hri
 have HRES := Lib.hid hres
 have HQT := Lib.hid hqt
 clear hbt hkt htt hqt hck hri hres he hR HIARc HBORc HIFc HRc
 obtain ⟨y, hy⟩ : ∃ y, swapT sides.length 60 x = y := ⟨_, rfl⟩
 have HY := Lib.hid hy
 have HNy : Hid (NarN 60 y) := Lib.hid (by rw [← hy]; exact nar_swap _ 60 60 x HNx.out)
 have HRy : Hid (RgN 23 y) := Lib.hid (by rw [← hy]; exact rg_swap _ 23 60 x (few_rg 23 dx 60 _ HIx.out HF2.out.1))
 have HSW : Hid (∀ W, Below V2.heap.size V2 W → Calls Tryz.prog 26 #[.agg #[.string ⟨x.op.toArray⟩, .int .i64 x.int, .string ⟨x.text.toArray⟩, .int .i64 x.ty.kind, .slice Ax x.ty.args.length cx, .slice Kx x.kids.length kx], .agg #[.int .i64 it.kind, .slice EA it.args.length ek, .slice SA sides.length sk]] W fun e w' => (∃ A c' K k, e = .returned (.agg #[.string ⟨y.op.toArray⟩, .int .i64 y.int, .string ⟨y.text.toArray⟩, .int .i64 y.ty.kind, .slice A y.ty.args.length c', .slice K y.kids.length k]) ∧ NdL w' (.agg #[.string ⟨y.op.toArray⟩, .int .i64 y.int, .string ⟨y.text.toArray⟩, .int .i64 y.ty.kind, .slice A y.ty.args.length c', .slice K y.kids.length k]) y) ∧ Below W.heap.size W w') := Lib.hid fun W h => by
  have h3 := swap_law (k5 := it.kind) (EA := EA) (SA := SA) (el := it.args.length) (ek := ek) (s := sides.length) (sk := sk) (HXL1.out.below h) HNx.out
  rw [hy] at h3
  exact h3
 clear hy
 go_upto_region 6 with (fail)
 go_cut [10] from 47 to 56 (fun s1 wx => Below V3.heap.size V3 wx ∧ OutL V3.heap.size wx s1 (ndLet c y))
 case first =>
  have n0 := cell6_0 HBX.out.b1
  have n1 := cell6_1 HBX.out.b1
  have n2 := cell6_2 HBX.out.b1
  have n3 := cell6_3 HBX.out.b1
  have n4 := cell6_4 HBX.out.b1
  have n5 := cell6_5 HBX.out.b1
  have nl := cell_lt HBX.out.b1
  have o0 := cell6_0 HBX.out.b2
  have o1 := cell6_1 HBX.out.b2
  have o2 := cell6_2 HBX.out.b2
  have o3 := cell6_3 HBX.out.b2
  have o4 := cell6_4 HBX.out.b2
  have o5 := cell6_5 HBX.out.b2
  have ol := cell_lt HBX.out.b2
  have m0 := cell3_0 HBX.out.b4
  have m1 := cell3_1 HBX.out.b4
  have m2 := cell3_2 HBX.out.b4
  have ml := cell_lt HBX.out.b4
  go_region_held3 (fun W => W.cell? ⟨w.heap.size, 0, none⟩ = some (.string ⟨c.op.toArray⟩) ∧ W.cell? ⟨w.heap.size, 1, none⟩ = some (.int .i64 c.int) ∧ W.cell? ⟨w.heap.size, 2, none⟩ = some (.string ⟨c.text.toArray⟩) ∧ W.cell? ⟨w.heap.size, 3, none⟩ = some (.int .i64 c.ty.kind) ∧ W.cell? ⟨w.heap.size, 4, none⟩ = some (.slice Ac c.ty.args.length cc) ∧ W.cell? ⟨w.heap.size, 5, none⟩ = some (.slice Kc c.kids.length kc) ∧ W.cell? ⟨w.heap.size + 1, 0, none⟩ = some (.string ⟨x.op.toArray⟩) ∧ W.cell? ⟨w.heap.size + 1, 1, none⟩ = some (.int .i64 x.int) ∧ W.cell? ⟨w.heap.size + 1, 2, none⟩ = some (.string ⟨x.text.toArray⟩) ∧ W.cell? ⟨w.heap.size + 1, 3, none⟩ = some (.int .i64 x.ty.kind) ∧ W.cell? ⟨w.heap.size + 1, 4, none⟩ = some (.slice Ax x.ty.args.length cx) ∧ W.cell? ⟨w.heap.size + 1, 5, none⟩ = some (.slice Kx x.kids.length kx) ∧ W.cell? ⟨w.heap.size + 1 + 1, 0, none⟩ = some (.int .i64 it.kind) ∧ W.cell? ⟨w.heap.size + 1 + 1, 1, none⟩ = some (.slice EA it.args.length ek) ∧ W.cell? ⟨w.heap.size + 1 + 1, 2, none⟩ = some (.slice SA sides.length sk) ∧ Below V3.heap.size V3 W)
   (exact keep15 HBX.out (by repeat' (first | with_reducible exact HBC3.out | with_reducible exact HBB3.out | with_reducible exact HBA3.out | with_reducible exact Below.refl _ _ | with_reducible refine bl_al ?_ _ | with_reducible refine bl_dr ?_ | (with_reducible refine bl_set ?_ ?_) | first | omega | (simp; done) | (simp; omega))))
   (first
   | (go_at_call 26; (with_reducible refine (HSW.out _ ?_).mono ?_); (focus exact bl_tr HW3.out (by repeat' (first | with_reducible exact HBA3.out | with_reducible refine bl_al ?_ _ | with_reducible refine bl_dr ?_))); rintro e wB ⟨⟨Ay, cy, Ky, ky, rfl, hr⟩, hb⟩; have HRc := Lib.hid ((HRc.out.below (by repeat' (first | with_reducible exact Below.refl _ _ | with_reducible refine bl_al ?_ _ | with_reducible refine bl_dr ?_))).below hb); have HSB := Lib.hid hr; have HBB3 : Hid (Below V3.heap.size V3 wB) := bl_tr (by repeat' (first | with_reducible exact HBA3.out | with_reducible refine bl_al ?_ _ | with_reducible refine bl_dr ?_)) hb; have hsB := hb.size; have htB := HBB3.out.size; (first | (have HZ2 := Lib.hid ((hb.block _ (cell_lt HZ.out)).trans HZ.out)) | (have HZ2 := Lib.hid ((hb.block wA.heap.size (by simp)).trans (heap_alloc_new wA (.cells #[.string ⟨#[]⟩, .int .i64 0, .string ⟨#[]⟩, .int .i64 0, .slice none 0 0, .slice none 0 0] 41)))) | skip); clear hr hb)
   | (go_at_call 12; (with_reducible refine (HNDc.out _ ?_).mono ?_); (focus exact bl_tr HW3.out (by repeat' (first | with_reducible exact Below.refl _ _ | with_reducible refine bl_al ?_ _ | with_reducible refine bl_dr ?_))); rintro e wA ⟨⟨Dc, dc', Fc, fc, rfl, hr⟩, hb⟩; have HRc := Lib.hid hr; have HBA3 : Hid (Below V3.heap.size V3 wA) := bl_tr (by repeat' (first | with_reducible exact Below.refl _ _ | with_reducible refine bl_al ?_ _ | with_reducible refine bl_dr ?_)) hb; have hsA := hb.size; have htA := HBA3.out.size; (first | (have HZ := Lib.hid ((hb.block V3.heap.size (by simp)).trans (heap_alloc_new V3 (.cells #[.string ⟨#[]⟩, .int .i64 0, .string ⟨#[]⟩, .int .i64 0, .slice none 0 0, .slice none 0 0] 41)))) | skip); clear hr hb)
   | (go_at_call 12; (with_reducible refine (node_law2 (HSB.out.below ?_) HNy.out).mono ?_); (focus exact (by repeat' (first | with_reducible exact Below.refl _ _ | with_reducible refine bl_al ?_ _ | with_reducible refine bl_dr ?_))); rintro e wC ⟨⟨Dy, dy, Fy, fy, rfl, hr⟩, hb⟩; have HRc := Lib.hid ((HRc.out.below (by repeat' (first | with_reducible exact Below.refl _ _ | with_reducible refine bl_al ?_ _ | with_reducible refine bl_dr ?_))).below hb); have HRn := Lib.hid hr; have HBC3 : Hid (Below V3.heap.size V3 wC) := bl_tr (by repeat' (first | with_reducible exact HBB3.out | with_reducible refine bl_al ?_ _ | with_reducible refine bl_dr ?_)) hb; have hsC := hb.size; have htC := HBC3.out.size; (first | (have HZ3 := Lib.hid ((hb.block _ (cell_lt HZ2.out)).trans HZ2.out)) | (have HZ3 := Lib.hid ((hb.block wB.heap.size (by simp)).trans (heap_alloc_new wB (.cells #[.string ⟨#[]⟩, .int .i64 0, .string ⟨#[]⟩, .int .i64 0, .slice none 0 0, .slice none 0 0] 41)))) | skip); (first | (have y0 := cell6_0 HZ3.out; have y1 := cell6_1 HZ3.out; have y2 := cell6_2 HZ3.out; have y3 := cell6_3 HZ3.out; have y4 := cell6_4 HZ3.out; have y5 := cell6_5 HZ3.out; have yf0 := cell3_f HZ3.out 0; have yf1 := cell3_f HZ3.out 1; have yf2 := cell3_f HZ3.out 2; have yf3 := cell3_f HZ3.out 3; have yf4 := cell3_f HZ3.out 4; have yf5 := cell3_f HZ3.out 5; have yl := cell_lt HZ3.out) | skip); clear hr hb)
   | fail)
  all_goals (
   go_wp2_with (fail)
   go_meet
   have hux : wA.heap.size ≤ wB.heap.size := (by first | exact hsB | (simp at hsB; omega) | omega)
   have huy : wB.heap.size ≤ wC.heap.size := (by first | exact hsC | (simp at hsC; omega) | omega)
   have hvA := HBA3.out.size
   first
   | (with_reducible exact leafL1 HBC3.out HRc.out HRn.out (Nat.le_trans hux huy))
   | (with_reducible exact leafL2 HBC3.out HRc.out HRn.out (Nat.le_trans hux huy))
   | (with_reducible refine leafL3 HZ3.out ?_ HBC3.out HRc.out HRn.out (Nat.le_trans hux huy) ?_ ?_) <;> first | omega | (left; simp; done) | (left; simp; omega) | (right; simp; omega) | ((try simp at hsA); (try simp at hsB); (try simp at hsC); first | omega | (left; simp; done) | (left; simp; omega))
   | trace_state)
 case rest =>
 obtain ⟨hb4, hO⟩ := hcut
 obtain ⟨V4, hV4⟩ : ∃ W : World, W = wc := ⟨_, rfl⟩
 subst hV4
 obtain ⟨q7, g7, rfl, hq7, ho7, hn7⟩ := hO
 have HBX := Lib.hid (HBX.out.below hb4)
 have HTB := Lib.hid ((hb4.block _ (cell_lt HTB.out)).trans HTB.out)
 have HTT := Lib.hid (HTT.out.below hb4)
 have HW3 := Lib.hid (bl_tr HW3.out hb4)
 have HOX := Lib.hid ho7
 have HNO := Lib.hid hn7
 have HBA := Lib.hid (HV3.out.trans (HW3.out.mono HV3.out.size))
 clear hb4 ho7 hn7 HSW hq7
 obtain ⟨i0, hi, hz0, hz1, hz2⟩ := info_parts Tryz.infoTy
 have m0 := cell3_0 HBX.out.b4
 have m1 := cell3_1 HBX.out.b4
 have m2 := cell3_2 HBX.out.b4
 have ml := cell_lt HBX.out.b4
 go_wp2_with (fail)
 refine (env_law2 (HEL1.out.below HW3.out) HSE.out).mono ?_
 rintro e w5 ⟨⟨IA, ik, AA, ak, cs, D, rfl, hT5, hown5, hargs5⟩, hb5⟩
 have HT5 := Lib.hid hT5
 have HO5 := Lib.hid hown5
 have HA5 := Lib.hid hargs5
 have HB5 := Lib.hid hb5
 have hs5 := hb5.size
 have hle := hown5.lt
 obtain ⟨W6, hW6⟩ : ∃ W : World, w5.alloc (.cells #[.int .i64 it.kind, .slice IA it.args.length ik, .slice AA sides.length ak] 44) = W := ⟨_, rfl⟩
 have hb6 : Below w5.heap.size w5 W6 := by rw [← hW6]; exact bl_al (Below.refl _ _) _
 have hx6 : W6.heap[w5.heap.size]? = some (.cells #[.int .i64 it.kind, .slice IA it.args.length ik, .slice AA sides.length ak] 44 (0, 0)) := by rw [← hW6]; exact heap_alloc_new w5 _
 have HO6 : Hid (W6.ownsRow V4.heap.size 34 2 (.slice AA sides.length ak) sides.length cs) := Lib.hid (by rw [← hW6]; exact hown5.alloc _)
 have HS6 : Hid (W6.heap.size = w5.heap.size + 1) := Lib.hid (by rw [← hW6]; simp)
 have ht6 := (hb6.block _ (cell_lt ((hb5.block _ (cell_lt HTB.out)).trans HTB.out))).trans ((hb5.block _ (cell_lt HTB.out)).trans HTB.out)
 have HW6 := Lib.hid hW6
 have HX6 := Lib.hid hx6
 have x0 := cell3_0 hx6
 have x1 := cell3_1 hx6
 have x2 := cell3_2 hx6
 have xl := cell_lt hx6
 have t0 := cell2_0 ht6
 have t1 := cell2_1 ht6
 have tl := cell_lt ht6
 clear m0 m1 m2 ml hT5 hown5 hargs5 hb5 hW6 hb6 hx6 ht6
 go_upto_region 8 with (fail)
 rw [HW6.out]
 go_upto_region 9 with (first
  | (at_builtin; refine wpList_append_own_at _ rfl _ _ 32 rfl V4.heap.size 34 i0 (.agg #[.int .i64 0, .slice none 0 0]) 2 32 Tryz.underlying32 hi hz0 hz1 hz2 rfl (by decide) (.slice AA sides.length ak) sides.length cs rfl (HO6.out.alloc _) ⟨W6.heap.size, 0, none⟩ 1 1 [.int .i64 t.kind, .slice At t.args.length ct] rfl rfl (World.news_of_block (cs := #[.int .i64 t.kind, .slice At t.args.length ct]) (t := 34) (fr := (0, 0)) (heap_alloc_new W6 _)) (by simp [Value.oneCell']) (by unfold maxLen; omega) (by omega) (by have := HS6.out; simp; omega) ?_; intro v' w7 hown7 hg7 _ hat7; obtain ⟨A', c', rfl⟩ := own_slice hown7; have hx7 : w7.heap[w5.heap.size]? = some (.cells #[.int .i64 it.kind, .slice IA it.args.length ik, .slice AA sides.length ak] 44 (0, 0)) := (hg7.block _ (by have := HS6.out; simp; omega) (fun e => by have := (hle _ e.symm).2; omega)).trans (alloc_old HX6.out); have y2 := cell3_2 hx7; have yf := cell3_f hx7 2; have yl := cell_lt hx7)
  | fail)
 have hle8 : sides.length ≤ 8 := by omega
 have hsv := HB5.out.size
 have hln : (sides ++ [t]).length = sides.length + 1 := by simp
 have hew := ev_more (V := V4) hsv HT5.out HO5.out HA5.out HB5.out HTT.out (by have h := hg7; rw [← HW6.out] at h; exact h) hown7 (by have h := hat7; rw [← HW6.out] at h; exact h)
 rw [hln] at hew
 have hb6 : Below V4.heap.size V4 W6 := by rw [← HW6.out]; exact bl_al HB5.out _
 have hb8 := bl_set (i := 2) (v := .slice A' (sides.length + 1) c') ((bl_al hb6 (.cells #[.int .i64 t.kind, .slice At t.args.length ct] 34)).grown hg7 (by have := HS6.out; simp; omega) (fun k hk => (HO5.out.lt k hk).1)) hsv
 have hwb : (w7.setCell ⟨w5.heap.size, 2, none⟩ (.slice A' (sides.length + 1) c')).heap[w5.heap.size]? = some (.cells #[.int .i64 it.kind, .slice IA it.args.length ik, .slice A' (sides.length + 1) c'] 44 (0, 0)) := by simp [World.setCell, Array.getElem?_modify, hx7]
 obtain ⟨V5, hV5⟩ : ∃ W : World, w7.setCell ⟨w5.heap.size, 2, none⟩ (.slice A' (sides.length + 1) c') = W := ⟨_, rfl⟩
 rw [hV5] at hew hb8 hwb
 rw [hV5]
 clear hV5 hown7 hg7 hat7 hx7 y2 yf yl hb6 HO6 HX6 HW6 HS6 HT5 HO5 HA5 HB5 hle hs5 hsv x0 x1 x2 xl t0 t1 tl hi hz0 hz1 hz2 hln
 generalize w5.heap.size = q8 at *
 skip
 have HBX := Lib.hid (HBX.out.below hb8)
 have HW3 := Lib.hid (bl_tr HW3.out hb8)
 have HOX := Lib.hid ((hb8.block _ (cell_lt HOX.out)).trans HOX.out)
 have HNO := Lib.hid (HNO.out.below hb8)
 have HEW := Lib.hid hew
 have HWB := Lib.hid hwb
 clear hb8 hew hwb
 have HRGO := Lib.hid (show RgN 24 (ndLet c y) from ⟨by show (-9223372036854775808 : Int) ≤ 0; decide, by show (0 : Int) ≤ 9223372036854775807; decide, Nat.zero_le _, fun k hk => by
  rcases List.mem_cons.1 hk with rfl | hk
  · exact ⟨by show (-9223372036854775808 : Int) ≤ 0; decide, by show (0 : Int) ≤ 9223372036854775807; decide, by show (1 : Nat) ≤ 1000000; omega, fun k hk => by cases hk⟩
  · rcases List.mem_cons.1 hk with rfl | hk
    · exact few_rg 23 dc 60 _ HIc.out HF1.out.1
    · rcases List.mem_cons.1 hk with rfl | hk
      · exact HRy.out
      · cases hk⟩)
 obtain ⟨RO, hRO⟩ : ∃ R, infR (showW (ndLet c y)).isSome it sides (resI it sides (ndLet c y)) = R := ⟨_, rfl⟩
 have HRO := Lib.hid hRO
 have HIFO : Hid (∀ (W : World) (v u : Value), Below V2.heap.size V2 W → NdL W v (ndLet c y) → EvL W u it sides → Calls Tryz.prog 11 #[v, u] W fun e w' => InfL RO W.heap.size w' e ∧ Below W.heap.size W w') := Lib.hid fun W v u h h1 h2 => by
  have h3 := infer_law h1 h2 HRGO.out (HG3.out W h)
  rw [HRO.out] at h3
  exact h3
 clear hRO
 go_cut [12, 13, 14] from 64 to 72 (fun s1 s2 s3 wx => Below V5.heap.size V5 wx ∧ InfA RO V5.heap.size wx s2 s3 ∧ BoxA RO V5.heap.size wx s1)
 case first =>
  have n0 := cell6_0 HOX.out
  have n1 := cell6_1 HOX.out
  have n2 := cell6_2 HOX.out
  have n3 := cell6_3 HOX.out
  have n4 := cell6_4 HOX.out
  have n5 := cell6_5 HOX.out
  have m0 := cell3_0 HBX.out.b4
  have m1 := cell3_1 HBX.out.b4
  have m2 := cell3_2 HBX.out.b4
  have l0 := cell_lt HOX.out
  have l1 := cell_lt HBX.out.b4
  go_region_held3 (fun W => W.cell? ⟨q7, 0, none⟩ = some (.string ⟨#[108, 101, 116]⟩) ∧ W.cell? ⟨q7, 1, none⟩ = some (.int .i64 0) ∧ W.cell? ⟨q7, 2, none⟩ = some (.string ⟨#[]⟩) ∧ W.cell? ⟨q7, 3, none⟩ = some (.int .i64 0) ∧ W.cell? ⟨q7, 4, none⟩ = some (.slice none 0 0) ∧ W.cell? ⟨q7, 5, none⟩ = some (.slice (some ⟨g7, 0, none⟩) 3 3) ∧ W.cell? ⟨w.heap.size + 1 + 1, 0, none⟩ = some (.int .i64 it.kind) ∧ W.cell? ⟨w.heap.size + 1 + 1, 1, none⟩ = some (.slice EA it.args.length ek) ∧ W.cell? ⟨w.heap.size + 1 + 1, 2, none⟩ = some (.slice SA sides.length sk) ∧ Below V5.heap.size V5 W)
   (exact keep9b HOX.out HBX.out.b4 (by repeat' (first | with_reducible exact HBC3.out | with_reducible exact HBB3.out | with_reducible exact HBA3.out | with_reducible exact Below.refl _ _ | with_reducible refine bl_al ?_ _ | with_reducible refine bl_dr ?_ | (with_reducible refine bl_set ?_ ?_) | first | omega | (simp; done) | (simp; omega))))
   (first
   | (go_at_call 13; (with_reducible refine (HEV.out _ ?_).mono ?_); (focus exact bl_tr HW3.out (by repeat' (first | with_reducible exact Below.refl _ _ | with_reducible refine bl_al ?_ _ | with_reducible refine bl_dr ?_))); rintro e wB ⟨⟨vB, rfl, hA⟩, hbA⟩; have HNB := Lib.hid ((HNO.out.below (by repeat' (first | with_reducible exact Below.refl _ _ | with_reducible refine bl_al ?_ _ | with_reducible refine bl_dr ?_))).below hbA); have HEB := Lib.hid hA; have HBB3 : Hid (Below V5.heap.size V5 wB) := bl_tr (by repeat' (first | with_reducible exact Below.refl _ _ | with_reducible refine bl_al ?_ _ | with_reducible refine bl_dr ?_)) hbA; have hsB := HBB3.out.size; (first | (have HZ2 := Lib.hid ((hbA.block V5.heap.size (by simp)).trans (heap_alloc_new V5 (.cells #[.int .i64 0, .slice none 0 0] 34)))) | skip); clear hA hbA)
   | (go_at_call 11; (with_reducible refine (HIFO.out _ _ _ ?_ ?_ ?_).mono ?_); (focus exact bl_tr HW3.out (by repeat' (first | with_reducible exact HBB3.out | with_reducible refine bl_al ?_ _ | with_reducible refine bl_dr ?_))); (focus exact HNB.out.below (by repeat' (first | with_reducible exact Below.refl _ _ | with_reducible refine bl_al ?_ _ | with_reducible refine bl_dr ?_))); (focus exact HEB.out.below (by repeat' (first | with_reducible exact Below.refl _ _ | with_reducible refine bl_al ?_ _ | with_reducible refine bl_dr ?_))); rintro e wC ⟨hi, hbA⟩; obtain ⟨kd, TA', tl', tc', av, no, rfl, hiA, hiT, hkd⟩ := hi.open; have HIC := Lib.hid hiA; have HIT := Lib.hid hiT; have HKD := Lib.hid hkd; clear hkd; have HBC3 : Hid (Below V5.heap.size V5 wC) := bl_tr (by repeat' (first | with_reducible exact HBB3.out | with_reducible refine bl_al ?_ _ | with_reducible refine bl_dr ?_)) hbA; have hsC := HBC3.out.size; (first | (have HZ3 := Lib.hid ((hbA.block _ (cell_lt HZ2.out)).trans HZ2.out); have hq := cell_lt HZ2.out) | (have HZ3 := Lib.hid ((hbA.block wB.heap.size (by simp)).trans (heap_alloc_new wB (.cells #[.int .i64 0, .slice none 0 0] 34)))) | skip); (first | (have z0 := cell2_0 HZ3.out; have z1 := cell2_1 HZ3.out; have zf0 := cell3_f HZ3.out 0; have zf1 := cell3_f HZ3.out 1; have zl := cell_lt HZ3.out) | skip); clear hi hiA hiT hbA)
   | fail)
  all_goals (
   go_wp2_with (fail)
   go_meet
   exact ⟨by repeat' (first | with_reducible exact HBC3.out | with_reducible refine bl_al ?_ _ | (with_reducible refine bl_set ?_ ?_) | first | omega | (simp; done) | (simp; omega)), (by first | exact (HIC.out.below (bl_al (Below.refl _ _) _)).down (by omega) | exact ((HIC.out.set (by first | omega | (simp; done) | (simp; omega))).set (by first | omega | (simp; done) | (simp; omega))).down (by first | omega | (simp; done) | (simp; omega))), (by first | exact ⟨_, kd, TA', tl', tc', rfl, (by first | omega | (simp; done) | (simp; omega)), heap_alloc_new wC _, HKD.out, (HIT.out.below (bl_al (Below.refl _ _) _)).tyL⟩ | exact ⟨_, kd, TA', tl', tc', rfl, (by first | omega | (simp; done) | (simp; omega)), put2_box HZ3.out _ _, HKD.out, ((HIT.out.set (by first | omega | (simp; done) | (simp; omega))).set (by first | omega | (simp; done) | (simp; omega))).tyL⟩)⟩)
 case rest =>
 obtain ⟨hbc, hia, hbx⟩ := hcut
 obtain ⟨V6, hV6⟩ : ∃ W : World, W = wc := ⟨_, rfl⟩
 subst hV6
 have HBX := Lib.hid (HBX.out.below hbc)
 have HW3 := Lib.hid (bl_tr HW3.out hbc)
 have HIARO := Lib.hid hia
 have HBORO := Lib.hid hbx
 have HOX := Lib.hid ((hbc.block _ (cell_lt HOX.out)).trans HOX.out)
 have HNO := Lib.hid (HNO.out.below hbc)
 have HWB := Lib.hid ((hbc.block _ (cell_lt HWB.out)).trans HWB.out)
 have HEW := Lib.hid (HEW.out.below hbc)
 clear hbc hia hbx
 obtain ⟨Rx, hRx⟩ : ∃ R, infR (showW x).isSome it (sides ++ [t]) (resI it (sides ++ [t]) x) = R := ⟨_, rfl⟩
 have HRx := Lib.hid hRx
 have HIFx : Hid (∀ (W : World) (v u : Value), Below V2.heap.size V2 W → NdL W v x → EvL W u it (sides ++ [t]) → Calls Tryz.prog 11 #[v, u] W fun e w' => InfL Rx W.heap.size w' e ∧ Below W.heap.size W w') := Lib.hid fun W v u h h1 h2 => by
  have h3 := infer_law h1 h2 (few_rg 24 dx 60 _ HIx.out HF2.out.1) (HG3.out W h)
  rw [HRx.out] at h3
  exact h3
 clear hRx
 go_upto_region 10 with (fail)
 go_cut [15, 16, 17] from 72 to 80 (fun s1 s2 s3 wx => Below V6.heap.size V6 wx ∧ InfA Rx V6.heap.size wx s2 s3 ∧ BoxA Rx V6.heap.size wx s1)
 case first =>
  have n0 := cell6_0 HBX.out.b2
  have n1 := cell6_1 HBX.out.b2
  have n2 := cell6_2 HBX.out.b2
  have n3 := cell6_3 HBX.out.b2
  have n4 := cell6_4 HBX.out.b2
  have n5 := cell6_5 HBX.out.b2
  have m0 := cell3_0 HWB.out
  have m1 := cell3_1 HWB.out
  have m2 := cell3_2 HWB.out
  have l0 := cell_lt HBX.out.b2
  have l1 := cell_lt HWB.out
  go_region_held3 (fun W => W.cell? ⟨w.heap.size + 1, 0, none⟩ = some (.string ⟨x.op.toArray⟩) ∧ W.cell? ⟨w.heap.size + 1, 1, none⟩ = some (.int .i64 x.int) ∧ W.cell? ⟨w.heap.size + 1, 2, none⟩ = some (.string ⟨x.text.toArray⟩) ∧ W.cell? ⟨w.heap.size + 1, 3, none⟩ = some (.int .i64 x.ty.kind) ∧ W.cell? ⟨w.heap.size + 1, 4, none⟩ = some (.slice Ax x.ty.args.length cx) ∧ W.cell? ⟨w.heap.size + 1, 5, none⟩ = some (.slice Kx x.kids.length kx) ∧ W.cell? ⟨q8, 0, none⟩ = some (.int .i64 it.kind) ∧ W.cell? ⟨q8, 1, none⟩ = some (.slice IA it.args.length ik) ∧ W.cell? ⟨q8, 2, none⟩ = some (.slice A' (sides.length + 1) c') ∧ Below V6.heap.size V6 W)
   (exact keep9b HBX.out.b2 HWB.out (by repeat' (first | with_reducible exact HBC3.out | with_reducible exact HBA3.out | with_reducible exact Below.refl _ _ | with_reducible refine bl_al ?_ _ | with_reducible refine bl_dr ?_ | (with_reducible refine bl_set ?_ ?_) | first | omega | (simp; done) | (simp; omega))))
   (first
   | (go_at_call 12; (with_reducible refine (HNDx.out _ ?_).mono ?_); (focus exact bl_tr HW3.out (by repeat' (first | with_reducible exact Below.refl _ _ | with_reducible refine bl_al ?_ _ | with_reducible refine bl_dr ?_))); rintro e wA ⟨⟨Dn, dn, Fn, fn, rfl, hr⟩, hbA⟩; have HNA := Lib.hid (hr.toL (Nat.le_refl _)); have HBA3 : Hid (Below V6.heap.size V6 wA) := bl_tr (by repeat' (first | with_reducible exact Below.refl _ _ | with_reducible refine bl_al ?_ _ | with_reducible refine bl_dr ?_)) hbA; have hsA := HBA3.out.size; (first | (have HZ := Lib.hid ((hbA.block V6.heap.size (by simp)).trans (heap_alloc_new V6 (.cells #[.int .i64 0, .slice none 0 0] 34)))) | skip); clear hr hbA)
   | (go_at_call 11; (with_reducible refine (HIFx.out _ _ _ ?_ ?_ ?_).mono ?_); (focus exact bl_tr HW3.out (by repeat' (first | with_reducible exact HBA3.out | with_reducible refine bl_al ?_ _ | with_reducible refine bl_dr ?_))); (focus exact HNA.out.below (by repeat' (first | with_reducible exact Below.refl _ _ | with_reducible refine bl_al ?_ _ | with_reducible refine bl_dr ?_))); (focus exact HEW.out.below (by repeat' (first | with_reducible exact HBA3.out | with_reducible refine bl_al ?_ _ | with_reducible refine bl_dr ?_))); rintro e wC ⟨hi, hbA⟩; obtain ⟨kd, TA', tl', tc', av, no, rfl, hiA, hiT, hkd⟩ := hi.open; have HIC := Lib.hid hiA; have HIT := Lib.hid hiT; have HKD := Lib.hid hkd; clear hkd; have HBC3 : Hid (Below V6.heap.size V6 wC) := bl_tr (by repeat' (first | with_reducible exact HBA3.out | with_reducible refine bl_al ?_ _ | with_reducible refine bl_dr ?_)) hbA; have hsC := HBC3.out.size; (first | (have HZ3 := Lib.hid ((hbA.block _ (cell_lt HZ.out)).trans HZ.out); have hq := cell_lt HZ.out) | (have HZ3 := Lib.hid ((hbA.block wA.heap.size (by simp)).trans (heap_alloc_new wA (.cells #[.int .i64 0, .slice none 0 0] 34)))) | skip); (first | (have z0 := cell2_0 HZ3.out; have z1 := cell2_1 HZ3.out; have zf0 := cell3_f HZ3.out 0; have zf1 := cell3_f HZ3.out 1; have zl := cell_lt HZ3.out) | skip); clear hi hiA hiT hbA)
   | fail)
  all_goals (
   go_wp2_with (fail)
   go_meet
   exact ⟨by repeat' (first | with_reducible exact HBC3.out | with_reducible refine bl_al ?_ _ | (with_reducible refine bl_set ?_ ?_) | first | omega | (simp; done) | (simp; omega)), (by first | exact (HIC.out.below (bl_al (Below.refl _ _) _)).down (by omega) | exact ((HIC.out.set (by first | omega | (simp; done) | (simp; omega))).set (by first | omega | (simp; done) | (simp; omega))).down (by first | omega | (simp; done) | (simp; omega))), (by first | exact ⟨_, kd, TA', tl', tc', rfl, (by first | omega | (simp; done) | (simp; omega)), heap_alloc_new wC _, HKD.out, (HIT.out.below (bl_al (Below.refl _ _) _)).tyL⟩ | exact ⟨_, kd, TA', tl', tc', rfl, (by first | omega | (simp; done) | (simp; omega)), put2_box HZ3.out _ _, HKD.out, ((HIT.out.set (by first | omega | (simp; done) | (simp; omega))).set (by first | omega | (simp; done) | (simp; omega))).tyL⟩)⟩)
 case rest =>
 obtain ⟨hbc, hia, hbx⟩ := hcut
 obtain ⟨V7, hV7⟩ : ∃ W : World, W = wc := ⟨_, rfl⟩
 subst hV7
 have HBX := Lib.hid (HBX.out.below hbc)
 have HW3 := Lib.hid (bl_tr HW3.out hbc)
 have HOX := Lib.hid ((hbc.block _ (cell_lt HOX.out)).trans HOX.out)
 have HNO := Lib.hid (HNO.out.below hbc)
 have HIARO := Lib.hid (HIARO.out.below hbc)
 have HBORO := Lib.hid (HBORO.out.below hbc)
 have HIARx := Lib.hid hia
 have HBORx := Lib.hid hbx
 have HBA := Lib.hid (HV3.out.trans (HW3.out.mono HV3.out.size))
 clear hbc hia hbx HEW HWB HIFx HIFO HEV HTB HTT
 obtain ⟨qo, ko, Ao, lo, co, rfl, hqo, hbo, hko, hto⟩ := HBORO.out
 obtain ⟨qx, kx', Ax', lx, cx', rfl, hqx, hbx, hkx, htx⟩ := HBORx.out
 have HTO := Lib.hid hto
 have HTX := Lib.hid htx
 have O0 := Lib.hid hbo
 have X0 := Lib.hid hbx
 clear hto htx hbo hbx hqo hqx hko hkx HBORO HBORx
 have n0 := cell6_0 HOX.out
 have n1 := cell6_1 HOX.out
 have n2 := cell6_2 HOX.out
 have n3 := cell6_3 HOX.out
 have n4 := cell6_4 HOX.out
 have n5 := cell6_5 HOX.out
 have nl := cell_lt HOX.out
 go_wp2_with (fail)
 obtain ⟨dO, hNO⟩ := HNO.out
 refine (exprCheck_any dO _ _ (ndLet c y) V7 hNO HRGO.out (HG3.out V7 HW3.out)).mono ?_
 rintro e V8 ⟨hck, hb⟩
 have HBX := Lib.hid (HBX.out.below hb)
 have HW3 := Lib.hid (bl_tr HW3.out hb)
 have HIARO := Lib.hid (HIARO.out.below hb)
 have HIARx := Lib.hid (HIARx.out.below hb)
 have O0 := Lib.hid ((hb.block _ (cell_lt O0.out)).trans O0.out)
 have X0 := Lib.hid ((hb.block _ (cell_lt X0.out)).trans X0.out)
 have HTO := Lib.hid (HTO.out.below hb)
 have HTX := Lib.hid (HTX.out.below hb)
 have HBA := Lib.hid (HV3.out.trans (HW3.out.mono HV3.out.size))
 clear hb hNO n0 n1 n2 n3 n4 n5 nl HNO HOX
 cases hsn : showW (ndLet c y) with
 | none =>
   rw [hsn] at hck
   subst hck
   clear hsn
   go_wp2_with (fail)
   refine (HAWK.out _ HBA.out).mono ?_
   rintro e wz ⟨rfl, hbz⟩
   have HBZ := Lib.hid (HBA.out.trans (hbz.mono HBA.out.size))
   clear hbz
   go_wp2_with (fail)
   go_ret
   exact ⟨rfl, HBZ.out⟩
 | some st =>
 rw [hsn] at hck
 subst hck
 have HSHO := Lib.hid (show (showW (ndLet c y)).isSome = true by rw [hsn]; rfl)
 clear hsn
 have n0 := cell6_0 HBX.out.b2
 have n1 := cell6_1 HBX.out.b2
 have n2 := cell6_2 HBX.out.b2
 have n3 := cell6_3 HBX.out.b2
 have n4 := cell6_4 HBX.out.b2
 have n5 := cell6_5 HBX.out.b2
 have nl := cell_lt HBX.out.b2
 go_wp2_with (fail)
 refine (HNDx.out _ HW3.out).mono ?_
 rintro e V9 ⟨⟨Dn, dn, Fn, fn, rfl, hr⟩, hb⟩
 have HBX := Lib.hid (HBX.out.below hb)
 have HW3 := Lib.hid (bl_tr HW3.out hb)
 have HIARO := Lib.hid (HIARO.out.below hb)
 have HIARx := Lib.hid (HIARx.out.below hb)
 have O0 := Lib.hid ((hb.block _ (cell_lt O0.out)).trans O0.out)
 have X0 := Lib.hid ((hb.block _ (cell_lt X0.out)).trans X0.out)
 have HTO := Lib.hid (HTO.out.below hb)
 have HTX := Lib.hid (HTX.out.below hb)
 have HBA := Lib.hid (HV3.out.trans (HW3.out.mono HV3.out.size))
 have HNN := Lib.hid (hr.toL (Nat.le_refl _))
 clear hb hr n0 n1 n2 n3 n4 n5 nl
 go_wp2_with (fail)
 obtain ⟨dN, hNN⟩ := HNN.out
 refine (exprCheck_any dN _ _ x V9 hNN (few_rg 24 dx 60 _ HIx.out HF2.out.1) (HG3.out V9 HW3.out)).mono ?_
 rintro e V10 ⟨hck, hb⟩
 have HBX := Lib.hid (HBX.out.below hb)
 have HW3 := Lib.hid (bl_tr HW3.out hb)
 have HIARO := Lib.hid (HIARO.out.below hb)
 have HIARx := Lib.hid (HIARx.out.below hb)
 have O0 := Lib.hid ((hb.block _ (cell_lt O0.out)).trans O0.out)
 have X0 := Lib.hid ((hb.block _ (cell_lt X0.out)).trans X0.out)
 have HTO := Lib.hid (HTO.out.below hb)
 have HTX := Lib.hid (HTX.out.below hb)
 have HBA := Lib.hid (HV3.out.trans (HW3.out.mono HV3.out.size))
 clear hb hNN HNN
 cases hsn : showW x with
 | none =>
   rw [hsn] at hck
   subst hck
   clear hsn
   go_wp2_with (fail)
   refine (HAWK.out _ HBA.out).mono ?_
   rintro e wz ⟨rfl, hbz⟩
   have HBZ := Lib.hid (HBA.out.trans (hbz.mono HBA.out.size))
   clear hbz
   go_wp2_with (fail)
   go_ret
   exact ⟨rfl, HBZ.out⟩
 | some st2 =>
 rw [hsn] at hck
 subst hck
 have HSHx := Lib.hid (show (showW x).isSome = true by rw [hsn]; rfl)
 clear hsn
 have n0 := cell6_0 HBX.out.b2
 have n1 := cell6_1 HBX.out.b2
 have n2 := cell6_2 HBX.out.b2
 have n3 := cell6_3 HBX.out.b2
 have n4 := cell6_4 HBX.out.b2
 have n5 := cell6_5 HBX.out.b2
 have nl := cell_lt HBX.out.b2
 go_wp2_with (fail)
 refine (holds_law (HXL1.out.below HW3.out) HNx.out).mono ?_
 rintro e V11 ⟨rfl, hb⟩
 have HBX := Lib.hid (HBX.out.below hb)
 have HW3 := Lib.hid (bl_tr HW3.out hb)
 have HIARO := Lib.hid (HIARO.out.below hb)
 have HIARx := Lib.hid (HIARx.out.below hb)
 have O0 := Lib.hid ((hb.block _ (cell_lt O0.out)).trans O0.out)
 have X0 := Lib.hid ((hb.block _ (cell_lt X0.out)).trans X0.out)
 have HTO := Lib.hid (HTO.out.below hb)
 have HTX := Lib.hid (HTX.out.below hb)
 have HBA := Lib.hid (HV3.out.trans (HW3.out.mono HV3.out.size))
 clear hb n0 n1 n2 n3 n4 n5 nl
 cases hh : holdsT 60 x with
 | true =>
   clear hh
   go_wp2_with (fail)
   refine (HAWK.out _ HBA.out).mono ?_
   rintro e wz ⟨rfl, hbz⟩
   have HBZ := Lib.hid (HBA.out.trans (hbz.mono HBA.out.size))
   clear hbz
   go_wp2_with (fail)
   go_ret
   exact ⟨rfl, HBZ.out⟩
 | false =>
 have HHO := Lib.hid hh
 clear hh
 go_upto_region 13 with (fail)
 have hrt : RT t := res_right HRI.out HRES.out
 have HRI2 := Lib.hid (right_more HRI.out hrt hle8)
 have hRO : RO = mapP [2] (resI it (sides ++ [t]) x) := by
  rw [← HRO.out, HSHO.out, infR_true HRI.out, ← HY.out]
  exact res_let (by omega) HRES.out (by rw [HY.out]; exact HSHO.out) HSHx.out HHO.out
 have hRx : Rx = resI it (sides ++ [t]) x := by rw [← HRx.out, HSHx.out, infR_true HRI2.out]
 have hio := HIARO.out
 have hix := HIARx.out
 rw [hRO] at hio
 rw [hRx] at hix
 cases hr : resI it (sides ++ [t]) x with
 | error e =>
   obtain ⟨no, qs⟩ := e
   rw [hr] at hio hix
   obtain ⟨rfl, h0, _⟩ := hio
   obtain ⟨rfl, _, _⟩ := hix
   have hc0 : (no == 0) = false := by simp [h0]
   have hc1 : (no != 0) = true := by simp [h0]
   have hcc : (no == no) = true := by simp
   clear h0 hRO hRx hr
   go_wp2_with (first
    | (go_at_call 10; refine (HAWK.out _ HBA.out).mono ?_; rintro e w6 ⟨rfl, hb6⟩; have HB6 := Lib.hid (HBA.out.trans (hb6.mono HBA.out.size)); clear hb6)
    | fail)
   go_ret
   exact ⟨rfl, HB6.out⟩
 | ok u =>
   rw [hr] at hio hix
   obtain ⟨rfl, rfl⟩ := hio
   obtain ⟨rfl, rfl⟩ := hix
   have hru : RT u := res_right HRI2.out hr
   have hto : TyL V11 (.agg #[.int .i64 ko, .slice Ao lo co]) u := by have h := HTO.out; rw [hRO, hr] at h; exact h
   have htx : TyL V11 (.agg #[.int .i64 kx', .slice Ax' lx cx']) u := by have h := HTX.out; rw [hRx, hr] at h; exact h
   have HSM : Hid (Calls Tryz.prog 25 #[.agg #[.int .i64 ko, .slice Ao lo co], .agg #[.int .i64 kx', .slice Ax' lx cx']] V11 fun e w' => e = .returned (.bool true) ∧ Below V11.heap.size V11 w') := Lib.hid (by
    obtain ⟨x1, k1⟩ := hto
    obtain ⟨x2, k2⟩ := htx
    have k3 := Knd.same_any x1 x2 _ _ _ _ u u V11 k1 k2 (HG3.out V11 HW3.out).kd
    rw [rt_same hru] at k3
    exact k3)
   have t0 := cell2_0 O0.out
   have t1 := cell2_1 O0.out
   have tl := cell_lt O0.out
   have b0 := cell2_0 X0.out
   have b1 := cell2_1 X0.out
   have bl' := cell_lt X0.out
   clear hRO hRx hr hto htx hru
   go_wp2_with (first
    | (go_at_call 25; (with_reducible refine HSM.out.mono ?_); rintro e w8 ⟨rfl, hb8⟩; have HB8 : Hid (Below w.heap.size w w8) := HBA.out.trans (hb8.mono HBA.out.size); clear hb8)
    | (go_at_call 10; refine (HAWK.out _ HB8.out).mono ?_; rintro e w6 ⟨rfl, hb6⟩; have HB6 := Lib.hid (HB8.out.trans (hb6.mono HB8.out.size)); clear hb6)
    | fail)
   go_ret
   exact ⟨rfl, HB6.out⟩
