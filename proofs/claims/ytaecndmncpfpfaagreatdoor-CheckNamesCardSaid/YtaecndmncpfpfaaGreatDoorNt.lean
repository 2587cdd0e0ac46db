import Derived.Test.YtaecndmncpfpfaaGreatDoorNn
set_option linter.unusedVariables false
set_option linter.unusedSimpArgs false
namespace Go.Proofs.YtaecndmncpfpfaaGreatDoor.L5
open Go.RowKit
set_option maxRecDepth 100000 in
set_option maxHeartbeats 40000000 in
theorem names_any (w : World) (c : Nd) (it m : Ty) (sides : List Ty) (Ac Kc EA SA MA : Option Addr) (cc kc ek sk mk dc : Nat) (hC : NdL w (.agg #[.string ⟨c.op.toArray⟩, .int .i64 c.int, .string ⟨c.text.toArray⟩, .int .i64 c.ty.kind, .slice Ac c.ty.args.length cc, .slice Kc c.kids.length kc]) c) (hE : EvL w (.agg #[.int .i64 it.kind, .slice EA it.args.length ek, .slice SA sides.length sk]) it sides) (hM : TyL w (.agg #[.int .i64 m.kind, .slice MA m.args.length mk]) m) (hIc : IntN dc c) (hG : Gl w) :
    Calls Tryz.prog 4 #[.agg #[.string ⟨c.op.toArray⟩, .int .i64 c.int, .string ⟨c.text.toArray⟩, .int .i64 c.ty.kind, .slice Ac c.ty.args.length cc, .slice Kc c.kids.length kc], .agg #[.int .i64 it.kind, .slice EA it.args.length ek, .slice SA sides.length sk], .agg #[.int .i64 m.kind, .slice MA m.args.length mk]] w fun e w' => e = .returned (.bool true) ∧ Below w.heap.size w w' := by
 have hGl := hG.lt2
 have HG := Lib.hid hG
 have HIc := Lib.hid hIc
 have HAWK := Lib.hid (fun (W : World) (h : Below w.heap.size w W) => awake_any W (hG.below h hGl))
 obtain ⟨W0, hW0⟩ : ∃ W0, ((w.alloc (.cells #[.string ⟨c.op.toArray⟩, .int .i64 c.int, .string ⟨c.text.toArray⟩, .int .i64 c.ty.kind, .slice Ac c.ty.args.length cc, .slice Kc c.kids.length kc] 27)).alloc (.cells #[.int .i64 it.kind, .slice EA it.args.length ek, .slice SA sides.length sk] 29)).alloc (.cells #[.int .i64 m.kind, .slice MA m.args.length mk] 24) = W0 := ⟨_, rfl⟩
 have hbx : Bxn W0 w.heap.size (w.heap.size + 1) (w.heap.size + 1 + 1) #[.string ⟨c.op.toArray⟩, .int .i64 c.int, .string ⟨c.text.toArray⟩, .int .i64 c.ty.kind, .slice Ac c.ty.args.length cc, .slice Kc c.kids.length kc] #[.int .i64 it.kind, .slice EA it.args.length ek, .slice SA sides.length sk] #[.int .i64 m.kind, .slice MA m.args.length mk] := by
  rw [← hW0]
  exact ⟨zE (zE (heap_alloc_new w _)), zE (heap_new_at (by simp)), heap_new_at (by simp)⟩
 have hB0 : Below w.heap.size w W0 := by
  rw [← hW0]
  exact bl_al (bl_al (bl_al (Below.refl _ _) _) _) _
 have HW0 := Lib.hid hW0
 have HCL1 := Lib.hid (hC.below hB0)
 have HEL1 := Lib.hid (hE.below hB0)
 have HML1 := Lib.hid (hM.below hB0)
 have HB1 := Lib.hid hB0
 have HBX := Lib.hid hbx
 clear hW0 hB0 hC hE hM hIc hbx hG
 go_enter Tryz.func4, Tryz.ntmps4
 go_upto_region 1 with (fail)
 rw [HW0.out]
 clear HW0
 have n0 := zN HBX.out.b1
 have n1 := zR HBX.out.b1
 have n2 := zQ HBX.out.b1
 have n3 := zP HBX.out.b1
 have n4 := zO HBX.out.b1
 have n5 := zL HBX.out.b1
 have nl := zC HBX.out.b1
 have m0 := cell3_0 HBX.out.b4
 have m1 := yF HBX.out.b4
 have m2 := cell3_2 HBX.out.b4
 have ml := zC HBX.out.b4
 go_wp2_with (fail)
 refine (small_law HCL1.out HEL1.out).mono ?_
 rintro e V1 ⟨⟨b1, rfl, hf1⟩, hb⟩
 have HBX := Lib.hid (HBX.out.below hb)
 have HCL1 := Lib.hid (HCL1.out.below hb)
 have HEL1 := Lib.hid (HEL1.out.below hb)
 have HML1 := Lib.hid (HML1.out.below hb)
 have HBA := Lib.hid (HB1.out.trans (hb.mono HB1.out.size))
 clear hb n0 n1 n2 n3 n4 n5 nl m0 m1 m2 ml HB1
 cases b1 with
 | false =>
   clear hf1
   go_wp2_with (fail)
   refine (HAWK.out _ HBA.out).mono ?_
   rintro e wz ⟨rfl, hbz⟩
   have HBZ := Lib.hid (HBA.out.trans (hbz.mono HBA.out.size))
   clear hbz
   go_wp2_with (fail)
   go_ret
   exact ⟨rfl, HBZ.out⟩
 | true =>
 have HF1 := Lib.hid (hf1 rfl)
 clear hf1
 go_upto_region 4 with (fail)
 obtain ⟨VL, hVL⟩ : ∃ W : World, V1.alloc (.cells #[.int .i64 1000] 3) = W := ⟨_, rfl⟩
 have hbL : Below V1.heap.size V1 VL := by rw [← hVL]; exact bl_al (Below.refl _ _) _
 have hxL : VL.heap[V1.heap.size]? = some (.cells #[.int .i64 1000] 3 (0, 0)) := by rw [← hVL]; exact heap_alloc_new V1 _
 have HSL : Hid (VL.heap.size = V1.heap.size + 1) := Lib.hid (by rw [← hVL]; simp)
 rw [hVL]
 obtain ⟨dm, hdm⟩ := HML1.out
 have HFL := Lib.hid (flat_any 30 dm (fun k => k < V1.heap.size) V1.heap.size _ m 1000 VL (by omega) (hdm.move fun b hb _ => ⟨hb, fun _ => World.cell?_of_block (hbL.block b hb)⟩) (fun b hb => by omega) hxL (by omega) (by omega))
 have HBX1 := HBX
 have HBX := Lib.hid (HBX.out.below hbL)
 have HBL := Lib.hid hbL
 clear hVL hxL hdm hbL
 have o0 := zG HBX.out.b5
 have o1 := zF HBX.out.b5
 have ol := zC HBX.out.b5
 go_wp2_with (fail)
 refine HFL.out.mono ?_
 rintro e V2 ⟨⟨b2, l2, rfl, hr1, hr2, hr3, hr4⟩, ho2⟩
 have hb : Below V1.heap.size V1 V2 := HBL.out.trans (ho2.below (by omega) (by have := HSL.out; omega))
 have HBX := Lib.hid (HBX1.out.below hb)
 have HCL1 := Lib.hid (HCL1.out.below hb)
 have HEL1 := Lib.hid (HEL1.out.below hb)
 have HML1 := Lib.hid (HML1.out.below hb)
 have HBA := Lib.hid (HBA.out.trans (hb.mono HBA.out.size))
 clear hb ho2 hr1 hr2 hr3 o0 o1 ol HFL HBL HBX1 HSL
 cases b2 with
 | false =>
   clear hr4
   go_wp2_with (fail)
   refine (HAWK.out _ HBA.out).mono ?_
   rintro e wz ⟨rfl, hbz⟩
   have HBZ := Lib.hid (HBA.out.trans (hbz.mono HBA.out.size))
   clear hbz
   go_wp2_with (fail)
   go_ret
   exact ⟨rfl, HBZ.out⟩
 | true =>
 have HNM : Hid (Nar 30 m) := Lib.hid (by first | exact (hr4 trivial).2 | exact (hr4 rfl).2)
 clear hr4
 have HNc := Lib.hid (few_nar 60 c HF1.out.1)
 have HSE := Lib.hid HF1.out.2
 have HRg := Lib.hid (few_rg 24 dc 60 _ HIc.out HF1.out.1)
 have HV3 := HBA
 have HW3 : Hid (Below V2.heap.size V2 V2) := Lib.hid (Below.refl _ _)
 have HNDc : Hid (∀ W, Below V2.heap.size V2 W → Calls Tryz.prog 12 #[.agg #[.string ⟨c.op.toArray⟩, .int .i64 c.int, .string ⟨c.text.toArray⟩, .int .i64 c.ty.kind, .slice Ac c.ty.args.length cc, .slice Kc c.kids.length kc]] W fun e w' => (∃ A c' K k, e = .returned (.agg #[.string ⟨c.op.toArray⟩, .int .i64 c.int, .string ⟨c.text.toArray⟩, .int .i64 c.ty.kind, .slice A c.ty.args.length c', .slice K c.kids.length k]) ∧ NdR W.heap.size w'.heap.size w' (.agg #[.string ⟨c.op.toArray⟩, .int .i64 c.int, .string ⟨c.text.toArray⟩, .int .i64 c.ty.kind, .slice A c.ty.args.length c', .slice K c.kids.length k]) c) ∧ Below W.heap.size W w') := fun W h => node_law2 (HCL1.out.below h) HNc.out
 have HEV : Hid (∀ W, Below V2.heap.size V2 W → Calls Tryz.prog 13 #[.agg #[.int .i64 it.kind, .slice EA it.args.length ek, .slice SA sides.length sk]] W fun e w' => (∃ v', e = .returned v' ∧ EvL w' v' it sides) ∧ Below W.heap.size W w') := fun W h => env_law (HEL1.out.below h) HSE.out
 have HG3 : Hid (∀ W, Below V2.heap.size V2 W → Gl W) := Lib.hid fun W h => HG.out.below (HV3.out.trans (h.mono HV3.out.size)) hGl
 have n0 := zN HBX.out.b1
 have n1 := zR HBX.out.b1
 have n2 := zQ HBX.out.b1
 have n3 := zP HBX.out.b1
 have n4 := zO HBX.out.b1
 have n5 := zL HBX.out.b1
 have nl := zC HBX.out.b1
 go_wp2_with (fail)
 refine (HNDc.out V2 HW3.out).mono ?_
 rintro e VN ⟨⟨Dn, dn, Fn, fn, rfl, hr⟩, hb⟩
 have HNN := Lib.hid (hr.toL (Nat.le_refl _))
 have HBX := Lib.hid (HBX.out.below hb)
 have HW3 := Lib.hid (bl_tr HW3.out hb)
 clear hb hr n0 n1 n2 n3 n4 n5 nl
 go_wp2_with (fail)
 refine (free_law HNN.out HRg.out (HG3.out VN HW3.out)).mono ?_
 rintro e V3 ⟨hfe, hb⟩
 have HBX := Lib.hid (HBX.out.below hb)
 have HW3 := Lib.hid (bl_tr HW3.out hb)
 have HBA := Lib.hid (HV3.out.trans (HW3.out.mono HV3.out.size))
 clear hb HNN
 unfold FeOut at hfe
 cases hsh : (showW c).isSome with
 | false =>
   rw [hsh] at hfe
   have hfe' : e = .returned (.tuple #[.slice none 0 0, .int .i64 110]) := by simpa using hfe
   subst hfe'
   clear hfe hsh
   go_wp2_with (fail)
   refine (HAWK.out _ HBA.out).mono ?_
   rintro e wz ⟨rfl, hbz⟩
   have HBZ := Lib.hid (HBA.out.trans (hbz.mono HBA.out.size))
   clear hbz
   go_wp2_with (fail)
   go_ret
   exact ⟨rfl, HBZ.out⟩
 | true =>
 rw [hsh, if_pos rfl] at hfe
 obtain ⟨v', rfl, hown⟩ := hfe
 obtain ⟨LA, lk, rfl⟩ := own_slice hown
 obtain ⟨nl, hnl⟩ : ∃ k, (freeL c).length = k := ⟨_, rfl⟩
 have HNL := Lib.hid hnl
 rw [hnl]
 have HSH := Lib.hid hsh
 obtain ⟨Rc, hRc⟩ : ∃ R, infR (showW c).isSome it sides (resI it sides c) = R := ⟨_, rfl⟩
 have HRc := Lib.hid hRc
 have HIFc : Hid (∀ (W : World) (v u : Value), Below V2.heap.size V2 W → NdL W v c → EvL W u it sides → Calls Tryz.prog 11 #[v, u] W fun e w' => InfL Rc W.heap.size w' e ∧ Below W.heap.size W w') := Lib.hid fun W v u h h1 h2 => by
  have h3 := infer_law h1 h2 HRg.out (HG3.out W h)
  rw [HRc.out] at h3
  exact h3
 clear hRc hown hnl hsh
 go_upto_region 9 with (fail)
 go_cut [10, 11, 12] from 35 to 44 (fun s1 s2 s3 wx => Below V3.heap.size V3 wx ∧ InfA Rc V3.heap.size wx s2 s3 ∧ BoxA Rc V3.heap.size wx s1)
 case first =>
  have n0 := zN HBX.out.b1
  have n1 := zR HBX.out.b1
  have n2 := zQ HBX.out.b1
  have n3 := zP HBX.out.b1
  have n4 := zO HBX.out.b1
  have n5 := zL HBX.out.b1
  have m0 := cell3_0 HBX.out.b4
  have m1 := yF HBX.out.b4
  have m2 := cell3_2 HBX.out.b4
  have l0 := zC HBX.out.b1
  have l1 := zC HBX.out.b4
  go_region_held3 (fun W => W.cell? ⟨w.heap.size, 0, none⟩ = some (.string ⟨c.op.toArray⟩) ∧ W.cell? ⟨w.heap.size, 1, none⟩ = some (.int .i64 c.int) ∧ W.cell? ⟨w.heap.size, 2, none⟩ = some (.string ⟨c.text.toArray⟩) ∧ W.cell? ⟨w.heap.size, 3, none⟩ = some (.int .i64 c.ty.kind) ∧ W.cell? ⟨w.heap.size, 4, none⟩ = some (.slice Ac c.ty.args.length cc) ∧ W.cell? ⟨w.heap.size, 5, none⟩ = some (.slice Kc c.kids.length kc) ∧ W.cell? ⟨w.heap.size + 1, 0, none⟩ = some (.int .i64 it.kind) ∧ W.cell? ⟨w.heap.size + 1, 1, none⟩ = some (.slice EA it.args.length ek) ∧ W.cell? ⟨w.heap.size + 1, 2, none⟩ = some (.slice SA sides.length sk) ∧ Below V3.heap.size V3 W)
   (exact keep9b HBX.out.b1 HBX.out.b4 (by repeat' (first | with_reducible exact HBC3.out | with_reducible exact HBB3.out | with_reducible exact HBA3.out | with_reducible exact Below.refl _ _ | with_reducible refine bl_al ?_ _ | with_reducible refine bl_dr ?_ | (with_reducible refine bl_set ?_ ?_) | first | omega | (simp; done) | (simp; omega))))
   (first
   | (go_at_call 12; (with_reducible refine (HNDc.out _ ?_).mono ?_); (focus exact bl_tr HW3.out (by repeat' (first | with_reducible exact Below.refl _ _ | with_reducible refine bl_al ?_ _ | with_reducible refine bl_dr ?_))); rintro e wA ⟨⟨Dn, dn, Fn, fn, rfl, hr⟩, hbA⟩; have HNA := Lib.hid (hr.toL (Nat.le_refl _)); have HBA3 : Hid (Below V3.heap.size V3 wA) := bl_tr (by repeat' (first | with_reducible exact Below.refl _ _ | with_reducible refine bl_al ?_ _ | with_reducible refine bl_dr ?_)) hbA; have hsA := HBA3.out.size; (first | (have HZ := Lib.hid ((hbA.block V3.heap.size (by simp)).trans (heap_alloc_new V3 (.cells #[.int .i64 0, .slice none 0 0] 34)))) | skip); clear hr hbA)
   | (go_at_call 13; (with_reducible refine (HEV.out _ ?_).mono ?_); (focus exact bl_tr HW3.out (by repeat' (first | with_reducible exact HBA3.out | with_reducible refine bl_al ?_ _ | with_reducible refine bl_dr ?_))); rintro e wB ⟨⟨vB, rfl, hA⟩, hbA⟩; have HNB := Lib.hid (HNA.out.below (bl_tr (by repeat' (first | with_reducible exact Below.refl _ _ | with_reducible refine bl_al ?_ _ | with_reducible refine bl_dr ?_)) hbA)); have HEB := Lib.hid hA; have HBB3 : Hid (Below V3.heap.size V3 wB) := bl_tr (by repeat' (first | with_reducible exact HBA3.out | with_reducible refine bl_al ?_ _ | with_reducible refine bl_dr ?_)) hbA; have hsB := HBB3.out.size; (first | (have HZ2 := Lib.hid ((hbA.block _ (zC HZ.out)).trans HZ.out)) | (have HZ2 := Lib.hid ((hbA.block wA.heap.size (by simp)).trans (heap_alloc_new wA (.cells #[.int .i64 0, .slice none 0 0] 34)))) | skip); clear hA hbA)
   | (go_at_call 11; (with_reducible refine (HIFc.out _ _ _ ?_ ?_ ?_).mono ?_); (focus exact bl_tr HW3.out (by repeat' (first | with_reducible exact HBB3.out | with_reducible refine bl_al ?_ _ | with_reducible refine bl_dr ?_))); (focus exact HNB.out.below (by repeat' (first | with_reducible exact Below.refl _ _ | with_reducible refine bl_al ?_ _ | with_reducible refine bl_dr ?_))); (focus exact HEB.out.below (by repeat' (first | with_reducible exact Below.refl _ _ | with_reducible refine bl_al ?_ _ | with_reducible refine bl_dr ?_))); rintro e wC ⟨hi, hbA⟩; obtain ⟨kd, TA', tl', tc', av, no, rfl, hiA, hiT, hkd⟩ := hi.open; have HIC := Lib.hid hiA; have HIT := Lib.hid hiT; have HKD := Lib.hid hkd; clear hkd; have HBC3 : Hid (Below V3.heap.size V3 wC) := bl_tr (by repeat' (first | with_reducible exact HBB3.out | with_reducible refine bl_al ?_ _ | with_reducible refine bl_dr ?_)) hbA; have hsC := HBC3.out.size; (first | (have HZ3 := Lib.hid ((hbA.block _ (zC HZ2.out)).trans HZ2.out); have hq := zC HZ2.out) | (have HZ3 := Lib.hid ((hbA.block wB.heap.size (by simp)).trans (heap_alloc_new wB (.cells #[.int .i64 0, .slice none 0 0] 34)))) | skip); (first | (have z0 := zG HZ3.out; have z1 := zF HZ3.out; have zf0 := zB HZ3.out 0; have zf1 := zB HZ3.out 1; have zl := zC HZ3.out) | skip); clear hi hiA hiT hbA)
   | fail)
  all_goals (
   go_wp2_with (fail)
   go_meet
   exact ⟨by repeat' (first | with_reducible exact HBC3.out | with_reducible refine bl_al ?_ _ | (with_reducible refine bl_set ?_ ?_) | first | omega | (simp; done) | (simp; omega)), (by first | exact (HIC.out.below (bl_al (Below.refl _ _) _)).down (by omega) | exact ((HIC.out.set (by first | omega | (simp; done) | (simp; omega))).set (by first | omega | (simp; done) | (simp; omega))).down (by first | omega | (simp; done) | (simp; omega))), (by first | exact ⟨_, kd, TA', tl', tc', rfl, (by first | omega | (simp; done) | (simp; omega)), heap_alloc_new wC _, HKD.out, (HIT.out.below (bl_al (Below.refl _ _) _)).tyL⟩ | exact ⟨_, kd, TA', tl', tc', rfl, (by first | omega | (simp; done) | (simp; omega)), put2_box HZ3.out _ _, HKD.out, ((HIT.out.set (by first | omega | (simp; done) | (simp; omega))).set (by first | omega | (simp; done) | (simp; omega))).tyL⟩)⟩)
 case rest =>
 obtain ⟨hbc, hia, hbx⟩ := hcut
 obtain ⟨V4, hV4⟩ : ∃ W : World, W = wc := ⟨_, rfl⟩
 subst hV4
 have HBX := Lib.hid (HBX.out.below hbc)
 have HW3 := Lib.hid (bl_tr HW3.out hbc)
 have HIARc := Lib.hid hia
 have HBORc := Lib.hid hbx
 clear hbc hia hbx
 have HBA := Lib.hid (HV3.out.trans (HW3.out.mono HV3.out.size))
 obtain ⟨qt, kt, At, lt, ct, rfl, hqt, hbt, hkt, htt⟩ := HBORc.out
 have hia := HIARc.out
 have HNO := Lib.hid (names_ok (it := it) (sides := sides) HSH.out)
 cases hR : Rc with
 | error e =>
   obtain ⟨no, qs⟩ := e
   rw [hR] at hia
   obtain ⟨rfl, h0, _⟩ := hia
   have hc0 : (no == 0) = false := by simp [h0]
   have hc1 : (no != 0) = true := by simp [h0]
   have HRE : Hid (no = 51 → 0 < nl) := Lib.hid fun h => by
    have h1 := HRc.out.trans hR
    unfold infR at h1
    rw [HSH.out, if_pos rfl] at h1
    split at h1
    · subst h
      rw [← HNL.out]
      exact List.length_pos_iff.2 fun h => HNO.out.2 qs h1 (names_nil.1 h)
    · injection h1 with h1
      injection h1 with h1 _
      omega
   clear h0 hbt hkt htt hqt hR
   by_cases h51 : no = 51
   · have hp := HRE.out h51
     have hp0 : ((nl : Int) == 0) = false := by simp; omega
     have hp1 : (0 : Int) < (nl : Int) := by omega
     subst h51
     clear hp
     go_wp2_with (fail)
     refine (HAWK.out _ HBA.out).mono ?_
     rintro e wz ⟨rfl, hbz⟩
     have HBZ := Lib.hid (HBA.out.trans (hbz.mono HBA.out.size))
     clear hbz
     go_wp2_with (fail)
     go_ret
     exact ⟨rfl, HBZ.out⟩
   · have h5 : (no == 51) = false := by simp [h51]
     clear h51
     go_wp2_with (fail)
     refine (HAWK.out _ HBA.out).mono ?_
     rintro e wz ⟨rfl, hbz⟩
     have HBZ := Lib.hid (HBA.out.trans (hbz.mono HBA.out.size))
     clear hbz
     go_wp2_with (fail)
     go_ret
     exact ⟨rfl, HBZ.out⟩
 | ok t =>
 rw [hR] at hia
 obtain ⟨rfl, rfl⟩ := hia
 have htt : TyL V4 (.agg #[.int .i64 kt, .slice At lt ct]) t := by rw [hR] at htt; exact htt
 obtain ⟨hck, hri, hres⟩ := infR_ok (HRc.out.trans hR)
 obtain rfl : nl = 0 := by
  rw [← HNL.out, names_nil.2 (HNO.out.1 t hres)]
  rfl
 have HTB := Lib.hid hbt
 have HTT := Lib.hid htt
 have HRI := Lib.hid hri
 have HRES := Lib.hid hres
 clear hbt hkt htt hqt hck hri hres hR HIARc HBORc HIFc HRc HNL
 by_cases hl10 : 10 ≤ sides.length
 · have hl11 : (10 : Int) ≤ (sides.length : Int) := by omega
   have m0 := cell3_0 HBX.out.b4
   have m1 := yF HBX.out.b4
   have m2 := cell3_2 HBX.out.b4
   have ml := zC HBX.out.b4
   go_wp2_with (fail)
   refine (HAWK.out _ HBA.out).mono ?_
   rintro e wz ⟨rfl, hbz⟩
   have HBZ := Lib.hid (HBA.out.trans (hbz.mono HBA.out.size))
   clear hbz
   go_wp2_with (fail)
   go_ret
   exact ⟨rfl, HBZ.out⟩
 have hl11 : ¬ ((10 : Int) ≤ (sides.length : Int)) := by omega
 obtain ⟨dm, hdm⟩ := (HML1.out.below HW3.out)
 have HRR := Lib.hid (Knd.rright_any 6 dm 30 _ _ m V4 (Nat.le_refl _) HNM.out hdm)
 clear hdm
 have m0 := cell3_0 HBX.out.b4
 have m1 := yF HBX.out.b4
 have m2 := cell3_2 HBX.out.b4
 have ml := zC HBX.out.b4
 have o0 := zG HBX.out.b5
 have o1 := zF HBX.out.b5
 have ol := zC HBX.out.b5
 go_wp2_with (fail)
 refine HRR.out.mono ?_
 rintro e V5 ⟨rfl, hb⟩
 have HBX := Lib.hid (HBX.out.below hb)
 have HW3 := Lib.hid (bl_tr HW3.out hb)
 have HTB := Lib.hid ((hb.block _ (zC HTB.out)).trans HTB.out)
 have HTT := Lib.hid (HTT.out.below hb)
 have HBA := Lib.hid (HV3.out.trans (HW3.out.mono HV3.out.size))
 clear hb m0 m1 m2 ml o0 o1 ol HRR
 cases hok : Knd.okT 6 m with
 | false =>
   clear hok
   go_wp2_with (fail)
   refine (HAWK.out _ HBA.out).mono ?_
   rintro e wz ⟨rfl, hbz⟩
   have HBZ := Lib.hid (HBA.out.trans (hbz.mono HBA.out.size))
   clear hbz
   go_wp2_with (fail)
   go_ret
   exact ⟨rfl, HBZ.out⟩
 | true =>
 have HRM : Hid (RT m) := Lib.hid hok
 clear hok
 obtain ⟨i0, hi, hz0, hz1, hz2⟩ := info_parts Tryz.infoTy
 have m0 := cell3_0 HBX.out.b4
 have m1 := yF HBX.out.b4
 have m2 := cell3_2 HBX.out.b4
 have ml := zC HBX.out.b4
 go_wp2_with (fail)
 refine (env_law2 (HEL1.out.below HW3.out) HSE.out).mono ?_
 rintro e w5 ⟨⟨IA, ik, AA, ak, cs, D, rfl, hT5, hown5, hargs5⟩, hb5⟩
 have HT5 := Lib.hid hT5
 have HO5 := Lib.hid hown5
 have HA5 := Lib.hid hargs5
 have HB5 := Lib.hid hb5
 have hs5 := hb5.size
 have hle := hown5.lt
 obtain ⟨W6, hW6⟩ : ∃ W : World, w5.alloc (.cells #[.int .i64 it.kind, .slice IA it.args.length ik, .slice AA sides.length ak] 44) = W := ⟨_, rfl⟩
 have hb6 : Below w5.heap.size w5 W6 := by rw [← hW6]; exact bl_al (Below.refl _ _) _
 have hb56 : Below V5.heap.size V5 W6 := by rw [← hW6]; exact bl_al hb5 _
 have hx6 : W6.heap[w5.heap.size]? = some (.cells #[.int .i64 it.kind, .slice IA it.args.length ik, .slice AA sides.length ak] 44 (0, 0)) := by rw [← hW6]; exact heap_alloc_new w5 _
 have HO6 : Hid (W6.ownsRow V5.heap.size 34 2 (.slice AA sides.length ak) sides.length cs) := Lib.hid (by rw [← hW6]; exact hown5.alloc _)
 have hs6 : W6.heap.size = w5.heap.size + 1 := by rw [← hW6]; simp
 have HCL := Lib.hid (typ_law (W := W6.drew) HNM.out ((HML1.out.below (bl_tr HW3.out hb56)).below (Below.refl _ _).drew))
 have ho6 := (hb56.block _ (zC HBX.out.b5)).trans HBX.out.b5
 have HB56 := Lib.hid hb56
 have HX6 := Lib.hid hx6
 have HZ6 := Lib.hid ho6
 have HW6 := Lib.hid hW6
 clear m0 m1 m2 ml hT5 hown5 hargs5 hb5 hb6 hx6 ho6 hb56 hW6
 have hV5l : V5.heap.size ≤ w5.heap.size := hs5
 go_upto_region 15 with (fail)
 rw [HW6.out]
 go_cut [] from 76 to 83 (fun wx => Below V5.heap.size V5 wx ∧ ∃ A' c', wx.heap[w5.heap.size]? = some (.cells #[.int .i64 it.kind, .slice IA it.args.length ik, .slice A' (sides.length + 1) c'] 44 (0, 0)) ∧ EvL wx (.agg #[.int .i64 it.kind, .slice IA it.args.length ik, .slice A' (sides ++ [m]).length c']) it (sides ++ [m]))
 case first =>
  have x0 := cell3_0 HX6.out
  have x1 := yF HX6.out
  have x2 := cell3_2 HX6.out
  have xl := zC HX6.out
  have o0 := zG HZ6.out
  have o1 := zF HZ6.out
  have ol := zC HZ6.out
  go_region_law
   (first
   | (go_simp; go_at_call 24; refine HCL.out.mono ?_; rintro e w3 ⟨⟨A3, c3, rfl, hT3⟩, hb3⟩; have hb3' : Below W6.heap.size W6 w3 := (Below.refl _ _).drew.trans hb3; have HT3 := Lib.hid hT3; have HB3 := Lib.hid hb3'; have hs3 := hb3'.size; have hG3 : w5.heap.size < w3.heap.size := (by omega); have hbx3 : w3.heap[w5.heap.size]? = some (.cells #[.int .i64 it.kind, .slice IA it.args.length ik, .slice AA sides.length ak] 44 (0, 0)) := (hb3'.block _ (by omega)).trans HX6.out; have q0 := cell3_0 hbx3; have q1 := yF hbx3; have q2 := cell3_2 hbx3; have hbx8 := (hb3'.block _ (zC HZ6.out)).trans HZ6.out; have r0 := zG hbx8; have r1 := zF hbx8; have rl := zC hbx8; have HOW3 : Hid (w3.ownsRow V5.heap.size 34 2 (.slice AA sides.length ak) sides.length cs) := HO6.out.kept (row := none) ⟨hb3'.os, hb3'.tape, hb3'.output, by omega, fun k hk _ => hb3'.block k hk⟩ (by cases AA <;> simp [Value.ownBlock]); clear hb3 hT3)
   | (refine step_append_lies _ (by rfl) _ _ _ (by rfl) V5.heap.size 34 i0 (.agg #[.int .i64 0, .slice none 0 0]) 2 32 Tryz.underlying32 hi hz0 hz1 hz2 rfl (by omega) (.slice AA sides.length ak) sides.length cs (by rfl) (HOW3.out.alloc _) ⟨w3.heap.size, 0, none⟩ 1 1 [.int .i64 m.kind, .slice A3 m.args.length c3] (by rfl) (by rfl) (World.news_of_block (cs := #[.int .i64 m.kind, .slice A3 m.args.length c3]) (t := 34) (fr := (0, 0)) (heap_alloc_new w3 _)) (by simp [Value.oneCell']) (by omega) (by unfold maxLen; omega) (by omega) (by simp; omega) (w3.heap.size + 1) (by simp) ?_; intro gg cap w7 hown7 hg7 hat7 hlt7; have hP7 : w7.heap[w5.heap.size]? = some (.cells #[.int .i64 it.kind, .slice IA it.args.length ik, .slice AA sides.length ak] 44 (0, 0)) := (hg7.block _ (by simp; omega) (fun e => by have := (hle _ e.symm).2; omega)).trans ((Below.heap_alloc w3 _ _ (by omega)).trans hbx3); have q7 := cell3_2 hP7; have qf7 := zB hP7 2; have hl7 := zC hP7)
   | fail)
  all_goals (
   go_wp2_with (fail)
   go_meet
   have hat7' : (Value.slice (some ⟨gg, 0, none⟩) (sides.length + 1) cap).ownBlock = (Value.slice AA sides.length ak).ownBlock ∨ (Value.slice (some ⟨gg, 0, none⟩) (sides.length + 1) cap).ownBlock = some (w3.alloc (.cells #[.int .i64 m.kind, .slice A3 m.args.length c3] 34)).heap.size := hat7.imp (fun h => h.symm) fun h => by subst h; simp [Value.ownBlock]
   have hb8 := bl_set (g := w5.heap.size) (i := 2) (v := .slice (some ⟨gg, 0, none⟩) (sides.length + 1) cap) ((bl_al (bl_tr HB56.out HB3.out) (.cells #[.int .i64 m.kind, .slice A3 m.args.length c3] 34)).grown hg7 (by have := HB56.out.size; simp; omega) (fun k hk => (HO5.out.lt k hk).1)) hV5l
   refine ⟨hb8, some ⟨gg, 0, none⟩, cap, by simp [World.setCell, Array.getElem?_modify, hP7], ?_⟩
   exact ev_one (V := V5) (o1 := .cells #[.int .i64 it.kind, .slice IA it.args.length ik, .slice AA sides.length ak] 44) hV5l HT5.out HO5.out HA5.out (by rw [HW6.out]; exact HB3.out) (by rw [HW6.out]; exact HT3.out) hg7 hown7 hat7')
 case rest =>
 obtain ⟨hb8, A', c', hwb, hew⟩ := hcut
 obtain ⟨V6, hV6⟩ : ∃ W : World, W = wc := ⟨_, rfl⟩
 subst hV6
 have HBX := Lib.hid (HBX.out.below hb8)
 have HW3 := Lib.hid (bl_tr HW3.out hb8)
 have HTB := Lib.hid ((hb8.block _ (zC HTB.out)).trans HTB.out)
 have HTT := Lib.hid (HTT.out.below hb8)
 have HEW := Lib.hid hew
 have HWB := Lib.hid hwb
 clear hb8 hew hwb HO6 HX6 HW6 HZ6 HCL HB56 HT5 HO5 HA5 HB5 hle hs5 hs6 hV5l hi hz0 hz1 hz2
 have hln : (sides ++ [m]).length = sides.length + 1 := by simp
 rw [hln] at HEW
 clear hln
 generalize w5.heap.size = q8 at *
 obtain ⟨Rx, hRx⟩ : ∃ R, infR (showW c).isSome it (sides ++ [m]) (resI it (sides ++ [m]) c) = R := ⟨_, rfl⟩
 have HRx := Lib.hid hRx
 have HIFx : Hid (∀ (W : World) (v u : Value), Below V2.heap.size V2 W → NdL W v c → EvL W u it (sides ++ [m]) → Calls Tryz.prog 11 #[v, u] W fun e w' => InfL Rx W.heap.size w' e ∧ Below W.heap.size W w') := Lib.hid fun W v u h h1 h2 => by
  have h3 := infer_law h1 h2 HRg.out (HG3.out W h)
  rw [HRx.out] at h3
  exact h3
 clear hRx
 go_upto_region 16 with (fail)
 go_cut [14, 15, 16] from 83 to 91 (fun s1 s2 s3 wx => Below V6.heap.size V6 wx ∧ InfA Rx V6.heap.size wx s2 s3 ∧ BoxA Rx V6.heap.size wx s1)
 case first =>
  have n0 := zN HBX.out.b1
  have n1 := zR HBX.out.b1
  have n2 := zQ HBX.out.b1
  have n3 := zP HBX.out.b1
  have n4 := zO HBX.out.b1
  have n5 := zL HBX.out.b1
  have m0 := cell3_0 HWB.out
  have m1 := yF HWB.out
  have m2 := cell3_2 HWB.out
  have l0 := zC HBX.out.b1
  have l1 := zC HWB.out
  go_region_held3 (fun W => W.cell? ⟨w.heap.size, 0, none⟩ = some (.string ⟨c.op.toArray⟩) ∧ W.cell? ⟨w.heap.size, 1, none⟩ = some (.int .i64 c.int) ∧ W.cell? ⟨w.heap.size, 2, none⟩ = some (.string ⟨c.text.toArray⟩) ∧ W.cell? ⟨w.heap.size, 3, none⟩ = some (.int .i64 c.ty.kind) ∧ W.cell? ⟨w.heap.size, 4, none⟩ = some (.slice Ac c.ty.args.length cc) ∧ W.cell? ⟨w.heap.size, 5, none⟩ = some (.slice Kc c.kids.length kc) ∧ W.cell? ⟨q8, 0, none⟩ = some (.int .i64 it.kind) ∧ W.cell? ⟨q8, 1, none⟩ = some (.slice IA it.args.length ik) ∧ W.cell? ⟨q8, 2, none⟩ = some (.slice A' (sides.length + 1) c') ∧ Below V6.heap.size V6 W)
   (exact keep9b HBX.out.b1 HWB.out (by repeat' (first | with_reducible exact HBC3.out | with_reducible exact HBA3.out | with_reducible exact Below.refl _ _ | with_reducible refine bl_al ?_ _ | with_reducible refine bl_dr ?_ | (with_reducible refine bl_set ?_ ?_) | first | omega | (simp; done) | (simp; omega))))
   (first
   | (go_at_call 12; (with_reducible refine (HNDc.out _ ?_).mono ?_); (focus exact bl_tr HW3.out (by repeat' (first | with_reducible exact Below.refl _ _ | with_reducible refine bl_al ?_ _ | with_reducible refine bl_dr ?_))); rintro e wA ⟨⟨Dn, dn, Fn, fn, rfl, hr⟩, hbA⟩; have HNA := Lib.hid (hr.toL (Nat.le_refl _)); have HBA3 : Hid (Below V6.heap.size V6 wA) := bl_tr (by repeat' (first | with_reducible exact Below.refl _ _ | with_reducible refine bl_al ?_ _ | with_reducible refine bl_dr ?_)) hbA; have hsA := HBA3.out.size; (first | (have HZ := Lib.hid ((hbA.block V6.heap.size (by simp)).trans (heap_alloc_new V6 (.cells #[.int .i64 0, .slice none 0 0] 34)))) | skip); clear hr hbA)
   | (go_at_call 11; (with_reducible refine (HIFx.out _ _ _ ?_ ?_ ?_).mono ?_); (focus exact bl_tr HW3.out (by repeat' (first | with_reducible exact HBA3.out | with_reducible refine bl_al ?_ _ | with_reducible refine bl_dr ?_))); (focus exact HNA.out.below (by repeat' (first | with_reducible exact Below.refl _ _ | with_reducible refine bl_al ?_ _ | with_reducible refine bl_dr ?_))); (focus exact HEW.out.below (by repeat' (first | with_reducible exact HBA3.out | with_reducible refine bl_al ?_ _ | with_reducible refine bl_dr ?_))); rintro e wC ⟨hi, hbA⟩; obtain ⟨kd, TA', tl', tc', av, no, rfl, hiA, hiT, hkd⟩ := hi.open; have HIC := Lib.hid hiA; have HIT := Lib.hid hiT; have HKD := Lib.hid hkd; clear hkd; have HBC3 : Hid (Below V6.heap.size V6 wC) := bl_tr (by repeat' (first | with_reducible exact HBA3.out | with_reducible refine bl_al ?_ _ | with_reducible refine bl_dr ?_)) hbA; have hsC := HBC3.out.size; (first | (have HZ3 := Lib.hid ((hbA.block _ (zC HZ.out)).trans HZ.out); have hq := zC HZ.out) | (have HZ3 := Lib.hid ((hbA.block wA.heap.size (by simp)).trans (heap_alloc_new wA (.cells #[.int .i64 0, .slice none 0 0] 34)))) | skip); (first | (have z0 := zG HZ3.out; have z1 := zF HZ3.out; have zf0 := zB HZ3.out 0; have zf1 := zB HZ3.out 1; have zl := zC HZ3.out) | skip); clear hi hiA hiT hbA)
   | fail)
  all_goals (
   go_wp2_with (fail)
   go_meet
   exact ⟨by repeat' (first | with_reducible exact HBC3.out | with_reducible refine bl_al ?_ _ | (with_reducible refine bl_set ?_ ?_) | first | omega | (simp; done) | (simp; omega)), (by first | exact (HIC.out.below (bl_al (Below.refl _ _) _)).down (by omega) | exact ((HIC.out.set (by first | omega | (simp; done) | (simp; omega))).set (by first | omega | (simp; done) | (simp; omega))).down (by first | omega | (simp; done) | (simp; omega))), (by first | exact ⟨_, kd, TA', tl', tc', rfl, (by first | omega | (simp; done) | (simp; omega)), heap_alloc_new wC _, HKD.out, (HIT.out.below (bl_al (Below.refl _ _) _)).tyL⟩ | exact ⟨_, kd, TA', tl', tc', rfl, (by first | omega | (simp; done) | (simp; omega)), put2_box HZ3.out _ _, HKD.out, ((HIT.out.set (by first | omega | (simp; done) | (simp; omega))).set (by first | omega | (simp; done) | (simp; omega))).tyL⟩)⟩)
 case rest =>
 obtain ⟨hbc, hia, hbx⟩ := hcut
 obtain ⟨V7, hV7⟩ : ∃ W : World, W = wc := ⟨_, rfl⟩
 subst hV7
 have HBX := Lib.hid (HBX.out.below hbc)
 have HW3 := Lib.hid (bl_tr HW3.out hbc)
 have HTB := Lib.hid ((hbc.block _ (zC HTB.out)).trans HTB.out)
 have HTT := Lib.hid (HTT.out.below hbc)
 have HBA := Lib.hid (HV3.out.trans (HW3.out.mono HV3.out.size))
 have hRx : Rx = .ok t := by
  rw [← HRx.out, HSH.out, infR_true (right_one HRI.out HRM.out (by omega))]
  exact infer_more zS it m sides 24 [] [] c t HRES.out
 rw [hRx] at hia hbx
 obtain ⟨rfl, rfl⟩ := hia
 obtain ⟨qx, kx, Ax, lx, cx, rfl, hqx, hxb, hkx, htx⟩ := hbx
 have htx' : TyL V7 (.agg #[.int .i64 kx, .slice Ax lx cx]) t := htx
 have hrt : RT t := res_right HRI.out HRES.out
 have HSM : Hid (Calls Tryz.prog 25 #[.agg #[.int .i64 kt, .slice At lt ct], .agg #[.int .i64 kx, .slice Ax lx cx]] V7 fun e w' => e = .returned (.bool true) ∧ Below V7.heap.size V7 w') := Lib.hid (by
  obtain ⟨x1, k1⟩ := HTT.out
  obtain ⟨x2, k2⟩ := htx'
  have k3 := Knd.same_any x1 x2 _ _ _ _ t t V7 k1 k2 (HG3.out V7 HW3.out).kd
  rw [rt_same hrt] at k3
  exact k3)
 have t0 := zG HTB.out
 have t1 := zF HTB.out
 have tl := zC HTB.out
 have b0 := zG hxb
 have b1 := zF hxb
 have bl' := zC hxb
 clear hRx hbc htx htx' hrt hxb hkx hqx HEW HWB HIFx HEV HTB HTT
 go_wp2_with (first
  | (go_at_call 25; (with_reducible refine HSM.out.mono ?_); rintro e w8 ⟨rfl, hb8⟩; have HB8 : Hid (Below w.heap.size w w8) := HBA.out.trans (hb8.mono HBA.out.size); clear hb8)
  | (go_at_call 10; refine (HAWK.out _ HB8.out).mono ?_; rintro e w6 ⟨rfl, hb6⟩; have HB6 := Lib.hid (HB8.out.trans (hb6.mono HB8.out.size)); clear hb6)
  | fail)
 go_ret
 exact ⟨rfl, HB6.out⟩
