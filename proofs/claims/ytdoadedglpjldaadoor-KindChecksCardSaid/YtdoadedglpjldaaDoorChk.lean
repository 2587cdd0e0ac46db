/-
The walk of KindChecks.
-/
import Derived.Test.YtdoadedglpjldaaDoorZrk
import Derived.Test.YtdoadedglpjldaaDoorTwo
import Derived.Test.YtdoadedglpjldaaDoorMkw
import Derived.Test.YtdoadedglpjldaaDoorRgt
import Derived.Test.YtdoadedglpjldaaDoorDpt
import Derived.Test.YtdoadedglpjldaaDoorShw
import Derived.Test.YtdoadedglpjldaaDoorMks
import Derived.Test.YtdoadedglpjldaaDoorAwk
import Derived.Deep.DeepCutAuto
namespace Go.Proofs.YtdoadedglpjldaaDoor
open Go.RowKit

theorem ty_low {w : World} {S : Nat → Prop} : ∀ (r d : Nat) {v : Value} {t : Ty} {q : Nat}, measureT r t = some q → TyAt w S d v t → TyAt w S r v t
  | 0, d, v, t, q, h, _ => by simp [measureT] at h
  | r + 1, 0, v, t, q, _, h => h.elim
  | r + 1, d + 1, v, t, q, h, hT => by
    obtain ⟨x, _, _, _, hall⟩ := measure_right h
    obtain ⟨A, c, e, hc, hA⟩ := hT
    refine ⟨A, c, e, hc, fun hl => ?_⟩
    obtain ⟨b, o, e1, hS, hj⟩ := hA hl
    refine ⟨b, o, e1, hS, fun j a ha => ?_⟩
    obtain ⟨u0, u1, h0, h1, h2⟩ := hj j a ha
    obtain ⟨q', hq⟩ := hall a (List.mem_of_getElem? ha)
    exact ⟨u0, u1, h0, h1, ty_low r d hq h2⟩

theorem ty_args {w : World} {S : Nat → Prop} {d : Nat} {k : Int} {A : Option Addr} {n c : Nat} {t : Ty} (h : TyAt w S d (.agg #[.int .i64 k, .slice A n c]) t) : ∃ d0, ArgsAt w S d0 A t.args ∧ t.args.length ≤ c := by
  cases d with
  | zero => exact h.elim
  | succ d =>
    obtain ⟨A1, c1, e, hc, hA⟩ := h
    have e2 := congrArg Array.toList (Value.agg.inj e)
    simp only [List.cons.injEq, and_true, Value.slice.injEq] at e2
    obtain ⟨_, rfl, _, rfl⟩ := e2
    exact ⟨d, hA, hc⟩

theorem rright6 (d n : Nat) (S : Nat → Prop) (v : Value) (t : Ty) (w : World) (hN : Nar n t) (hT : TyAt w S d v t) :
    Calls Tryd.prog 11 #[v, .int .i64 6] w fun e w' => e = .returned (.bool (okT 6 t)) ∧ Below w.heap.size w w' := rright_any 6 d n S v t w (Nat.le_refl _) hN hT

set_option maxRecDepth 100000 in
set_option maxHeartbeats 4000000 in
theorem checks_walk (d d' : Nat) (S S' : Nat → Prop) (v v' : Value) (t u : Ty) (w : World) (hT : TyAt w S d v t) (hU : TyAt w S' d' v' u) (hG : Glob w) :
    Calls Tryd.prog 3 #[v, v'] w fun e w' => e = .returned (.bool true) ∧ Below w.heap.size w w' := by
  have hGl := hG.lt
  have hawk := fun (W : World) (h : Below w.heap.size w W) => awake_any W (hG.kept (h.block 0 hGl))
  have HAWK := Lib.hid hawk
  have HT := Lib.hid hT
  have HU := Lib.hid hU
  obtain ⟨A, c, rfl⟩ := hT.form
  obtain ⟨A', c', rfl⟩ := hU.form
  have hb2 := ((Below.refl w.heap.size w).alloc (Nat.le_refl _) (.cells #[.int .i64 t.kind, .slice A t.args.length c] 24)).alloc (by simp) (.cells #[.int .i64 u.kind, .slice A' u.args.length c'] 24)
  have hx0 := (Below.heap_alloc (w.alloc (.cells #[.int .i64 t.kind, .slice A t.args.length c] 24)) (.cells #[.int .i64 u.kind, .slice A' u.args.length c'] 24) w.heap.size (by simp)).trans (heap_alloc_new w _)
  have hx1 : ((w.alloc (.cells #[.int .i64 t.kind, .slice A t.args.length c] 24)).alloc (.cells #[.int .i64 u.kind, .slice A' u.args.length c'] 24)).heap[w.heap.size + 1]? = some (.cells #[.int .i64 u.kind, .slice A' u.args.length c'] 24 (0, 0)) := by simpa using heap_alloc_new (w.alloc (.cells #[.int .i64 t.kind, .slice A t.args.length c] 24)) (.cells #[.int .i64 u.kind, .slice A' u.args.length c'] 24)
  have hz2 : w.heap.size + 2 ≤ ((w.alloc (.cells #[.int .i64 t.kind, .slice A t.args.length c] 24)).alloc (.cells #[.int .i64 u.kind, .slice A' u.args.length c'] 24)).heap.size := by simp
  have HX0 := Lib.hid hx0
  have HX1 := Lib.hid hx1
  clear hawk hT hU hx0 hx1
  go_enter Tryd.func3, Tryd.ntmps3
  go_wp2_with (fail)
  refine (fits_any d _ _ t _ (HT.out.below hb2)).mono ?_
  rintro e w1 ⟨⟨bb, rfl, hN1⟩, hb3⟩
  have HB1 := hb2.trans (hb3.mono hb2.size)
  have HY0 := Lib.hid ((hb3.block w.heap.size (by omega)).trans HX0.out)
  have HY1 := Lib.hid ((hb3.block (w.heap.size + 1) (by omega)).trans HX1.out)
  have HT1 := Lib.hid ((HT.out.below hb2).below hb3)
  have HU1 := Lib.hid ((HU.out.below hb2).below hb3)
  have hs1 := hb3.size
  have HN1 := Lib.hid hN1
  clear hN1 HX0 HX1
  cases bb with
  | false =>
    go_wp2_with (fail)
    refine (HAWK.out _ HB1).mono ?_
    rintro e wq ⟨rfl, hbq⟩
    go_wp2_with (fail)
    go_ret
    exact ⟨rfl, HB1.trans (hbq.mono HB1.size)⟩
  | true =>
    have d0 := cell2_0 HY1.out
    have d1 := cell2_1 HY1.out
    have hl1 := cell_lt HY1.out
    go_wp2_with (fail)
    refine (fits_any d' _ _ u _ HU1.out).mono ?_
    rintro e w2 ⟨⟨bb, rfl, hN2⟩, hb4⟩
    have HB2 := HB1.trans (hb4.mono HB1.size)
    have HZ0 := Lib.hid ((hb4.block w.heap.size (by omega)).trans HY0.out)
    have HZ1 := Lib.hid ((hb4.block (w.heap.size + 1) hl1).trans HY1.out)
    have HT2 := Lib.hid (HT1.out.below hb4)
    have HU2 := Lib.hid (HU1.out.below hb4)
    have hs2 := hb4.size
    have HN2 := Lib.hid hN2
    clear hN2 HY0 HY1 HT1 HU1 HT HU d0 d1
    cases bb with
    | false =>
      go_wp2_with (fail)
      refine (HAWK.out _ HB2).mono ?_
      rintro e wq ⟨rfl, hbq⟩
      go_wp2_with (fail)
      go_ret
      exact ⟨rfl, HB2.trans (hbq.mono HB2.size)⟩
    | true =>
      have HNt : Hid (Nar 30 t) := Lib.hid (HN1.out trivial)
      have HNu : Hid (Nar 30 u) := Lib.hid (HN2.out rfl)
      clear HN1 HN2
      go_upto_region 3 with fail
      go_cut [5, 6] (fun s5 s6 wx => XY w2 d d' t u s5 s6 wx)
      case first => as_aux_lemma =>
        refine region_inv (L := ops3) (InvC w w2 d d' t u A A' c c') (by kernel_rfl) (by kernel_rfl) InvC.start (fun l a W h => h.1) (inv_steps w w2 d d' _ _ t u A A' c c' _ HNt HNu HT2 HU2 HZ0 HZ1) ?_
        intro l a W hI hl
        obtain ⟨p5, p6, u27, u28, u29, u30, rfl, hXY⟩ := hI.xy hl
        unfold FrC
        go_wp2_with fail
        go_meet
        exact hXY
      case rest =>
        obtain ⟨X, Y, Ax, kx, Ay, ky, rfl, rfl, hX, hY, hTx, hUy, hb5⟩ := hcut
        obtain ⟨ww, rfl⟩ : ∃ ww : World, ww = wc := ⟨_, rfl⟩
        have hlw : w.heap.size < ww.heap.size := Nat.lt_of_lt_of_le (cell_lt HZ0.out) hb5.size
        have hlw1 : w.heap.size + 1 < ww.heap.size := Nat.lt_of_lt_of_le (cell_lt HZ1.out) hb5.size
        have HBc : Below w.heap.size w ww := HB2.trans (hb5.mono HB2.size)
        have hlc := HBc.size
        have hlX := cell_lt hX
        have hlY := cell_lt hY
        have HTc := Lib.hid (HT2.out.below hb5)
        have HUc := Lib.hid (HU2.out.below hb5)
        have hz0 := (hb5.block w.heap.size (cell_lt HZ0.out)).trans HZ0.out
        have hz1 := (hb5.block (w.heap.size + 1) (cell_lt HZ1.out)).trans HZ1.out
        have HC0 := Lib.hid (cell2_0 hz0)
        have HC1 := Lib.hid (cell2_1 hz0)
        have HD0 := Lib.hid (cell2_0 hz1)
        have HD1 := Lib.hid (cell2_1 hz1)
        have HX0 := Lib.hid (cell2_0 hX)
        have HX1 := Lib.hid (cell2_1 hX)
        have HY0 := Lib.hid (cell2_0 hY)
        have HY1 := Lib.hid (cell2_1 hY)
        have HTX := Lib.hid hTx
        have HUY := Lib.hid hUy
        clear hX hY hTx hUy hz0 hz1 hb2 hz2 hb3 hb4 HZ0 HZ1 HT2 HU2 hs1 hs2 hl1
        have x0 := HX0.out
        have x1 := HX1.out
        have y0 := HY0.out
        have y1 := HY1.out
        have hRc : Below ww.heap.size ww ww := Below.refl _ _
        go_wp2_with (fail)
        go_region_held3 (fun w' => w'.cell? ⟨X, 0, none⟩ = some (.int .i64 t.kind) ∧ w'.cell? ⟨X, 1, none⟩ = some (.slice Ax t.args.length kx) ∧ w'.cell? ⟨Y, 0, none⟩ = some (.int .i64 u.kind) ∧ w'.cell? ⟨Y, 1, none⟩ = some (.slice Ay u.args.length ky) ∧ Below ww.heap.size ww w')
          (((refine ⟨?_, ?_, ?_, ?_, ?_⟩ <;> (repeat' (first | with_reducible assumption | with_reducible refine cell_drew_some ?_ | with_reducible refine Below.drew ?_)))))
          (first
            | (go_at_call 11; refine (rright6 d' 30 _ _ u _ HNu.out (HUY.out.below HB4)).mono ?_; rintro e w5 ⟨rfl, hb6⟩; have HB5 : Below ww.heap.size ww w5 := HB4.trans (hb6.mono HB4.size); have p0 := (HB5.cell (p := ⟨X, 0, none⟩) hlX).trans HX0.out; have p1 := (HB5.cell (p := ⟨X, 1, none⟩) hlX).trans HX1.out; have p2 := (HB5.cell (p := ⟨Y, 0, none⟩) hlY).trans HY0.out; have p3 := (HB5.cell (p := ⟨Y, 1, none⟩) hlY).trans HY1.out)
            | (go_at_call 11; refine (rright6 d 30 _ _ t ww.drew HNt.out (HTX.out.below (Below.refl _ _).drew)).mono ?_; rintro e w4 ⟨rfl, hb6⟩; have HB4 : Below ww.heap.size ww w4 := (Below.refl _ ww).drew.trans hb6; have p0 := (HB4.cell (p := ⟨X, 0, none⟩) hlX).trans HX0.out; have p1 := (HB4.cell (p := ⟨X, 1, none⟩) hlX).trans HX1.out; have p2 := (HB4.cell (p := ⟨Y, 0, none⟩) hlY).trans HY0.out; have p3 := (HB4.cell (p := ⟨Y, 1, none⟩) hlY).trans HY1.out))
        clear x0 x1 y0 y1 p0 p1 p2 p3 hRc
        obtain ⟨d0, hargs, hlenc⟩ := ty_args HTc.out
        have HARGS := Lib.hid hargs
        clear hargs
        have hmkt : Ty.mk t.kind t.args = t := by cases t; rfl
        have HMKT := Lib.hid hmkt
        clear hmkt
        cases hm : measureT 6 t with
        | none => as_aux_lemma =>
          have hok : okT 6 t = false := by simp [okT, hm]
          have HS : Hid (sameT t u = false) := by show _ = _; simp only [sameT, hm, Option.isSome_none, Bool.false_and]
          have HM := Lib.hid hm
          clear hm
          rw [hok]
          clear hok
          have c0 := (HB5.cell (p := ⟨w.heap.size, 0, none⟩) hlw).trans HC0.out
          have c1 := (HB5.cell (p := ⟨w.heap.size, 1, none⟩) hlw).trans HC1.out
          go_wp2_with (fail)
          refine (show_any d S _ t _ (HTc.out.below HB5) (hG.kept ((HBc.trans (HB5.mono hlc)).block 0 hGl))).mono ?_
          rw [HM.out]
          rintro e w6 ⟨he, hb⟩
          obtain rfl : e = .returned (.tuple #[.string ⟨#[]⟩, .int .i64 20]) := he
          have HB6 := HB5.trans (hb.mono HB5.size)
          clear hb
          clear c0 c1
          have c0 := (HB6.cell (p := ⟨w.heap.size, 0, none⟩) hlw).trans HC0.out
          have c1 := (HB6.cell (p := ⟨w.heap.size, 1, none⟩) hlw).trans HC1.out
          go_wp2_with (fail)
          refine (depth_any d S _ t _ (HTc.out.below HB6) (hG.kept ((HBc.trans (HB6.mono hlc)).block 0 hGl))).mono ?_
          rw [HM.out]
          rintro e w7 ⟨he, hb⟩
          obtain rfl : e = .returned (.tuple #[.int .i64 ((0 : Nat) : Int), .int .i64 20]) := he
          have HB7 := HB6.trans (hb.mono HB6.size)
          clear hb
          clear c0 c1
          have c0 := (HB7.cell (p := ⟨w.heap.size, 0, none⟩) hlw).trans HC0.out
          have c1 := (HB7.cell (p := ⟨w.heap.size, 1, none⟩) hlw).trans HC1.out
          go_wp2_with (fail)
          refine (kzero_any d S _ t _ (HTc.out.below HB7) (hG.kept ((HBc.trans (HB7.mono hlc)).block 0 hGl))).mono ?_
          rw [HM.out]
          rintro e w8 ⟨he, hb⟩
          obtain rfl : e = .returned (.tuple #[.agg #[.int .i64 0, .int .i64 0, .string ⟨#[]⟩, .complex .f64 0 0, .slice none 0 0], .int .i64 20]) := he
          have HB8 := HB7.trans (hb.mono HB7.size)
          clear hb
          have HB8a := HB8.alloc HB8.size (.cells #[.int .i64 0, .int .i64 0, .string ⟨#[]⟩, .complex .f64 0 0, .slice none 0 0] 40)
          have hnz := heap_alloc_new w8 (.cells #[.int .i64 0, .int .i64 0, .string ⟨#[]⟩, .complex .f64 0 0, .slice none 0 0] 40)
          have HNZ := Lib.hid hnz
          have hlz := cell_lt hnz
          clear hnz
          have hs8 := HB8.size
          clear c0 c1
          have c0 := (HB8.cell (p := ⟨w.heap.size, 0, none⟩) hlw).trans HC0.out
          have c1 := (HB8.cell (p := ⟨w.heap.size, 1, none⟩) hlw).trans HC1.out
          have hlw8 : w.heap.size < w8.heap.size := by omega
          go_wp2_with (fail)
          refine (make2_any d0 S t.kind A c t.args _ (HARGS.out.below HB8a) hlenc (hG.kept ((HBc.trans (HB8a.mono hlc)).block 0 hGl))).mono ?_
          rw [HMKT.out, HM.out]
          rintro e w9 ⟨he, hb⟩
          obtain rfl : e = .returned (.tuple #[.agg #[.int .i64 0, .slice none 0 0], .int .i64 20]) := he
          have HB9 := HB8a.trans (hb.mono HB8a.size)
          have HB9a := HB9.alloc HB9.size (.cells #[.int .i64 0, .slice none 0 0] 24)
          have hnm := heap_alloc_new w9 (.cells #[.int .i64 0, .slice none 0 0] 24)
          have hnz := (Below.heap_alloc w9 (.cells #[.int .i64 0, .slice none 0 0] 24) _ (Nat.lt_of_lt_of_le hlz hb.size)).trans ((hb.block _ hlz).trans HNZ.out)
          have HNM := Lib.hid hnm
          have HNZ2 := Lib.hid hnz
          have hlm := cell_lt hnm
          have hlz2 := cell_lt hnz
          clear hnm hnz hb HNZ
          have hs9 := HB9.size
          have hlw9 : w.heap.size < w9.heap.size := by omega
          have hlw91 : w.heap.size + 1 < w9.heap.size := by omega
          clear c0 c1
          have c0 := (HB9.cell (p := ⟨w.heap.size, 0, none⟩) hlw).trans HC0.out
          have c1 := (HB9.cell (p := ⟨w.heap.size, 1, none⟩) hlw).trans HC1.out
          have d0 := (HB9.cell (p := ⟨w.heap.size + 1, 0, none⟩) hlw1).trans HD0.out
          have d1 := (HB9.cell (p := ⟨w.heap.size + 1, 1, none⟩) hlw1).trans HD1.out
          go_wp2_with (fail)
          refine (same_any d d' S S' _ _ t u _ (HTc.out.below HB9a) (HUc.out.below HB9a) (hG.kept ((HBc.trans (HB9a.mono hlc)).block 0 hGl))).mono ?_
          rw [HS.out]
          rintro e w10 ⟨rfl, hb⟩
          have HB10 := HB9a.trans (hb.mono HB9a.size)
          have hnm := (hb.block _ hlm).trans HNM.out
          have hnz := (hb.block _ hlz2).trans HNZ2.out
          clear hb
          clear c0 c1 d0 d1
          have c0 := (HB10.cell (p := ⟨w.heap.size, 0, none⟩) hlw).trans HC0.out
          have c1 := (HB10.cell (p := ⟨w.heap.size, 1, none⟩) hlw).trans HC1.out
          go_wp2_with (fail)
          refine (check_any d S _ t _ (HTc.out.below HB10) (hG.kept ((HBc.trans (HB10.mono hlc)).block 0 hGl))).mono ?_
          rw [HM.out]
          rintro e w11 ⟨he, hb⟩
          obtain rfl : e = .returned (.int .i64 20) := he
          have HB11 := HB10.trans (hb.mono HB10.size)
          have z0 := cell5_0 ((hb.block _ (cell_lt hnz)).trans hnz)
          have m0 := cell2_0 ((hb.block _ (cell_lt hnm)).trans hnm)
          clear hb hnm hnz
          go_wp2_with (fail)
          refine (HAWK.out _ (HBc.trans (HB11.mono hlc))).mono ?_
          rintro e wq ⟨rfl, hbq⟩
          go_wp2_with (fail)
          go_ret
          exact ⟨rfl, (HBc.trans (HB11.mono hlc)).trans (hbq.mono (HBc.trans (HB11.mono hlc)).size)⟩
        | some q =>
          have hok : okT 6 t = true := by simp [okT, hm]
          have HNR := Lib.hid (nar_right 6 t q hm)
          have HSELF := Lib.hid (eqT_self 6 t q hm)
          have HT6 := Lib.hid (ty_low 6 d hm HTc.out)
          have HX6 := Lib.hid (ty_low 6 d hm HTX.out)
          have HM := Lib.hid hm
          clear hm
          rw [hok]
          clear hok
          have c0 := (HB5.cell (p := ⟨w.heap.size, 0, none⟩) hlw).trans HC0.out
          have c1 := (HB5.cell (p := ⟨w.heap.size, 1, none⟩) hlw).trans HC1.out
          go_wp2_with (fail)
          refine (show_any d S _ t _ (HTc.out.below HB5) (hG.kept ((HBc.trans (HB5.mono hlc)).block 0 hGl))).mono ?_
          rw [HM.out]
          rintro e w6 ⟨he, hb⟩
          obtain rfl : e = .returned (.tuple #[.string ⟨(textT 6 t).toArray⟩, .int .i64 0]) := he
          have HB6 := HB5.trans (hb.mono HB5.size)
          clear hb
          clear c0 c1
          have c0 := (HB6.cell (p := ⟨w.heap.size, 0, none⟩) hlw).trans HC0.out
          have c1 := (HB6.cell (p := ⟨w.heap.size, 1, none⟩) hlw).trans HC1.out
          go_wp2_with (fail)
          refine (depth_any d S _ t _ (HTc.out.below HB6) (hG.kept ((HBc.trans (HB6.mono hlc)).block 0 hGl))).mono ?_
          rw [HM.out]
          rintro e w7 ⟨he, hb⟩
          obtain rfl : e = .returned (.tuple #[.int .i64 (q : Int), .int .i64 0]) := he
          have HB7 := HB6.trans (hb.mono HB6.size)
          clear hb
          clear c0 c1
          have c0 := (HB7.cell (p := ⟨w.heap.size, 0, none⟩) hlw).trans HC0.out
          have c1 := (HB7.cell (p := ⟨w.heap.size, 1, none⟩) hlw).trans HC1.out
          go_wp2_with (fail)
          refine (kzero_any d S _ t _ (HTc.out.below HB7) (hG.kept ((HBc.trans (HB7.mono hlc)).block 0 hGl))).mono ?_
          rw [HM.out]
          rintro e w8 ⟨⟨Az, cz, rfl, hVz⟩, hb⟩
          have HB8 := HB7.trans (hb.mono HB7.size)
          clear hb
          have HB8a := HB8.alloc HB8.size (.cells #[.int .i64 (zeroV 6 t).kind, .int .i64 (zeroV 6 t).int, .string (zeroV 6 t).text, .complex .f64 (zeroV 6 t).re (zeroV 6 t).im, .slice Az (zeroV 6 t).list.length cz] 40)
          have hnz := heap_alloc_new w8 (.cells #[.int .i64 (zeroV 6 t).kind, .int .i64 (zeroV 6 t).int, .string (zeroV 6 t).text, .complex .f64 (zeroV 6 t).re (zeroV 6 t).im, .slice Az (zeroV 6 t).list.length cz] 40)
          have HVZ := Lib.hid (hVz.below ((Below.refl w8.heap.size w8).alloc (Nat.le_refl _) (.cells #[.int .i64 (zeroV 6 t).kind, .int .i64 (zeroV 6 t).int, .string (zeroV 6 t).text, .complex .f64 (zeroV 6 t).re (zeroV 6 t).im, .slice Az (zeroV 6 t).list.length cz] 40)))
          have HNZ := Lib.hid hnz
          have hlz := cell_lt hnz
          clear hnz hVz
          have hs8 := HB8.size
          clear c0 c1
          have c0 := (HB8.cell (p := ⟨w.heap.size, 0, none⟩) hlw).trans HC0.out
          have c1 := (HB8.cell (p := ⟨w.heap.size, 1, none⟩) hlw).trans HC1.out
          have hlw8 : w.heap.size < w8.heap.size := by omega
          have hlc8 : ww.heap.size ≤ w8.heap.size := HB8.size
          go_wp2_with (fail)
          obtain ⟨W8, hW8⟩ : ∃ W8, W8 = w8.alloc (.cells #[.int .i64 (zeroV 6 t).kind, .int .i64 (zeroV 6 t).int, .string (zeroV 6 t).text, .complex .f64 (zeroV 6 t).re (zeroV 6 t).im, .slice Az (zeroV 6 t).list.length cz] 40) := ⟨_, rfl⟩
          have hsz8 : W8.heap.size = w8.heap.size + 1 := by rw [hW8]; simp
          rw [← hW8] at HB8a HVZ HNZ hlz ⊢
          clear hW8
          refine (make2_any d0 S t.kind A c t.args _ (HARGS.out.below HB8a) hlenc (hG.kept ((HBc.trans (HB8a.mono hlc)).block 0 hGl))).mono ?_
          rw [HMKT.out, HM.out]
          rintro e w9 ⟨⟨v9, rfl, hT9, A9, c9, cs9, rfl, hown9⟩, hb⟩
          have HB9 := HB8a.trans (hb.mono HB8a.size)
          have HT9 := Lib.hid hT9
          have HOWN := Lib.hid hown9
          have HBm := hb
          have hs9 := HB9.size
          have hs98 := hb.size
          clear hT9 hown9 hb
          have hlw9 : w.heap.size < w9.heap.size := by omega
          have hlw91 : w.heap.size + 1 < w9.heap.size := by omega
          have hlX9 : X < w9.heap.size := by omega
          have hlY9 : Y < w9.heap.size := by omega
          clear c0 c1
          have c0 := (HB9.cell (p := ⟨w.heap.size, 0, none⟩) hlw).trans HC0.out
          have c1 := (HB9.cell (p := ⟨w.heap.size, 1, none⟩) hlw).trans HC1.out
          have d0 := (HB9.cell (p := ⟨w.heap.size + 1, 0, none⟩) hlw1).trans HD0.out
          have d1 := (HB9.cell (p := ⟨w.heap.size + 1, 1, none⟩) hlw1).trans HD1.out
          have x0 := (HB9.cell (p := ⟨X, 0, none⟩) hlX).trans HX0.out
          have x1 := (HB9.cell (p := ⟨X, 1, none⟩) hlX).trans HX1.out
          have y0 := (HB9.cell (p := ⟨Y, 0, none⟩) hlY).trans HY0.out
          have y1 := (HB9.cell (p := ⟨Y, 1, none⟩) hlY).trans HY1.out
          go_upto_region 9 with fail
          have hnm := heap_alloc_new w9 (.cells #[.int .i64 t.kind, .slice A9 t.args.length c9] 24)
          have HMa := (Below.refl w9.heap.size w9).alloc (Nat.le_refl _) (.cells #[.int .i64 t.kind, .slice A9 t.args.length c9] 24)
          have hsz9 : (w9.alloc (.cells #[.int .i64 t.kind, .slice A9 t.args.length c9] 24)).heap.size = w9.heap.size + 1 := by simp
          obtain ⟨W9, hW9⟩ : ∃ W9, W9 = w9.alloc (.cells #[.int .i64 t.kind, .slice A9 t.args.length c9] 24) := ⟨_, rfl⟩
          rw [← hW9] at hnm HMa hsz9 ⊢
          clear hW9
          have HNM := Lib.hid hnm
          have HB9a := HB9.trans (HMa.mono HB9.size)
          clear hnm
          clear c0 c1 d0 d1 x0 x1 y0 y1
          have hl90 : w.heap.size < W9.heap.size := by omega
          have hl91 : w.heap.size + 1 < W9.heap.size := by omega
          have hl9X : X < W9.heap.size := by omega
          have hl9Y : Y < W9.heap.size := by omega
          have c0 := (HB9a.cell (p := ⟨w.heap.size, 0, none⟩) hlw).trans HC0.out
          have c1 := (HB9a.cell (p := ⟨w.heap.size, 1, none⟩) hlw).trans HC1.out
          have d0 := (HB9a.cell (p := ⟨w.heap.size + 1, 0, none⟩) hlw1).trans HD0.out
          have d1 := (HB9a.cell (p := ⟨w.heap.size + 1, 1, none⟩) hlw1).trans HD1.out
          have x0 := (HB9a.cell (p := ⟨X, 0, none⟩) hlX).trans HX0.out
          have x1 := (HB9a.cell (p := ⟨X, 1, none⟩) hlX).trans HX1.out
          have y0 := (HB9a.cell (p := ⟨Y, 0, none⟩) hlY).trans HY0.out
          have y1 := (HB9a.cell (p := ⟨Y, 1, none⟩) hlY).trans HY1.out
          go_cut [8, 70] (fun s8 s70 wx => s70 = .bool false ∧ Below W9.heap.size W9 wx)
          case first => as_aux_lemma =>
            go_wp2_with (fail)
            refine (same_any d d' S S' _ _ t u _ (HTc.out.below HB9a) (HUc.out.below HB9a) (hG.kept ((HBc.trans (HB9a.mono hlc)).block 0 hGl))).mono ?_
            rintro e w10 ⟨rfl, hb⟩
            have HB10 := HB9a.trans (hb.mono HB9a.size)
            cases hmu : measureT 6 u with
            | none =>
              have hou : okT 6 u = false := by simp [okT, hmu]
              have hsm : sameT t u = false := by simp only [sameT, hmu, Option.isSome_none, Bool.false_and, Bool.and_false]
              rw [hou, hsm]
              clear hou hsm hmu
              go_wp2_with (fail)
              go_meet
              exact ⟨rfl, hb⟩
            | some q2 =>
              have hou : okT 6 u = true := by simp [okT, hmu]
              have hsm : sameT t u = eqT 6 t u := by simp only [sameT, hmu, HM.out, Option.isSome_some, Bool.true_and]
              rw [hou, hsm]
              clear hou hsm hmu
              clear c0 c1 d0 d1 x0 x1 y0 y1
              have x0 := (HB10.cell (p := ⟨X, 0, none⟩) hlX).trans HX0.out
              have x1 := (HB10.cell (p := ⟨X, 1, none⟩) hlX).trans HX1.out
              have y0 := (HB10.cell (p := ⟨Y, 0, none⟩) hlY).trans HY0.out
              have y1 := (HB10.cell (p := ⟨Y, 1, none⟩) hlY).trans HY1.out
              go_wp2_with (fail)
              refine (rsame_any 6 d' 30 _ _ _ _ t u _ HNt.out (HX6.out.below HB10) (HUY.out.below HB10)).mono ?_
              rintro e w11 ⟨rfl, hb2⟩
              have hfin := hb.trans (hb2.mono hb.size)
              cases eqT 6 t u <;>
              · go_wp2_with (fail)
                go_meet
                exact ⟨rfl, hfin⟩
          case rest =>
            obtain ⟨rfl, hbc2⟩ := hcut
            have hsw := hbc2.size
            have HB11 := HB9a.trans (hbc2.mono HB9a.size)
            have hnm := (hbc2.block w9.heap.size (by omega)).trans HNM.out
            have HM9 := Lib.hid hnm
            have hlM := cell_lt hnm
            have hl110 : w.heap.size < wc.heap.size := by omega
            have hl111 : w.heap.size + 1 < wc.heap.size := by omega
            have hl11X : X < wc.heap.size := by omega
            clear hnm
            clear x0 x1 y0 y1
            have HX0c := Lib.hid ((HB11.cell (p := ⟨X, 0, none⟩) hlX).trans HX0.out)
            have HX1c := Lib.hid ((HB11.cell (p := ⟨X, 1, none⟩) hlX).trans HX1.out)
            have HM0 := Lib.hid (cell2_0 HM9.out)
            have HM1 := Lib.hid (cell2_1 HM9.out)
            have HTm := Lib.hid ((HT9.out.below HMa).below hbc2)
            have HTx2 := Lib.hid (HX6.out.below HB11)
            have x0 := HX0c.out
            have x1 := HX1c.out
            have m0 := HM0.out
            have m1 := HM1.out
            have hRc : Below wc.heap.size wc wc := Below.refl _ _
            go_wp2_with (fail)
            go_region_held3 (fun w' => w'.cell? ⟨X, 0, none⟩ = some (.int .i64 t.kind) ∧ w'.cell? ⟨X, 1, none⟩ = some (.slice Ax t.args.length kx) ∧ w'.cell? ⟨w9.heap.size, 0, none⟩ = some (.int .i64 t.kind) ∧ w'.cell? ⟨w9.heap.size, 1, none⟩ = some (.slice A9 t.args.length c9) ∧ Below wc.heap.size wc w')
              (((refine ⟨?_, ?_, ?_, ?_, ?_⟩ <;> (repeat' (first | with_reducible assumption | with_reducible refine cell_drew_some ?_ | with_reducible refine Below.drew ?_)))))
              (first
                | (go_at_call 17; refine (rsame_any 6 6 6 _ _ _ _ t t _ HNR.out HVm.out (HTx2.out.below HB12)).mono ?_; rw [HSELF.out]; rintro e w13 ⟨rfl, hb6⟩; have HB13 : Below wc.heap.size wc w13 := HB12.trans (hb6.mono HB12.size); have p0 := (HB13.cell (p := ⟨X, 0, none⟩) hl11X).trans HX0c.out; have p1 := (HB13.cell (p := ⟨X, 1, none⟩) hl11X).trans HX1c.out; have p2 := (HB13.cell (p := ⟨w9.heap.size, 0, none⟩) hlM).trans HM0.out; have p3 := (HB13.cell (p := ⟨w9.heap.size, 1, none⟩) hlM).trans HM1.out)
                | (go_at_call 10; refine (of_any 6 6 _ _ t wc.drew HNR.out (HTm.out.below (Below.refl _ _).drew)).mono ?_; rintro e w12 ⟨⟨vm, rfl, hvm⟩, hb6⟩; have HB12 : Below wc.heap.size wc w12 := (Below.refl _ wc).drew.trans hb6; obtain ⟨Am, cm, rfl⟩ := hvm.form; have HVm := Lib.hid hvm; clear hvm; have p0 := (HB12.cell (p := ⟨X, 0, none⟩) hl11X).trans HX0c.out; have p1 := (HB12.cell (p := ⟨X, 1, none⟩) hl11X).trans HX1c.out; have p2 := (HB12.cell (p := ⟨w9.heap.size, 0, none⟩) hlM).trans HM0.out; have p3 := (HB12.cell (p := ⟨w9.heap.size, 1, none⟩) hlM).trans HM1.out))
            go_upto_region 15 with fail
            obtain ⟨wm, rfl⟩ : ∃ wm : World, wm = wc := ⟨_, rfl⟩
            have HBW : Below W8.heap.size W8 w13 := ((HBm.trans (HMa.mono HBm.size)).trans (hbc2.mono (by omega))).trans (HB13.mono (by omega))
            have hsw8 := HBW.size
            have HB93 : Below w9.heap.size w9 w13 := ((HMa.trans (hbc2.mono HMa.size))).trans (HB13.mono (by omega))
            have HOWN3 := Lib.hid (HOWN.out.kept (row := none) ⟨HB93.os, HB93.tape, HB93.output, HB93.size, fun k hk _ => HB93.block k hk⟩ (by cases hv : (Value.slice A9 t.args.length c9).ownBlock <;> simp))
            have HM13 := Lib.hid ((HB13.block w9.heap.size hlM).trans HM9.out)
            have hlM13 : w9.heap.size < w13.heap.size := cell_lt HM13.out
            have hnarr : t.args.length ≤ 2000 := by have := HNR.out; exact this.1
            have HG := Lib.hid (fun (g : Nat) (hg : A9 = some ⟨g, 0, none⟩) => HOWN.out.lt g (by rw [hg]; rfl))
            clear x0 x1 m0 m1 hRc p0 p1 p2 p3
            go_cut [119] (fun s119 wx => (∃ b, s119 = .bool b) ∧ Below w13.heap.size w13 wx)
            case first => as_aux_lemma =>
              go_region
              all_goals (go_wp2_with fail; go_meet; exact ⟨⟨_, rfl⟩, by repeat' (first | exact Below.refl _ _ | with_reducible refine Below.drew ?_ | with_reducible refine Below.alloc_own ?_ | with_reducible refine Below.set_own ?_ ?_ | (dsimp only; omega) | (dsimp only; exact Nat.le_refl _))⟩)
            case rest =>
              obtain ⟨⟨b, rfl⟩, hb14⟩ := hcut
              have HBW4 := HBW.trans (hb14.mono hsw8)
              have hs14 := hb14.size
              have HOWN4 := Lib.hid (HOWN3.out.kept (row := none) ⟨hb14.os, hb14.tape, hb14.output, hb14.size, fun k hk _ => hb14.block k hk⟩ (by cases hv : (Value.slice A9 t.args.length c9).ownBlock <;> simp))
              have HM14 := Lib.hid ((hb14.block w9.heap.size hlM13).trans HM13.out)
              obtain ⟨wb, rfl⟩ : ∃ wb : World, wb = wc := ⟨_, rfl⟩
              go_upto_if 119 with fail
              go_cut [17] (fun s17 wx => Below W8.heap.size W8 wx)
              case first => as_aux_lemma =>
                have m0 := cell2_0 HM14.out
                have m1 := cell2_1 HM14.out
                have hlM14 := cell_lt HM14.out
                by_cases hn0 : t.args.length = 0
                · have hn0b : ((t.args.length : Int) != 0) = false := by simp [hn0]
                  have hn0d : decide ((0 : Int) < (t.args.length : Int)) = false := by simp [hn0]
                  have hn0n : ¬ (0 < t.args.length) := by omega
                  clear hn0
                  cases b with
                  | true =>
                    go_wp2_with fail
                    go_meet
                    exact HBW4
                  | false =>
                    go_wp2_with fail
                    go_loopw [132] (fun i wr => i = .int .i64 0 ∧ Below W8.heap.size W8 wr) (fun i _ => 0)
                    case atStart => exact ⟨rfl, HBW4⟩
                    case round =>
                      obtain ⟨rfl, hbr⟩ := hrel
                      go_wp2_with fail
                      go_meet
                      exact hbr
                · have hn0b : ((t.args.length : Int) != 0) = true := bne_iff_ne.2 (by omega)
                  obtain ⟨g, cg, hAg⟩ := Joins.ownsRow_form HOWN4.out (by omega)
                  have hAg2 : A9 = some ⟨g, 0, none⟩ ∧ c9 = cg := by simpa using hAg
                  obtain ⟨hgA, rfl⟩ := hAg2
                  have hgl := HG.out g hgA
                  obtain ⟨hgl1, hgl2⟩ := hgl
                  subst hgA
                  clear hAg hn0
                  cases b with
                  | true =>
                    go_wp2_with fail
                    go_loopw [124] (fun i wr => ∃ (j : Nat) (cs : List Value), i = .int .i64 j ∧ j ≤ t.args.length ∧ Hid (wr.ownsRow W8.heap.size 24 2 (.slice (some ⟨g, 0, none⟩) t.args.length c9) t.args.length cs) ∧ Below W8.heap.size W8 wr) (fun i _ => 3000 - (intOf i).toNat)
                    case atStart => exact ⟨0, _, rfl, by omega, HOWN4, HBW4⟩
                    case round =>
                      obtain ⟨j, cs, rfl, hj, HOR, hbr⟩ := hrel
                      by_cases hlt : j < t.args.length
                      · have hcl : cs.length = t.args.length * 2 := HOR.out.1
                        have hgr := (HOR.out.lt g rfl).2
                        have p0 := (HOR.out.cellAt (j * 2) (by omega)).trans (List.getElem?_eq_getElem (show j * 2 < cs.length by omega))
                        have p1 := (HOR.out.cellAt (j * 2 + 1) (by omega)).trans (List.getElem?_eq_getElem (show j * 2 + 1 < cs.length by omega))
                        have p2 := HOR.out.frozenAt (j * 2)
                        have p3 := HOR.out.frozenAt (j * 2 + 1)
                        generalize cs[j * 2] = z0 at *
                        generalize cs[j * 2 + 1] = z1 at *
                        go_wp2_with fail
                        go_roundw
                        case rel => exact ⟨j + 1, _, by go_num, by omega, Lib.hid ((HOR.out.stored (j * 2) (.int .i64 0)).1.stored (j * 2 + 1) (.slice none 0 0)).1, (hbr.setCell (p := ⟨g, j * 2, none⟩) hgl1 _).setCell (p := ⟨g, j * 2 + 1, none⟩) hgl1 _⟩
                        case measure => simp [intOf]; omega
                      · obtain rfl : j = t.args.length := by omega
                        go_wp2_with fail
                        go_meet
                        exact hbr
                  | false =>
                    go_wp2_with fail
                    go_loopw [132] (fun i wr => ∃ (j : Nat) (cs : List Value), i = .int .i64 j ∧ j ≤ t.args.length ∧ Hid (wr.ownsRow W8.heap.size 24 2 (.slice (some ⟨g, 0, none⟩) t.args.length c9) t.args.length cs) ∧ Below W8.heap.size W8 wr ∧ Hid (wr.heap[w9.heap.size]? = some (.cells #[.int .i64 t.kind, .slice (some ⟨g, 0, none⟩) t.args.length c9] 24 (0, 0)))) (fun i _ => 3000 - (intOf i).toNat)
                    case atStart => exact ⟨0, _, rfl, by omega, HOWN4, HBW4, HM14⟩
                    case round =>
                      obtain ⟨j, cs, rfl, hj, HOR, hbr, HMr⟩ := hrel
                      by_cases hlt : j < t.args.length
                      · have hcl : cs.length = t.args.length * 2 := HOR.out.1
                        have hgr := (HOR.out.lt g rfl).2
                        have p0 := (HOR.out.cellAt (j * 2) (by omega)).trans (List.getElem?_eq_getElem (show j * 2 < cs.length by omega))
                        have p1 := (HOR.out.cellAt (j * 2 + 1) (by omega)).trans (List.getElem?_eq_getElem (show j * 2 + 1 < cs.length by omega))
                        have p2 := HOR.out.frozenAt (j * 2)
                        have p3 := HOR.out.frozenAt (j * 2 + 1)
                        generalize cs[j * 2] = z0 at *
                        generalize cs[j * 2 + 1] = z1 at *
                        have r0 := cell2_0 HMr.out
                        have r1 := cell2_1 HMr.out
                        have hrl := cell_lt HMr.out
                        go_wp2_with fail
                        go_roundw
                        case rel => exact ⟨j + 1, _, by go_num, by omega, Lib.hid ((HOR.out.stored (j * 2) (.int .i64 0)).1.stored (j * 2 + 1) (.slice none 0 0)).1, (hbr.setCell (p := ⟨g, j * 2, none⟩) hgl1 _).setCell (p := ⟨g, j * 2 + 1, none⟩) hgl1 _, Lib.hid ((Below.heap_setCell _ _ _ _ (show w9.heap.size ≠ g by omega)).trans ((Below.heap_setCell _ _ _ _ (show w9.heap.size ≠ g by omega)).trans HMr.out))⟩
                        case measure => simp [intOf]; omega
                      · obtain rfl : j = t.args.length := by omega
                        go_wp2_with fail
                        go_meet
                        exact hbr
              case rest => as_aux_lemma =>
                have hsc := hcut.size
                have HBe := HB8a.trans (hcut.mono HB8a.size)
                have hse := HBe.size
                have hnz := (hcut.block w8.heap.size hlz).trans HNZ.out
                have HZc := Lib.hid hnz
                have hlZ := cell_lt hnz
                clear hnz
                have hle0 : w.heap.size < wc.heap.size := by omega
                have hleX : X < wc.heap.size := by omega
                have HE0 := Lib.hid ((HBe.cell (p := ⟨w.heap.size, 0, none⟩) hlw).trans HC0.out)
                have HE1 := Lib.hid ((HBe.cell (p := ⟨w.heap.size, 1, none⟩) hlw).trans HC1.out)
                have HF0 := Lib.hid ((HBe.cell (p := ⟨X, 0, none⟩) hlX).trans HX0.out)
                have HF1 := Lib.hid ((HBe.cell (p := ⟨X, 1, none⟩) hlX).trans HX1.out)
                have HVc := Lib.hid (HVZ.out.below hcut)
                have HTe := Lib.hid (HT6.out.below HBe)
                have HXe := Lib.hid (HX6.out.below HBe)
                have HCM := Lib.hid (zero_cmp 6 t q HM.out)
                have HGe := Lib.hid (hG.kept ((HBc.trans (HBe.mono hlc)).block 0 hGl))
                have HBW := HBc.trans (HBe.mono hlc)
                have e0 : wc.cell? ⟨w.heap.size, 0, none⟩ = some (.int .i64 t.kind) := HE0.out
                have e1 : wc.cell? ⟨w.heap.size, 1, none⟩ = some (.slice A t.args.length c) := HE1.out
                have f0 : wc.cell? ⟨X, 0, none⟩ = some (.int .i64 t.kind) := HF0.out
                have f1 : wc.cell? ⟨X, 1, none⟩ = some (.slice Ax t.args.length kx) := HF1.out
                have z0 : wc.cell? ⟨w8.heap.size, 0, none⟩ = some (.int .i64 (zeroV 6 t).kind) := (cell5_0 HZc.out)
                have z1 : wc.cell? ⟨w8.heap.size, 1, none⟩ = some (.int .i64 (zeroV 6 t).int) := (cell5_1 HZc.out)
                have z2 : wc.cell? ⟨w8.heap.size, 2, none⟩ = some (.string (zeroV 6 t).text) := (cell5_2 HZc.out)
                have z3 : wc.cell? ⟨w8.heap.size, 3, none⟩ = some (.complex .f64 (zeroV 6 t).re (zeroV 6 t).im) := (cell5_3 HZc.out)
                have z4 : wc.cell? ⟨w8.heap.size, 4, none⟩ = some (.slice Az (zeroV 6 t).list.length cz) := (cell5_4 HZc.out)
                have hRe : Below wc.heap.size wc wc := Below.refl _ _
                go_wp2_with (fail)
                go_region_held3 (fun w' => w'.cell? ⟨w.heap.size, 0, none⟩ = some (.int .i64 t.kind) ∧ w'.cell? ⟨w.heap.size, 1, none⟩ = some (.slice A t.args.length c) ∧ w'.cell? ⟨X, 0, none⟩ = some (.int .i64 t.kind) ∧ w'.cell? ⟨X, 1, none⟩ = some (.slice Ax t.args.length kx) ∧ w'.cell? ⟨w8.heap.size, 0, none⟩ = some (.int .i64 (zeroV 6 t).kind) ∧ w'.cell? ⟨w8.heap.size, 1, none⟩ = some (.int .i64 (zeroV 6 t).int) ∧ w'.cell? ⟨w8.heap.size, 2, none⟩ = some (.string (zeroV 6 t).text) ∧ w'.cell? ⟨w8.heap.size, 3, none⟩ = some (.complex .f64 (zeroV 6 t).re (zeroV 6 t).im) ∧ w'.cell? ⟨w8.heap.size, 4, none⟩ = some (.slice Az (zeroV 6 t).list.length cz) ∧ Below wc.heap.size wc w')
                  (((refine ⟨?_, ?_, ?_, ?_, ?_, ?_, ?_, ?_, ?_, ?_⟩ <;> (repeat' (first | with_reducible assumption | with_reducible refine cell_drew_some ?_ | with_reducible refine Below.drew ?_)))))
                  (first
                    | (go_at_call 18; refine (check_any 6 S _ t wc.drew (HTe.out.below (Below.refl _ _).drew) HGe.out).mono ?_; rw [HM.out]; rintro e w20 ⟨he, hb6⟩; obtain rfl : e = .returned (.int .i64 0) := he; have HB20 : Below wc.heap.size wc w20 := (Below.refl _ wc).drew.trans hb6; have qe0 := (HB20.cell (p := ⟨w.heap.size, 0, none⟩) hle0).trans HE0.out; have qe1 := (HB20.cell (p := ⟨w.heap.size, 1, none⟩) hle0).trans HE1.out; have qf0 := (HB20.cell (p := ⟨X, 0, none⟩) hleX).trans HF0.out; have qf1 := (HB20.cell (p := ⟨X, 1, none⟩) hleX).trans HF1.out; have qz0 := (HB20.cell (p := ⟨w8.heap.size, 0, none⟩) hlZ).trans (cell5_0 HZc.out); have qz1 := (HB20.cell (p := ⟨w8.heap.size, 1, none⟩) hlZ).trans (cell5_1 HZc.out); have qz2 := (HB20.cell (p := ⟨w8.heap.size, 2, none⟩) hlZ).trans (cell5_2 HZc.out); have qz3 := (HB20.cell (p := ⟨w8.heap.size, 3, none⟩) hlZ).trans (cell5_3 HZc.out); have qz4 := (HB20.cell (p := ⟨w8.heap.size, 4, none⟩) hlZ).trans (cell5_4 HZc.out))
                    | (go_at_call 19; refine (rshow_any 6 6 q _ _ t _ (Nat.le_refl _) HM.out (HXe.out.below HB20)).mono ?_; rintro e w21 ⟨rfl, hb6⟩; have HB21 : Below wc.heap.size wc w21 := HB20.trans (hb6.mono HB20.size); have qe0 := (HB21.cell (p := ⟨w.heap.size, 0, none⟩) hle0).trans HE0.out; have qe1 := (HB21.cell (p := ⟨w.heap.size, 1, none⟩) hle0).trans HE1.out; have qf0 := (HB21.cell (p := ⟨X, 0, none⟩) hleX).trans HF0.out; have qf1 := (HB21.cell (p := ⟨X, 1, none⟩) hleX).trans HF1.out; have qz0 := (HB21.cell (p := ⟨w8.heap.size, 0, none⟩) hlZ).trans (cell5_0 HZc.out); have qz1 := (HB21.cell (p := ⟨w8.heap.size, 1, none⟩) hlZ).trans (cell5_1 HZc.out); have qz2 := (HB21.cell (p := ⟨w8.heap.size, 2, none⟩) hlZ).trans (cell5_2 HZc.out); have qz3 := (HB21.cell (p := ⟨w8.heap.size, 3, none⟩) hlZ).trans (cell5_3 HZc.out); have qz4 := (HB21.cell (p := ⟨w8.heap.size, 4, none⟩) hlZ).trans (cell5_4 HZc.out))
                    | (go_at_call 20; refine (rdepth_any 6 6 q _ _ t _ (Nat.le_refl _) HM.out (HXe.out.below HB21)).mono ?_; rintro e w22 ⟨rfl, hb6⟩; have HB22 : Below wc.heap.size wc w22 := HB21.trans (hb6.mono HB21.size); have qe0 := (HB22.cell (p := ⟨w.heap.size, 0, none⟩) hle0).trans HE0.out; have qe1 := (HB22.cell (p := ⟨w.heap.size, 1, none⟩) hle0).trans HE1.out; have qf0 := (HB22.cell (p := ⟨X, 0, none⟩) hleX).trans HF0.out; have qf1 := (HB22.cell (p := ⟨X, 1, none⟩) hleX).trans HF1.out; have qz0 := (HB22.cell (p := ⟨w8.heap.size, 0, none⟩) hlZ).trans (cell5_0 HZc.out); have qz1 := (HB22.cell (p := ⟨w8.heap.size, 1, none⟩) hlZ).trans (cell5_1 HZc.out); have qz2 := (HB22.cell (p := ⟨w8.heap.size, 2, none⟩) hlZ).trans (cell5_2 HZc.out); have qz3 := (HB22.cell (p := ⟨w8.heap.size, 3, none⟩) hlZ).trans (cell5_3 HZc.out); have qz4 := (HB22.cell (p := ⟨w8.heap.size, 4, none⟩) hlZ).trans (cell5_4 HZc.out))
                    | (go_at_call 22; refine (rzero_any 6 6 q _ _ t _ HM.out (HXe.out.below HB22)).mono ?_; rintro e w23 ⟨⟨vz, rfl, hvz⟩, hb6⟩; obtain ⟨A23, c23, rfl⟩ := hvz.form; have HVR := Lib.hid hvz; clear hvz; have HB23 : Below wc.heap.size wc w23 := HB22.trans (hb6.mono HB22.size); have qe0 := (HB23.cell (p := ⟨w.heap.size, 0, none⟩) hle0).trans HE0.out; have qe1 := (HB23.cell (p := ⟨w.heap.size, 1, none⟩) hle0).trans HE1.out; have qf0 := (HB23.cell (p := ⟨X, 0, none⟩) hleX).trans HF0.out; have qf1 := (HB23.cell (p := ⟨X, 1, none⟩) hleX).trans HF1.out; have qz0 := (HB23.cell (p := ⟨w8.heap.size, 0, none⟩) hlZ).trans (cell5_0 HZc.out); have qz1 := (HB23.cell (p := ⟨w8.heap.size, 1, none⟩) hlZ).trans (cell5_1 HZc.out); have qz2 := (HB23.cell (p := ⟨w8.heap.size, 2, none⟩) hlZ).trans (cell5_2 HZc.out); have qz3 := (HB23.cell (p := ⟨w8.heap.size, 3, none⟩) hlZ).trans (cell5_3 HZc.out); have qz4 := (HB23.cell (p := ⟨w8.heap.size, 4, none⟩) hlZ).trans (cell5_4 HZc.out))
                    | (go_at_call 21; refine (vsame_self 6 6 6 _ _ _ _ (zeroV 6 t) _ HCM.out (HVc.out.below HB23) HVR.out).mono ?_; rintro e w24 ⟨rfl, hb6⟩; have HB24 : Below wc.heap.size wc w24 := HB23.trans (hb6.mono HB23.size); have qe0 := (HB24.cell (p := ⟨w.heap.size, 0, none⟩) hle0).trans HE0.out; have qe1 := (HB24.cell (p := ⟨w.heap.size, 1, none⟩) hle0).trans HE1.out; have qf0 := (HB24.cell (p := ⟨X, 0, none⟩) hleX).trans HF0.out; have qf1 := (HB24.cell (p := ⟨X, 1, none⟩) hleX).trans HF1.out; have qz0 := (HB24.cell (p := ⟨w8.heap.size, 0, none⟩) hlZ).trans (cell5_0 HZc.out); have qz1 := (HB24.cell (p := ⟨w8.heap.size, 1, none⟩) hlZ).trans (cell5_1 HZc.out); have qz2 := (HB24.cell (p := ⟨w8.heap.size, 2, none⟩) hlZ).trans (cell5_2 HZc.out); have qz3 := (HB24.cell (p := ⟨w8.heap.size, 3, none⟩) hlZ).trans (cell5_3 HZc.out); have qz4 := (HB24.cell (p := ⟨w8.heap.size, 4, none⟩) hlZ).trans (cell5_4 HZc.out))
                    | (go_at_call 10; refine (of_any 6 6 _ _ t _ HNR.out (HTe.out.below HB24)).mono ?_; rintro e w25 ⟨⟨vo, rfl, hvo⟩, hb6⟩; obtain ⟨A25, c25, rfl⟩ := hvo.form; have HVO := Lib.hid hvo; clear hvo; have HB25 : Below wc.heap.size wc w25 := HB24.trans (hb6.mono HB24.size); have qe0 := (HB25.cell (p := ⟨w.heap.size, 0, none⟩) hle0).trans HE0.out; have qe1 := (HB25.cell (p := ⟨w.heap.size, 1, none⟩) hle0).trans HE1.out; have qf0 := (HB25.cell (p := ⟨X, 0, none⟩) hleX).trans HF0.out; have qf1 := (HB25.cell (p := ⟨X, 1, none⟩) hleX).trans HF1.out; have qz0 := (HB25.cell (p := ⟨w8.heap.size, 0, none⟩) hlZ).trans (cell5_0 HZc.out); have qz1 := (HB25.cell (p := ⟨w8.heap.size, 1, none⟩) hlZ).trans (cell5_1 HZc.out); have qz2 := (HB25.cell (p := ⟨w8.heap.size, 2, none⟩) hlZ).trans (cell5_2 HZc.out); have qz3 := (HB25.cell (p := ⟨w8.heap.size, 3, none⟩) hlZ).trans (cell5_3 HZc.out); have qz4 := (HB25.cell (p := ⟨w8.heap.size, 4, none⟩) hlZ).trans (cell5_4 HZc.out))
                    | (go_at_call 17; refine (rsame_any 6 6 6 _ _ _ _ t t _ HNR.out HVO.out (HXe.out.below HB25)).mono ?_; rw [HSELF.out]; rintro e w26 ⟨rfl, hb6⟩; have HB26 : Below wc.heap.size wc w26 := HB25.trans (hb6.mono HB25.size); have qe0 := (HB26.cell (p := ⟨w.heap.size, 0, none⟩) hle0).trans HE0.out; have qe1 := (HB26.cell (p := ⟨w.heap.size, 1, none⟩) hle0).trans HE1.out; have qf0 := (HB26.cell (p := ⟨X, 0, none⟩) hleX).trans HF0.out; have qf1 := (HB26.cell (p := ⟨X, 1, none⟩) hleX).trans HF1.out; have qz0 := (HB26.cell (p := ⟨w8.heap.size, 0, none⟩) hlZ).trans (cell5_0 HZc.out); have qz1 := (HB26.cell (p := ⟨w8.heap.size, 1, none⟩) hlZ).trans (cell5_1 HZc.out); have qz2 := (HB26.cell (p := ⟨w8.heap.size, 2, none⟩) hlZ).trans (cell5_2 HZc.out); have qz3 := (HB26.cell (p := ⟨w8.heap.size, 3, none⟩) hlZ).trans (cell5_3 HZc.out); have qz4 := (HB26.cell (p := ⟨w8.heap.size, 4, none⟩) hlZ).trans (cell5_4 HZc.out))
                    | (go_at_call 9; refine (HAWK.out _ (HBW.trans (HB26.mono HBW.size))).mono ?_; rintro e w27 ⟨rfl, hb6⟩; have HB27 : Below wc.heap.size wc w27 := HB26.trans (hb6.mono HB26.size); have qe0 := (HB27.cell (p := ⟨w.heap.size, 0, none⟩) hle0).trans HE0.out; have qe1 := (HB27.cell (p := ⟨w.heap.size, 1, none⟩) hle0).trans HE1.out; have qf0 := (HB27.cell (p := ⟨X, 0, none⟩) hleX).trans HF0.out; have qf1 := (HB27.cell (p := ⟨X, 1, none⟩) hleX).trans HF1.out; have qz0 := (HB27.cell (p := ⟨w8.heap.size, 0, none⟩) hlZ).trans (cell5_0 HZc.out); have qz1 := (HB27.cell (p := ⟨w8.heap.size, 1, none⟩) hlZ).trans (cell5_1 HZc.out); have qz2 := (HB27.cell (p := ⟨w8.heap.size, 2, none⟩) hlZ).trans (cell5_2 HZc.out); have qz3 := (HB27.cell (p := ⟨w8.heap.size, 3, none⟩) hlZ).trans (cell5_3 HZc.out); have qz4 := (HB27.cell (p := ⟨w8.heap.size, 4, none⟩) hlZ).trans (cell5_4 HZc.out)))
                go_wp2_with (fail)
                go_ret
                exact ⟨rfl, HBW.trans (HB27.mono HBW.size)⟩
end Go.Proofs.YtdoadedglpjldaaDoor
