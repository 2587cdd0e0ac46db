/-
The document's answer: Get, of options.
-/
import Derived.Test.YtbafplnolmdlnaaDoorRgh
namespace Go.Proofs.YtbafplnolmdlnaaDoor
open Go.RowKit

set_option maxRecDepth 100000 in
set_option maxHeartbeats 4000000 in
theorem get_option (r d q : Nat) (S SB : Nat → Prop) (Q : Nat) (A : Option Addr) (c : Nat) (l : List UInt8) (m0 sz0 : Nat) (a0 : Ty) (b o c0 k0 : Nat) (B0 : Option Addr) (w : World) (hV : GOk r) (hr6 : r ≤ 6) (h0 : measureT r a0 = some q) (hbl : b < w.heap.size) (hbQ : b ≠ Q)
    (g0 : w.cell? ⟨b, o, none⟩ = some (.int .i64 a0.kind)) (g1 : w.cell? ⟨b, o + 1, none⟩ = some (.slice B0 a0.args.length k0))
    (T0 : TyAt w S d (.agg #[.int .i64 a0.kind, .slice B0 a0.args.length k0]) a0) (hS : ∀ b, S b → b ≠ Q) (hB : BAt w SB A l) (hSB : ∀ b, SB b → b ≠ Q) (hlen : l.length ≤ 1000000) (hm0 : m0 ≤ l.length) (hsz0 : sz0 ≤ 2000) (hQ : w.heap[Q]? = some (.cells #[.int .i64 (sz0 : Int)] 3 (0, 0))) :
    Calls Tryd.prog 24 #[.agg #[.int .i64 9, .slice (some ⟨b, o, none⟩) 1 c0], .slice A l.length c, .int .i64 (m0 : Int), .pointer (some ⟨Q, 0, none⟩)] w fun e w' => GgOut Q l (r + 1) w e w' (getO (getV r a0 l) (leastT r a0) l m0 sz0) := by
  obtain ⟨i0, hi, hq0, hq1, hq2⟩ := info_parts info32
  obtain ⟨L, hLL⟩ : ∃ L, L = leastT r a0 := ⟨_, rfl⟩
  have hL := leastT_le r a0 q h0
  have h64 : 2 ^ r ≤ 64 := Nat.le_trans (Nat.pow_le_pow_right (by omega) hr6) (by decide)
  rw [← hLL] at hL ⊢
  have HLL := Lib.hid hLL
  have hL64 : L ≤ 64 := by omega
  have HV := Lib.hid hV
  have H0 := Lib.hid h0
  have HS := Lib.hid hS
  have HSB := Lib.hid hSB
  have hQl := cell_lt hQ
  have HQ := Lib.hid hQ
  have HB := Lib.hid hB
  have HT := Lib.hid T0
  have HBD := Lib.hid (getV_bd l r a0)
  have G0 := Lib.hid g0
  have G1 := Lib.hid g1
  have hb3 := (((Below.refl w.heap.size w).alloc (Nat.le_refl _) (.cells #[.int .i64 9, .slice (some ⟨b, o, none⟩) 1 c0] 24)).alloc (by simp) (.cells #[.int .i64 0, .int .i64 0, .string ⟨#[]⟩, .complex .f64 0 0, .slice none 0 0] 32)).alloc (by simp; omega) (.cells #[.int .i64 9, .int .i64 0, .string ⟨#[]⟩, .complex .f64 0 0, .slice none 0 0] 32)
  have hx0 : (((w.alloc (.cells #[.int .i64 9, .slice (some ⟨b, o, none⟩) 1 c0] 24)).alloc (.cells #[.int .i64 0, .int .i64 0, .string ⟨#[]⟩, .complex .f64 0 0, .slice none 0 0] 32)).alloc (.cells #[.int .i64 9, .int .i64 0, .string ⟨#[]⟩, .complex .f64 0 0, .slice none 0 0] 32)).heap[w.heap.size]? = some (.cells #[.int .i64 9, .slice (some ⟨b, o, none⟩) 1 c0] 24 (0, 0)) := heap_alloc_some (heap_alloc_some (heap_alloc_new w _))
  have hx1 : (((w.alloc (.cells #[.int .i64 9, .slice (some ⟨b, o, none⟩) 1 c0] 24)).alloc (.cells #[.int .i64 0, .int .i64 0, .string ⟨#[]⟩, .complex .f64 0 0, .slice none 0 0] 32)).alloc (.cells #[.int .i64 9, .int .i64 0, .string ⟨#[]⟩, .complex .f64 0 0, .slice none 0 0] 32)).heap[w.heap.size + 1]? = some (.cells #[.int .i64 0, .int .i64 0, .string ⟨#[]⟩, .complex .f64 0 0, .slice none 0 0] 32 (0, 0)) := heap_alloc_some (heap_new_at (by simp))
  have hx2 : (((w.alloc (.cells #[.int .i64 9, .slice (some ⟨b, o, none⟩) 1 c0] 24)).alloc (.cells #[.int .i64 0, .int .i64 0, .string ⟨#[]⟩, .complex .f64 0 0, .slice none 0 0] 32)).alloc (.cells #[.int .i64 9, .int .i64 0, .string ⟨#[]⟩, .complex .f64 0 0, .slice none 0 0] 32)).heap[w.heap.size + 2]? = some (.cells #[.int .i64 9, .int .i64 0, .string ⟨#[]⟩, .complex .f64 0 0, .slice none 0 0] 32 (0, 0)) := heap_new_at (by simp)
  have HX0 := Lib.hid hx0
  have HX1 := Lib.hid hx1
  have HX2 := Lib.hid hx2
  clear hLL h64 hV h0 hS hSB hQ hB T0 g0 g1 hx0 hx1 hx2
  go_enter Tryd.func24, Tryd.ntmps24
  go_wp2_with (fail)
  obtain ⟨w0, hw0⟩ : ∃ w0, w0 = (((w.alloc (.cells #[.int .i64 9, .slice (some ⟨b, o, none⟩) 1 c0] 24)).alloc (.cells #[.int .i64 0, .int .i64 0, .string ⟨#[]⟩, .complex .f64 0 0, .slice none 0 0] 32)).alloc (.cells #[.int .i64 9, .int .i64 0, .string ⟨#[]⟩, .complex .f64 0 0, .slice none 0 0] 32)) := ⟨_, rfl⟩
  have hs0 : w0.heap.size = w.heap.size + 3 := by rw [hw0]; simp
  rw [← hw0] at hb3 HX0 HX1 HX2
  rw [← hw0]
  clear hw0
  go_loopw [2] (fun av wr => ∃ (m sz : Nat) (vs : Value), av = .int .i64 (m : Int) ∧ m ≤ l.length ∧ sz ≤ 2000 ∧ Hid (getO (getV r a0 l) L l m0 sz0 = getO (getV r a0 l) L l m sz) ∧ Hid (GlI w Q sz 9 (some ⟨b, o, none⟩) 1 c0 r [] vs [] wr)) (fun _ _ => 0)
  case atStart => exact ⟨m0, sz0, .slice none 0 0, rfl, hm0, hsz0, Lib.hid rfl, Lib.hid ⟨World.ownsRow_nil _ _ _ _, Only.of_below hb3, (hb3.block Q hQl).trans HQ.out, HX0.out, HX1.out, HX2.out, fun i a ha => by simp at ha⟩⟩
  case round =>
    obtain ⟨m, sz, vs, rfl, hm, hsz, HE, HI⟩ := hrel
    obtain ⟨acc, hacc0⟩ : ∃ acc : List Val, acc = [] := ⟨_, rfl⟩
    obtain ⟨cs, hcs0⟩ : ∃ cs : List Value, cs = [] := ⟨_, rfl⟩
    have hacc : acc.length ≤ 64 := by rw [hacc0]; simp
    rw [show GlI w Q sz 9 (some ⟨b, o, none⟩) 1 c0 r [] vs [] wr = GlI w Q sz 9 (some ⟨b, o, none⟩) 1 c0 r acc vs cs wr by rw [hacc0, hcs0]] at HI
    have HACC := Lib.hid hacc0
    have HSTEP : Hid (getO (getV r a0 l) L l m0 sz0 = (match okB l m (mostM (decide (acc.length < 64)) (sz + L)) with
      | none => (m, none)
      | some x => if x.toNat = 1 then optV (getV r a0 l (m + 1) (sz + L)) else (m + 1, some (.mk 8 0 ⟨#[]⟩ 0 0 [], sz)))) := by
      show _ = _
      rw [HE.out, hacc0]
      rfl
    clear hacc0 hcs0
    obtain ⟨Av, cv, hvs⟩ := own_slice HI.out.own
    subst hvs
    have hO := HI.out.only
    have hsr := hO.size
    have d0 := cell5_0 HI.out.rbox
    have d1 := cell5_1 HI.out.rbox
    have d2 := cell5_2 HI.out.rbox
    have d3 := cell5_3 HI.out.rbox
    have d4 := cell5_4 HI.out.rbox
    have f0 := cell3_f HI.out.rbox 0
    have f1 := cell3_f HI.out.rbox 1
    have f2 := cell3_f HI.out.rbox 2
    have f3 := cell3_f HI.out.rbox 3
    have f4 := cell3_f HI.out.rbox 4
    have e0 := cell5_0 HI.out.vbox
    have e1 := cell5_1 HI.out.vbox
    have e2 := cell5_2 HI.out.vbox
    have e3 := cell5_3 HI.out.vbox
    have e4 := cell5_4 HI.out.vbox
    have k0f := cell3_f HI.out.vbox 0
    have k4f := cell3_f HI.out.vbox 4
    have b0 := cell2_0 HI.out.tbox
    have b1 := cell2_1 HI.out.tbox
    have hl0 := cell_lt HI.out.tbox
    have hl1 := cell_lt HI.out.rbox
    have hl2 := cell_lt HI.out.vbox
    have hQr := cell_lt HI.out.cnt
    have HBr := Lib.hid (HB.out.move (w' := wr) (S' := SB) fun k hk hl => ⟨hk, fun _ => World.cell?_of_block (hO.block k hl (by simpa using HSB.out k hk))⟩)
    by_cases hlt : m < l.length
    · obtain ⟨ab, ao, hA, hSBa, hj⟩ := HBr.out (by omega)
      subst hA
      have hx := List.getElem?_eq_getElem hlt
      generalize l[m] = x at hx
      have cx := hj m x hx
      have hge : decide ((l.length : Int) ≤ (m : Int)) = false := by simp; omega
      have HX := Lib.hid hx
      have hxl := x.toNat_lt
      clear hx hj
      by_cases hx0 : x = 0
      · have hb0 : ((x.toNat : Int) == 0) = true := by simp [hx0]
        have HF : Hid (getO (getV r a0 l) L l m0 sz0 = (m + 1, some (.mk 8 0 ⟨#[]⟩ 0 0 [], sz))) := by
          show _ = _; rw [HSTEP.out, okB_le' HX.out (by rw [hx0]; simp)]; simp only [hx0]; rfl
        clear hx0
        go_wp2_with (fail)
        have HY := Lib.hid HI.out.vbox
        refine bodyPost_ret (v := .tuple #[.agg #[.int .i64 8, .int .i64 0, .string ⟨#[]⟩, .complex .f64 0 0, .slice Av acc.length cv], .int .i64 ((m : Int) + 1), .int .i64 0]) (by simp [results, Tryd.results24, go_sem, d0, d1, d2, d3, d4, e0, e1, e2, e3, e4]) rfl ?_
        rw [HF.out]
        have hCN := HI.out.cnt
        have h00 : acc.length = 0 := by rw [HACC.out]; rfl
        refine gg_good (v := .agg #[.int .i64 8, .int .i64 0, .string ⟨#[]⟩, .complex .f64 0 0, .slice Av acc.length cv]) ?_ (by omega) ?_ ?_
        · exact ⟨Av, cv, 0, 0, by rw [h00]; rfl, float_zero, float_zero, Nat.zero_le _, fun h => absurd h (by simp [Val.list])⟩
        · (repeat' (first | with_reducible assumption | with_reducible refine Only.drewN ?_ _ | with_reducible refine Only.more ?_ | with_reducible refine Only.far ?_ ?_ | (dsimp only; omega)))
        · (repeat' (first | with_reducible assumption | with_reducible refine heap_alloc_some ?_ | with_reducible refine heap_set_some ?_ ?_ | (dsimp only; omega)))
      · have hb0 : ((x.toNat : Int) == 0) = false := u8_beq_false (b := 0) hx0
        have hxp : 1 ≤ x.toNat := by
          rcases Nat.eq_zero_or_pos x.toNat with h | h
          · exact absurd (UInt8.toNat_inj.1 (by simpa using h)) hx0
          · exact h
        clear hx0
        by_cases hx1 : 1 < x.toNat
        · have hgt : decide ((1 : Int) < (x.toNat : Int)) = true := by simp; omega
          have HF : Hid (getO (getV r a0 l) L l m0 sz0 = (m, none)) := by
            show _ = _; rw [HSTEP.out, okB_high HX.out (by have := mostM_le (decide (acc.length < 64)) (sz + L); omega)]; try rfl
          have HER : Hid (errA l m = 31) := by show _ = _; unfold errA; rw [if_neg (by omega)]
          go_wp2_with (fail)
          go_quiet ((fail))
          go_wp2_with (fail)
          refine bodyPost_ret (v := .tuple #[.agg #[.int .i64 0, .int .i64 0, .string ⟨#[]⟩, .complex .f64 0 0, .slice none 0 0], .int .i64 (m : Int), .int .i64 31]) (by simp [results, Tryd.results24, go_sem, d0, d1, d2, d3, d4]) rfl ?_
          rw [HF.out]
          refine gg_bad rfl HER.out.symm ?_
          (repeat' (first | with_reducible assumption | with_reducible refine Only.drewN ?_ _ | with_reducible refine Only.more ?_ | with_reducible refine Only.far ?_ ?_ | (dsimp only; omega)))
        · have hgt : decide ((1 : Int) < (x.toNat : Int)) = false := by simp; omega
          by_cases h64 : acc.length = 64
          · have hl64 : ((acc.length : Int) == 64) = true := by simp; omega
            have HF : Hid (getO (getV r a0 l) L l m0 sz0 = (m, none)) := by
              show _ = _; rw [HSTEP.out, okB_high HX.out (by rw [show mostM (decide (acc.length < 64)) (sz + L) = 0 by simp [mostM, h64]]; omega)]; try rfl
            have HER : Hid (errA l m = 31) := by show _ = _; unfold errA; rw [if_neg (by omega)]
            clear h64
            go_wp2_with (fail)
            go_quiet ((fail))
            go_wp2_with (fail)
            refine bodyPost_ret (v := .tuple #[.agg #[.int .i64 0, .int .i64 0, .string ⟨#[]⟩, .complex .f64 0 0, .slice none 0 0], .int .i64 (m : Int), .int .i64 31]) (by simp [results, Tryd.results24, go_sem, d0, d1, d2, d3, d4]) rfl ?_
            rw [HF.out]
            refine gg_bad rfl HER.out.symm ?_
            (repeat' (first | with_reducible assumption | with_reducible refine Only.drewN ?_ _ | with_reducible refine Only.more ?_ | with_reducible refine Only.far ?_ ?_ | (dsimp only; omega)))
          · have hl64 : ((acc.length : Int) == 64) = false := beq_eq_false_iff_ne.2 (by omega)
            have hx1e : x.toNat = 1 := by omega
            have hacc63 : acc.length < 64 := by omega
            have E0 := Lib.hid ((World.cell?_of_block (a := ⟨b, o, none⟩) (hO.block b hbl (by simpa using hbQ))).trans G0.out)
            have E1 := Lib.hid ((World.cell?_of_block (a := ⟨b, o + 1, none⟩) (hO.block b hbl (by simpa using hbQ))).trans G1.out)
            have hTr := HT.out.only HS.out hO
            have HTR := Lib.hid hTr
            have s1 : IntKind.i64.wrap ((sz : Int) + (L : Int)) = (sz : Int) + (L : Int) := IntWalk.i64_in _ (by omega)
            have CX := Lib.hid cx
            have B1 := Lib.hid b1
            have E4 := Lib.hid e4
            have qc := cell1_0 HI.out.cnt
            have C0 := Lib.hid qc
            have habl := World.block_lt_of_cell? wr _ cx
            have hbr : b < wr.heap.size := by omega
            have x0 := E0.out
            have x1 := E1.out
            clear h64 hTr
            go_wp2_with (fail)
            have hRR : Below wr.heap.size wr wr := Below.refl _ _
            go_region_held3 (fun w' => w'.cell? ⟨ab, ao + m, none⟩ = some (.int .u8 (x.toNat : Int)) ∧ w'.cell? ⟨w.heap.size + 1 + 1, 4, none⟩ = some (.slice Av acc.length cv) ∧ w'.cell? ⟨Q, 0, none⟩ = some (.int .i64 (sz : Int)) ∧ w'.cell? ⟨w.heap.size, 1, none⟩ = some (.slice (some ⟨b, o, none⟩) 1 c0) ∧ w'.cell? ⟨b, o, none⟩ = some (.int .i64 a0.kind) ∧ w'.cell? ⟨b, o + 1, none⟩ = some (.slice B0 a0.args.length k0) ∧ Below wr.heap.size wr w')
              ((refine ⟨?_, ?_, ?_, ?_, ?_, ?_, ?_⟩ <;> (repeat' (first | with_reducible assumption | with_reducible refine cell_drew_some ?_ | with_reducible refine Below.drew ?_))))
              (first
                | (go_at_call 23; refine (rleast_any r d q S _ a0 wr.drew hr6 H0.out (HTR.out.below (Below.refl _ _).drew)).mono ?_; rw [← HLL.out]; rintro e w3 ⟨rfl, hb3'⟩; have HB3 : Below wr.heap.size wr w3 := (Below.refl _ wr).drew.trans hb3'; have y0 := (HB3.cell (p := ⟨ab, ao + m, none⟩) habl).trans CX.out; have y1 := (HB3.cell (p := ⟨w.heap.size + 1 + 1, 4, none⟩) hl2).trans E4.out; have y2 := (HB3.cell (p := ⟨Q, 0, none⟩) hQr).trans C0.out; have y3 := (HB3.cell (p := ⟨w.heap.size, 1, none⟩) hl0).trans B1.out; have y4 := (HB3.cell (p := ⟨b, o, none⟩) hbr).trans E0.out; have y5 := (HB3.cell (p := ⟨b, o + 1, none⟩) hbr).trans E1.out))
            clear y0 s1 x0 x1 qc cx e0 e1 e2 e3 e4 k0f k4f d0 d1 d2 d3 d4 f0 f1 f2 f3 f4 b0 b1
            have Y1 := Lib.hid y1
            have Y2 := Lib.hid y2
            have Y3 := Lib.hid y3
            have Y4 := Lib.hid y4
            have Y5 := Lib.hid y5
            have hs3 := HB3.size
            have hy := (HB3.block (w.heap.size + 1) hl1).trans HI.out.rbox
            have HY := Lib.hid hy
            clear hy y1 y2 y3 y4 y5
            by_cases hfit : sz + L ≤ 2000
            · have hgt2 : decide ((2000 : Int) < (sz : Int) + (L : Int)) = false := by simp; omega
              have hgt3 : (sz : Int) + (L : Int) ≤ 2000 := by omega
              have y2 := Y2.out
              have y3 := Y3.out
              have y4 := Y4.out
              have y5 := Y5.out
              have HT3 := Lib.hid (HTR.out.below HB3)
              have hbr3 : b < w3.heap.size := by omega
              have hl03 : w.heap.size < w3.heap.size := by omega
              have hQ3 : Q < w3.heap.size := by omega
              have hbq : ⟨b, o, none⟩ ≠ (⟨Q, 0, none⟩ : Addr) := by simp [hbQ]
              have HC3 := Lib.hid ((HB3.block Q hQr).trans HI.out.cnt)
              have fq := cell3_f HC3.out 0
              have s1 : IntKind.i64.wrap ((sz : Int) + (L : Int)) = (sz : Int) + (L : Int) := IntWalk.i64_in _ (by omega)
              go_upto_region 53 with (fail)
              go_cut [] (fun wx => Only Q w3 wx ∧ wx.heap[Q]? = some (.cells #[.int .i64 ((sz + L : Nat) : Int)] 3 (0, 0)))
              case first => as_aux_lemma =>
                go_region_with (go_at_call 23; refine (rleast_any r d q S _ a0 _ hr6 H0.out (HT3.out.below (Below.refl _ _).drew)).mono ?_; rw [← HLL.out]; rintro e w5 ⟨rfl, hb5'⟩; have HB5 : Below w3.heap.size w3 w5 := (Below.refl _ w3).drew.trans hb5'; have z2 := (HB5.cell (p := ⟨Q, 0, none⟩) hQ3).trans Y2.out; have fq5 := (HB5.frozen (p := ⟨Q, 0, none⟩) hQ3).trans fq)
                all_goals (go_wp2_with (fail); go_meet; exact ⟨(Only.of_below HB5).trans (Only.set_ Q 0 w5 _), by rw [Int.natCast_add]; exact one_stored ((HB5.block Q hQ3).trans HC3.out) _⟩)
              case rest =>
                obtain ⟨hoc, hqc⟩ := hcut
                obtain ⟨wd, hwd⟩ : ∃ wd : World, wd = wc := ⟨_, rfl⟩
                subst hwd
                have hsd := hoc.size
                have HQC := Lib.hid hqc
                have g3 := (World.cell?_of_block (a := ⟨w.heap.size, 1, none⟩) (hoc.block w.heap.size hl03 (by simp; omega))).trans Y3.out
                have g4 := (World.cell?_of_block (a := ⟨b, o, none⟩) (hoc.block b hbr3 (by simpa using hbQ))).trans Y4.out
                have g5 := (World.cell?_of_block (a := ⟨b, o + 1, none⟩) (hoc.block b hbr3 (by simpa using hbQ))).trans Y5.out
                have HTd := Lib.hid (HT3.out.only HS.out hoc)
                have HO3d : Hid (Only Q wr wd) := Lib.hid ((Only.of_below HB3).trans hoc)
                have HBd := Lib.hid (HBr.out.move (w' := wd) (S' := SB) fun k hk hl => ⟨hk, fun _ => World.cell?_of_block (HO3d.out.block k hl (by simpa using HSB.out k hk))⟩)
                have hcall := HV.out d S SB q Q (some ⟨ab, ao, none⟩) c l (m + 1) (sz + L) _ a0 wd hr6 H0.out HTd.out HS.out HBd.out HSB.out hlen (by omega) hfit hqc
                rw [show ((m + 1 : Nat) : Int) = (m : Int) + 1 by omega] at hcall
                have HCALL := Lib.hid hcall
                have hbd := HBD.out (m + 1) (sz + L) (by omega) hfit
                have HVX := Lib.hid (((hoc.block (w.heap.size + 2) (by omega) (by simp; omega)).trans (HB3.block (w.heap.size + 2) hl2)).trans HI.out.vbox)
                have HRX := Lib.hid ((hoc.block (w.heap.size + 1) (by omega) (by simp; omega)).trans HY.out)
                have HTX := Lib.hid (((hoc.block w.heap.size (by omega) (by simp; omega)).trans (HB3.block w.heap.size hl0)).trans HI.out.tbox)
                have hvd := cell_lt HVX.out
                clear y2 y3 y4 y5 hcall hqc s1 fq hgt2 hgt3
                go_wp2_with (fail)
                refine HCALL.out.mono ?_
                clear g3 g4 g5
                cases hg : getV r a0 l (m + 1) (sz + L) with
                | mk m' o' =>
                rw [hg] at hbd
                have hm' := hbd.1
                cases o' with
                | none =>
                  have HF : Hid (getO (getV r a0 l) L l m0 sz0 = (m', none)) := by
                    show _ = _; rw [HSTEP.out, okB_le' HX.out (by rw [show mostM (decide (acc.length < 64)) (sz + L) = 1 by simp [mostM, hfit, hacc63]]; omega)]; simp only [if_pos hx1e, hg]; rfl
                  clear hg hbd hfit hx1e
                  rintro e w6 ⟨he, ho6⟩
                  obtain rfl : e = .returned (.tuple #[.agg #[.int .i64 0, .int .i64 0, .string ⟨#[]⟩, .complex .f64 0 0, .slice none 0 0], .int .i64 (m' : Int), .int .i64 (errA l m')]) := he
                  have hs6 := ho6.size
                  have hy6 := (ho6.block (w.heap.size + 1) (by omega) (by simp; omega)).trans HRX.out
                  have hne := errA_ne l m'
                  have d0 := cell5_0 hy6
                  have d1 := cell5_1 hy6
                  have d2 := cell5_2 hy6
                  have d3 := cell5_3 hy6
                  have d4 := cell5_4 hy6
                  have f0 := cell3_f hy6 0
                  have f1 := cell3_f hy6 1
                  have f2 := cell3_f hy6 2
                  have f3 := cell3_f hy6 3
                  have f4 := cell3_f hy6 4
                  have hl6 := cell_lt hy6
                  have hO6 : Only Q w w6 := (hO.trans HO3d.out).trans ho6
                  have HYZ := Lib.hid hy6
                  clear hy6
                  go_wp2_with (fail)
                  have HYP := put5_heap (b0 := .int .i64 0) (b1 := .int .i64 0) (b2 := .string ⟨#[]⟩) (b3 := .complex .f64 0 0) (b4 := .slice none 0 0) HYZ.out
                  have HYA := heap_alloc_some (o := .cells #[.int .i64 0, .int .i64 0, .string ⟨#[]⟩, .complex .f64 0 0, .slice none 0 0] 32) HYP
                  have x0 := cell5_0 HYA
                  have x1 := cell5_1 HYA
                  have x2 := cell5_2 HYA
                  have x3 := cell5_3 HYA
                  have x4 := cell5_4 HYA
                  clear HYP HYA
                  refine bodyPost_ret (v := .tuple #[.agg #[.int .i64 0, .int .i64 0, .string ⟨#[]⟩, .complex .f64 0 0, .slice none 0 0], .int .i64 (m' : Int), .int .i64 (errA l m')]) (by simp [results, Tryd.results24, go_sem, d0, d1, d2, d3, d4, x0, x1, x2, x3, x4]) rfl ?_
                  rw [HF.out]
                  refine gg_bad rfl rfl ?_
                  (repeat' (first | with_reducible assumption | with_reducible refine Only.drewN ?_ _ | with_reducible refine Only.more ?_ | with_reducible refine Only.far ?_ ?_ | (dsimp only; omega)))
                | some p =>
                  obtain ⟨V0, sz1⟩ := p
                  obtain ⟨hsz1, _⟩ := hbd.2 V0 sz1 rfl
                  have HF : Hid (getO (getV r a0 l) L l m0 sz0 = (m', some (.mk 9 0 ⟨#[]⟩ 0 0 [V0], sz1))) := by
                    show _ = _; rw [HSTEP.out, okB_le' HX.out (by rw [show mostM (decide (acc.length < 64)) (sz + L) = 1 by simp [mostM, hfit, hacc63]]; omega)]; simp only [if_pos hx1e, hg]; rfl
                  clear hg hbd hfit hx1e
                  rintro e w6 ⟨⟨v, hv, rfl⟩, ho6, hq6⟩
                  obtain ⟨Aw, cw, xw, yw, rfl, _, _⟩ := hv.form
                  have HVB := Lib.hid hv
                  have hs6 := ho6.size
                  have HO6 := Lib.hid (HO3d.out.trans ho6)
                  have HQ6 := Lib.hid hq6
                  have HVX6 := Lib.hid ((ho6.block (w.heap.size + 2) (by omega) (by simp; omega)).trans HVX.out)
                  have HRX6 := Lib.hid ((ho6.block (w.heap.size + 1) (by omega) (by simp; omega)).trans HRX.out)
                  have HTX6 := Lib.hid ((ho6.block w.heap.size (by omega) (by simp; omega)).trans HTX.out)
                  have e4 := cell5_4 HVX6.out
                  have k4f := cell3_f HVX6.out 4
                  have hl26 := cell_lt HVX6.out
                  have hown6 := HI.out.own.kept (row := some Q) HO6.out (.inr (fun e => by have := (HI.out.own.lt Q e).1; omega))
                  have HOWN6 := Lib.hid hown6
                  have HNV := Lib.hid (HI.out.own.lt)
                  clear hv hown6 hq6
                  go_wp2_with (at_builtin; refine wpList_append_own_at _ rfl _ _ 30 rfl (w.heap.size + 3) 32 i0 (.agg #[.int .i64 0, .int .i64 0, .string ⟨#[]⟩, .complex .f64 0 0, .slice none 0 0]) 5 72 Tryd.underlying30 hi hq0 hq1 hq2 rfl (by decide) _ acc.length cs rfl ((HOWN6.out.alloc _).alloc _) ⟨w6.heap.size + 1, 0, none⟩ 1 1 [.int .i64 V0.kind, .int .i64 V0.int, .string V0.text, .complex .f64 xw yw, .slice Aw V0.list.length cw] rfl rfl (cell_five_new _ _ _ _ _ _ _ _ (by simp)) (five_one _ _ _ _ _ _ _ _) (by unfold maxLen; omega) (by omega) (by simp; omega) ?_; intro v' w7 hown7 hgrow7 _ hat7; obtain ⟨A7, c7, rfl⟩ := own_slice hown7; have hk7 := low7 (n := w.heap.size + 3) hgrow7 (fun k hk => (HNV.out k hk).1); have hv7 := (hk7 (w.heap.size + 2) (by omega) hl26).trans HVX6.out; have e4' := cell5_4 hv7; have e0' := cell5_0 hv7; have e1' := cell5_1 hv7; have e2' := cell5_2 hv7; have e3' := cell5_3 hv7; have k4' := cell3_f hv7 4; have ht7 := (hk7 w.heap.size (by omega) (by omega)).trans HTX6.out; have tb0 := cell2_0 ht7; have hr7 := (hk7 (w.heap.size + 1) (by omega) (by omega)).trans HRX6.out; have HR7 := Lib.hid hr7; have d0 := cell5_0 hr7; have d1 := cell5_1 hr7; have d2 := cell5_2 hr7; have d3 := cell5_3 hr7; have d4 := cell5_4 hr7; have f0 := cell3_f hr7 0; have f1 := cell3_f hr7 1; have f2 := cell3_f hr7 2; have f3 := cell3_f hr7 3; have f4 := cell3_f hr7 4; have hl17 := cell_lt hr7; have k0g := cell3_f hv7 0; have hs7 := hgrow7.size; have hl27 := cell_lt hv7; clear hk7 hv7 ht7 hr7; simp only [World.size_alloc] at hs7)
                  have HNX := Lib.hid (GlI.next HI.out hQl HO6.out HQ6.out (HVB.out.wider fun kb hkb => by have hb' : wd.heap.size ≤ kb := hkb; omega) hgrow7 hown7 hat7)
                  have HYP := put5_heap (b0 := .int .i64 9) (b1 := .int .i64 0) (b2 := .string ⟨#[]⟩) (b3 := .complex .f64 0 0) (b4 := .slice A7 (acc.length + 1) c7) HNX.out.rbox
                  have x0 := cell5_0 HYP
                  have x1 := cell5_1 HYP
                  have x2 := cell5_2 HYP
                  have x3 := cell5_3 HYP
                  have x4 := cell5_4 HYP
                  clear HYP
                  refine bodyPost_ret (v := .tuple #[.agg #[.int .i64 9, .int .i64 0, .string ⟨#[]⟩, .complex .f64 0 0, .slice A7 (acc.length + 1) c7], .int .i64 (m' : Int), .int .i64 0]) (by simp [results, Tryd.results24, go_sem, x0, x1, x2, x3, x4]) rfl ?_
                  rw [HF.out]
                  have hOO : Only Q w (w7.setCell ⟨w.heap.size + 1 + 1, 4, none⟩ (.slice A7 (acc.length + 1) c7)) := HNX.out.only
                  have hCN : (w7.setCell ⟨w.heap.size + 1 + 1, 4, none⟩ (.slice A7 (acc.length + 1) c7)).heap[Q]? = _ := HNX.out.cnt
                  have hl := HNX.out.lat
                  rw [show acc ++ [V0] = [V0] by rw [HACC.out]; rfl] at hl
                  refine gg_good (VAt.of_list 9 (LAt.move hl fun kb hkb _ => ⟨by have hb' : w.heap.size + 3 ≤ kb := hkb; show w.heap.size ≤ kb; omega, fun _ => World.cell?_of_block (set5_block' (b := kb) (g := w.heap.size + 1) (by have hb' : w.heap.size + 3 ≤ kb := hkb; omega))⟩)) rfl ?_ ?_
                  · (repeat' (first | with_reducible assumption | with_reducible refine Only.drewN ?_ _ | with_reducible refine Only.more ?_ | with_reducible refine Only.far ?_ ?_ | (dsimp only; omega)))
                  · (repeat' (first | with_reducible assumption | with_reducible refine heap_alloc_some ?_ | with_reducible refine heap_set_some ?_ ?_ | (dsimp only; omega)))
            · have hgt2 : decide ((2000 : Int) < (sz : Int) + (L : Int)) = true := by simp; omega
              have hgt3 : ¬ ((sz : Int) + (L : Int) ≤ 2000) := by omega
              have HF : Hid (getO (getV r a0 l) L l m0 sz0 = (m, none)) := by
                show _ = _; rw [HSTEP.out, okB_high HX.out (by rw [show mostM (decide (acc.length < 64)) (sz + L) = 0 by simp [mostM, hfit]]; omega)]; try rfl
              have HER : Hid (errA l m = 31) := by show _ = _; unfold errA; rw [if_neg (by omega)]
              have d0 := cell5_0 HY.out
              have d1 := cell5_1 HY.out
              have d2 := cell5_2 HY.out
              have d3 := cell5_3 HY.out
              have d4 := cell5_4 HY.out
              have f0 := cell3_f HY.out 0
              have f1 := cell3_f HY.out 1
              have f2 := cell3_f HY.out 2
              have f3 := cell3_f HY.out 3
              have f4 := cell3_f HY.out 4
              have hl1' := cell_lt HY.out
              have hO3 : Only Q w w3 := hO.trans (Only.of_below HB3)
              clear hfit
              go_wp2_with (fail)
              refine bodyPost_ret (v := .tuple #[.agg #[.int .i64 0, .int .i64 0, .string ⟨#[]⟩, .complex .f64 0 0, .slice none 0 0], .int .i64 (m : Int), .int .i64 31]) (by simp [results, Tryd.results24, go_sem, d0, d1, d2, d3, d4]) rfl ?_
              rw [HF.out]
              refine gg_bad rfl HER.out.symm ?_
              (repeat' (first | with_reducible assumption | with_reducible refine Only.drewN ?_ _ | with_reducible refine Only.more ?_ | with_reducible refine Only.far ?_ ?_ | (dsimp only; omega)))
    · have hge : decide ((l.length : Int) ≤ (m : Int)) = true := by simp; omega
      have HF : Hid (getO (getV r a0 l) L l m0 sz0 = (m, none)) := by
        show _ = _; rw [HSTEP.out, okB_out (by omega)]; try rfl
      have HER : Hid (errA l m = 30) := by show _ = _; unfold errA; rw [if_pos (by omega)]
      go_wp2_with (fail)
      refine bodyPost_ret (v := .tuple #[.agg #[.int .i64 0, .int .i64 0, .string ⟨#[]⟩, .complex .f64 0 0, .slice none 0 0], .int .i64 (m : Int), .int .i64 30]) (by simp [results, Tryd.results24, go_sem, d0, d1, d2, d3, d4]) rfl ?_
      rw [HF.out]
      refine gg_bad rfl HER.out.symm ?_
      (repeat' (first | with_reducible assumption | with_reducible refine Only.drewN ?_ _ | with_reducible refine Only.more ?_ | with_reducible refine Only.far ?_ ?_ | (dsimp only; omega)))

end Go.Proofs.YtbafplnolmdlnaaDoor
