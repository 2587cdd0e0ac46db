import Derived.Test.YtaecndmncpfpfaaGreatDoorLd
import Derived.Lib.AppendIntMem
namespace Go.Proofs.YtaecndmncpfpfaaGreatDoor
open Go.RowKit
open Knd (BFr)
theorem itoa_w (n : Int) (h0 : -9223372036854775808 ≤ n) (h1 : n ≤ 9223372036854775807) (w : World) (hT : Tb w) : Calls Tryz.prog 124 #[.int .i64 n] w.drew fun e w' => e = .returned (.string ⟨(Lib.itoa n).toArray⟩) ∧ Below w.heap.size w w' := by
 refine (Tryz.strconv_Itoa n h0 h1 w.drew hT).mono ?_
 rintro e w' ⟨he, k, os, hw⟩
 refine ⟨he, ?_⟩
 rw [hw]
 exact (Below.drew (Below.refl _ _)).trans (Lib.below_grow w.heap.size w.drew (Nat.le_refl _) k os)
theorem bfr_cnt {b : Nat} {w W : World} (h : BFr b w W) (u : Value) : BFr b w (W.setCell ⟨b, 2, none⟩ u) := h.set_ 2 u
theorem termW_op (r : Nat) (n : Nd) (bs : List UInt8) (k : Nat) (h : ¬ 4096 < bs.length) : zJ (r + 1) n (bs, k) = if n.op = intW then (if bareN 0 n.text n.ty n.kids then some (bs ++ Lib.itoa n.int, k + 1) else none)
    else if n.op = textW then (if 256 < n.text.length then none else if bareN n.int [] n.ty n.kids then some (bs ++ quoS n.text, k + 1) else none)
    else if n.op = nameW then (if isNm n.text then (if bareN n.int [] n.ty n.kids then some (bs ++ n.text, k + 1) else none) else none)
    else wordW (zJ r) n (bs, k + 1) := by
 rw [zJ, if_neg h]
set_option maxRecDepth 100000 in
set_option maxHeartbeats 2000000 in
theorem term_any : ∀ (r : Nat), r ≤ 24 → TermOk r
 | 0, _ => fun b d S v n bs k w hN hS hR hW hG h2 hl hk => by
   obtain ⟨A, c, K, kc, rfl⟩ := hN.form
   have HW := Lib.hid hW
   have hbl := hW.lt
   clear hN hS hR hG hW
   have hz : (((0 : Nat) : Int) == 0) = true := rfl
   go_enter Tryz.func81, Tryz.ntmps81
   go_wp2_with (fail)
   go_ret
   exact ⟨rfl, Knd.BFr.of_below (by first | exact (Below.refl _ _).alloc (Nat.le_refl _) _ | exact Below.refl _ _) (Nat.le_of_lt hbl)⟩
 | r + 1, hr => fun b d S v n bs k w hN hS hR hW hG h2 hl hk => by
   have HTM : Hid (TermOk r) := term_any r (by omega)
   obtain ⟨A, c, K, kc, rfl⟩ := hN.form
   have HNN := Lib.hid hN
   have HRR := Lib.hid hR
   have HW := Lib.hid hW
   have HG := Lib.hid hG
   have HS := Lib.hid hS
   have hbl := hW.lt
   have hr0 : (((r : Int) + 1) == 0) = false := beq_eq_false_iff_ne.2 (by omega)
   rw [show ((r + 1 : Nat) : Int) = (r : Int) + 1 by omega]
   have hba := (Below.refl w.heap.size w).alloc (Nat.le_refl _) (.cells #[.string ⟨n.op.toArray⟩, .int .i64 n.int, .string ⟨n.text.toArray⟩, .int .i64 n.ty.kind, .slice A n.ty.args.length c, .slice K n.kids.length kc] 41)
   have HN1 := Lib.hid (heap_alloc_new w (.cells #[.string ⟨n.op.toArray⟩, .int .i64 n.int, .string ⟨n.text.toArray⟩, .int .i64 n.ty.kind, .slice A n.ty.args.length c, .slice K n.kids.length kc] 41))
   have HF1 : Hid (BFr b w (w.alloc (.cells #[.string ⟨n.op.toArray⟩, .int .i64 n.int, .string ⟨n.text.toArray⟩, .int .i64 n.ty.kind, .slice A n.ty.args.length c, .slice K n.kids.length kc] 41))) := Knd.BFr.of_below hba (Nat.le_of_lt hbl)
   have HW1 := Lib.hid (hW.below hba)
   have hs1 : (w.alloc (.cells #[.string ⟨n.op.toArray⟩, .int .i64 n.int, .string ⟨n.text.toArray⟩, .int .i64 n.ty.kind, .slice A n.ty.args.length c, .slice K n.kids.length kc] 41)).heap.size = w.heap.size + 1 := by simp
   clear hN hR hW hG hS hba
   by_cases hlen : 4096 < bs.length
   · have hlen2 : (4096 : Int) < (bs.length : Int) := by omega
     have HR : Hid (zJ (r + 1) n (bs, k) = none) := by show _ = _; rw [zJ, if_pos hlen]
     go_enter Tryz.func81, Tryz.ntmps81
     go_wp2_with (fail)
     refine (wrLen_any b bs (k : Int) _ HW1.out).mono ?_
     rintro e w2 ⟨rfl, rfl⟩
     go_wp2_with (fail)
     go_ret
     rw [HR.out]
     exact ⟨rfl, HF1.out⟩
   · have hlen2 : ¬ (4096 : Int) < (bs.length : Int) := by omega
     have HR := Lib.hid (termW_op r n bs k hlen)
     go_enter Tryz.func81, Tryz.ntmps81
     go_wp2_with (fail)
     refine (wrLen_any b bs (k : Int) _ HW1.out).mono ?_
     rintro e w2 ⟨rfl, rfl⟩
     obtain ⟨NB, hNB⟩ : ∃ NB, NB = w.heap.size := ⟨_, rfl⟩
     generalize w.alloc (.cells #[.string ⟨n.op.toArray⟩, .int .i64 n.int, .string ⟨n.text.toArray⟩, .int .i64 n.ty.kind, .slice A n.ty.args.length c, .slice K n.kids.length kc] 41) = w1 at *
     rw [← hNB] at HN1
     try rw [← hNB]
     have hNb : NB ≠ b := by omega
     have HNB := Lib.hid hNB
     clear hNB
     obtain ⟨pw, vw, hbw, _⟩ := HW1.out.at
     have b2 := cell3_2 hbw
     have bf2 := zB hbw 2
     have bl2 := zC hbw
     have HW2 : Hid (Wr (w1.setCell ⟨b, 2, none⟩ (.int .i64 ((k : Int) + 1))) b bs ((k + 1 : Nat) : Int)) := by
      have := HW1.out.count ((k : Int) + 1)
      rw [Int.natCast_add]
      exact this
     have HF2 := Lib.hid (bfr_cnt HF1.out (.int .i64 ((k : Int) + 1)))
     have HN2 := Lib.hid ((Below.heap_setCell w1 ⟨b, 2, none⟩ (.int .i64 ((k : Int) + 1)) NB hNb).trans HN1.out)
     clear hbw hlen
     go_upto_region 4 with (fail)
     generalize w1.setCell ⟨b, 2, none⟩ (.int .i64 ((k : Int) + 1)) = w2 at *
     clear HW1 HF1 HN1 b2 bf2 bl2
     have d0 := zN HN2.out
     have d1 := zR HN2.out
     have d2 := zQ HN2.out
     have d3 := zP HN2.out
     have d4 := zO HN2.out
     have d5 := zL HN2.out
     have f0 := zB HN2.out 0
     have f1 := zB HN2.out 1
     have f2 := zB HN2.out 2
     have f3 := zB HN2.out 3
     have f4 := zB HN2.out 4
     have f5 := zB HN2.out 5
     have dl := zC HN2.out
     by_cases hintW : n.op = intW
     · have gintW : (n.op == [105, 110, 116]) = true := by rw [hintW]; rfl
       have pintW : (n.op = [105, 110, 116]) = True := eq_true hintW
       have HR2 : Hid (zJ (r + 1) n (bs, k) = if bareN 0 n.text n.ty n.kids = true then some (bs ++ Lib.itoa n.int, k + 1) else none) := by show _ = _; rw [HR.out, if_pos hintW]
       have hil := itoa_le n.int HRR.out.1 HRR.out.2.1
       have HIT : Hid (Calls Tryz.prog 124 #[.int .i64 n.int] w2.drew fun e w' => e = .returned (.string ⟨(Lib.itoa n.int).toArray⟩) ∧ Below w2.heap.size w2 w') := itoa_w n.int HRR.out.1 HRR.out.2.1 w2 (HG.out.below HF2.out.below h2).tb
       clear HR hintW
       go_upto_region 7 with (fail)
       go_region_with (first | (go_at_call 124; refine HIT.out.mono ?_; rintro e w3 ⟨rfl, hb3⟩; have HW3 := Lib.hid (HW2.out.below hb3); have HF3 := Lib.hid (HF2.out.trans (Knd.BFr.of_below hb3 (Nat.le_of_lt HW2.out.lt))); have HN3 := Lib.hid ((hb3.block NB (zC HN2.out)).trans HN2.out); clear hb3) | (go_at_call 123; refine (wrString_any b bs _ ⟨(Lib.itoa n.int).toArray⟩ w3 HW3.out (by simp [ByteArray.size]; omega)).mono ?_; rintro e w4 ⟨rfl, hw4, hf4⟩))
       have HW4 : Hid (Wr w4 b (bs ++ Lib.itoa n.int) ((k + 1 : Nat) : Int)) := hw4
       have HF4 := Lib.hid (HF3.out.trans hf4)
       have HN4 := Lib.hid (hf4.cells HN3.out hNb (by decide))
       clear hw4 hf4
       clear d0 d1 d2 d3 d4 d5 dl f0 f1 f2 f3 f4 f5
       have d0 := zN HN4.out
       have d1 := zR HN4.out
       have d2 := zQ HN4.out
       have d3 := zP HN4.out
       have d4 := zO HN4.out
       have d5 := zL HN4.out
       have f0 := zB HN4.out 0
       have f1 := zB HN4.out 1
       have f2 := zB HN4.out 2
       have f3 := zB HN4.out 3
       have f4 := zB HN4.out 4
       have f5 := zB HN4.out 5
       have dl := zC HN4.out
       have HWx := Lib.hid (HW4.out.far HN4.out hNb 1 (.int .i64 0))
       have HFx := Lib.hid (bfr_own (NB := NB) HF4.out (by have := HNB.out; omega) (by have := HNB.out; omega) 1 (.int .i64 0))
       go_wp2_with (fail)
       refine (isBare_any ⟨n.op.toArray⟩ 0 ⟨n.text.toArray⟩ n.ty.kind A n.ty.args.length c K n.kids.length kc _).mono ?_
       rintro e w9 ⟨rfl, hb9⟩
       have HW9 := Lib.hid (HWx.out.below hb9)
       have HF9 := Lib.hid (HFx.out.trans (Knd.BFr.of_below hb9 (Nat.le_of_lt HWx.out.lt)))
       clear hb9
       go_wp2_with (fail)
       go_ret
       rw [HR2.out, bareN_eq]
       exact tw_bare HW9.out HF9.out
     · by_cases htextW : n.op = textW
       · have gintW : (n.op == [105, 110, 116]) = false := beq_eq_false_iff_ne.2 hintW
         have pintW : (n.op = [105, 110, 116]) = False := eq_false hintW
         have gtextW : (n.op == [116, 101, 120, 116, 95, 111, 102]) = true := by rw [htextW]; rfl
         have ptextW : (n.op = [116, 101, 120, 116, 95, 111, 102]) = True := eq_true htextW
         by_cases hlong : 256 < n.text.length
         · have HR2 : Hid (zJ (r + 1) n (bs, k) = none) := by show _ = _; rw [HR.out, if_neg hintW, if_pos htextW, if_pos hlong]
           have hlong2 : (256 : Int) < (n.text.length : Int) := by omega
           clear HR hintW htextW hlong
           go_wp2_with (fail)
           go_ret
           rw [HR2.out]
           exact ⟨rfl, HF2.out⟩
         · have HR2 : Hid (zJ (r + 1) n (bs, k) = if bareN n.int [] n.ty n.kids = true then some (bs ++ quoS n.text, k + 1) else none) := by show _ = _; rw [HR.out, if_neg hintW, if_pos htextW, if_neg hlong]
           have hlong2 : ¬ (256 : Int) < (n.text.length : Int) := by omega
           clear HR hintW htextW
           go_wp2_with (fail)
           refine (quote_any b bs _ ⟨n.text.toArray⟩ w2 HW2.out (by omega) (by simp [ByteArray.size]; omega)).mono ?_
           rintro e w4 ⟨⟨v4, rfl⟩, hw4, hf4⟩
           have HW4 : Hid (Wr w4 b (bs ++ quoS n.text) ((k + 1 : Nat) : Int)) := hw4
           have HF4 := Lib.hid (HF2.out.trans hf4)
           have HN4 := Lib.hid (hf4.cells HN2.out hNb (by decide))
           clear hw4 hf4
           clear d0 d1 d2 d3 d4 d5 dl f0 f1 f2 f3 f4 f5
           have d0 := zN HN4.out
           have d1 := zR HN4.out
           have d2 := zQ HN4.out
           have d3 := zP HN4.out
           have d4 := zO HN4.out
           have d5 := zL HN4.out
           have f0 := zB HN4.out 0
           have f1 := zB HN4.out 1
           have f2 := zB HN4.out 2
           have f3 := zB HN4.out 3
           have f4 := zB HN4.out 4
           have f5 := zB HN4.out 5
           have dl := zC HN4.out
           have HWx := Lib.hid (HW4.out.far HN4.out hNb 2 (.string ⟨#[]⟩))
           have HFx := Lib.hid (bfr_own (NB := NB) HF4.out (by have := HNB.out; omega) (by have := HNB.out; omega) 2 (.string ⟨#[]⟩))
           go_wp2_with (fail)
           refine (isBare_any ⟨n.op.toArray⟩ n.int ⟨#[]⟩ n.ty.kind A n.ty.args.length c K n.kids.length kc _).mono ?_
           rintro e w9 ⟨rfl, hb9⟩
           have HW9 := Lib.hid (HWx.out.below hb9)
           have HF9 := Lib.hid (HFx.out.trans (Knd.BFr.of_below hb9 (Nat.le_of_lt HWx.out.lt)))
           clear hb9
           go_wp2_with (fail)
           go_ret
           rw [HR2.out, bareN_eq]
           exact tw_bare HW9.out HF9.out
       · by_cases hnameW : n.op = nameW
         · have gintW : (n.op == [105, 110, 116]) = false := beq_eq_false_iff_ne.2 hintW
           have pintW : (n.op = [105, 110, 116]) = False := eq_false hintW
           have gtextW : (n.op == [116, 101, 120, 116, 95, 111, 102]) = false := beq_eq_false_iff_ne.2 htextW
           have ptextW : (n.op = [116, 101, 120, 116, 95, 111, 102]) = False := eq_false htextW
           have gnameW : (n.op == [110, 97, 109, 101]) = true := by rw [hnameW]; rfl
           have pnameW : (n.op = [110, 97, 109, 101]) = True := eq_true hnameW
           have HIS := Lib.hid (isName_any ⟨n.text.toArray⟩ w2 (by simp [ByteArray.size]; exact HRR.out.2.2.1))
           have HNE := Lib.hid (show isNm (bl ⟨n.text.toArray⟩) = isNm n.text from rfl)
           go_wp2_with (fail)
           refine HIS.out.mono ?_
           clear HIS
           rw [HNE.out]
           rintro e w3 ⟨rfl, hb3⟩
           have HW3 := Lib.hid (HW2.out.below hb3)
           have HF3 := Lib.hid (HF2.out.trans (Knd.BFr.of_below hb3 (Nat.le_of_lt HW2.out.lt)))
           have HN3 := Lib.hid ((hb3.block NB (zC HN2.out)).trans HN2.out)
           clear hb3
           clear d0 d1 d2 d3 d4 d5 dl f0 f1 f2 f3 f4 f5
           have d0 := zN HN3.out
           have d1 := zR HN3.out
           have d2 := zQ HN3.out
           have d3 := zP HN3.out
           have d4 := zO HN3.out
           have d5 := zL HN3.out
           have f0 := zB HN3.out 0
           have f1 := zB HN3.out 1
           have f2 := zB HN3.out 2
           have f3 := zB HN3.out 3
           have f4 := zB HN3.out 4
           have f5 := zB HN3.out 5
           have dl := zC HN3.out
           cases hnm : isNm n.text with
           | false =>
             have HR2 : Hid (zJ (r + 1) n (bs, k) = none) := by show _ = _; rw [HR.out, if_neg hintW, if_neg htextW, if_pos hnameW, if_neg (by rw [hnm]; decide)]
             clear HR hintW htextW hnameW hnm
             go_wp2_with (fail)
             go_ret
             rw [HR2.out]
             exact ⟨rfl, HF3.out⟩
           | true =>
             have HR2 : Hid (zJ (r + 1) n (bs, k) = if bareN n.int [] n.ty n.kids = true then some (bs ++ n.text, k + 1) else none) := by show _ = _; rw [HR.out, if_neg hintW, if_neg htextW, if_pos hnameW, if_pos hnm]
             have hnl := name_le hnm
             clear HR hintW htextW hnameW hnm
             go_upto_region 17 with (fail)
             go_region_with (go_at_call 123; refine (wrString_any b bs _ ⟨n.text.toArray⟩ w3.drew HW3.out (by simp [ByteArray.size]; omega)).mono ?_; rintro e w4 ⟨rfl, hw4, hf4'⟩; have hf4 := bfr_drew hf4')
             have HW4 : Hid (Wr w4 b (bs ++ n.text) ((k + 1 : Nat) : Int)) := hw4
             have HF4 := Lib.hid (HF3.out.trans hf4)
             have HN4 := Lib.hid (hf4.cells HN3.out hNb (by decide))
             clear hw4 hf4 hf4'
             clear d0 d1 d2 d3 d4 d5 dl f0 f1 f2 f3 f4 f5
             have d0 := zN HN4.out
             have d1 := zR HN4.out
             have d2 := zQ HN4.out
             have d3 := zP HN4.out
             have d4 := zO HN4.out
             have d5 := zL HN4.out
             have f0 := zB HN4.out 0
             have f1 := zB HN4.out 1
             have f2 := zB HN4.out 2
             have f3 := zB HN4.out 3
             have f4 := zB HN4.out 4
             have f5 := zB HN4.out 5
             have dl := zC HN4.out
             have HWx := Lib.hid (HW4.out.far HN4.out hNb 2 (.string ⟨#[]⟩))
             have HFx := Lib.hid (bfr_own (NB := NB) HF4.out (by have := HNB.out; omega) (by have := HNB.out; omega) 2 (.string ⟨#[]⟩))
             go_wp2_with (fail)
             refine (isBare_any ⟨n.op.toArray⟩ n.int ⟨#[]⟩ n.ty.kind A n.ty.args.length c K n.kids.length kc _).mono ?_
             rintro e w9 ⟨rfl, hb9⟩
             have HW9 := Lib.hid (HWx.out.below hb9)
             have HF9 := Lib.hid (HFx.out.trans (Knd.BFr.of_below hb9 (Nat.le_of_lt HWx.out.lt)))
             clear hb9
             go_wp2_with (fail)
             go_ret
             rw [HR2.out, bareN_eq]
             exact tw_bare HW9.out HF9.out
         · have gintW : (n.op == [105, 110, 116]) = false := beq_eq_false_iff_ne.2 hintW
           have pintW : (n.op = [105, 110, 116]) = False := eq_false hintW
           have gtextW : (n.op == [116, 101, 120, 116, 95, 111, 102]) = false := beq_eq_false_iff_ne.2 htextW
           have ptextW : (n.op = [116, 101, 120, 116, 95, 111, 102]) = False := eq_false htextW
           have gnameW : (n.op == [110, 97, 109, 101]) = false := beq_eq_false_iff_ne.2 hnameW
           have pnameW : (n.op = [110, 97, 109, 101]) = False := eq_false hnameW
           have HR2 : Hid (zJ (r + 1) n (bs, k) = wordW (zJ r) n (bs, k + 1)) := by show _ = _; rw [HR.out, if_neg hintW, if_neg htextW, if_neg hnameW]
           have HN0 : Hid (NdAt w2 S d (.agg #[.string ⟨n.op.toArray⟩, .int .i64 n.int, .string ⟨n.text.toArray⟩, .int .i64 n.ty.kind, .slice A n.ty.args.length c, .slice K n.kids.length kc]) n) := NdAt.move (fun x hx _ => ⟨hx, fun _ => World.cell?_of_block (HF2.out.below.block x (HS.out x hx))⟩) d _ _ HNN.out
           have hW := wordW_any r HTM.out b d S _ n bs (k + 1) w2 HN0.out HS.out HRR.out HW2.out (HG.out.below HF2.out.below h2) h2 (by omega) (by omega) (by omega)
           have HWW := Lib.hid hW
           clear hW HR hintW htextW hnameW
           go_wp2_with (fail)
           refine HWW.out.mono ?_
           clear HWW
           intro e w3 h3
           revert HR2 h3
           generalize wordW (zJ r) n (bs, k + 1) = q
           intro HR2 h3
           match q, h3, HR2 with
           | none, h3, HR2 =>
             obtain ⟨rfl, hf3⟩ := h3
             have HF3 := Lib.hid (HF2.out.trans hf3)
             have HR3 : Hid (zJ (r + 1) n (bs, k) = none) := HR2
             clear hf3 HR2
             go_wp2_with (fail)
             go_ret
             rw [HR3.out]
             exact ⟨rfl, HF3.out⟩
           | some s3, h3, HR2 =>
             obtain ⟨rfl, hw3, hf3⟩ := h3
             have HW3 := Lib.hid hw3
             have HF3 := Lib.hid (HF2.out.trans hf3)
             have HR3 : Hid (zJ (r + 1) n (bs, k) = some s3) := HR2
             clear hf3 hw3 HR2
             go_wp2_with (fail)
             go_ret
             rw [HR3.out]
             exact ⟨rfl, HW3.out, HF3.out⟩
end Go.Proofs.YtaecndmncpfpfaaGreatDoor
namespace Go.Proofs.YtaecndmncpfpfaaGreatDoor
open Go.RowKit
open Knd (BFr)
theorem kidsW_pos {f : Nd → StW → Option StW} : ∀ (l : List Nd) (p : List UInt8) (mark : UInt8) (s s' : StW), (∀ n ∈ l, ∀ s s', f n s = some s' → s.1.length < s'.1.length) → yD f l p mark s = some s' → s.1.length < s'.1.length
 | [], _, _, s, s', _, h => by
   simp only [yD, Option.some.injEq] at h
   subst h
   simp
 | _ :: _, [], _, _, _, _, h => by simp [yD] at h
 | n :: l, p :: ps, mark, s, s', hf, h => by
   unfold yD at h
   split at h
   · cases h
   · split at h
     · cases h
     · rename_i s2 h2
       have h3 := kidsW_pos l ps 44 s2 s' (fun m hm => hf m (List.mem_cons_of_mem _ hm)) h
       have h4 := hf n (List.mem_cons_self ..) _ _ h2
       simp at h4
       omega
theorem wordW_pos {f : Nd → StW → Option StW} {n : Nd} {s s' : StW} (hf : ∀ k ∈ n.kids, ∀ s s', f k s = some s' → s.1.length < s'.1.length) (h : wordW f n s = some s') : s.1.length < s'.1.length := by
 unfold wordW at h
 cases hw : wdP n.op with
 | none => rw [hw] at h; cases h
 | some x =>
   obtain ⟨p, least⟩ := x
   have ho := wd_pos hw
   rw [hw] at h
   simp only [wordP] at h
   by_cases h1 : hasB p 101 = true
   · rw [if_pos h1] at h
     split at h
     · cases h
     · obtain ⟨s2, h2, h⟩ := Option.bind_eq_some_iff.1 h
       split at h
       · injection h with h
         subst h
         have := kidsW_pos n.kids p 40 _ _ hf h2
         simp at this
         omega
       · cases h
   · rw [if_neg h1] at h
     by_cases h3 : hasB p 100 = true
     · rw [if_pos h3] at h
       split at h
       · cases h
       · split at h
         · injection h with h
           subst h
           simp
           omega
         · cases h
     · rw [if_neg h3] at h
       by_cases h4 : hasB p 116 = true
       · rw [if_pos h4] at h
         split at h
         · split at h
           · injection h with h
             subst h
             simp
             omega
           · cases h
         · cases h
       · rw [if_neg h4] at h
         split at h
         · injection h with h
           subst h
           simp
           omega
         · cases h
theorem termW_pos : ∀ (r : Nat) (n : Nd) (s s' : StW), zJ r n s = some s' → s.1.length < s'.1.length
 | 0, n, s, s', h => by simp [zJ] at h
 | r + 1, n, s, s', h => by
   unfold zJ at h
   split at h
   · cases h
   · split at h
     · split at h
       · injection h with h
         subst h
         have := itoa_pos n.int
         simp
         omega
       · cases h
     · split at h
       · split at h
         · cases h
         · split at h
           · injection h with h
             subst h
             simp [quoS]
           · cases h
       · split at h
         · split at h
           · rename_i hn
             split at h
             · injection h with h
               subst h
               have := name_pos hn
               simp
               omega
             · cases h
           · cases h
         · exact wordW_pos (s := (s.1, s.2 + 1)) (fun k _ s s' hk' => termW_pos r k s s' hk') h
def VrOut (w : World) (e : Ending) (w' : World) : Option StW → Prop
 | none => e = .returned (.tuple #[.pointer none, .int .i64 110]) ∧ Below w.heap.size w w'
 | some s => ∃ b, w.heap.size ≤ b ∧ e = .returned (.tuple #[.pointer (some ⟨b, 0, none⟩), .int .i64 0]) ∧ Wr w' b s.1 (s.2 : Int) ∧ Below w.heap.size w w' ∧ s.1 ≠ []
set_option maxRecDepth 100000 in
set_option maxHeartbeats 2000000 in
theorem written_any (d : Nat) (S : Nat → Prop) (v : Value) (n : Nd) (w : World) (hN : NdAt w S d v n) (hR : RgN 24 n) (hG : Gl w) :
    Calls Tryz.prog 50 #[v] w fun e w' => VrOut w e w' (showW n) := by
 obtain ⟨A, c, K, kc, rfl⟩ := hN.form
 have hGl := hG.lt2
 have HN0 : Hid (NdAt w (fun k => k < w.heap.size) d (.agg #[.string ⟨n.op.toArray⟩, .int .i64 n.int, .string ⟨n.text.toArray⟩, .int .i64 n.ty.kind, .slice A n.ty.args.length c, .slice K n.kids.length kc]) n) := NdAt.move (fun b _ hl => ⟨hl, fun _ => rfl⟩) d _ _ hN
 have HG := Lib.hid hG
 have HR := Lib.hid hR
 have hb0 := (Below.refl w.heap.size w).alloc (Nat.le_refl _) (.cells #[.string ⟨n.op.toArray⟩, .int .i64 n.int, .string ⟨n.text.toArray⟩, .int .i64 n.ty.kind, .slice A n.ty.args.length c, .slice K n.kids.length kc] 41)
 have hs0 : (w.alloc (.cells #[.string ⟨n.op.toArray⟩, .int .i64 n.int, .string ⟨n.text.toArray⟩, .int .i64 n.ty.kind, .slice A n.ty.args.length c, .slice K n.kids.length kc] 41)).heap.size = w.heap.size + 1 := by simp
 have hba := hb0.alloc (by omega : w.heap.size ≤ (w.alloc (.cells #[.string ⟨n.op.toArray⟩, .int .i64 n.int, .string ⟨n.text.toArray⟩, .int .i64 n.ty.kind, .slice A n.ty.args.length c, .slice K n.kids.length kc] 41)).heap.size) (.cells #[.pointer none, .slice none 0 0, .int .i64 0] 145)
 have HW1 : Hid (Wr ((w.alloc (.cells #[.string ⟨n.op.toArray⟩, .int .i64 n.int, .string ⟨n.text.toArray⟩, .int .i64 n.ty.kind, .slice A n.ty.args.length c, .slice K n.kids.length kc] 41)).alloc (.cells #[.pointer none, .slice none 0 0, .int .i64 0] 145)) (w.heap.size + 1) [] ((0 : Nat) : Int)) := by
  have h1 := heap_alloc_new (w.alloc (.cells #[.string ⟨n.op.toArray⟩, .int .i64 n.int, .string ⟨n.text.toArray⟩, .int .i64 n.ty.kind, .slice A n.ty.args.length c, .slice K n.kids.length kc] 41)) (.cells #[.pointer none, .slice none 0 0, .int .i64 0] 145)
  rw [hs0] at h1
  exact .inl ⟨.slice none 0 0, h1, World.ownsRow_nil _ _ _ _, by simp [Value.ownBlock]⟩
 have HE : Hid (showW n = (zJ 24 n ([], 0)).bind fun s => if 4096 < s.1.length then none else some s) := by
  show _ = _
  unfold showW
  cases zJ 24 n ([], 0) <;> rfl
 have hs1 : ((w.alloc (.cells #[.string ⟨n.op.toArray⟩, .int .i64 n.int, .string ⟨n.text.toArray⟩, .int .i64 n.ty.kind, .slice A n.ty.args.length c, .slice K n.kids.length kc] 41)).alloc (.cells #[.pointer none, .slice none 0 0, .int .i64 0] 145)).heap.size = w.heap.size + 2 := by simp
 clear hN hG hR hb0 hs0
 go_enter Tryz.func50, Tryz.ntmps50
 go_wp2_with (fail)
 generalize (w.alloc (.cells #[.string ⟨n.op.toArray⟩, .int .i64 n.int, .string ⟨n.text.toArray⟩, .int .i64 n.ty.kind, .slice A n.ty.args.length c, .slice K n.kids.length kc] 41)).alloc (.cells #[.pointer none, .slice none 0 0, .int .i64 0] 145) = w1 at *
 have HN1 : Hid (NdAt w1 (fun k => k < w.heap.size) d (.agg #[.string ⟨n.op.toArray⟩, .int .i64 n.int, .string ⟨n.text.toArray⟩, .int .i64 n.ty.kind, .slice A n.ty.args.length c, .slice K n.kids.length kc]) n) := NdAt.move (fun b hb _ => ⟨hb, fun _ => World.cell?_of_block (hba.block b hb)⟩) d _ _ HN0.out
 have hT := term_any 24 (by omega) (w.heap.size + 1) d _ _ n [] 0 w1 HN1.out (fun x hx => by omega) HR.out HW1.out (HG.out.below hba hGl) (by omega) (by simp) (Nat.zero_le _)
 rw [show (((24 : Nat) : Nat) : Int) = 24 from rfl] at hT
 have HBA := Lib.hid hba
 have HP := Lib.hid (fun s' hs' => termW_pos 24 n ([], 0) s' hs')
 obtain ⟨b, hb⟩ : ∃ b, b = w.heap.size + 1 := ⟨_, rfl⟩
 rw [← hb] at hT
 rw [← hb]
 have hbw : w.heap.size < b := by omega
 have hb1 : b < w1.heap.size := by omega
 refine hT.mono ?_
 clear hba hT hb HW1
 intro e w2 h2
 revert HE HP h2
 generalize zJ 24 n ([], 0) = q
 intro HE HP h2
 match q, h2, HE, HP with
 | none, h2, HE, _ =>
   obtain ⟨rfl, hf2⟩ := h2
   have HR2 : Hid (showW n = none) := HE
   have HB2 := Lib.hid (HBA.out.trans (hf2.below.mono (by omega)))
   clear hf2 HE
   go_wp2_with (fail)
   go_ret2
   rw [HR2.out]
   exact ⟨rfl, HB2.out⟩
 | some s, h2, HE, HP =>
   obtain ⟨rfl, hw2, hf2⟩ := h2
   have HR2 : Hid (showW n = if 4096 < s.1.length then none else some s) := HE
   have HW2 := Lib.hid hw2
   have HB2 := Lib.hid (HBA.out.trans (hf2.below.mono (by omega)))
   have hpos := HP.out s rfl
   simp only [List.length_nil] at hpos
   clear hf2 hw2 HE HP
   go_wp2_with (fail)
   refine (wrLen_any b s.1 (s.2 : Int) w2 HW2.out).mono ?_
   rintro e w3 ⟨rfl, rfl⟩
   by_cases hlt : 4096 < s.1.length
   · have hl2 : (4096 : Int) < (s.1.length : Int) := by omega
     have HR3 : Hid (showW n = none) := by show _ = _; rw [HR2.out, if_pos hlt]
     go_wp2_with (fail)
     go_ret2
     rw [HR3.out]
     exact ⟨rfl, HB2.out⟩
   · have hl2 : ¬ (4096 : Int) < (s.1.length : Int) := by omega
     have HR3 : Hid (showW n = some s) := by show _ = _; rw [HR2.out, if_neg hlt]
     go_wp2_with (fail)
     go_ret2
     rw [HR3.out]
     exact ⟨b, by omega, rfl, HW2.out, HB2.out, fun e => by rw [e] at hpos; exact absurd hpos (by simp)⟩
