import Derived.Test.YtaecndmncpfpfaaGreatDoorPv
import Derived.Test.YtaecndmncpfpfaaGreatDoorPn
namespace Go.Proofs.YtaecndmncpfpfaaGreatDoor
open Go.RowKit
theorem expr_word (kp : List UInt8 → Nat × Option Ty) (l : List UInt8) (r m : Nat) : exprR kp l (r + 1) m = (if decide (lkB l m = 45) || isDig (lkB l m) then numN l m else if lkB l m = 34 then strN l m else if isLet (lkB l m) then wordR kp l r m else (m, none)) := by
 rw [exprR]
 unfold wordR
 rfl
set_option maxRecDepth 100000 in
set_option maxHeartbeats 4000000 in
theorem expr_any : ∀ (r : Nat), r ≤ 24 → ∀ (R : Nat) (s : ByteArray), 0 < R → 0 < r → ExOk r R s
 | 0, _, _, _, _, h => absurd h (by omega)
 | r + 1, hr, R, s, hR, _ => fun m w hG h => by
   have IH : Hid (0 < r → ExOk r R s) := fun h0 => expr_any r (by omega) R s hR h0
   have HR := Lib.hid h
   have HG := Lib.hid hG
   have hRl := h.lt
   have hlen := h.len
   have hle := h.le
   have hb1 := (Below.refl w.heap.size w).alloc (Nat.le_refl _) (.cells #[.string ⟨#[]⟩, .int .i64 0, .string ⟨#[]⟩, .int .i64 0, .slice none 0 0, .slice none 0 0] 41)
   have HN1 := Lib.hid (heap_alloc_new w (.cells #[.string ⟨#[]⟩, .int .i64 0, .string ⟨#[]⟩, .int .i64 0, .slice none 0 0, .slice none 0 0] 41))
   have HR1 := Lib.hid (h.below hb1)
   have HE := Lib.hid (expr_word Knd.zK (bl s) r m)
   rw [show ((r + 1 : Nat) : Int) = (r : Int) + 1 by omega]
   clear h hG
   go_enter Tryz.func53, Tryz.ntmps53
   go_wp2_with (fail)
   obtain ⟨w1, hw1⟩ : ∃ w1, w1 = w.alloc (.cells #[.string ⟨#[]⟩, .int .i64 0, .string ⟨#[]⟩, .int .i64 0, .slice none 0 0, .slice none 0 0] 41) := ⟨_, rfl⟩
   have hs1 : w1.heap.size = w.heap.size + 1 := by rw [hw1]; simp
   rw [← hw1] at hb1 HN1 HR1
   rw [← hw1]
   clear hw1
   refine (look_any R s m w1 HR1.out).mono ?_
   rintro e w2 ⟨rfl, hb2⟩
   have hb12 := hb1.trans (hb2.mono (by omega))
   have HR2 := Lib.hid (HR.out.below hb12)
   have HO2 : Hid (Only R w w2) := Only.of_below hb12
   have HN2 := Lib.hid ((hb2.block w.heap.size (by omega)).trans HN1.out)
   have hs2 := hb2.size
   obtain ⟨c, hc⟩ : ∃ c, c = lkB (bl s) m := ⟨_, rfl⟩
   rw [← hc] at HE
   rw [← hc]
   have HC := Lib.hid hc
   clear hb1 hb2 hb12 HR1 HN1 hc
   by_cases h1 : c = 45
   · subst h1
     go_wp2_with (fail)
     refine (number_any R s m w2 HR2.out).mono ?_
     have HF : Hid (exprR Knd.zK (bl s) (r + 1) m = ((numS (bl s) m).1, if (numS (bl s) m).2.2 then some (.mk intW (numV (rdB (bl s) m 45) (numS (bl s) m).2.1) [] ty0 []) else none)) := by show _ = _; rw [HE.out, if_pos (by simp [*])]; rfl
     revert HF
     generalize rdB (bl s) m 45 = neg
     generalize numS (bl s) m = q
     obtain ⟨m3, n3, g3⟩ := q
     intro HF
     rintro e w3 ⟨rfl, ho, hr3⟩
     have HN3 := Lib.hid ((ho.block w.heap.size (by omega) (by simp; omega)).trans HN2.out)
     have HO3 := Lib.hid (HO2.out.trans ho)
     have HR3 := Lib.hid hr3
     have d0 := zN HN3.out
     have d1 := zR HN3.out
     have d2 := zQ HN3.out
     have d3 := zP HN3.out
     have d4 := zO HN3.out
     have d5 := zL HN3.out
     have f0 := zB HN3.out 0
     have f1 := zB HN3.out 1
     have f2 := zB HN3.out 2
     have f3 := zB HN3.out 3
     have f4 := zB HN3.out 4
     have f5 := zB HN3.out 5
     have hl := zC HN3.out
     clear ho hr3
     cases g3 with
     | true =>
       have HF2 : Hid (exprR Knd.zK (bl s) (r + 1) m = (m3, some (.mk intW (numV neg n3) [] ty0 []))) := HF
       clear HF HE
       go_wp2_with (fail)
       refine bodyPost_ret (v := .tuple #[.agg #[.string ⟨#[105, 110, 116]⟩, .int .i64 (numV neg n3), .string ⟨#[]⟩, .int .i64 0, .slice none 0 0, .slice none 0 0], .bool true]) (by simp [results, Tryz.results53, go_sem, d0, d1, d2, d3, d4, d5]) rfl ?_
       rw [HF2.out]
       have hOO := HO3.out
       have hRR := HR3.out
       refine nout_good ?_ ?_ ?_
       · exact NdAt.leaf _ _ (r + 1) intW (numV neg n3) []
       · (repeat' (first | with_reducible assumption | with_reducible refine Only.far ?_ ?_ | with_reducible refine Only.more ?_ | (dsimp only; omega)))
       · (repeat' (first | with_reducible assumption | with_reducible refine Rdr.far ?_ ?_ | with_reducible refine Rdr.more ?_ | (dsimp only; omega)))
     | false =>
       have HF2 : Hid (exprR Knd.zK (bl s) (r + 1) m = (m3, none)) := HF
       clear HF HE
       go_wp2_with (fail)
       refine bodyPost_ret (v := .tuple #[.agg #[.string ⟨#[105, 110, 116]⟩, .int .i64 (numV neg n3), .string ⟨#[]⟩, .int .i64 0, .slice none 0 0, .slice none 0 0], .bool false]) (by simp [results, Tryz.results53, go_sem, d0, d1, d2, d3, d4, d5]) rfl ?_
       rw [HF2.out]
       have hOO := HO3.out
       have hRR := HR3.out
       refine nout_bad ⟨_, _, _, _, _, _, _, _, _, _, rfl⟩ ?_ ?_
       · (repeat' (first | with_reducible assumption | with_reducible refine Only.far ?_ ?_ | with_reducible refine Only.more ?_ | (dsimp only; omega)))
       · (repeat' (first | with_reducible assumption | with_reducible refine Rdr.far ?_ ?_ | with_reducible refine Rdr.more ?_ | (dsimp only; omega)))
   · have g1 : ((c.toNat : Int) == 45) = false := u8_beq_false (b := 45) h1
     go_wp2_with (fail)
     refine (isDigit_any c w2).mono ?_
     rintro e w3 ⟨rfl, rfl⟩
     cases h2 : isDig c with
     | true =>
       go_wp2_with (fail)
       refine (number_any R s m w2 HR2.out).mono ?_
       have HF : Hid (exprR Knd.zK (bl s) (r + 1) m = ((numS (bl s) m).1, if (numS (bl s) m).2.2 then some (.mk intW (numV (rdB (bl s) m 45) (numS (bl s) m).2.1) [] ty0 []) else none)) := by show _ = _; rw [HE.out, if_pos (by simp [*])]; rfl
       revert HF
       generalize rdB (bl s) m 45 = neg
       generalize numS (bl s) m = q
       obtain ⟨m3, n3, g3⟩ := q
       intro HF
       rintro e w3 ⟨rfl, ho, hr3⟩
       have HN3 := Lib.hid ((ho.block w.heap.size (by omega) (by simp; omega)).trans HN2.out)
       have HO3 := Lib.hid (HO2.out.trans ho)
       have HR3 := Lib.hid hr3
       have d0 := zN HN3.out
       have d1 := zR HN3.out
       have d2 := zQ HN3.out
       have d3 := zP HN3.out
       have d4 := zO HN3.out
       have d5 := zL HN3.out
       have f0 := zB HN3.out 0
       have f1 := zB HN3.out 1
       have f2 := zB HN3.out 2
       have f3 := zB HN3.out 3
       have f4 := zB HN3.out 4
       have f5 := zB HN3.out 5
       have hl := zC HN3.out
       clear ho hr3
       cases g3 with
       | true =>
         have HF2 : Hid (exprR Knd.zK (bl s) (r + 1) m = (m3, some (.mk intW (numV neg n3) [] ty0 []))) := HF
         clear HF HE
         go_wp2_with (fail)
         refine bodyPost_ret (v := .tuple #[.agg #[.string ⟨#[105, 110, 116]⟩, .int .i64 (numV neg n3), .string ⟨#[]⟩, .int .i64 0, .slice none 0 0, .slice none 0 0], .bool true]) (by simp [results, Tryz.results53, go_sem, d0, d1, d2, d3, d4, d5]) rfl ?_
         rw [HF2.out]
         have hOO := HO3.out
         have hRR := HR3.out
         refine nout_good ?_ ?_ ?_
         · exact NdAt.leaf _ _ (r + 1) intW (numV neg n3) []
         · (repeat' (first | with_reducible assumption | with_reducible refine Only.far ?_ ?_ | with_reducible refine Only.more ?_ | (dsimp only; omega)))
         · (repeat' (first | with_reducible assumption | with_reducible refine Rdr.far ?_ ?_ | with_reducible refine Rdr.more ?_ | (dsimp only; omega)))
       | false =>
         have HF2 : Hid (exprR Knd.zK (bl s) (r + 1) m = (m3, none)) := HF
         clear HF HE
         go_wp2_with (fail)
         refine bodyPost_ret (v := .tuple #[.agg #[.string ⟨#[105, 110, 116]⟩, .int .i64 (numV neg n3), .string ⟨#[]⟩, .int .i64 0, .slice none 0 0, .slice none 0 0], .bool false]) (by simp [results, Tryz.results53, go_sem, d0, d1, d2, d3, d4, d5]) rfl ?_
         rw [HF2.out]
         have hOO := HO3.out
         have hRR := HR3.out
         refine nout_bad ⟨_, _, _, _, _, _, _, _, _, _, rfl⟩ ?_ ?_
         · (repeat' (first | with_reducible assumption | with_reducible refine Only.far ?_ ?_ | with_reducible refine Only.more ?_ | (dsimp only; omega)))
         · (repeat' (first | with_reducible assumption | with_reducible refine Rdr.far ?_ ?_ | with_reducible refine Rdr.more ?_ | (dsimp only; omega)))
     | false =>
       by_cases h3 : c = 34
       · have hms : m < s.size := by have := lkB_lt (l := bl s) (m := m) (by rw [← HC.out, h3]; decide); rwa [zT] at this
         subst h3
         go_wp2_with (fail)
         refine (string_any R s m w2 hms HR2.out).mono ?_
         have HF : Hid (exprR Knd.zK (bl s) (r + 1) m = bindP (strS (bl s) m) fun m' t => (m', some (.mk textW 0 t ty0 []))) := by show _ = _; rw [HE.out, if_neg (by decide), if_pos trivial]; rfl
         revert HF
         generalize strS (bl s) m = q
         match q with
         | (m3, none) =>
           intro HF
           rintro e w3 ⟨rfl, ho, hr3⟩
           have HN3 := Lib.hid ((ho.block w.heap.size (by omega) (by simp; omega)).trans HN2.out)
           have HO3 := Lib.hid (HO2.out.trans ho)
           have HR3 := Lib.hid hr3
           have d0 := zN HN3.out
           have d1 := zR HN3.out
           have d2 := zQ HN3.out
           have d3 := zP HN3.out
           have d4 := zO HN3.out
           have d5 := zL HN3.out
           have f0 := zB HN3.out 0
           have f1 := zB HN3.out 1
           have f2 := zB HN3.out 2
           have f3 := zB HN3.out 3
           have f4 := zB HN3.out 4
           have f5 := zB HN3.out 5
           have hl := zC HN3.out
           clear ho hr3
           have HF2 : Hid (exprR Knd.zK (bl s) (r + 1) m = (m3, none)) := HF
           clear HF HE
           go_wp2_with (fail)
           refine bodyPost_ret (v := .tuple #[.agg #[.string ⟨#[116, 101, 120, 116, 95, 111, 102]⟩, .int .i64 0, .string ⟨#[]⟩, .int .i64 0, .slice none 0 0, .slice none 0 0], .bool false]) (by simp [results, Tryz.results53, go_sem, d0, d1, d2, d3, d4, d5]) rfl ?_
           rw [HF2.out]
           have hOO := HO3.out
           have hRR := HR3.out
           refine nout_bad ⟨_, _, _, _, _, _, _, _, _, _, rfl⟩ ?_ ?_
           · (repeat' (first | with_reducible assumption | with_reducible refine Only.far ?_ ?_ | with_reducible refine Only.more ?_ | (dsimp only; omega)))
           · (repeat' (first | with_reducible assumption | with_reducible refine Rdr.far ?_ ?_ | with_reducible refine Rdr.more ?_ | (dsimp only; omega)))
         | (m3, some t3) =>
           intro HF
           rintro e w3 ⟨rfl, ho, hr3⟩
           have HN3 := Lib.hid ((ho.block w.heap.size (by omega) (by simp; omega)).trans HN2.out)
           have HO3 := Lib.hid (HO2.out.trans ho)
           have HR3 := Lib.hid hr3
           have d0 := zN HN3.out
           have d1 := zR HN3.out
           have d2 := zQ HN3.out
           have d3 := zP HN3.out
           have d4 := zO HN3.out
           have d5 := zL HN3.out
           have f0 := zB HN3.out 0
           have f1 := zB HN3.out 1
           have f2 := zB HN3.out 2
           have f3 := zB HN3.out 3
           have f4 := zB HN3.out 4
           have f5 := zB HN3.out 5
           have hl := zC HN3.out
           clear ho hr3
           have HF2 : Hid (exprR Knd.zK (bl s) (r + 1) m = (m3, some (.mk textW 0 t3 ty0 []))) := HF
           clear HF HE
           go_wp2_with (fail)
           refine bodyPost_ret (v := .tuple #[.agg #[.string ⟨#[116, 101, 120, 116, 95, 111, 102]⟩, .int .i64 0, .string ⟨t3.toArray⟩, .int .i64 0, .slice none 0 0, .slice none 0 0], .bool true]) (by simp [results, Tryz.results53, go_sem, d0, d1, d2, d3, d4, d5]) rfl ?_
           rw [HF2.out]
           have hOO := HO3.out
           have hRR := HR3.out
           refine nout_good ?_ ?_ ?_
           · exact NdAt.leaf _ _ (r + 1) textW 0 t3
           · (repeat' (first | with_reducible assumption | with_reducible refine Only.far ?_ ?_ | with_reducible refine Only.more ?_ | (dsimp only; omega)))
           · (repeat' (first | with_reducible assumption | with_reducible refine Rdr.far ?_ ?_ | with_reducible refine Rdr.more ?_ | (dsimp only; omega)))
       · have g3 : ((c.toNat : Int) == 34) = false := u8_beq_false (b := 34) h3
         go_wp2_with (fail)
         refine (isLetter_any c w2).mono ?_
         rintro e w3 ⟨rfl, rfl⟩
         cases h4 : isLet c with
         | true =>
           go_wp2_with (fail)
           refine (word_any r R s m w2 hR (glob_only hR HO2.out HG.out) HR2.out (by omega) IH.out).mono ?_
           have HF : Hid (exprR Knd.zK (bl s) (r + 1) m = wordR Knd.zK (bl s) r m) := by show _ = _; rw [HE.out, if_neg (by simp [h1, h2]), if_neg h3, if_pos h4]
           intro e w3 h3'
           obtain ⟨k0, k1, k2, k3, KA, kn, kc, KK, km, kk, good, rfl, ho, hr3, hgood, hv3⟩ := h3'.parts
           have HV3 := Lib.hid hv3
           have HGD := Lib.hid hgood
           have HN3 := Lib.hid ((ho.block w.heap.size (by omega) (by simp; omega)).trans HN2.out)
           have HO3 := Lib.hid (HO2.out.trans ho)
           have HR3 := Lib.hid hr3
           have d0 := zN HN3.out
           have d1 := zR HN3.out
           have d2 := zQ HN3.out
           have d3 := zP HN3.out
           have d4 := zO HN3.out
           have d5 := zL HN3.out
           have f0 := zB HN3.out 0
           have f1 := zB HN3.out 1
           have f2 := zB HN3.out 2
           have f3 := zB HN3.out 3
           have f4 := zB HN3.out 4
           have f5 := zB HN3.out 5
           have hl := zC HN3.out
           clear ho hr3
           clear hv3 hgood h3'
           go_wp2_with (fail)
           refine bodyPost_ret (v := .tuple #[.agg #[.string k0, .int .i64 k1, .string k2, .int .i64 k3, .slice KA kn kc, .slice KK km kk], .bool good]) (by simp [results, Tryz.results53, go_sem, d0, d1, d2, d3, d4, d5]) rfl ?_
           rw [HF.out]
           have hOO := HO3.out
           have hRR := HR3.out
           have hg := HGD.out
           have hv := HV3.out
           revert hRR hg hv
           generalize wordR Knd.zK (bl s) r m = q
           match q with
           | (m3, none) =>
             intro hRR hg hv
             obtain rfl : good = false := hg
             refine nout_bad ⟨_, _, _, _, _, _, _, _, _, _, rfl⟩ ?_ ?_
             · (repeat' (first | with_reducible assumption | with_reducible refine Only.far ?_ ?_ | with_reducible refine Only.more ?_ | (dsimp only; omega)))
             · (repeat' (first | with_reducible assumption | with_reducible refine Rdr.far ?_ ?_ | with_reducible refine Rdr.more ?_ | (dsimp only; omega)))
           | (m3, some nd) =>
             intro hRR hg hv
             obtain rfl : good = true := hg
             refine nout_good ?_ ?_ ?_
             · refine NdAt.move (fun b hb hlb => ⟨by omega, fun o => World.cell?_of_block ?_⟩) (r + 2) _ _ (hv nd rfl)
               first
                | exact set6_block (by show b ≠ w.heap.size; omega)
                | exact (set6_block (by show b ≠ w.heap.size; omega)).trans (Below.heap_alloc _ _ _ hlb)
             · (repeat' (first | with_reducible assumption | with_reducible refine Only.far ?_ ?_ | with_reducible refine Only.more ?_ | (dsimp only; omega)))
             · (repeat' (first | with_reducible assumption | with_reducible refine Rdr.far ?_ ?_ | with_reducible refine Rdr.more ?_ | (dsimp only; omega)))
         | false =>
           have HF : Hid (exprR Knd.zK (bl s) (r + 1) m = (m, none)) := by show _ = _; rw [HE.out, if_neg (by simp [h1, h2]), if_neg h3, if_neg (by rw [h4]; decide)]
           have hr3 := HR2.out
           have ho : Only R w2 w2 := Only.refl _ _
           obtain ⟨w3, hw3⟩ : ∃ w3 : World, w3 = w2 := ⟨_, rfl⟩
           subst hw3
           have HN3 := Lib.hid ((ho.block w.heap.size (by omega) (by simp; omega)).trans HN2.out)
           have HO3 := HO2
           have HR3 := Lib.hid hr3
           have d0 := zN HN3.out
           have d1 := zR HN3.out
           have d2 := zQ HN3.out
           have d3 := zP HN3.out
           have d4 := zO HN3.out
           have d5 := zL HN3.out
           have f0 := zB HN3.out 0
           have f1 := zB HN3.out 1
           have f2 := zB HN3.out 2
           have f3 := zB HN3.out 3
           have f4 := zB HN3.out 4
           have f5 := zB HN3.out 5
           have hl := zC HN3.out
           clear ho hr3
           go_wp2_with (fail)
           refine bodyPost_ret (v := .tuple #[.agg #[.string ⟨#[]⟩, .int .i64 0, .string ⟨#[]⟩, .int .i64 0, .slice none 0 0, .slice none 0 0], .bool false]) (by simp [results, Tryz.results53, go_sem, d0, d1, d2, d3, d4, d5]) rfl ?_
           rw [HF.out]
           have hOO := HO3.out
           have hRR := HR3.out
           refine nout_bad ⟨_, _, _, _, _, _, _, _, _, _, rfl⟩ ?_ ?_
           · (repeat' (first | with_reducible assumption | with_reducible refine Only.far ?_ ?_ | with_reducible refine Only.more ?_ | (dsimp only; omega)))
           · (repeat' (first | with_reducible assumption | with_reducible refine Rdr.far ?_ ?_ | with_reducible refine Rdr.more ?_ | (dsimp only; omega)))
end Go.Proofs.YtaecndmncpfpfaaGreatDoor
namespace Go.Proofs.YtaecndmncpfpfaaGreatDoor
open Go.RowKit
def QaOut (w w' : World) (e : Ending) : Nat × Option Nd → Prop
 | (m, none) => e = .returned (.tuple #[.agg #[.string ⟨#[]⟩, .int .i64 0, .string ⟨#[]⟩, .int .i64 0, .slice none 0 0, .slice none 0 0], .int .i64 (m : Int), .int .i64 40])
 | (_, some n) => ∃ v, e = .returned (.tuple #[v, .int .i64 0, .int .i64 0]) ∧ NdAt w' (fun b => w.heap.size ≤ b) 25 v n
theorem parse_at (kp : List UInt8 → Nat × Option Ty) (l : List UInt8) : parseR kp l = bindP (exprR kp l 24 (skip l 0)) fun m n => if skip l m < l.length then (skip l m, none) else (skip l m, some n) := rfl
set_option maxRecDepth 100000 in
set_option maxHeartbeats 4000000 in
theorem exprParse_any (s : ByteArray) (w : World) (hs : s.size ≤ 4096) (hG : Knd.Glob w) :
    Calls Tryz.prog 31 #[.string s] w fun e w' => QaOut w w' e (parseR Knd.zK (bl s)) ∧ Below w.heap.size w w' := by
 have hGl := hG.lt
 have HG := Lib.hid hG
 have hns : ¬ (4096 < (s.size : Int)) := by omega
 have hbl := zT s
 have hb1 := (Below.refl w.heap.size w).alloc (Nat.le_refl _) (.cells #[.string ⟨#[]⟩, .int .i64 0, .string ⟨#[]⟩, .int .i64 0, .slice none 0 0, .slice none 0 0] 41)
 have hz1 : (w.alloc (.cells #[.string ⟨#[]⟩, .int .i64 0, .string ⟨#[]⟩, .int .i64 0, .slice none 0 0, .slice none 0 0] 41)).heap.size = w.heap.size + 1 := by simp
 have hb2 := hb1.alloc (by omega : w.heap.size ≤ (w.alloc (.cells #[.string ⟨#[]⟩, .int .i64 0, .string ⟨#[]⟩, .int .i64 0, .slice none 0 0, .slice none 0 0] 41)).heap.size) (.cells #[.string s, .int .i64 0] 105)
 have hz2 : ((w.alloc (.cells #[.string ⟨#[]⟩, .int .i64 0, .string ⟨#[]⟩, .int .i64 0, .slice none 0 0, .slice none 0 0] 41)).alloc (.cells #[.string s, .int .i64 0] 105)).heap.size = w.heap.size + 2 := by simp
 have HN : Hid (((w.alloc (.cells #[.string ⟨#[]⟩, .int .i64 0, .string ⟨#[]⟩, .int .i64 0, .slice none 0 0, .slice none 0 0] 41)).alloc (.cells #[.string s, .int .i64 0] 105)).heap[w.heap.size]? = some (.cells #[.string ⟨#[]⟩, .int .i64 0, .string ⟨#[]⟩, .int .i64 0, .slice none 0 0, .slice none 0 0] 41 (0, 0))) := (Below.heap_alloc _ _ _ (by omega)).trans (heap_alloc_new w _)
 have HR : Hid (Rdr ((w.alloc (.cells #[.string ⟨#[]⟩, .int .i64 0, .string ⟨#[]⟩, .int .i64 0, .slice none 0 0, .slice none 0 0] 41)).alloc (.cells #[.string s, .int .i64 0] 105)) (w.heap.size + 1) s 0) := ⟨by have := heap_alloc_new (w.alloc (.cells #[.string ⟨#[]⟩, .int .i64 0, .string ⟨#[]⟩, .int .i64 0, .slice none 0 0, .slice none 0 0] 41)) (.cells #[.string s, .int .i64 0] 105); rw [hz1] at this; exact this, Nat.zero_le _, by omega⟩
 have HE := Lib.hid (parse_at Knd.zK (bl s))
 clear hG
 go_enter Tryz.func31, Tryz.ntmps31
 go_wp2_with (fail)
 generalize (w.alloc (.cells #[.string ⟨#[]⟩, .int .i64 0, .string ⟨#[]⟩, .int .i64 0, .slice none 0 0, .slice none 0 0] 41)).alloc (.cells #[.string s, .int .i64 0] 105) = wA at *
 have HBA := Lib.hid hb2
 clear hb1 hz1 hb2
 obtain ⟨R, hR⟩ : ∃ R, R = w.heap.size + 1 := ⟨_, rfl⟩
 rw [← hR] at HR
 rw [← hR]
 have h2R : 0 < R := by omega
 have HGA := Lib.hid (HG.out.kept (HBA.out.block 0 hGl))
 have hRw : w.heap.size < R := by omega
 have HRR := Lib.hid hR
 clear hR
 refine (skip_any R s 0 wA HR.out).mono ?_
 rintro e w3 ⟨⟨v, rfl⟩, ho3, hr3⟩
 have HO3 := Lib.hid ho3
 have HR3 := Lib.hid hr3
 have hs3 := ho3.size
 have HG3 := Lib.hid (glob_only h2R ho3 HGA.out)
 have hX := expr_any 24 (by omega) R s h2R (by omega) (skip (bl s) 0) w3 HG3.out HR3.out
 rw [show (((24 : Nat) : Nat) : Int) = 24 from rfl] at hX
 clear ho3 hr3
 go_wp2_with (fail)
 refine hX.mono ?_
 clear hX
 intro e w4 h4
 obtain ⟨k0, k1, k2, k3, KA, kn, kc, KK, km, kk, good, rfl, ho4, hr4, hgood, hv4⟩ := h4.parts
 have HO4 := Lib.hid (HO3.out.trans ho4)
 have hs4 := ho4.size
 have HN4 := Lib.hid (((HO3.out.trans ho4).block w.heap.size (by omega) (by simp; omega)).trans HN.out)
 revert HE hr4 hgood hv4
 clear ho4 h4
 generalize exprR Knd.zK (bl s) 24 (skip (bl s) 0) = q
 match q with
 | (m4, none) =>
   intro HE hr4 hgood hv4
   obtain rfl : good = false := hgood
   have HF : Hid (parseR Knd.zK (bl s) = (m4, none)) := HE
   have HR4 := Lib.hid hr4
   clear hr4 hv4 HE
   have d0 := zN HN4.out
   have d1 := zR HN4.out
   have d2 := zQ HN4.out
   have d3 := zP HN4.out
   have d4 := zO HN4.out
   have d5 := zL HN4.out
   have f0 := zB HN4.out 0
   have f1 := zB HN4.out 1
   have f2 := zB HN4.out 2
   have f3 := zB HN4.out 3
   have f4 := zB HN4.out 4
   have f5 := zB HN4.out 5
   have hl := zC HN4.out
   have r0 := zG HR4.out.box
   have r1 := zF HR4.out.box
   have rl := zC HR4.out.box
   go_upto_region 9 with (fail)
   obtain ⟨w5, hw5⟩ : ∃ w5, w5 = (((((w4.setCell ⟨w.heap.size, 0, none⟩ (.string k0)).setCell ⟨w.heap.size, 1, none⟩ (.int .i64 k1)).setCell ⟨w.heap.size, 2, none⟩ (.string k2)).setCell ⟨w.heap.size, 3, none⟩ (.int .i64 k3)).setCell ⟨w.heap.size, 4, none⟩ (.slice KA kn kc)).setCell ⟨w.heap.size, 5, none⟩ (.slice KK km kk) := ⟨_, rfl⟩
   have HN5 := Lib.hid (put6_heap (b0 := .string k0) (b1 := .int .i64 k1) (b2 := .string k2) (b3 := .int .i64 k3) (b4 := .slice KA kn kc) (b5 := .slice KK km kk) HN4.out)
   have hO5 : Only w.heap.size w4 w5 := by rw [hw5]; exact put6_only
   have hB4 : Below w.heap.size w w4 := HBA.out.trans (HO4.out.below (by omega) (by omega))
   have HB5 : Hid (Below w.heap.size w w5) := hB4.trans (hO5.below (Nat.le_refl _) (by omega))
   have HR5 : Hid (Rdr w5 R s m4) := ⟨(hO5.block R HR4.out.lt (by simp; omega)).trans HR4.out.box, HR4.out.le, HR4.out.len⟩
   have hs5 := hO5.size
   rw [← hw5] at HN5
   rw [← hw5]
   clear hw5 hO5 hB4 d0 d1 d2 d3 d4 d5 f0 f1 f2 f3 f4 f5 hl r0 r1 rl
   have d0 := zN HN5.out
   have d1 := zR HN5.out
   have d2 := zQ HN5.out
   have d3 := zP HN5.out
   have d4 := zO HN5.out
   have d5 := zL HN5.out
   have f0 := zB HN5.out 0
   have f1 := zB HN5.out 1
   have f2 := zB HN5.out 2
   have f3 := zB HN5.out 3
   have f4 := zB HN5.out 4
   have f5 := zB HN5.out 5
   have hl := zC HN5.out
   have r0 := zG HR5.out.box
   have r1 := zF HR5.out.box
   have rl := zC HR5.out.box
   have hz := put6_heap (b0 := .string ⟨#[]⟩) (b1 := .int .i64 0) (b2 := .string ⟨#[]⟩) (b3 := .int .i64 0) (b4 := .slice none 0 0) (b5 := .slice none 0 0) HN5.out
   have z0 := zN hz
   have z1 := zR hz
   have z2 := zQ hz
   have z3 := zP hz
   have z4 := zO hz
   have z5 := zL hz
   clear hz
   go_region
   all_goals
    go_wp2_with (fail)
    refine bodyPost_ret (v := .tuple #[.agg #[.string ⟨#[]⟩, .int .i64 0, .string ⟨#[]⟩, .int .i64 0, .slice none 0 0, .slice none 0 0], .int .i64 ((m4 : Nat) : Int), .int .i64 40]) (by simp [results, Tryz.results31, go_sem, z0, z1, z2, z3, z4, z5]) rfl ?_
    rw [HF.out]
    refine ⟨rfl, ?_⟩
    have hbb := HB5.out
    (repeat' (first | with_reducible assumption | with_reducible refine Below.setCell ?_ ?_ _ | with_reducible refine Below.drew ?_ | (dsimp only; omega)))
 | (m4, some nd) =>
   intro HE hr4 hgood hv4
   obtain rfl : good = true := hgood
   have HR4 := Lib.hid hr4
   have HV4 := Lib.hid (hv4 nd rfl)
   have HE4 : Hid (parseR Knd.zK (bl s) = if skip (bl s) m4 < s.size then (skip (bl s) m4, none) else (skip (bl s) m4, some nd)) := by show _ = _; rw [HE.out, ← hbl]; rfl
   clear hr4 hv4 HE
   have d0 := zN HN4.out
   have d1 := zR HN4.out
   have d2 := zQ HN4.out
   have d3 := zP HN4.out
   have d4 := zO HN4.out
   have d5 := zL HN4.out
   have f0 := zB HN4.out 0
   have f1 := zB HN4.out 1
   have f2 := zB HN4.out 2
   have f3 := zB HN4.out 3
   have f4 := zB HN4.out 4
   have f5 := zB HN4.out 5
   have hl := zC HN4.out
   have r0 := zG HR4.out.box
   have r1 := zF HR4.out.box
   have rl := zC HR4.out.box
   go_wp2_with (fail)
   obtain ⟨w5, hw5⟩ : ∃ w5, w5 = (((((w4.setCell ⟨w.heap.size, 0, none⟩ (.string k0)).setCell ⟨w.heap.size, 1, none⟩ (.int .i64 k1)).setCell ⟨w.heap.size, 2, none⟩ (.string k2)).setCell ⟨w.heap.size, 3, none⟩ (.int .i64 k3)).setCell ⟨w.heap.size, 4, none⟩ (.slice KA kn kc)).setCell ⟨w.heap.size, 5, none⟩ (.slice KK km kk) := ⟨_, rfl⟩
   have HN5 := Lib.hid (put6_heap (b0 := .string k0) (b1 := .int .i64 k1) (b2 := .string k2) (b3 := .int .i64 k3) (b4 := .slice KA kn kc) (b5 := .slice KK km kk) HN4.out)
   have hO5 : Only w.heap.size w4 w5 := by rw [hw5]; exact put6_only
   have hB4 : Below w.heap.size w w4 := HBA.out.trans (HO4.out.below (by omega) (by omega))
   have HB5 : Hid (Below w.heap.size w w5) := hB4.trans (hO5.below (Nat.le_refl _) (by omega))
   have HR5 : Hid (Rdr w5 R s m4) := ⟨(hO5.block R HR4.out.lt (by simp; omega)).trans HR4.out.box, HR4.out.le, HR4.out.len⟩
   have hs5 := hO5.size
   rw [← hw5] at HN5
   rw [← hw5]
   have HV5 : Hid (NdAt w5 (fun b => R < b) 25 (.agg #[.string k0, .int .i64 k1, .string k2, .int .i64 k3, .slice KA kn kc, .slice KK km kk]) nd) := NdAt.move (fun b hb hl => ⟨by have := HRR.out; omega, fun o => World.cell?_of_block (hO5.block b hl (by have := HRR.out; simp; omega))⟩) 25 _ _ HV4.out
   clear hw5 hO5 hB4 d0 d1 d2 d3 d4 d5 f0 f1 f2 f3 f4 f5 hl r0 r1 rl
   refine (skip_any R s m4 w5 HR5.out).mono ?_
   rintro e w6 ⟨⟨v6, rfl⟩, ho6, hr6⟩
   have HR6 := Lib.hid hr6
   have HN6 := Lib.hid ((ho6.block w.heap.size (by omega) (by simp; omega)).trans HN5.out)
   have HB6 : Hid (Below w.heap.size w w6) := HB5.out.trans (ho6.below (by omega) (by omega))
   have HV6 : Hid (NdAt w6 (fun b => R < b) 25 (.agg #[.string k0, .int .i64 k1, .string k2, .int .i64 k3, .slice KA kn kc, .slice KK km kk]) nd) := NdAt.move (fun b hb hl => ⟨by omega, fun o => World.cell?_of_block (ho6.block b hl (by simp; omega))⟩) 25 _ _ HV5.out
   clear ho6 hr6
   obtain ⟨m6, hm6⟩ : ∃ m6, m6 = skip (bl s) m4 := ⟨_, rfl⟩
   rw [← hm6] at HR6 HE4
   clear hm6
   have d0 := zN HN6.out
   have d1 := zR HN6.out
   have d2 := zQ HN6.out
   have d3 := zP HN6.out
   have d4 := zO HN6.out
   have d5 := zL HN6.out
   have f0 := zB HN6.out 0
   have f1 := zB HN6.out 1
   have f2 := zB HN6.out 2
   have f3 := zB HN6.out 3
   have f4 := zB HN6.out 4
   have f5 := zB HN6.out 5
   have hl := zC HN6.out
   have r0 := zG HR6.out.box
   have r1 := zF HR6.out.box
   have rl := zC HR6.out.box
   by_cases hlt : m6 < s.size
   · have hlt2 : (m6 : Int) < (s.size : Int) := by omega
     have HF : Hid (parseR Knd.zK (bl s) = (m6, none)) := by show _ = _; rw [HE4.out, if_pos hlt]
     go_upto_region 9 with (fail)
     have hz := put6_heap (b0 := .string ⟨#[]⟩) (b1 := .int .i64 0) (b2 := .string ⟨#[]⟩) (b3 := .int .i64 0) (b4 := .slice none 0 0) (b5 := .slice none 0 0) HN6.out
     have z0 := zN hz
     have z1 := zR hz
     have z2 := zQ hz
     have z3 := zP hz
     have z4 := zO hz
     have z5 := zL hz
     clear hz
     go_region
     all_goals
      go_wp2_with (fail)
      refine bodyPost_ret (v := .tuple #[.agg #[.string ⟨#[]⟩, .int .i64 0, .string ⟨#[]⟩, .int .i64 0, .slice none 0 0, .slice none 0 0], .int .i64 ((m6 : Nat) : Int), .int .i64 40]) (by simp [results, Tryz.results31, go_sem, z0, z1, z2, z3, z4, z5]) rfl ?_
      rw [HF.out]
      refine ⟨rfl, ?_⟩
      have hbb := HB6.out
      (repeat' (first | with_reducible assumption | with_reducible refine Below.setCell ?_ ?_ _ | with_reducible refine Below.drew ?_ | (dsimp only; omega)))
   · have hlt2 : ¬ (m6 : Int) < (s.size : Int) := by omega
     have HF : Hid (parseR Knd.zK (bl s) = (m6, some nd)) := by show _ = _; rw [HE4.out, if_neg hlt]
     go_wp2_with (fail)
     refine bodyPost_ret (v := .tuple #[.agg #[.string k0, .int .i64 k1, .string k2, .int .i64 k3, .slice KA kn kc, .slice KK km kk], .int .i64 0, .int .i64 0]) (by simp [results, Tryz.results31, go_sem, d0, d1, d2, d3, d4, d5]) rfl ?_
     rw [HF.out]
     have hbb := HB6.out
     refine ⟨⟨_, rfl, ?_⟩, ?_⟩
     · refine NdAt.move (fun b hb hlb => ⟨by omega, fun o => World.cell?_of_block ?_⟩) 25 _ _ HV6.out
       exact set6_block (by show b ≠ w.heap.size; omega)
     · (repeat' (first | with_reducible assumption | with_reducible refine Below.setCell ?_ ?_ _ | with_reducible refine Below.drew ?_ | (dsimp only; omega)))
