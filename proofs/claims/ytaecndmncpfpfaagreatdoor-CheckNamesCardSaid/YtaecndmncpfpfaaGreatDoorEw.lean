import Derived.Test.YtaecndmncpfpfaaGreatDoorFc
import Derived.Test.YtaecndmncpfpfaaGreatDoorRp
import Derived.KernelRfl
set_option linter.unusedVariables false
set_option linter.unusedSimpArgs false
namespace Go.Proofs.YtaecndmncpfpfaaGreatDoor.L5
open Go.RowKit
def sW : List UInt8 := [108, 105, 115, 116, 40, 49, 44, 97, 100, 100, 40, 120, 44, 50, 41, 41]
def ndW : Nd := .mk [108, 105, 115, 116] 0 [] ty0 [.mk intW 1 [] ty0 [], .mk [97, 100, 100] 0 [] ty0 [.mk nameW 0 [120] ty0 [], .mk intW 2 [] ty0 []]]
theorem parse_W : parseR Knd.zK sW = (16, some ndW) := by kernel_rfl
theorem itoa_1 : Lib.itoa 1 = [49] := by
 unfold Lib.itoa
 rw [if_neg (by decide), Lib.decDigits, dif_pos (by decide)]
 rfl
theorem itoa_2 : Lib.itoa 2 = [50] := by
 unfold Lib.itoa
 rw [if_neg (by decide), Lib.decDigits, dif_pos (by decide)]
 rfl
theorem term_1 (s : StW) (h : s.1.length ≤ 4096) : zJ 23 (.mk intW 1 [] ty0 []) s = some (s.1 ++ [49], s.2 + 1) := by
 unfold zJ
 rw [if_neg (by omega), if_pos (show (Nd.mk intW 1 [] ty0 []).op = intW from rfl), if_pos (by decide)]
 show some (s.1 ++ Lib.itoa 1, _) = _
 rw [itoa_1]
theorem term_2 (s : StW) (h : s.1.length ≤ 4096) : zJ 22 (.mk intW 2 [] ty0 []) s = some (s.1 ++ [50], s.2 + 1) := by
 unfold zJ
 rw [if_neg (by omega), if_pos (show (Nd.mk intW 2 [] ty0 []).op = intW from rfl), if_pos (by decide)]
 show some (s.1 ++ Lib.itoa 2, _) = _
 rw [itoa_2]
theorem res_W : resI (.mk 2 []) [] ndW = .error (51, [1, 0]) := by kernel_rfl
theorem right_W : rightE (.mk 2 []) [] = true := by kernel_rfl
theorem rg_W : RgN 24 ndW := by
 refine ⟨by decide, by decide, by decide, fun k hk => ?_⟩
 rcases List.mem_cons.1 hk with rfl | hk
 · exact ⟨by decide, by decide, by decide, fun k hk => by cases hk⟩
 · rcases List.mem_cons.1 hk with rfl | hk
   · refine ⟨by decide, by decide, by decide, fun k hk => ?_⟩
     rcases List.mem_cons.1 hk with rfl | hk
     · exact ⟨by decide, by decide, by decide, fun k hk => by cases hk⟩
     · rcases List.mem_cons.1 hk with rfl | hk
       · exact ⟨by decide, by decide, by decide, fun k hk => by cases hk⟩
       · cases hk
   · cases hk
theorem wd_list : wdP [108, 105, 115, 116] = some (101 :: 101 :: List.replicate 62 101, 1) := by decide
theorem wd_add : wdP [97, 100, 100] = some ([101, 101], 2) := by decide
theorem show_W : (showW ndW).isSome = true := by
 have e1 : zJ 24 ndW ([], 0) = wordW (zJ 23) ndW ([], 1) := rfl
 have e2 : wordW (zJ 23) ndW ([], 1) = wordP (zJ 23) (101 :: 101 :: List.replicate 62 101) 1 ndW ([], 1) := by
  unfold wordW
  rw [show ndW.op = [108, 105, 115, 116] from rfl, wd_list]
 have hb : hasB (101 :: 101 :: List.replicate 62 101) 101 = true := by decide
 have f1 : zJ 23 (.mk [97, 100, 100] 0 [] ty0 [.mk nameW 0 [120] ty0 [], .mk intW 2 [] ty0 []]) ([108, 105, 115, 116, 40, 49, 44], 2) = some ([108, 105, 115, 116, 40, 49, 44, 97, 100, 100, 40, 120, 44, 50, 41], 5) := by
  have g1 : zJ 23 (.mk [97, 100, 100] 0 [] ty0 [.mk nameW 0 [120] ty0 [], .mk intW 2 [] ty0 []]) ([108, 105, 115, 116, 40, 49, 44], 2) = wordW (zJ 22) (.mk [97, 100, 100] 0 [] ty0 [.mk nameW 0 [120] ty0 [], .mk intW 2 [] ty0 []]) ([108, 105, 115, 116, 40, 49, 44], 3) := rfl
  have g2 : wordW (zJ 22) (.mk [97, 100, 100] 0 [] ty0 [.mk nameW 0 [120] ty0 [], .mk intW 2 [] ty0 []]) ([108, 105, 115, 116, 40, 49, 44], 3) = wordP (zJ 22) [101, 101] 2 (.mk [97, 100, 100] 0 [] ty0 [.mk nameW 0 [120] ty0 [], .mk intW 2 [] ty0 []]) ([108, 105, 115, 116, 40, 49, 44], 3) := by
   unfold wordW
   rw [show (Nd.mk [97, 100, 100] 0 [] ty0 [.mk nameW 0 [120] ty0 [], .mk intW 2 [] ty0 []]).op = [97, 100, 100] from rfl, wd_add]
  have g3 : zJ 22 (.mk nameW 0 [120] ty0 []) ([108, 105, 115, 116, 40, 49, 44, 97, 100, 100, 40], 3) = some ([108, 105, 115, 116, 40, 49, 44, 97, 100, 100, 40, 120], 4) := by decide
  rw [g1, g2]
  unfold wordP
  rw [if_pos (by decide), if_neg (by decide)]
  show ((match zJ 22 (.mk nameW 0 [120] ty0 []) ([108, 105, 115, 116, 40, 49, 44, 97, 100, 100, 40], 3) with | none => none | some s' => yD (zJ 22) [.mk intW 2 [] ty0 []] [101] 44 s').bind _) = _
  rw [g3]
  show ((match zJ 22 (.mk intW 2 [] ty0 []) ([108, 105, 115, 116, 40, 49, 44, 97, 100, 100, 40, 120, 44], 4) with | none => none | some s' => yD (zJ 22) [] [] 44 s').bind _) = _
  rw [term_2 _ (by decide)]
  rfl
 have hK : yD (zJ 23) ndW.kids (101 :: 101 :: List.replicate 62 101) 40 ([108, 105, 115, 116], 1) = some ([108, 105, 115, 116, 40, 49, 44, 97, 100, 100, 40, 120, 44, 50, 41, 41], 5) := by
  show (match zJ 23 (.mk intW 1 [] ty0 []) ([108, 105, 115, 116, 40], 1) with | none => none | some s' => yD (zJ 23) [.mk [97, 100, 100] 0 [] ty0 [.mk nameW 0 [120] ty0 [], .mk intW 2 [] ty0 []]] (101 :: List.replicate 62 101) 44 s') = _
  rw [term_1 _ (by decide)]
  show (match zJ 23 (.mk [97, 100, 100] 0 [] ty0 [.mk nameW 0 [120] ty0 [], .mk intW 2 [] ty0 []]) ([108, 105, 115, 116, 40, 49, 44], 2) with | none => none | some s' => yD (zJ 23) [] (List.replicate 62 101) 44 s') = _
  rw [f1]
  rfl
 have e3 : wordP (zJ 23) (101 :: 101 :: List.replicate 62 101) 1 ndW ([], 1) = some ([108, 105, 115, 116, 40, 49, 44, 97, 100, 100, 40, 120, 44, 50, 41, 41], 5) := by
  unfold wordP
  rw [if_pos hb, if_neg (by decide)]
  show (yD (zJ 23) ndW.kids (101 :: 101 :: List.replicate 62 101) 40 ([108, 105, 115, 116], 1)).bind _ = _
  rw [hK]
  rfl
 unfold showW
 rw [e1, e2, e3]
 rfl
set_option maxRecDepth 100000 in
set_option maxHeartbeats 2000000 in
theorem awake_any (w : World) (hG : Gl w) : Calls Tryz.prog 10 #[] w fun e w' => e = .returned (.bool true) ∧ Below w.heap.size w w' := by
 have hGl := hG.lt2
 go_enter Tryz.func10, Tryz.ntmps10
 go_wp2_with (fail)
 refine (exprParse_any ⟨sW.toArray⟩ w (by decide) hG.kd).mono ?_
 rw [show bl (ByteArray.mk sW.toArray) = sW from rfl, parse_W]
 rintro e w1 ⟨⟨v, rfl, hT⟩, hb1⟩
 obtain ⟨A, c, K, k, rfl⟩ := hT.form
 have HT : Hid (NdL w1 _ ndW) := Lib.hid ⟨25, NdAt.move (fun b _ hl => ⟨hl, fun _ => rfl⟩) 25 _ _ hT⟩
 have HB1 := Lib.hid hb1
 have hs1 := hb1.size
 clear hT hb1
 generalize hX : (.cells #[.string ⟨ndW.op.toArray⟩, .int .i64 ndW.int, .string ⟨ndW.text.toArray⟩, .int .i64 ndW.ty.kind, .slice A ndW.ty.args.length c, .slice K ndW.kids.length k] 41 : Obj) = X
 have HE : Hid (EvL (w1.alloc X) (.agg #[.int .i64 2, .slice none 0 0, .slice none 0 0]) (.mk 2 []) []) := Lib.hid ⟨none, 0, none, 0, 1, rfl, ⟨none, 0, rfl, Nat.le_refl _, fun h => absurd h (Nat.lt_irrefl _)⟩, fun h => absurd h (Nat.lt_irrefl _)⟩
 have HI := Lib.hid (infer_law (w := w1.alloc X) (HT.out.below ((Below.refl _ w1).alloc (Nat.le_refl _) X)) HE.out rg_W (hG.below (HB1.out.alloc hs1 X) hGl))
 rw [show infR (showW ndW).isSome (.mk 2 []) [] (resI (.mk 2 []) [] ndW) = .error (51, [1, 0]) by rw [show_W, res_W]; unfold infR; rw [if_pos rfl, if_pos right_W]] at HI
 subst hX
 go_wp2_with (go_at_call 11; refine HI.out.mono ?_; rintro e w2 ⟨⟨tv, av, no, rfl, rfl, _, rfl, hil⟩, hb2⟩; obtain ⟨aa, ac, rfl, hac, hcl⟩ := hil; obtain ⟨ab, ao, rfl, _, hal, hcell⟩ := hcl (by decide); have c0 : w2.cell? ⟨ab, ao, none⟩ = some (.int .i64 1) := hcell 0 1 rfl; have c1 : w2.cell? ⟨ab, ao + 1, none⟩ = some (.int .i64 0) := hcell 1 0 rfl; have HB2 : Hid (Below w.heap.size w w2) := Lib.hid ((HB1.out.alloc hs1 _).trans (hb2.mono (by simp; omega))); clear hcell hcl hb2)
 go_ret
 exact ⟨rfl, HB2.out.alloc HB2.out.size _⟩
