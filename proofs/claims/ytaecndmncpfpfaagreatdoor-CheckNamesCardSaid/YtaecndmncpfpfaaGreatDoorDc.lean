import Derived.Test.YtaecndmncpfpfaaGreatDoorDb
set_option linter.unusedVariables false
set_option linter.unusedSimpArgs false
namespace Go.Proofs.YtaecndmncpfpfaaGreatDoor
open Go.RowKit
set_option maxRecDepth 100000 in
set_option maxHeartbeats 4000000 in
theorem formOfAny_any (S : Nat → Prop) (n : Nd) (dn : Nat) (nv : Value) (w : World) (hn : NdAt w S (dn + 1) nv n) (hk64 : n.kids.length ≤ 64) :
    Calls Tryz.prog 100 #[nv] w fun e w' => FaOut w w' S e (yM n.op n.ty n.kids.length) ∧ Below w.heap.size w w' := by
 by_cases ho8 : n.op = [108, 105, 115, 116]
 · have e : yM n.op n.ty n.kids.length = List.replicate n.kids.length mA ++ [tL] := by rw [ho8]; rfl
   rw [e]
   exact formOfAny_list S n dn nv w hn ho8 hk64
 have HN8 := Lib.hid ho8
 clear ho8
 obtain ⟨A, c, K, k, rfl, hty, hlk, hkc⟩ := hn
 have HTY := Lib.hid hty
 clear hty
 obtain ⟨W0, hW0⟩ : ∃ W0, (((((((((w.alloc (.cells #[.string ⟨n.op.toArray⟩, .int .i64 n.int, .string ⟨n.text.toArray⟩, .int .i64 n.ty.kind, .slice A n.ty.args.length c, .slice K n.kids.length k] 41)).alloc (.cells #[.int .i64 1, .slice none 0 0] 34)).alloc (.cells #[.int .i64 2, .slice none 0 0] 34)).alloc (.cells #[.int .i64 1, .slice none 0 0] 34)).alloc (.cells #[.int .i64 2, .slice none 0 0] 34)).alloc (.cells #[.int .i64 (-1), .slice none 0 0] 34)).alloc (.cells #[.int .i64 (-2), .slice none 0 0] 34)).alloc (.cells #[.int .i64 (-1), .slice none 0 0] 34)).alloc (.cells #[.int .i64 (-2), .slice none 0 0] 34)) = W0 := ⟨_, rfl⟩
 have hB0 : Below w.heap.size w W0 := by
  rw [← hW0]
  repeat' (first | exact Below.refl _ _ | refine Below.alloc ?_ ?_ _ | (simp; done) | (simp; omega))
 have hs0 : W0.heap.size = w.heap.size + 9 := by rw [← hW0]; simp
 have b0 : W0.heap[w.heap.size]? = some (.cells #[.string ⟨n.op.toArray⟩, .int .i64 n.int, .string ⟨n.text.toArray⟩, .int .i64 n.ty.kind, .slice A n.ty.args.length c, .slice K n.kids.length k] 41 (0, 0)) := by
  rw [← hW0]
  exact zE (zE (zE (zE (zE (zE (zE (zE (heap_alloc_new w _))))))))
 have b3 : W0.heap[w.heap.size + 1 + 1 + 1]? = some (.cells #[.int .i64 1, .slice none 0 0] 34 (0, 0)) := by
  rw [← hW0]
  exact (zE (zE (zE (zE (zE (show ((((w.alloc (.cells #[.string ⟨n.op.toArray⟩, .int .i64 n.int, .string ⟨n.text.toArray⟩, .int .i64 n.ty.kind, .slice A n.ty.args.length c, .slice K n.kids.length k] 41)).alloc (.cells #[.int .i64 1, .slice none 0 0] 34)).alloc (.cells #[.int .i64 2, .slice none 0 0] 34)).alloc (.cells #[.int .i64 1, .slice none 0 0] 34)).heap[w.heap.size + 1 + 1 + 1]? = some (.cells #[.int .i64 1, .slice none 0 0] 34 (0, 0)) from by simpa using heap_alloc_new (((w.alloc (.cells #[.string ⟨n.op.toArray⟩, .int .i64 n.int, .string ⟨n.text.toArray⟩, .int .i64 n.ty.kind, .slice A n.ty.args.length c, .slice K n.kids.length k] 41)).alloc (.cells #[.int .i64 1, .slice none 0 0] 34)).alloc (.cells #[.int .i64 2, .slice none 0 0] 34)) (.cells #[.int .i64 1, .slice none 0 0] 34)))))))
 have b4 : W0.heap[w.heap.size + 1 + 1 + 1 + 1]? = some (.cells #[.int .i64 2, .slice none 0 0] 34 (0, 0)) := by
  rw [← hW0]
  exact (zE (zE (zE (zE (show (((((w.alloc (.cells #[.string ⟨n.op.toArray⟩, .int .i64 n.int, .string ⟨n.text.toArray⟩, .int .i64 n.ty.kind, .slice A n.ty.args.length c, .slice K n.kids.length k] 41)).alloc (.cells #[.int .i64 1, .slice none 0 0] 34)).alloc (.cells #[.int .i64 2, .slice none 0 0] 34)).alloc (.cells #[.int .i64 1, .slice none 0 0] 34)).alloc (.cells #[.int .i64 2, .slice none 0 0] 34)).heap[w.heap.size + 1 + 1 + 1 + 1]? = some (.cells #[.int .i64 2, .slice none 0 0] 34 (0, 0)) from by simpa using heap_alloc_new ((((w.alloc (.cells #[.string ⟨n.op.toArray⟩, .int .i64 n.int, .string ⟨n.text.toArray⟩, .int .i64 n.ty.kind, .slice A n.ty.args.length c, .slice K n.kids.length k] 41)).alloc (.cells #[.int .i64 1, .slice none 0 0] 34)).alloc (.cells #[.int .i64 2, .slice none 0 0] 34)).alloc (.cells #[.int .i64 1, .slice none 0 0] 34)) (.cells #[.int .i64 2, .slice none 0 0] 34))))))
 have b7 : W0.heap[w.heap.size + 1 + 1 + 1 + 1 + 1 + 1 + 1]? = some (.cells #[.int .i64 (-1), .slice none 0 0] 34 (0, 0)) := by
  rw [← hW0]
  exact (zE (show ((((((((w.alloc (.cells #[.string ⟨n.op.toArray⟩, .int .i64 n.int, .string ⟨n.text.toArray⟩, .int .i64 n.ty.kind, .slice A n.ty.args.length c, .slice K n.kids.length k] 41)).alloc (.cells #[.int .i64 1, .slice none 0 0] 34)).alloc (.cells #[.int .i64 2, .slice none 0 0] 34)).alloc (.cells #[.int .i64 1, .slice none 0 0] 34)).alloc (.cells #[.int .i64 2, .slice none 0 0] 34)).alloc (.cells #[.int .i64 (-1), .slice none 0 0] 34)).alloc (.cells #[.int .i64 (-2), .slice none 0 0] 34)).alloc (.cells #[.int .i64 (-1), .slice none 0 0] 34)).heap[w.heap.size + 1 + 1 + 1 + 1 + 1 + 1 + 1]? = some (.cells #[.int .i64 (-1), .slice none 0 0] 34 (0, 0)) from by simpa using heap_alloc_new (((((((w.alloc (.cells #[.string ⟨n.op.toArray⟩, .int .i64 n.int, .string ⟨n.text.toArray⟩, .int .i64 n.ty.kind, .slice A n.ty.args.length c, .slice K n.kids.length k] 41)).alloc (.cells #[.int .i64 1, .slice none 0 0] 34)).alloc (.cells #[.int .i64 2, .slice none 0 0] 34)).alloc (.cells #[.int .i64 1, .slice none 0 0] 34)).alloc (.cells #[.int .i64 2, .slice none 0 0] 34)).alloc (.cells #[.int .i64 (-1), .slice none 0 0] 34)).alloc (.cells #[.int .i64 (-2), .slice none 0 0] 34)) (.cells #[.int .i64 (-1), .slice none 0 0] 34)))
 have b8 : W0.heap[w.heap.size + 1 + 1 + 1 + 1 + 1 + 1 + 1 + 1]? = some (.cells #[.int .i64 (-2), .slice none 0 0] 34 (0, 0)) := by
  rw [← hW0]
  exact (show (((((((((w.alloc (.cells #[.string ⟨n.op.toArray⟩, .int .i64 n.int, .string ⟨n.text.toArray⟩, .int .i64 n.ty.kind, .slice A n.ty.args.length c, .slice K n.kids.length k] 41)).alloc (.cells #[.int .i64 1, .slice none 0 0] 34)).alloc (.cells #[.int .i64 2, .slice none 0 0] 34)).alloc (.cells #[.int .i64 1, .slice none 0 0] 34)).alloc (.cells #[.int .i64 2, .slice none 0 0] 34)).alloc (.cells #[.int .i64 (-1), .slice none 0 0] 34)).alloc (.cells #[.int .i64 (-2), .slice none 0 0] 34)).alloc (.cells #[.int .i64 (-1), .slice none 0 0] 34)).alloc (.cells #[.int .i64 (-2), .slice none 0 0] 34)).heap[w.heap.size + 1 + 1 + 1 + 1 + 1 + 1 + 1 + 1]? = some (.cells #[.int .i64 (-2), .slice none 0 0] 34 (0, 0)) from by simpa using heap_alloc_new ((((((((w.alloc (.cells #[.string ⟨n.op.toArray⟩, .int .i64 n.int, .string ⟨n.text.toArray⟩, .int .i64 n.ty.kind, .slice A n.ty.args.length c, .slice K n.kids.length k] 41)).alloc (.cells #[.int .i64 1, .slice none 0 0] 34)).alloc (.cells #[.int .i64 2, .slice none 0 0] 34)).alloc (.cells #[.int .i64 1, .slice none 0 0] 34)).alloc (.cells #[.int .i64 2, .slice none 0 0] 34)).alloc (.cells #[.int .i64 (-1), .slice none 0 0] 34)).alloc (.cells #[.int .i64 (-2), .slice none 0 0] 34)).alloc (.cells #[.int .i64 (-1), .slice none 0 0] 34)) (.cells #[.int .i64 (-2), .slice none 0 0] 34))
 have HW0 := Lib.hid hW0
 clear hW0
 go_enter Tryz.func100, Tryz.ntmps100
 go_upto_region 3 with (go_at_call 96; refine (ofX _ _ _ _ _).mono ?_; rintro e wa ⟨rfl, rfl⟩)
 rw [HW0.out]
 clear HW0
 go_cut [7, 8, 9] from 14 to 23 (fun s7 s8 s9 wx => HeadR W0 wx s7 s8 s9)
 case first =>
  refine headR_wp _ _ _ _ _ _ 3 W0 _ b7 b8 ?_
  intro u7 u8 u9 u14 u15 u16 u17 u18 u19 u20 u21 u22 u23 wx hh
  unfold FrR
  dsimp only
  go_wp2_with (fail)
  go_meet
  exact hh
 obtain ⟨hbx, ⟨u7, ⟨q7, rfl, hq7, hx7, _⟩, ⟨B7, rfl, hl7, hB7, _⟩⟩, ⟨u8, ⟨q8, rfl, hq8, hx8, _⟩, ⟨B8, rfl, hl8, hB8, _⟩⟩, ⟨u9, ⟨q9, rfl, hq9, hx9, _⟩, ⟨B9, rfl, hl9, hB9, _⟩⟩⟩ := hcut
 have hsc := hbx.size
 have HBC := Lib.hid (hB0.trans (hbx.mono (by omega)))
 have n0 : wc.cell? ⟨w.heap.size, 0, none⟩ = some (.string ⟨n.op.toArray⟩) := zD (i := 0) ((hbx.block w.heap.size (by omega)).trans b0) rfl
 have n3 : wc.cell? ⟨w.heap.size, 3, none⟩ = some (.int .i64 n.ty.kind) := zD (i := 3) ((hbx.block w.heap.size (by omega)).trans b0) rfl
 have n4 : wc.cell? ⟨w.heap.size, 4, none⟩ = some (.slice A n.ty.args.length c) := zD (i := 4) ((hbx.block w.heap.size (by omega)).trans b0) rfl
 have cT0 : wc.cell? ⟨w.heap.size + 1 + 1 + 1, 0, none⟩ = some (.int .i64 1) := zD (i := 0) ((hbx.block _ (by omega)).trans b3) rfl
 have cT1 : wc.cell? ⟨w.heap.size + 1 + 1 + 1, 1, none⟩ = some (.slice none 0 0) := zD (i := 1) ((hbx.block _ (by omega)).trans b3) rfl
 have cN0 : wc.cell? ⟨w.heap.size + 1 + 1 + 1 + 1, 0, none⟩ = some (.int .i64 2) := zD (i := 0) ((hbx.block _ (by omega)).trans b4) rfl
 have cN1 : wc.cell? ⟨w.heap.size + 1 + 1 + 1 + 1, 1, none⟩ = some (.slice none 0 0) := zD (i := 1) ((hbx.block _ (by omega)).trans b4) rfl
 have cA0 : wc.cell? ⟨w.heap.size + 1 + 1 + 1 + 1 + 1 + 1 + 1, 0, none⟩ = some (.int .i64 (-1)) := zD (i := 0) ((hbx.block _ (by omega)).trans b7) rfl
 have cA1 : wc.cell? ⟨w.heap.size + 1 + 1 + 1 + 1 + 1 + 1 + 1, 1, none⟩ = some (.slice none 0 0) := zD (i := 1) ((hbx.block _ (by omega)).trans b7) rfl
 have cB0 : wc.cell? ⟨w.heap.size + 1 + 1 + 1 + 1 + 1 + 1 + 1 + 1, 0, none⟩ = some (.int .i64 (-2)) := zD (i := 0) ((hbx.block _ (by omega)).trans b8) rfl
 have cB1 : wc.cell? ⟨w.heap.size + 1 + 1 + 1 + 1 + 1 + 1 + 1 + 1, 1, none⟩ = some (.slice none 0 0) := zD (i := 1) ((hbx.block _ (by omega)).trans b8) rfl
 have cP0 : wc.cell? ⟨q7, 0, none⟩ = some (.int .i64 6) := zD (i := 0) hx7 rfl
 have cP1 : wc.cell? ⟨q7, 1, none⟩ = some (.slice (some ⟨B7, 0, none⟩) 2 2) := zD (i := 1) hx7 rfl
 have cL0 : wc.cell? ⟨q8, 0, none⟩ = some (.int .i64 7) := zD (i := 0) hx8 rfl
 have cL1 : wc.cell? ⟨q8, 1, none⟩ = some (.slice (some ⟨B8, 0, none⟩) 1 1) := zD (i := 1) hx8 rfl
 have cO0 : wc.cell? ⟨q9, 0, none⟩ = some (.int .i64 9) := zD (i := 0) hx9 rfl
 have cO1 : wc.cell? ⟨q9, 1, none⟩ = some (.slice (some ⟨B9, 0, none⟩) 1 1) := zD (i := 1) hx9 rfl
 have HBB := Lib.hid (And.intro hB7 (And.intro hB8 hB9))
 have hlB := And.intro (zC hB7) (And.intro (zC hB8) (zC hB9))
 clear hbx hx7 hx8 hx9 hB7 hB8 hB9 b0 b3 b4 b7 b8 hB0
 unfold ptrB
 by_cases o0 : n.op = [110, 105, 108]
 · have e0 : (n.op == [110, 105, 108]) = true := by simp [o0]
   have HFE : Hid (yM n.op n.ty n.kids.length = [.mk 7 [n.ty]]) := Lib.hid (by rw [yM, if_pos o0])
   clear o0
   obtain ⟨dt, hty⟩ := HTY.out
   have HTC := Lib.hid (hty.below HBC.out)
   clear hty
   go_wp2_with (go_at_call 96; refine (ofX _ _ _ _ _).mono ?_; rintro e wa ⟨rfl, rfl⟩)
   refine bodyPost_ret (v := .slice (some ⟨wc.heap.size + 1 + 1, 0, none⟩) 1 1) (by simp [results, Tryz.results100, go_sem]) rfl ?_
   have hS1 := heap_alloc_new wc (.cells #[.int .i64 n.ty.kind, .slice A n.ty.args.length c] 34)
   have hS3 : (((wc.alloc (.cells #[.int .i64 n.ty.kind, .slice A n.ty.args.length c] 34)).alloc (.cells #[.int .i64 7, .slice (some ⟨wc.heap.size, 0, none⟩) 1 1] 34)).alloc (.cells #[.int .i64 7, .slice (some ⟨wc.heap.size, 0, none⟩) 1 1] 34)).heap[wc.heap.size + 1 + 1]? = some (.cells #[.int .i64 7, .slice (some ⟨wc.heap.size, 0, none⟩) 1 1] 34 (0, 0)) := by
    simpa using heap_alloc_new ((wc.alloc (.cells #[.int .i64 n.ty.kind, .slice A n.ty.args.length c] 34)).alloc (.cells #[.int .i64 7, .slice (some ⟨wc.heap.size, 0, none⟩) 1 1] 34)) (.cells #[.int .i64 7, .slice (some ⟨wc.heap.size, 0, none⟩) 1 1] 34)
   have hB3 := (((Below.refl wc.heap.size wc).alloc (Nat.le_refl _) (.cells #[.int .i64 n.ty.kind, .slice A n.ty.args.length c] 34)).alloc (by simp) (.cells #[.int .i64 7, .slice (some ⟨wc.heap.size, 0, none⟩) 1 1] 34)).alloc (by simp; omega) (.cells #[.int .i64 7, .slice (some ⟨wc.heap.size, 0, none⟩) 1 1] 34)
   rw [HFE.out]
   refine ⟨⟨some ⟨wc.heap.size + 1 + 1, 0, none⟩, 1, dt + 1, rfl, Nat.le_refl _, fun _ => ⟨wc.heap.size + 1 + 1, 0, rfl, .inr ⟨by omega, by simp⟩, fun j x hx => ?_⟩⟩, HBC.out.trans (hB3.mono (by omega))⟩
   match j, hx with
   | 0, hx =>
     obtain rfl : Ty.mk 7 [n.ty] = x := Option.some.inj hx
     refine ⟨_, _, zD (i := 0) hS3 rfl, zD (i := 1) hS3 rfl, some ⟨wc.heap.size, 0, none⟩, 1, rfl, Nat.le_refl _, fun _ => ⟨wc.heap.size, 0, rfl, .inr ⟨by omega, by simp; omega⟩, fun j x hx => ?_⟩⟩
     match j, hx with
     | 0, hx =>
       obtain rfl : n.ty = x := Option.some.inj hx
       exact ⟨_, _, zD (i := 0) (zE (zE hS1)) rfl, zD (i := 1) (zE (zE hS1)) rfl, (HTC.out.below hB3).move fun b hb _ => ⟨.inl hb, fun _ => rfl⟩⟩
     | j + 1, hx => exact absurd hx (by simp [Ty.args])
   | j + 1, hx => exact absurd hx (by simp)
 have f0 : (n.op == [110, 105, 108]) = false := by simp [o0]
 by_cases o1 : n.op = [110, 111, 110, 101]
 · have e1 : (n.op == [110, 111, 110, 101]) = true := by simp [o1]
   have HFE : Hid (yM n.op n.ty n.kids.length = [.mk 9 [n.ty]]) := Lib.hid (by rw [yM, if_neg o0, if_pos o1])
   clear o0 o1
   obtain ⟨dt, hty⟩ := HTY.out
   have HTC := Lib.hid (hty.below HBC.out)
   clear hty
   go_wp2_with (go_at_call 96; refine (ofX _ _ _ _ _).mono ?_; rintro e wa ⟨rfl, rfl⟩)
   refine bodyPost_ret (v := .slice (some ⟨wc.heap.size + 1 + 1, 0, none⟩) 1 1) (by simp [results, Tryz.results100, go_sem]) rfl ?_
   have hS1 := heap_alloc_new wc (.cells #[.int .i64 n.ty.kind, .slice A n.ty.args.length c] 34)
   have hS3 : (((wc.alloc (.cells #[.int .i64 n.ty.kind, .slice A n.ty.args.length c] 34)).alloc (.cells #[.int .i64 9, .slice (some ⟨wc.heap.size, 0, none⟩) 1 1] 34)).alloc (.cells #[.int .i64 9, .slice (some ⟨wc.heap.size, 0, none⟩) 1 1] 34)).heap[wc.heap.size + 1 + 1]? = some (.cells #[.int .i64 9, .slice (some ⟨wc.heap.size, 0, none⟩) 1 1] 34 (0, 0)) := by
    simpa using heap_alloc_new ((wc.alloc (.cells #[.int .i64 n.ty.kind, .slice A n.ty.args.length c] 34)).alloc (.cells #[.int .i64 9, .slice (some ⟨wc.heap.size, 0, none⟩) 1 1] 34)) (.cells #[.int .i64 9, .slice (some ⟨wc.heap.size, 0, none⟩) 1 1] 34)
   have hB3 := (((Below.refl wc.heap.size wc).alloc (Nat.le_refl _) (.cells #[.int .i64 n.ty.kind, .slice A n.ty.args.length c] 34)).alloc (by simp) (.cells #[.int .i64 9, .slice (some ⟨wc.heap.size, 0, none⟩) 1 1] 34)).alloc (by simp; omega) (.cells #[.int .i64 9, .slice (some ⟨wc.heap.size, 0, none⟩) 1 1] 34)
   rw [HFE.out]
   refine ⟨⟨some ⟨wc.heap.size + 1 + 1, 0, none⟩, 1, dt + 1, rfl, Nat.le_refl _, fun _ => ⟨wc.heap.size + 1 + 1, 0, rfl, .inr ⟨by omega, by simp⟩, fun j x hx => ?_⟩⟩, HBC.out.trans (hB3.mono (by omega))⟩
   match j, hx with
   | 0, hx =>
     obtain rfl : Ty.mk 9 [n.ty] = x := Option.some.inj hx
     refine ⟨_, _, zD (i := 0) hS3 rfl, zD (i := 1) hS3 rfl, some ⟨wc.heap.size, 0, none⟩, 1, rfl, Nat.le_refl _, fun _ => ⟨wc.heap.size, 0, rfl, .inr ⟨by omega, by simp; omega⟩, fun j x hx => ?_⟩⟩
     match j, hx with
     | 0, hx =>
       obtain rfl : n.ty = x := Option.some.inj hx
       exact ⟨_, _, zD (i := 0) (zE (zE hS1)) rfl, zD (i := 1) (zE (zE hS1)) rfl, (HTC.out.below hB3).move fun b hb _ => ⟨.inl hb, fun _ => rfl⟩⟩
     | j + 1, hx => exact absurd hx (by simp [Ty.args])
   | j + 1, hx => exact absurd hx (by simp)
 have f1 : (n.op == [110, 111, 110, 101]) = false := by simp [o1]
 by_cases o2 : n.op = [101, 113]
 · have e2 : (n.op == [101, 113]) = true := by simp [o2]
   have HFE : Hid (yM n.op n.ty n.kids.length = [mA, mA, tT]) := Lib.hid (by rw [yM, if_neg o0, if_neg o1, if_pos o2])
   clear o0 o1 o2
   go_wp2_with (fail)
   refine bodyPost_ret (v := .slice (some ⟨wc.heap.size, 0, none⟩) 3 3) (by simp [results, Tryz.results100, go_sem]) rfl ?_
   have hSB := heap_alloc_new wc (.cells #[.int .i64 (-1), .slice none 0 0, .int .i64 (-1), .slice none 0 0, .int .i64 1, .slice none 0 0] 34)
   rw [HFE.out]
   refine ⟨⟨some ⟨wc.heap.size, 0, none⟩, 3, 2, rfl, Nat.le_refl _, fun _ => ⟨wc.heap.size, 0, rfl, .inr ⟨by omega, by simp⟩, fun j x hx => ?_⟩⟩, HBC.out.alloc (by omega) _⟩
   match j, hx with
   | 0, hx =>
     obtain rfl : mA = x := Option.some.inj hx
     exact ⟨_, _, zD (i := 0) hSB rfl, zD (i := 1) hSB rfl, zY _ _ 1 _⟩
   | 1, hx =>
     obtain rfl : mA = x := Option.some.inj hx
     exact ⟨_, _, zD (i := 2) hSB rfl, zD (i := 3) hSB rfl, zY _ _ 1 _⟩
   | 2, hx =>
     obtain rfl : tT = x := Option.some.inj hx
     exact ⟨_, _, zD (i := 4) hSB rfl, zD (i := 5) hSB rfl, zY _ _ 1 _⟩
   | j + 3, hx => exact absurd hx (by simp)
 have f2 : (n.op == [101, 113]) = false := by simp [o2]
 by_cases o3 : n.op = [108, 116]
 · have e3 : (n.op == [108, 116]) = true := by simp [o3]
   have HFE : Hid (yM n.op n.ty n.kids.length = [mA, mA, tT]) := Lib.hid (by rw [yM, if_neg o0, if_neg o1, if_neg o2, if_pos o3])
   clear o0 o1 o2 o3
   go_wp2_with (fail)
   refine bodyPost_ret (v := .slice (some ⟨wc.heap.size, 0, none⟩) 3 3) (by simp [results, Tryz.results100, go_sem]) rfl ?_
   have hSB := heap_alloc_new wc (.cells #[.int .i64 (-1), .slice none 0 0, .int .i64 (-1), .slice none 0 0, .int .i64 1, .slice none 0 0] 34)
   rw [HFE.out]
   refine ⟨⟨some ⟨wc.heap.size, 0, none⟩, 3, 2, rfl, Nat.le_refl _, fun _ => ⟨wc.heap.size, 0, rfl, .inr ⟨by omega, by simp⟩, fun j x hx => ?_⟩⟩, HBC.out.alloc (by omega) _⟩
   match j, hx with
   | 0, hx =>
     obtain rfl : mA = x := Option.some.inj hx
     exact ⟨_, _, zD (i := 0) hSB rfl, zD (i := 1) hSB rfl, zY _ _ 1 _⟩
   | 1, hx =>
     obtain rfl : mA = x := Option.some.inj hx
     exact ⟨_, _, zD (i := 2) hSB rfl, zD (i := 3) hSB rfl, zY _ _ 1 _⟩
   | 2, hx =>
     obtain rfl : tT = x := Option.some.inj hx
     exact ⟨_, _, zD (i := 4) hSB rfl, zD (i := 5) hSB rfl, zY _ _ 1 _⟩
   | j + 3, hx => exact absurd hx (by simp)
 have f3 : (n.op == [108, 116]) = false := by simp [o3]
 by_cases o4 : n.op = [105, 102]
 · have e4 : (n.op == [105, 102]) = true := by simp [o4]
   have HFE : Hid (yM n.op n.ty n.kids.length = [tT, mA, mA, mA]) := Lib.hid (by rw [yM, if_neg o0, if_neg o1, if_neg o2, if_neg o3, if_pos o4])
   clear o0 o1 o2 o3 o4
   go_wp2_with (fail)
   refine bodyPost_ret (v := .slice (some ⟨wc.heap.size, 0, none⟩) 4 4) (by simp [results, Tryz.results100, go_sem]) rfl ?_
   have hSB := heap_alloc_new wc (.cells #[.int .i64 1, .slice none 0 0, .int .i64 (-1), .slice none 0 0, .int .i64 (-1), .slice none 0 0, .int .i64 (-1), .slice none 0 0] 34)
   rw [HFE.out]
   refine ⟨⟨some ⟨wc.heap.size, 0, none⟩, 4, 2, rfl, Nat.le_refl _, fun _ => ⟨wc.heap.size, 0, rfl, .inr ⟨by omega, by simp⟩, fun j x hx => ?_⟩⟩, HBC.out.alloc (by omega) _⟩
   match j, hx with
   | 0, hx =>
     obtain rfl : tT = x := Option.some.inj hx
     exact ⟨_, _, zD (i := 0) hSB rfl, zD (i := 1) hSB rfl, zY _ _ 1 _⟩
   | 1, hx =>
     obtain rfl : mA = x := Option.some.inj hx
     exact ⟨_, _, zD (i := 2) hSB rfl, zD (i := 3) hSB rfl, zY _ _ 1 _⟩
   | 2, hx =>
     obtain rfl : mA = x := Option.some.inj hx
     exact ⟨_, _, zD (i := 4) hSB rfl, zD (i := 5) hSB rfl, zY _ _ 1 _⟩
   | 3, hx =>
     obtain rfl : mA = x := Option.some.inj hx
     exact ⟨_, _, zD (i := 6) hSB rfl, zD (i := 7) hSB rfl, zY _ _ 1 _⟩
   | j + 4, hx => exact absurd hx (by simp)
 have f4 : (n.op == [105, 102]) = false := by simp [o4]
 by_cases o5 : n.op = [112, 97, 105, 114]
 · have e5 : (n.op == [112, 97, 105, 114]) = true := by simp [o5]
   have HFE : Hid (yM n.op n.ty n.kids.length = [mA, mB, tP]) := Lib.hid (by rw [yM, if_neg o0, if_neg o1, if_neg o2, if_neg o3, if_neg o4, if_pos o5])
   clear o0 o1 o2 o3 o4 o5
   go_wp2_with (fail)
   refine bodyPost_ret (v := .slice (some ⟨wc.heap.size, 0, none⟩) 3 3) (by simp [results, Tryz.results100, go_sem]) rfl ?_
   have hSB := heap_alloc_new wc (.cells #[.int .i64 (-1), .slice none 0 0, .int .i64 (-2), .slice none 0 0, .int .i64 6, .slice (some ⟨B7, 0, none⟩) 2 2] 34)
   rw [HFE.out]
   refine ⟨⟨some ⟨wc.heap.size, 0, none⟩, 3, 2, rfl, Nat.le_refl _, fun _ => ⟨wc.heap.size, 0, rfl, .inr ⟨by omega, by simp⟩, fun j x hx => ?_⟩⟩, HBC.out.alloc (by omega) _⟩
   match j, hx with
   | 0, hx =>
     obtain rfl : mA = x := Option.some.inj hx
     exact ⟨_, _, zD (i := 0) hSB rfl, zD (i := 1) hSB rfl, zY _ _ 1 _⟩
   | 1, hx =>
     obtain rfl : mB = x := Option.some.inj hx
     exact ⟨_, _, zD (i := 2) hSB rfl, zD (i := 3) hSB rfl, zY _ _ 1 _⟩
   | 2, hx =>
     obtain rfl : tP = x := Option.some.inj hx
     exact ⟨_, _, zD (i := 4) hSB rfl, zD (i := 5) hSB rfl, ty_arg2 (d := 0) (zE HBB.out.1) (.inr ⟨by omega, by simp; omega⟩)⟩
   | j + 3, hx => exact absurd hx (by simp)
 have f5 : (n.op == [112, 97, 105, 114]) = false := by simp [o5]
 by_cases o6 : n.op = [102, 105, 114, 115, 116]
 · have e6 : (n.op == [102, 105, 114, 115, 116]) = true := by simp [o6]
   have HFE : Hid (yM n.op n.ty n.kids.length = [tP, mA]) := Lib.hid (by rw [yM, if_neg o0, if_neg o1, if_neg o2, if_neg o3, if_neg o4, if_neg o5, if_pos o6])
   clear o0 o1 o2 o3 o4 o5 o6
   go_wp2_with (fail)
   refine bodyPost_ret (v := .slice (some ⟨wc.heap.size, 0, none⟩) 2 2) (by simp [results, Tryz.results100, go_sem]) rfl ?_
   have hSB := heap_alloc_new wc (.cells #[.int .i64 6, .slice (some ⟨B7, 0, none⟩) 2 2, .int .i64 (-1), .slice none 0 0] 34)
   rw [HFE.out]
   refine ⟨⟨some ⟨wc.heap.size, 0, none⟩, 2, 2, rfl, Nat.le_refl _, fun _ => ⟨wc.heap.size, 0, rfl, .inr ⟨by omega, by simp⟩, fun j x hx => ?_⟩⟩, HBC.out.alloc (by omega) _⟩
   match j, hx with
   | 0, hx =>
     obtain rfl : tP = x := Option.some.inj hx
     exact ⟨_, _, zD (i := 0) hSB rfl, zD (i := 1) hSB rfl, ty_arg2 (d := 0) (zE HBB.out.1) (.inr ⟨by omega, by simp; omega⟩)⟩
   | 1, hx =>
     obtain rfl : mA = x := Option.some.inj hx
     exact ⟨_, _, zD (i := 2) hSB rfl, zD (i := 3) hSB rfl, zY _ _ 1 _⟩
   | j + 2, hx => exact absurd hx (by simp)
 have f6 : (n.op == [102, 105, 114, 115, 116]) = false := by simp [o6]
 by_cases o7 : n.op = [115, 101, 99, 111, 110, 100]
 · have e7 : (n.op == [115, 101, 99, 111, 110, 100]) = true := by simp [o7]
   have HFE : Hid (yM n.op n.ty n.kids.length = [tP, mB]) := Lib.hid (by rw [yM, if_neg o0, if_neg o1, if_neg o2, if_neg o3, if_neg o4, if_neg o5, if_neg o6, if_pos o7])
   clear o0 o1 o2 o3 o4 o5 o6 o7
   go_wp2_with (fail)
   refine bodyPost_ret (v := .slice (some ⟨wc.heap.size, 0, none⟩) 2 2) (by simp [results, Tryz.results100, go_sem]) rfl ?_
   have hSB := heap_alloc_new wc (.cells #[.int .i64 6, .slice (some ⟨B7, 0, none⟩) 2 2, .int .i64 (-2), .slice none 0 0] 34)
   rw [HFE.out]
   refine ⟨⟨some ⟨wc.heap.size, 0, none⟩, 2, 2, rfl, Nat.le_refl _, fun _ => ⟨wc.heap.size, 0, rfl, .inr ⟨by omega, by simp⟩, fun j x hx => ?_⟩⟩, HBC.out.alloc (by omega) _⟩
   match j, hx with
   | 0, hx =>
     obtain rfl : tP = x := Option.some.inj hx
     exact ⟨_, _, zD (i := 0) hSB rfl, zD (i := 1) hSB rfl, ty_arg2 (d := 0) (zE HBB.out.1) (.inr ⟨by omega, by simp; omega⟩)⟩
   | 1, hx =>
     obtain rfl : mB = x := Option.some.inj hx
     exact ⟨_, _, zD (i := 2) hSB rfl, zD (i := 3) hSB rfl, zY _ _ 1 _⟩
   | j + 2, hx => exact absurd hx (by simp)
 have f7 : (n.op == [115, 101, 99, 111, 110, 100]) = false := by simp [o7]
 by_cases o8 : n.op = [108, 105, 115, 116]
 · exact absurd o8 HN8.out
 have f8 : (n.op == [108, 105, 115, 116]) = false := by simp [o8]
 by_cases o9 : n.op = [99, 111, 110, 115]
 · have e9 : (n.op == [99, 111, 110, 115]) = true := by simp [o9]
   have HFE : Hid (yM n.op n.ty n.kids.length = [mA, tL, tL]) := Lib.hid (by rw [yM, if_neg o0, if_neg o1, if_neg o2, if_neg o3, if_neg o4, if_neg o5, if_neg o6, if_neg o7, if_neg o8, if_pos o9])
   clear o0 o1 o2 o3 o4 o5 o6 o7 o8 o9
   go_wp2_with (fail)
   refine bodyPost_ret (v := .slice (some ⟨wc.heap.size, 0, none⟩) 3 3) (by simp [results, Tryz.results100, go_sem]) rfl ?_
   have hSB := heap_alloc_new wc (.cells #[.int .i64 (-1), .slice none 0 0, .int .i64 7, .slice (some ⟨B8, 0, none⟩) 1 1, .int .i64 7, .slice (some ⟨B8, 0, none⟩) 1 1] 34)
   rw [HFE.out]
   refine ⟨⟨some ⟨wc.heap.size, 0, none⟩, 3, 2, rfl, Nat.le_refl _, fun _ => ⟨wc.heap.size, 0, rfl, .inr ⟨by omega, by simp⟩, fun j x hx => ?_⟩⟩, HBC.out.alloc (by omega) _⟩
   match j, hx with
   | 0, hx =>
     obtain rfl : mA = x := Option.some.inj hx
     exact ⟨_, _, zD (i := 0) hSB rfl, zD (i := 1) hSB rfl, zY _ _ 1 _⟩
   | 1, hx =>
     obtain rfl : tL = x := Option.some.inj hx
     exact ⟨_, _, zD (i := 2) hSB rfl, zD (i := 3) hSB rfl, ty_arg1 (d := 0) (zE HBB.out.2.1) (.inr ⟨by omega, by simp; omega⟩)⟩
   | 2, hx =>
     obtain rfl : tL = x := Option.some.inj hx
     exact ⟨_, _, zD (i := 4) hSB rfl, zD (i := 5) hSB rfl, ty_arg1 (d := 0) (zE HBB.out.2.1) (.inr ⟨by omega, by simp; omega⟩)⟩
   | j + 3, hx => exact absurd hx (by simp)
 have f9 : (n.op == [99, 111, 110, 115]) = false := by simp [o9]
 by_cases o10 : n.op = [99, 111, 110, 99, 97, 116]
 · have e10 : (n.op == [99, 111, 110, 99, 97, 116]) = true := by simp [o10]
   have HFE : Hid (yM n.op n.ty n.kids.length = [tL, tL, tL]) := Lib.hid (by rw [yM, if_neg o0, if_neg o1, if_neg o2, if_neg o3, if_neg o4, if_neg o5, if_neg o6, if_neg o7, if_neg o8, if_neg o9, if_pos o10])
   clear o0 o1 o2 o3 o4 o5 o6 o7 o8 o9 o10
   go_wp2_with (fail)
   refine bodyPost_ret (v := .slice (some ⟨wc.heap.size, 0, none⟩) 3 3) (by simp [results, Tryz.results100, go_sem]) rfl ?_
   have hSB := heap_alloc_new wc (.cells #[.int .i64 7, .slice (some ⟨B8, 0, none⟩) 1 1, .int .i64 7, .slice (some ⟨B8, 0, none⟩) 1 1, .int .i64 7, .slice (some ⟨B8, 0, none⟩) 1 1] 34)
   rw [HFE.out]
   refine ⟨⟨some ⟨wc.heap.size, 0, none⟩, 3, 2, rfl, Nat.le_refl _, fun _ => ⟨wc.heap.size, 0, rfl, .inr ⟨by omega, by simp⟩, fun j x hx => ?_⟩⟩, HBC.out.alloc (by omega) _⟩
   match j, hx with
   | 0, hx =>
     obtain rfl : tL = x := Option.some.inj hx
     exact ⟨_, _, zD (i := 0) hSB rfl, zD (i := 1) hSB rfl, ty_arg1 (d := 0) (zE HBB.out.2.1) (.inr ⟨by omega, by simp; omega⟩)⟩
   | 1, hx =>
     obtain rfl : tL = x := Option.some.inj hx
     exact ⟨_, _, zD (i := 2) hSB rfl, zD (i := 3) hSB rfl, ty_arg1 (d := 0) (zE HBB.out.2.1) (.inr ⟨by omega, by simp; omega⟩)⟩
   | 2, hx =>
     obtain rfl : tL = x := Option.some.inj hx
     exact ⟨_, _, zD (i := 4) hSB rfl, zD (i := 5) hSB rfl, ty_arg1 (d := 0) (zE HBB.out.2.1) (.inr ⟨by omega, by simp; omega⟩)⟩
   | j + 3, hx => exact absurd hx (by simp)
 have f10 : (n.op == [99, 111, 110, 99, 97, 116]) = false := by simp [o10]
 by_cases o11 : n.op = [108, 101, 110]
 · have e11 : (n.op == [108, 101, 110]) = true := by simp [o11]
   have HFE : Hid (yM n.op n.ty n.kids.length = [tL, tN]) := Lib.hid (by rw [yM, if_neg o0, if_neg o1, if_neg o2, if_neg o3, if_neg o4, if_neg o5, if_neg o6, if_neg o7, if_neg o8, if_neg o9, if_neg o10, if_pos o11])
   clear o0 o1 o2 o3 o4 o5 o6 o7 o8 o9 o10 o11
   go_wp2_with (fail)
   refine bodyPost_ret (v := .slice (some ⟨wc.heap.size, 0, none⟩) 2 2) (by simp [results, Tryz.results100, go_sem]) rfl ?_
   have hSB := heap_alloc_new wc (.cells #[.int .i64 7, .slice (some ⟨B8, 0, none⟩) 1 1, .int .i64 2, .slice none 0 0] 34)
   rw [HFE.out]
   refine ⟨⟨some ⟨wc.heap.size, 0, none⟩, 2, 2, rfl, Nat.le_refl _, fun _ => ⟨wc.heap.size, 0, rfl, .inr ⟨by omega, by simp⟩, fun j x hx => ?_⟩⟩, HBC.out.alloc (by omega) _⟩
   match j, hx with
   | 0, hx =>
     obtain rfl : tL = x := Option.some.inj hx
     exact ⟨_, _, zD (i := 0) hSB rfl, zD (i := 1) hSB rfl, ty_arg1 (d := 0) (zE HBB.out.2.1) (.inr ⟨by omega, by simp; omega⟩)⟩
   | 1, hx =>
     obtain rfl : tN = x := Option.some.inj hx
     exact ⟨_, _, zD (i := 2) hSB rfl, zD (i := 3) hSB rfl, zY _ _ 1 _⟩
   | j + 2, hx => exact absurd hx (by simp)
 have f11 : (n.op == [108, 101, 110]) = false := by simp [o11]
 by_cases o12 : n.op = [97, 116]
 · have e12 : (n.op == [97, 116]) = true := by simp [o12]
   have HFE : Hid (yM n.op n.ty n.kids.length = [tL, tN, tO]) := Lib.hid (by rw [yM, if_neg o0, if_neg o1, if_neg o2, if_neg o3, if_neg o4, if_neg o5, if_neg o6, if_neg o7, if_neg o8, if_neg o9, if_neg o10, if_neg o11, if_pos o12])
   clear o0 o1 o2 o3 o4 o5 o6 o7 o8 o9 o10 o11 o12
   go_wp2_with (fail)
   refine bodyPost_ret (v := .slice (some ⟨wc.heap.size, 0, none⟩) 3 3) (by simp [results, Tryz.results100, go_sem]) rfl ?_
   have hSB := heap_alloc_new wc (.cells #[.int .i64 7, .slice (some ⟨B8, 0, none⟩) 1 1, .int .i64 2, .slice none 0 0, .int .i64 9, .slice (some ⟨B9, 0, none⟩) 1 1] 34)
   rw [HFE.out]
   refine ⟨⟨some ⟨wc.heap.size, 0, none⟩, 3, 2, rfl, Nat.le_refl _, fun _ => ⟨wc.heap.size, 0, rfl, .inr ⟨by omega, by simp⟩, fun j x hx => ?_⟩⟩, HBC.out.alloc (by omega) _⟩
   match j, hx with
   | 0, hx =>
     obtain rfl : tL = x := Option.some.inj hx
     exact ⟨_, _, zD (i := 0) hSB rfl, zD (i := 1) hSB rfl, ty_arg1 (d := 0) (zE HBB.out.2.1) (.inr ⟨by omega, by simp; omega⟩)⟩
   | 1, hx =>
     obtain rfl : tN = x := Option.some.inj hx
     exact ⟨_, _, zD (i := 2) hSB rfl, zD (i := 3) hSB rfl, zY _ _ 1 _⟩
   | 2, hx =>
     obtain rfl : tO = x := Option.some.inj hx
     exact ⟨_, _, zD (i := 4) hSB rfl, zD (i := 5) hSB rfl, ty_arg1 (d := 0) (zE HBB.out.2.2) (.inr ⟨by omega, by simp; omega⟩)⟩
   | j + 3, hx => exact absurd hx (by simp)
 have f12 : (n.op == [97, 116]) = false := by simp [o12]
 by_cases o13 : n.op = [115, 111, 114, 116]
 · have e13 : (n.op == [115, 111, 114, 116]) = true := by simp [o13]
   have HFE : Hid (yM n.op n.ty n.kids.length = [tL, tL]) := Lib.hid (by rw [yM, if_neg o0, if_neg o1, if_neg o2, if_neg o3, if_neg o4, if_neg o5, if_neg o6, if_neg o7, if_neg o8, if_neg o9, if_neg o10, if_neg o11, if_neg o12, if_pos o13])
   clear o0 o1 o2 o3 o4 o5 o6 o7 o8 o9 o10 o11 o12 o13
   go_wp2_with (fail)
   refine bodyPost_ret (v := .slice (some ⟨wc.heap.size, 0, none⟩) 2 2) (by simp [results, Tryz.results100, go_sem]) rfl ?_
   have hSB := heap_alloc_new wc (.cells #[.int .i64 7, .slice (some ⟨B8, 0, none⟩) 1 1, .int .i64 7, .slice (some ⟨B8, 0, none⟩) 1 1] 34)
   rw [HFE.out]
   refine ⟨⟨some ⟨wc.heap.size, 0, none⟩, 2, 2, rfl, Nat.le_refl _, fun _ => ⟨wc.heap.size, 0, rfl, .inr ⟨by omega, by simp⟩, fun j x hx => ?_⟩⟩, HBC.out.alloc (by omega) _⟩
   match j, hx with
   | 0, hx =>
     obtain rfl : tL = x := Option.some.inj hx
     exact ⟨_, _, zD (i := 0) hSB rfl, zD (i := 1) hSB rfl, ty_arg1 (d := 0) (zE HBB.out.2.1) (.inr ⟨by omega, by simp; omega⟩)⟩
   | 1, hx =>
     obtain rfl : tL = x := Option.some.inj hx
     exact ⟨_, _, zD (i := 2) hSB rfl, zD (i := 3) hSB rfl, ty_arg1 (d := 0) (zE HBB.out.2.1) (.inr ⟨by omega, by simp; omega⟩)⟩
   | j + 2, hx => exact absurd hx (by simp)
 have f13 : (n.op == [115, 111, 114, 116]) = false := by simp [o13]
 by_cases o14 : n.op = [115, 111, 109, 101]
 · have e14 : (n.op == [115, 111, 109, 101]) = true := by simp [o14]
   have HFE : Hid (yM n.op n.ty n.kids.length = [mA, tO]) := Lib.hid (by rw [yM, if_neg o0, if_neg o1, if_neg o2, if_neg o3, if_neg o4, if_neg o5, if_neg o6, if_neg o7, if_neg o8, if_neg o9, if_neg o10, if_neg o11, if_neg o12, if_neg o13, if_pos o14])
   clear o0 o1 o2 o3 o4 o5 o6 o7 o8 o9 o10 o11 o12 o13 o14
   go_wp2_with (fail)
   refine bodyPost_ret (v := .slice (some ⟨wc.heap.size, 0, none⟩) 2 2) (by simp [results, Tryz.results100, go_sem]) rfl ?_
   have hSB := heap_alloc_new wc (.cells #[.int .i64 (-1), .slice none 0 0, .int .i64 9, .slice (some ⟨B9, 0, none⟩) 1 1] 34)
   rw [HFE.out]
   refine ⟨⟨some ⟨wc.heap.size, 0, none⟩, 2, 2, rfl, Nat.le_refl _, fun _ => ⟨wc.heap.size, 0, rfl, .inr ⟨by omega, by simp⟩, fun j x hx => ?_⟩⟩, HBC.out.alloc (by omega) _⟩
   match j, hx with
   | 0, hx =>
     obtain rfl : mA = x := Option.some.inj hx
     exact ⟨_, _, zD (i := 0) hSB rfl, zD (i := 1) hSB rfl, zY _ _ 1 _⟩
   | 1, hx =>
     obtain rfl : tO = x := Option.some.inj hx
     exact ⟨_, _, zD (i := 2) hSB rfl, zD (i := 3) hSB rfl, ty_arg1 (d := 0) (zE HBB.out.2.2) (.inr ⟨by omega, by simp; omega⟩)⟩
   | j + 2, hx => exact absurd hx (by simp)
 have f14 : (n.op == [115, 111, 109, 101]) = false := by simp [o14]
 by_cases o15 : n.op = [105, 115, 95, 115, 111, 109, 101]
 · have e15 : (n.op == [105, 115, 95, 115, 111, 109, 101]) = true := by simp [o15]
   have HFE : Hid (yM n.op n.ty n.kids.length = [tO, tT]) := Lib.hid (by rw [yM, if_neg o0, if_neg o1, if_neg o2, if_neg o3, if_neg o4, if_neg o5, if_neg o6, if_neg o7, if_neg o8, if_neg o9, if_neg o10, if_neg o11, if_neg o12, if_neg o13, if_neg o14, if_pos o15])
   clear o0 o1 o2 o3 o4 o5 o6 o7 o8 o9 o10 o11 o12 o13 o14 o15
   go_wp2_with (fail)
   refine bodyPost_ret (v := .slice (some ⟨wc.heap.size, 0, none⟩) 2 2) (by simp [results, Tryz.results100, go_sem]) rfl ?_
   have hSB := heap_alloc_new wc (.cells #[.int .i64 9, .slice (some ⟨B9, 0, none⟩) 1 1, .int .i64 1, .slice none 0 0] 34)
   rw [HFE.out]
   refine ⟨⟨some ⟨wc.heap.size, 0, none⟩, 2, 2, rfl, Nat.le_refl _, fun _ => ⟨wc.heap.size, 0, rfl, .inr ⟨by omega, by simp⟩, fun j x hx => ?_⟩⟩, HBC.out.alloc (by omega) _⟩
   match j, hx with
   | 0, hx =>
     obtain rfl : tO = x := Option.some.inj hx
     exact ⟨_, _, zD (i := 0) hSB rfl, zD (i := 1) hSB rfl, ty_arg1 (d := 0) (zE HBB.out.2.2) (.inr ⟨by omega, by simp; omega⟩)⟩
   | 1, hx =>
     obtain rfl : tT = x := Option.some.inj hx
     exact ⟨_, _, zD (i := 2) hSB rfl, zD (i := 3) hSB rfl, zY _ _ 1 _⟩
   | j + 2, hx => exact absurd hx (by simp)
 have f15 : (n.op == [105, 115, 95, 115, 111, 109, 101]) = false := by simp [o15]
 have HFE : Hid (yM n.op n.ty n.kids.length = [tO, mA, mA]) := Lib.hid (by rw [yM, if_neg o0, if_neg o1, if_neg o2, if_neg o3, if_neg o4, if_neg o5, if_neg o6, if_neg o7, if_neg o8, if_neg o9, if_neg o10, if_neg o11, if_neg o12, if_neg o13, if_neg o14, if_neg o15])
 clear o0 o1 o2 o3 o4 o5 o6 o7 o8 o9 o10 o11 o12 o13 o14 o15
 go_wp2_with (fail)
 refine bodyPost_ret (v := .slice (some ⟨wc.heap.size, 0, none⟩) 3 3) (by simp [results, Tryz.results100, go_sem]) rfl ?_
 have hSB := heap_alloc_new wc (.cells #[.int .i64 9, .slice (some ⟨B9, 0, none⟩) 1 1, .int .i64 (-1), .slice none 0 0, .int .i64 (-1), .slice none 0 0] 34)
 rw [HFE.out]
 refine ⟨⟨some ⟨wc.heap.size, 0, none⟩, 3, 2, rfl, Nat.le_refl _, fun _ => ⟨wc.heap.size, 0, rfl, .inr ⟨by omega, by simp⟩, fun j x hx => ?_⟩⟩, HBC.out.alloc (by omega) _⟩
 match j, hx with
 | 0, hx =>
   obtain rfl : tO = x := Option.some.inj hx
   exact ⟨_, _, zD (i := 0) hSB rfl, zD (i := 1) hSB rfl, ty_arg1 (d := 0) (zE HBB.out.2.2) (.inr ⟨by omega, by simp; omega⟩)⟩
 | 1, hx =>
   obtain rfl : mA = x := Option.some.inj hx
   exact ⟨_, _, zD (i := 2) hSB rfl, zD (i := 3) hSB rfl, zY _ _ 1 _⟩
 | 2, hx =>
   obtain rfl : mA = x := Option.some.inj hx
   exact ⟨_, _, zD (i := 4) hSB rfl, zD (i := 5) hSB rfl, zY _ _ 1 _⟩
 | j + 3, hx => exact absurd hx (by simp)
