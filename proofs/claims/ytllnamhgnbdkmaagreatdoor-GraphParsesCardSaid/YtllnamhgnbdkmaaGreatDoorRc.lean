/-
Stage 11: the document's form.
-/
import Derived.Test.YtllnamhgnbdkmaaGreatDoorRb
import Derived.Test.YtllnamhgnbdkmaaGreatDoorYf
set_option linter.unusedVariables false
set_option linter.unusedSimpArgs false
namespace Go.Proofs.YtllnamhgnbdkmaaGreatDoor
open Go.RowKit
theorem nar_k : ∀ (n : Nat) (t : Ty), Lw.Nar n t → Nar n t
  | 0, _, h => h.elim
  | n + 1, t, h => ⟨h.1, fun a ha => nar_k n a (h.2 a ha)⟩
set_option maxRecDepth 100000 in
set_option maxHeartbeats 8000000 in
theorem rform_any (w : World) (S : Nat → Prop) (d m : Nat) (n : Gn) (IA SA A : Option Addr) (ic sc c : Nat) (hT : TyAt w S d (.agg #[.int .i64 n.ty.kind, .slice A n.ty.args.length c]) n.ty) (hn : Lw.Nar m n.ty) (hl : n.text.length ≤ 1000000) :
    Calls Tryz.prog 42 #[.agg #[.int .i64 n.op, .slice IA n.ins.length ic, .slice SA n.side.length sc, .string ⟨n.text.toArray⟩, .int .i64 n.ty.kind, .slice A n.ty.args.length c, .int .i64 n.f0, .int .i64 n.f1, .int .i64 n.f2, .int .i64 n.f3, .int .i64 n.e, .int .i64 n.l, .int .i64 n.lt, .bool n.acc]] w fun e w' => e = .returned (.bool (formP n)) ∧ Below w.heap.size w w' := by
  obtain ⟨W0, hW0⟩ : ∃ W0, w.alloc (.cells #[.int .i64 n.op, .slice IA n.ins.length ic, .slice SA n.side.length sc, .string ⟨n.text.toArray⟩, .int .i64 n.ty.kind, .slice A n.ty.args.length c, .int .i64 n.f0, .int .i64 n.f1, .int .i64 n.f2, .int .i64 n.f3, .int .i64 n.e, .int .i64 n.l, .int .i64 n.lt, .bool n.acc] 51) = W0 := ⟨_, rfl⟩
  have hx : W0.heap[w.heap.size]? = some (.cells #[.int .i64 n.op, .slice IA n.ins.length ic, .slice SA n.side.length sc, .string ⟨n.text.toArray⟩, .int .i64 n.ty.kind, .slice A n.ty.args.length c, .int .i64 n.f0, .int .i64 n.f1, .int .i64 n.f2, .int .i64 n.f3, .int .i64 n.e, .int .i64 n.l, .int .i64 n.lt, .bool n.acc] 51 (0, 0)) := by rw [← hW0]; exact heap_alloc_new w _
  have hB0 : Below w.heap.size w W0 := by rw [← hW0]; exact bl_al (Below.refl _ _) _
  have HT : Hid (∀ W, Below w.heap.size w W → TyAt W S d (.agg #[.int .i64 n.ty.kind, .slice A n.ty.args.length c]) n.ty) := Lib.hid fun W hb => hT.below hb
  have HN := Lib.hid (nar_k _ _ hn)
  have HW0 := Lib.hid hW0
  have HX := Lib.hid hx
  have HB0 := Lib.hid hB0
  have HTXT := Lib.hid hl
  clear hT hW0 hx hB0 hn hl
  go_enter Tryz.func42, Tryz.ntmps42
  go_upto_region 1 with (fail)
  rw [HW0.out]
  clear HW0
  have c0 := cellN (i := 0) HX.out rfl
  have c3 := cellN (i := 3) HX.out rfl
  have c4 := cellN (i := 4) HX.out rfl
  have c5 := cellN (i := 5) HX.out rfl
  have c6 := cellN (i := 6) HX.out rfl
  have c7 := cellN (i := 7) HX.out rfl
  have c8 := cellN (i := 8) HX.out rfl
  have c9 := cellN (i := 9) HX.out rfl
  have c10 := cellN (i := 10) HX.out rfl
  have c11 := cellN (i := 11) HX.out rfl
  have c12 := cellN (i := 12) HX.out rfl
  have c13 := cellN (i := 13) HX.out rfl
  have cl := cell_lt HX.out
  generalize htx : n.text.isEmpty = tx
  obtain ⟨fn, hfn⟩ : ∃ b, noFn n = b := ⟨_, rfl⟩
  obtain ⟨sp, hsp⟩ : ∃ b, noSp n = b := ⟨_, rfl⟩
  obtain ⟨kb, hkb⟩ : ∃ b, (n.ty.kind == 0) = b := ⟨_, rfl⟩
  obtain ⟨lb, hlb⟩ : ∃ b, decide (n.ty.args.length = 0) = b := ⟨_, rfl⟩
  have HTX : Hid (noTx n = tx) := Lib.hid htx
  have HTY : Hid (noTy n = (kb && lb)) := Lib.hid (by unfold noTy; rw [hkb, hlb])
  have HFN := Lib.hid hfn
  have HSP := Lib.hid hsp
  have hkn : (n.ty.kind != 0) = !kb := by rw [← hkb]; rfl
  have HLB := Lib.hid hlb
  clear hfn hsp hlb
  have g1 := fun w' => Tryz.guFnR .neq w'
  have g2 := fun w' => Tryz.guSpR .eql w'
  have q1 : ∀ w', (binOp .neq 47 (.agg #[.int .i64 n.f0, .int .i64 n.f1, .int .i64 n.f2, .int .i64 n.f3]) (.agg #[.int .i64 0, .int .i64 0, .int .i64 0, .int .i64 0])).run Tryz.prog w' = .ok (.bool (!fn)) w' := fun w' => by rw [Tryz.eqFnR, ← HFN.out]; rfl
  have q2 : ∀ w', (binOp .eql 49 (.agg #[.int .i64 n.e, .int .i64 n.l, .int .i64 n.lt, .bool n.acc]) (.agg #[.int .i64 0, .int .i64 0, .int .i64 0, .bool false])).run Tryz.prog w' = .ok (.bool sp) w' := fun w' => by rw [Tryz.eqSpR, ← HSP.out]; rfl
  by_cases h1 : n.op = 1
  ·
    have o1 : (n.op == 1) = true := by simp [h1]
    have p1 : (n.op != 1) = false := by simp [h1]
    have o2 : (n.op == 2) = false := by simp [h1]
    have p2 : (n.op != 2) = true := by simp [h1]
    have o3 : (n.op == 3) = false := by simp [h1]
    have p3 : (n.op != 3) = true := by simp [h1]
    have o4 : (n.op == 4) = false := by simp [h1]
    have p4 : (n.op != 4) = true := by simp [h1]
    obtain ⟨t, ht⟩ : ∃ b, (Knd.measureT 6 n.ty).isSome = b := ⟨_, rfl⟩
    have HF : Hid (formP n = (tx && (t && (fn && sp)))) := Lib.hid (by unfold formP; simp only [h1, HTX.out, HTY.out, HFN.out, HSP.out, ht]; simp)
    have HC : Hid (∀ W, Below w.heap.size w W → Calls Tryz.prog 71 #[.agg #[.int .i64 n.ty.kind, .slice A n.ty.args.length c], .int .i64 6] W fun e w' => e = .returned (.bool t) ∧ Below W.heap.size W w') := Lib.hid fun W hb => by
      have := Knd.rright_any 6 d m S _ n.ty W (Nat.le_refl _) HN.out (HT.out W hb)
      unfold Knd.okT at this
      rwa [ht] at this
    clear ht
    clear h1
    have HB9 := HB0
    by_cases hlb : n.ty.args.length = 0
    · have hl1 : ¬ ((0 : Int) < (n.ty.args.length : Int)) := by omega
      have HL : Hid (lb = true) := Lib.hid (HLB.out.symm.trans (decide_eq_true hlb))
      clear hlb HLB
      go_wp2_with (first
        | (go_at_call 71; (with_reducible refine (HC.out _ HB0.out).mono ?_); rintro e w1 ⟨rfl, hb1⟩; have HB9 := Lib.hid (HB0.out.trans (hb1.mono HB0.out.size)); have hx9 := bl_blk hb1 HX.out; have e0 := cellN (i := 0) hx9 rfl; have e3 := cellN (i := 3) hx9 rfl; have e4 := cellN (i := 4) hx9 rfl; have e5 := cellN (i := 5) hx9 rfl; have e6 := cellN (i := 6) hx9 rfl; have e7 := cellN (i := 7) hx9 rfl; have e8 := cellN (i := 8) hx9 rfl; have e9 := cellN (i := 9) hx9 rfl; have e10 := cellN (i := 10) hx9 rfl; have e11 := cellN (i := 11) hx9 rfl; have e12 := cellN (i := 12) hx9 rfl; have e13 := cellN (i := 13) hx9 rfl; have cl9 := cell_lt hx9; clear hx9; clear hb1; cases t)
        | fail)
      all_goals (
        go_ret
        rw [HF.out]
        try rw [HL.out]
        refine ⟨?_, HB9.out⟩
        first | rfl | (simp_all; done))
    · have hl1 : (0 : Int) < (n.ty.args.length : Int) := by omega
      have HL : Hid (lb = false) := Lib.hid (HLB.out.symm.trans (decide_eq_false hlb))
      clear hlb HLB
      go_wp2_with (first
        | (go_at_call 71; (with_reducible refine (HC.out _ HB0.out).mono ?_); rintro e w1 ⟨rfl, hb1⟩; have HB9 := Lib.hid (HB0.out.trans (hb1.mono HB0.out.size)); have hx9 := bl_blk hb1 HX.out; have e0 := cellN (i := 0) hx9 rfl; have e3 := cellN (i := 3) hx9 rfl; have e4 := cellN (i := 4) hx9 rfl; have e5 := cellN (i := 5) hx9 rfl; have e6 := cellN (i := 6) hx9 rfl; have e7 := cellN (i := 7) hx9 rfl; have e8 := cellN (i := 8) hx9 rfl; have e9 := cellN (i := 9) hx9 rfl; have e10 := cellN (i := 10) hx9 rfl; have e11 := cellN (i := 11) hx9 rfl; have e12 := cellN (i := 12) hx9 rfl; have e13 := cellN (i := 13) hx9 rfl; have cl9 := cell_lt hx9; clear hx9; clear hb1; cases t)
        | fail)
      all_goals (
        go_ret
        rw [HF.out]
        try rw [HL.out]
        refine ⟨?_, HB9.out⟩
        first | rfl | (simp_all; done))
  by_cases h2 : n.op = 2
  ·
    have o1 : (n.op == 1) = false := by simp [h2]
    have p1 : (n.op != 1) = true := by simp [h2]
    have o2 : (n.op == 2) = true := by simp [h2]
    have p2 : (n.op != 2) = false := by simp [h2]
    have o3 : (n.op == 3) = false := by simp [h2]
    have p3 : (n.op != 3) = true := by simp [h2]
    have o4 : (n.op == 4) = false := by simp [h2]
    have p4 : (n.op != 4) = true := by simp [h2]
    obtain ⟨b, hb⟩ : ∃ b, isTx n.text = b := ⟨_, rfl⟩
    have HF : Hid (formP n = (b && ((kb && lb) && (fn && sp)))) := Lib.hid (by unfold formP; simp only [h2, HTX.out, HTY.out, HFN.out, HSP.out, hb]; simp)
    have HC := fun (W : World) => Lib.hid (rtext_any n.text W HTXT.out)
    rw [hb] at HC
    clear hb
    clear h2
    have HB9 := HB0
    by_cases hlb : n.ty.args.length = 0
    · have hl1 : ¬ ((0 : Int) < (n.ty.args.length : Int)) := by omega
      have HL : Hid (lb = true) := Lib.hid (HLB.out.symm.trans (decide_eq_true hlb))
      clear hlb HLB
      go_wp2_with (first
        | (go_at_call 65; (with_reducible refine (HC _).out.mono ?_); rintro e w1 ⟨rfl, rfl⟩; cases b)
        | fail)
      all_goals (
        go_ret
        rw [HF.out]
        try rw [HL.out]
        refine ⟨?_, HB9.out⟩
        first | rfl | (simp_all; done))
    · have hl1 : (0 : Int) < (n.ty.args.length : Int) := by omega
      have HL : Hid (lb = false) := Lib.hid (HLB.out.symm.trans (decide_eq_false hlb))
      clear hlb HLB
      go_wp2_with (first
        | (go_at_call 65; (with_reducible refine (HC _).out.mono ?_); rintro e w1 ⟨rfl, rfl⟩; cases b)
        | fail)
      all_goals (
        go_ret
        rw [HF.out]
        try rw [HL.out]
        refine ⟨?_, HB9.out⟩
        first | rfl | (simp_all; done))
  by_cases h3 : n.op = 3
  ·
    have o1 : (n.op == 1) = false := by simp [h3]
    have p1 : (n.op != 1) = true := by simp [h3]
    have o2 : (n.op == 2) = false := by simp [h3]
    have p2 : (n.op != 2) = true := by simp [h3]
    have o3 : (n.op == 3) = true := by simp [h3]
    have p3 : (n.op != 3) = false := by simp [h3]
    have o4 : (n.op == 4) = false := by simp [h3]
    have p4 : (n.op != 4) = true := by simp [h3]
    obtain ⟨f, hf⟩ : ∃ b, Wi.rgtB n.f0 n.f1 n.f2 n.f3 = b := ⟨_, rfl⟩
    have HF : Hid (formP n = (tx && ((kb && lb) && (f && sp)))) := Lib.hid (by unfold formP; simp only [h3, HTX.out, HTY.out, HFN.out, HSP.out, hf]; simp)
    have HC := fun (W : World) => Lib.hid (Wi.rright_any n.f0 n.f1 n.f2 n.f3 W)
    rw [hf] at HC
    clear hf
    clear h3
    have HB9 := HB0
    by_cases hlb : n.ty.args.length = 0
    · have hl1 : ¬ ((0 : Int) < (n.ty.args.length : Int)) := by omega
      have HL : Hid (lb = true) := Lib.hid (HLB.out.symm.trans (decide_eq_true hlb))
      clear hlb HLB
      go_wp2_with (first
        | (go_at_call 72; (with_reducible refine (HC _).out.mono ?_); rintro e w1 ⟨rfl, hb1⟩; have HB9 := Lib.hid (HB0.out.trans (hb1.mono HB0.out.size)); have hx9 := bl_blk hb1 HX.out; have e0 := cellN (i := 0) hx9 rfl; have e3 := cellN (i := 3) hx9 rfl; have e4 := cellN (i := 4) hx9 rfl; have e5 := cellN (i := 5) hx9 rfl; have e6 := cellN (i := 6) hx9 rfl; have e7 := cellN (i := 7) hx9 rfl; have e8 := cellN (i := 8) hx9 rfl; have e9 := cellN (i := 9) hx9 rfl; have e10 := cellN (i := 10) hx9 rfl; have e11 := cellN (i := 11) hx9 rfl; have e12 := cellN (i := 12) hx9 rfl; have e13 := cellN (i := 13) hx9 rfl; have cl9 := cell_lt hx9; clear hx9; clear hb1; cases f)
        | fail)
      all_goals (
        go_ret
        rw [HF.out]
        try rw [HL.out]
        refine ⟨?_, HB9.out⟩
        first | rfl | (simp_all; done))
    · have hl1 : (0 : Int) < (n.ty.args.length : Int) := by omega
      have HL : Hid (lb = false) := Lib.hid (HLB.out.symm.trans (decide_eq_false hlb))
      clear hlb HLB
      go_wp2_with (first
        | (go_at_call 72; (with_reducible refine (HC _).out.mono ?_); rintro e w1 ⟨rfl, hb1⟩; have HB9 := Lib.hid (HB0.out.trans (hb1.mono HB0.out.size)); have hx9 := bl_blk hb1 HX.out; have e0 := cellN (i := 0) hx9 rfl; have e3 := cellN (i := 3) hx9 rfl; have e4 := cellN (i := 4) hx9 rfl; have e5 := cellN (i := 5) hx9 rfl; have e6 := cellN (i := 6) hx9 rfl; have e7 := cellN (i := 7) hx9 rfl; have e8 := cellN (i := 8) hx9 rfl; have e9 := cellN (i := 9) hx9 rfl; have e10 := cellN (i := 10) hx9 rfl; have e11 := cellN (i := 11) hx9 rfl; have e12 := cellN (i := 12) hx9 rfl; have e13 := cellN (i := 13) hx9 rfl; have cl9 := cell_lt hx9; clear hx9; clear hb1; cases f)
        | fail)
      all_goals (
        go_ret
        rw [HF.out]
        try rw [HL.out]
        refine ⟨?_, HB9.out⟩
        first | rfl | (simp_all; done))
  by_cases h4 : n.op = 4
  ·
    have o1 : (n.op == 1) = false := by simp [h4]
    have p1 : (n.op != 1) = true := by simp [h4]
    have o2 : (n.op == 2) = false := by simp [h4]
    have p2 : (n.op != 2) = true := by simp [h4]
    have o3 : (n.op == 3) = false := by simp [h4]
    have p3 : (n.op != 3) = true := by simp [h4]
    have o4 : (n.op == 4) = true := by simp [h4]
    have p4 : (n.op != 4) = false := by simp [h4]
    obtain ⟨b, hb⟩ : ∃ b, isTx n.text = b := ⟨_, rfl⟩
    obtain ⟨g, hg⟩ : ∃ b, Tg.RightB n.e n.l n.lt = b := ⟨_, rfl⟩
    have HF : Hid (formP n = (b && ((kb && lb) && (fn && g)))) := Lib.hid (by unfold formP; simp only [h4, HTX.out, HTY.out, HFN.out, HSP.out, hb, hg]; simp)
    have HC := fun (W : World) => Lib.hid (rtext_any n.text W HTXT.out)
    rw [hb] at HC
    clear hb
    have HC2 := fun (W : World) => Lib.hid (Tg.right_any n.e n.l n.lt n.acc W)
    rw [hg] at HC2
    clear hg
    clear h4
    have HB9 := HB0
    by_cases hlb : n.ty.args.length = 0
    · have hl1 : ¬ ((0 : Int) < (n.ty.args.length : Int)) := by omega
      have HL : Hid (lb = true) := Lib.hid (HLB.out.symm.trans (decide_eq_true hlb))
      clear hlb HLB
      go_wp2_with (first
        | (go_at_call 65; (with_reducible refine (HC _).out.mono ?_); rintro e w1 ⟨rfl, rfl⟩; cases b)
        | (go_at_call 73; (with_reducible refine (HC2 _).out.mono ?_); rintro e w1 ⟨rfl, rfl⟩; have HB9 := Lib.hid (HB0.out.alloc HB0.out.size (.cells #[.int .i64 n.e, .int .i64 n.l, .int .i64 n.lt, .bool n.acc] 49)); cases g)
        | fail)
      all_goals (
        go_ret
        rw [HF.out]
        try rw [HL.out]
        refine ⟨?_, HB9.out⟩
        first | rfl | (simp_all; done))
    · have hl1 : (0 : Int) < (n.ty.args.length : Int) := by omega
      have HL : Hid (lb = false) := Lib.hid (HLB.out.symm.trans (decide_eq_false hlb))
      clear hlb HLB
      go_wp2_with (first
        | (go_at_call 65; (with_reducible refine (HC _).out.mono ?_); rintro e w1 ⟨rfl, rfl⟩; cases b)
        | (go_at_call 73; (with_reducible refine (HC2 _).out.mono ?_); rintro e w1 ⟨rfl, rfl⟩; have HB9 := Lib.hid (HB0.out.alloc HB0.out.size (.cells #[.int .i64 n.e, .int .i64 n.l, .int .i64 n.lt, .bool n.acc] 49)); cases g)
        | fail)
      all_goals (
        go_ret
        rw [HF.out]
        try rw [HL.out]
        refine ⟨?_, HB9.out⟩
        first | rfl | (simp_all; done))
  ·
    have o1 : (n.op == 1) = false := by simp [h1]
    have p1 : (n.op != 1) = true := by simp [h1]
    have o2 : (n.op == 2) = false := by simp [h2]
    have p2 : (n.op != 2) = true := by simp [h2]
    have o3 : (n.op == 3) = false := by simp [h3]
    have p3 : (n.op != 3) = true := by simp [h3]
    have o4 : (n.op == 4) = false := by simp [h4]
    have p4 : (n.op != 4) = true := by simp [h4]
    have HF : Hid (formP n = (tx && ((kb && lb) && (fn && sp)))) := Lib.hid (by unfold formP; simp only [h1, h2, h3, h4, HTX.out, HTY.out, HFN.out, HSP.out]; simp)
    clear h1 h2 h3 h4
    have HB9 := HB0
    by_cases hlb : n.ty.args.length = 0
    · have hl1 : ¬ ((0 : Int) < (n.ty.args.length : Int)) := by omega
      have HL : Hid (lb = true) := Lib.hid (HLB.out.symm.trans (decide_eq_true hlb))
      clear hlb HLB
      go_wp2_with (first
        | fail)
      all_goals (
        go_ret
        rw [HF.out]
        try rw [HL.out]
        refine ⟨?_, HB9.out⟩
        first | rfl | (simp_all; done))
    · have hl1 : (0 : Int) < (n.ty.args.length : Int) := by omega
      have HL : Hid (lb = false) := Lib.hid (HLB.out.symm.trans (decide_eq_false hlb))
      clear hlb HLB
      go_wp2_with (first
        | fail)
      all_goals (
        go_ret
        rw [HF.out]
        try rw [HL.out]
        refine ⟨?_, HB9.out⟩
        first | rfl | (simp_all; done))
end Go.Proofs.YtllnamhgnbdkmaaGreatDoor
