/-
Stage 11: the document's form.
-/
import Derived.Test.YtllnamhgnbdkmaaGreatDoorRb
import Derived.Test.YtllnamhgnbdkmaaGreatDoorYf
import Derived.Test.YtllnamhgnbdkmaaGreatDoorYg
set_option linter.unusedVariables false
set_option linter.unusedSimpArgs false
namespace Go.Proofs.YtllnamhgnbdkmaaGreatDoor
open Go.RowKit
theorem nar_k : ∀ (n : Nat) (t : Ty), Lw.Nar n t → Nar n t
  | 0, _, h => h.elim
  | n + 1, t, h => ⟨h.1, fun a ha => nar_k n a (h.2 a ha)⟩
set_option maxRecDepth 100000 in
set_option maxHeartbeats 8000000 in
theorem rform_any (w : World) (S : Nat → Prop) (d m : Nat) (n : Gn) (IA SA A : Option Addr) (ic sc c : Nat) (hT : TyAt w S d (.agg #[.int .i64 n.ty.kind, .slice A n.ty.args.length c]) n.ty) (hn : Lw.Nar m n.ty) (hl : n.text.length ≤ 1000000) :
    Calls Tryz.prog 42 #[.agg #[.int .i64 n.op, .slice IA n.ins.length ic, .slice SA n.side.length sc, .string ⟨n.text.toArray⟩, .int .i64 n.ty.kind, .slice A n.ty.args.length c, .int .i64 n.f0, .int .i64 n.f1, .int .i64 n.f2, .int .i64 n.f3, .int .i64 n.e, .int .i64 n.l, .int .i64 n.lt, .bool n.acc]] w fun e w' => e = .returned (.bool (formP n)) ∧ Below w.heap.size w w' := by
  obtain ⟨W0, hW0⟩ : ∃ W0, w.alloc (.cells #[.int .i64 n.op, .slice IA n.ins.length ic, .slice SA n.side.length sc, .string ⟨n.text.toArray⟩, .int .i64 n.ty.kind, .slice A n.ty.args.length c, .int .i64 n.f0, .int .i64 n.f1, .int .i64 n.f2, .int .i64 n.f3, .int .i64 n.e, .int .i64 n.l, .int .i64 n.lt, .bool n.acc] 51) = W0 := ⟨_, rfl⟩
  have hx : W0.heap[w.heap.size]? = some (.cells #[.int .i64 n.op, .slice IA n.ins.length ic, .slice SA n.side.length sc, .string ⟨n.text.toArray⟩, .int .i64 n.ty.kind, .slice A n.ty.args.length c, .int .i64 n.f0, .int .i64 n.f1, .int .i64 n.f2, .int .i64 n.f3, .int .i64 n.e, .int .i64 n.l, .int .i64 n.lt, .bool n.acc] 51 (0, 0)) := by rw [← hW0]; exact heap_alloc_new w _
  have hB0 : Below w.heap.size w W0 := by rw [← hW0]; exact bl_al (Below.refl _ _) _
  have HT : Hid (∀ W, Below w.heap.size w W → TyAt W S d (.agg #[.int .i64 n.ty.kind, .slice A n.ty.args.length c]) n.ty) := Lib.hid fun W hb => hT.below hb
  have HN := Lib.hid (nar_k _ _ hn)
  have HW0 := Lib.hid hW0
  have HX := Lib.hid hx
  have HB0 := Lib.hid hB0
  have HTXT := Lib.hid hl
  clear hT hW0 hx hB0 hn hl
  go_enter Tryz.func42, Tryz.ntmps42
  go_upto_region 1 with (fail)
  rw [HW0.out]
  clear HW0
  have c0 := cellN (i := 0) HX.out rfl
  have c3 := cellN (i := 3) HX.out rfl
  have c4 := cellN (i := 4) HX.out rfl
  have c5 := cellN (i := 5) HX.out rfl
  have c6 := cellN (i := 6) HX.out rfl
  have c7 := cellN (i := 7) HX.out rfl
  have c8 := cellN (i := 8) HX.out rfl
  have c9 := cellN (i := 9) HX.out rfl
  have c10 := cellN (i := 10) HX.out rfl
  have c11 := cellN (i := 11) HX.out rfl
  have c12 := cellN (i := 12) HX.out rfl
  have c13 := cellN (i := 13) HX.out rfl
  have cl := cell_lt HX.out
  generalize htx : n.text.isEmpty = tx
  obtain ⟨fn, hfn⟩ : ∃ b, noFn n = b := ⟨_, rfl⟩
  obtain ⟨sp, hsp⟩ : ∃ b, noSp n = b := ⟨_, rfl⟩
  obtain ⟨kb, hkb⟩ : ∃ b, (n.ty.kind == 0) = b := ⟨_, rfl⟩
  obtain ⟨lb, hlb⟩ : ∃ b, decide (n.ty.args.length = 0) = b := ⟨_, rfl⟩
  have HTX : Hid (noTx n = tx) := Lib.hid htx
  have HTY : Hid (noTy n = (kb && lb)) := Lib.hid (by unfold noTy; rw [hkb, hlb])
  have HFN := Lib.hid hfn
  have HSP := Lib.hid hsp
  have hkn : (n.ty.kind != 0) = !kb := by rw [← hkb]; rfl
  have HLB := Lib.hid hlb
  clear hfn hsp hlb
  have g1 := fun w' => Tryz.guFnR .neq w'
  have g2 := fun w' => Tryz.guSpR .eql w'
  have q1 : ∀ w', (binOp .neq 47 (.agg #[.int .i64 n.f0, .int .i64 n.f1, .int .i64 n.f2, .int .i64 n.f3]) (.agg #[.int .i64 0, .int .i64 0, .int .i64 0, .int .i64 0])).run Tryz.prog w' = .ok (.bool (!fn)) w' := fun w' => by rw [Tryz.eqFnR, ← HFN.out]; rfl
  have q2 : ∀ w', (binOp .eql 49 (.agg #[.int .i64 n.e, .int .i64 n.l, .int .i64 n.lt, .bool n.acc]) (.agg #[.int .i64 0, .int .i64 0, .int .i64 0, .bool false])).run Tryz.prog w' = .ok (.bool sp) w' := fun w' => by rw [Tryz.eqSpR, ← HSP.out]; rfl
  by_cases h1 : n.op = 1
  ·
    have o1 : (n.op == 1) = true := by simp [h1]
    have p1 : (n.op != 1) = false := by simp [h1]
    have o2 : (n.op == 2) = false := by simp [h1]
    have p2 : (n.op != 2) = true := by simp [h1]
    have o3 : (n.op == 3) = false := by simp [h1]
    have p3 : (n.op != 3) = true := by simp [h1]
    have o4 : (n.op == 4) = false := by simp [h1]
    have p4 : (n.op != 4) = true := by simp [h1]
    obtain ⟨t, ht⟩ : ∃ b, (Knd.measureT 6 n.ty).isSome = b := ⟨_, rfl⟩
    have HF : Hid (formP n = (tx && (t && (fn && sp)))) := Lib.hid (by unfold formP; simp only [h1, HTX.out, HTY.out, HFN.out, HSP.out, ht]; simp)
    have HC : Hid (∀ W, Below w.heap.size w W → Calls Tryz.prog 71 #[.agg #[.int .i64 n.ty.kind, .slice A n.ty.args.length c], .int .i64 6] W fun e w' => e = .returned (.bool t) ∧ Below W.heap.size W w') := Lib.hid fun W hb => by
      have := Knd.rright_any 6 d m S _ n.ty W (Nat.le_refl _) HN.out (HT.out W hb)
      unfold Knd.okT at this
      rwa [ht] at this
    clear ht
    clear h1
    have HB9 := HB0
    by_cases hlb : n.ty.args.length = 0
    · have hl1 : ¬ ((0 : Int) < (n.ty.args.length : Int)) := by omega
      have HL : Hid (lb = true) := Lib.hid (HLB.out.symm.trans (decide_eq_true hlb))
      clear hlb HLB
      go_wp2_with (first
        | (go_at_call 71; (with_reducible refine (HC.out _ HB0.out).mono ?_); rintro e w1 ⟨rfl, hb1⟩; have HB9 := Lib.hid (HB0.out.trans (hb1.mono HB0.out.size)); have hx9 := bl_blk hb1 HX.out; have e0 := cellN (i := 0) hx9 rfl; have e3 := cellN (i := 3) hx9 rfl; have e4 := cellN (i := 4) hx9 rfl; have e5 := cellN (i := 5) hx9 rfl; have e6 := cellN (i := 6) hx9 rfl; have e7 := cellN (i := 7) hx9 rfl; have e8 := cellN (i := 8) hx9 rfl; have e9 := cellN (i := 9) hx9 rfl; have e10 := cellN (i := 10) hx9 rfl; have e11 := cellN (i := 11) hx9 rfl; have e12 := cellN (i := 12) hx9 rfl; have e13 := cellN (i := 13) hx9 rfl; have cl9 := cell_lt hx9; clear hx9; clear hb1; cases t)
        | fail)
      all_goals (
        go_ret
        rw [HF.out]
        try rw [HL.out]
        refine ⟨?_, HB9.out⟩
        first | rfl | (simp_all; done))
    · have hl1 : (0 : Int) < (n.ty.args.length : Int) := by omega
      have HL : Hid (lb = false) := Lib.hid (HLB.out.symm.trans (decide_eq_false hlb))
      clear hlb HLB
      go_wp2_with (first
        | (go_at_call 71; (with_reducible refine (HC.out _ HB0.out).mono ?_); rintro e w1 ⟨rfl, hb1⟩; have HB9 := Lib.hid (HB0.out.trans (hb1.mono HB0.out.size)); have hx9 := bl_blk hb1 HX.out; have e0 := cellN (i := 0) hx9 rfl; have e3 := cellN (i := 3) hx9 rfl; have e4 := cellN (i := 4) hx9 rfl; have e5 := cellN (i := 5) hx9 rfl; have e6 := cellN (i := 6) hx9 rfl; have e7 := cellN (i := 7) hx9 rfl; have e8 := cellN (i := 8) hx9 rfl; have e9 := cellN (i := 9) hx9 rfl; have e10 := cellN (i := 10) hx9 rfl; have e11 := cellN (i := 11) hx9 rfl; have e12 := cellN (i := 12) hx9 rfl; have e13 := cellN (i := 13) hx9 rfl; have cl9 := cell_lt hx9; clear hx9; clear hb1; cases t)
        | fail)
      all_goals (
        go_ret
        rw [HF.out]
        try rw [HL.out]
        refine ⟨?_, HB9.out⟩
        first | rfl | (simp_all; done))
  by_cases h2 : n.op = 2
  ·
    have o1 : (n.op == 1) = false := by simp [h2]
    have p1 : (n.op != 1) = true := by simp [h2]
    have o2 : (n.op == 2) = true := by simp [h2]
    have p2 : (n.op != 2) = false := by simp [h2]
    have o3 : (n.op == 3) = false := by simp [h2]
    have p3 : (n.op != 3) = true := by simp [h2]
    have o4 : (n.op == 4) = false := by simp [h2]
    have p4 : (n.op != 4) = true := by simp [h2]
    obtain ⟨b, hb⟩ : ∃ b, isTx n.text = b := ⟨_, rfl⟩
    have HF : Hid (formP n = (b && ((kb && lb) && (fn && sp)))) := Lib.hid (by unfold formP; simp only [h2, HTX.out, HTY.out, HFN.out, HSP.out, hb]; simp)
    have HC := fun (W : World) => Lib.hid (rtext_any n.text W HTXT.out)
    rw [hb] at HC
    clear hb
    clear h2
    have HB9 := HB0
    by_cases hlb : n.ty.args.length = 0
    · have hl1 : ¬ ((0 : Int) < (n.ty.args.length : Int)) := by omega
      have HL : Hid (lb = true) := Lib.hid (HLB.out.symm.trans (decide_eq_true hlb))
      clear hlb HLB
      go_wp2_with (first
        | (go_at_call 65; (with_reducible refine (HC _).out.mono ?_); rintro e w1 ⟨rfl, rfl⟩; cases b)
        | fail)
      all_goals (
        go_ret
        rw [HF.out]
        try rw [HL.out]
        refine ⟨?_, HB9.out⟩
        first | rfl | (simp_all; done))
    · have hl1 : (0 : Int) < (n.ty.args.length : Int) := by omega
      have HL : Hid (lb = false) := Lib.hid (HLB.out.symm.trans (decide_eq_false hlb))
      clear hlb HLB
      go_wp2_with (first
        | (go_at_call 65; (with_reducible refine (HC _).out.mono ?_); rintro e w1 ⟨rfl, rfl⟩; cases b)
        | fail)
      all_goals (
        go_ret
        rw [HF.out]
        try rw [HL.out]
        refine ⟨?_, HB9.out⟩
        first | rfl | (simp_all; done))
  by_cases h3 : n.op = 3
  ·
    have o1 : (n.op == 1) = false := by simp [h3]
    have p1 : (n.op != 1) = true := by simp [h3]
    have o2 : (n.op == 2) = false := by simp [h3]
    have p2 : (n.op != 2) = true := by simp [h3]
    have o3 : (n.op == 3) = true := by simp [h3]
    have p3 : (n.op != 3) = false := by simp [h3]
    have o4 : (n.op == 4) = false := by simp [h3]
    have p4 : (n.op != 4) = true := by simp [h3]
    obtain ⟨f, hf⟩ : ∃ b, Wi.rgtB n.f0 n.f1 n.f2 n.f3 = b := ⟨_, rfl⟩
    have HF : Hid (formP n = (tx && ((kb && lb) && (f && sp)))) := Lib.hid (by unfold formP; simp only [h3, HTX.out, HTY.out, HFN.out, HSP.out, hf]; simp)
    have HC := fun (W : World) => Lib.hid (Wi.rright_any n.f0 n.f1 n.f2 n.f3 W)
    rw [hf] at HC
    clear hf
    clear h3
    have HB9 := HB0
    by_cases hlb : n.ty.args.length = 0
    · have hl1 : ¬ ((0 : Int) < (n.ty.args.length : Int)) := by omega
      have HL : Hid (lb = true) := Lib.hid (HLB.out.symm.trans (decide_eq_true hlb))
      clear hlb HLB
      go_wp2_with (first
        | (go_at_call 72; (with_reducible refine (HC _).out.mono ?_); rintro e w1 ⟨rfl, hb1⟩; have HB9 := Lib.hid (HB0.out.trans (hb1.mono HB0.out.size)); have hx9 := bl_blk hb1 HX.out; have e0 := cellN (i := 0) hx9 rfl; have e3 := cellN (i := 3) hx9 rfl; have e4 := cellN (i := 4) hx9 rfl; have e5 := cellN (i := 5) hx9 rfl; have e6 := cellN (i := 6) hx9 rfl; have e7 := cellN (i := 7) hx9 rfl; have e8 := cellN (i := 8) hx9 rfl; have e9 := cellN (i := 9) hx9 rfl; have e10 := cellN (i := 10) hx9 rfl; have e11 := cellN (i := 11) hx9 rfl; have e12 := cellN (i := 12) hx9 rfl; have e13 := cellN (i := 13) hx9 rfl; have cl9 := cell_lt hx9; clear hx9; clear hb1; cases f)
        | fail)
      all_goals (
        go_ret
        rw [HF.out]
        try rw [HL.out]
        refine ⟨?_, HB9.out⟩
        first | rfl | (simp_all; done))
    · have hl1 : (0 : Int) < (n.ty.args.length : Int) := by omega
      have HL : Hid (lb = false) := Lib.hid (HLB.out.symm.trans (decide_eq_false hlb))
      clear hlb HLB
      go_wp2_with (first
        | (go_at_call 72; (with_reducible refine (HC _).out.mono ?_); rintro e w1 ⟨rfl, hb1⟩; have HB9 := Lib.hid (HB0.out.trans (hb1.mono HB0.out.size)); have hx9 := bl_blk hb1 HX.out; have e0 := cellN (i := 0) hx9 rfl; have e3 := cellN (i := 3) hx9 rfl; have e4 := cellN (i := 4) hx9 rfl; have e5 := cellN (i := 5) hx9 rfl; have e6 := cellN (i := 6) hx9 rfl; have e7 := cellN (i := 7) hx9 rfl; have e8 := cellN (i := 8) hx9 rfl; have e9 := cellN (i := 9) hx9 rfl; have e10 := cellN (i := 10) hx9 rfl; have e11 := cellN (i := 11) hx9 rfl; have e12 := cellN (i := 12) hx9 rfl; have e13 := cellN (i := 13) hx9 rfl; have cl9 := cell_lt hx9; clear hx9; clear hb1; cases f)
        | fail)
      all_goals (
        go_ret
        rw [HF.out]
        try rw [HL.out]
        refine ⟨?_, HB9.out⟩
        first | rfl | (simp_all; done))
  by_cases h4 : n.op = 4
  ·
    have o1 : (n.op == 1) = false := by simp [h4]
    have p1 : (n.op != 1) = true := by simp [h4]
    have o2 : (n.op == 2) = false := by simp [h4]
    have p2 : (n.op != 2) = true := by simp [h4]
    have o3 : (n.op == 3) = false := by simp [h4]
    have p3 : (n.op != 3) = true := by simp [h4]
    have o4 : (n.op == 4) = true := by simp [h4]
    have p4 : (n.op != 4) = false := by simp [h4]
    obtain ⟨b, hb⟩ : ∃ b, isTx n.text = b := ⟨_, rfl⟩
    obtain ⟨g, hg⟩ : ∃ b, Tg.RightB n.e n.l n.lt = b := ⟨_, rfl⟩
    have HF : Hid (formP n = (b && ((kb && lb) && (fn && g)))) := Lib.hid (by unfold formP; simp only [h4, HTX.out, HTY.out, HFN.out, HSP.out, hb, hg]; simp)
    have HC := fun (W : World) => Lib.hid (rtext_any n.text W HTXT.out)
    rw [hb] at HC
    clear hb
    have HC2 := fun (W : World) => Lib.hid (Tg.right_any n.e n.l n.lt n.acc W)
    rw [hg] at HC2
    clear hg
    clear h4
    have HB9 := HB0
    by_cases hlb : n.ty.args.length = 0
    · have hl1 : ¬ ((0 : Int) < (n.ty.args.length : Int)) := by omega
      have HL : Hid (lb = true) := Lib.hid (HLB.out.symm.trans (decide_eq_true hlb))
      clear hlb HLB
      go_wp2_with (first
        | (go_at_call 65; (with_reducible refine (HC _).out.mono ?_); rintro e w1 ⟨rfl, rfl⟩; cases b)
        | (go_at_call 73; (with_reducible refine (HC2 _).out.mono ?_); rintro e w1 ⟨rfl, rfl⟩; have HB9 := Lib.hid (HB0.out.alloc HB0.out.size (.cells #[.int .i64 n.e, .int .i64 n.l, .int .i64 n.lt, .bool n.acc] 49)); cases g)
        | fail)
      all_goals (
        go_ret
        rw [HF.out]
        try rw [HL.out]
        refine ⟨?_, HB9.out⟩
        first | rfl | (simp_all; done))
    · have hl1 : (0 : Int) < (n.ty.args.length : Int) := by omega
      have HL : Hid (lb = false) := Lib.hid (HLB.out.symm.trans (decide_eq_false hlb))
      clear hlb HLB
      go_wp2_with (first
        | (go_at_call 65; (with_reducible refine (HC _).out.mono ?_); rintro e w1 ⟨rfl, rfl⟩; cases b)
        | (go_at_call 73; (with_reducible refine (HC2 _).out.mono ?_); rintro e w1 ⟨rfl, rfl⟩; have HB9 := Lib.hid (HB0.out.alloc HB0.out.size (.cells #[.int .i64 n.e, .int .i64 n.l, .int .i64 n.lt, .bool n.acc] 49)); cases g)
        | fail)
      all_goals (
        go_ret
        rw [HF.out]
        try rw [HL.out]
        refine ⟨?_, HB9.out⟩
        first | rfl | (simp_all; done))
  ·
    have o1 : (n.op == 1) = false := by simp [h1]
    have p1 : (n.op != 1) = true := by simp [h1]
    have o2 : (n.op == 2) = false := by simp [h2]
    have p2 : (n.op != 2) = true := by simp [h2]
    have o3 : (n.op == 3) = false := by simp [h3]
    have p3 : (n.op != 3) = true := by simp [h3]
    have o4 : (n.op == 4) = false := by simp [h4]
    have p4 : (n.op != 4) = true := by simp [h4]
    have HF : Hid (formP n = (tx && ((kb && lb) && (fn && sp)))) := Lib.hid (by unfold formP; simp only [h1, h2, h3, h4, HTX.out, HTY.out, HFN.out, HSP.out]; simp)
    clear h1 h2 h3 h4
    have HB9 := HB0
    by_cases hlb : n.ty.args.length = 0
    · have hl1 : ¬ ((0 : Int) < (n.ty.args.length : Int)) := by omega
      have HL : Hid (lb = true) := Lib.hid (HLB.out.symm.trans (decide_eq_true hlb))
      clear hlb HLB
      go_wp2_with (first
        | fail)
      all_goals (
        go_ret
        rw [HF.out]
        try rw [HL.out]
        refine ⟨?_, HB9.out⟩
        first | rfl | (simp_all; done))
    · have hl1 : (0 : Int) < (n.ty.args.length : Int) := by omega
      have HL : Hid (lb = false) := Lib.hid (HLB.out.symm.trans (decide_eq_false hlb))
      clear hlb HLB
      go_wp2_with (first
        | fail)
      all_goals (
        go_ret
        rw [HF.out]
        try rw [HL.out]
        refine ⟨?_, HB9.out⟩
        first | rfl | (simp_all; done))
end Go.Proofs.YtllnamhgnbdkmaaGreatDoor
set_option linter.unusedVariables false
set_option linter.unusedSimpArgs false
namespace Go.Proofs.YtllnamhgnbdkmaaGreatDoor
open Go.RowKit
theorem risG_short {l : List Int} (h : l.length ≤ 1) : risG l = true := by
  match l, h with
  | [], _ => rfl
  | [x], _ => rfl
theorem chk_shape {c1 c2 r1 r2 q : Bool} (f : Bool) (h : (c1 && c2 && (r1 && r2)) = q) : (if c1 = true ∧ c2 = true then (if r1 = true ∧ r2 = true then (if f = true then (0:Int) else 112) else 111) else 111) = if q = true then (if f = true then 0 else 112) else 111 := by
  subst h
  cases c1 <;> cases c2 <;> cases r1 <;> cases r2 <;> rfl
theorem chk_of {a : List Gn} {n : Gn} {o : Gop} {q : Bool} (e : opP n.op = some o) (h : ((decide (o.least ≤ (n.ins.length : Int) ∧ (n.ins.length : Int) ≤ o.most) && decide (0 ≤ (n.side.length : Int) ∧ (n.side.length : Int) ≤ o.side)) && (readP a n.ins (-1) && readP a n.side (-1))) = q) : chkN a n = if q = true then (if formP n = true then 0 else 112) else 111 := by
  unfold chkN
  rw [e]
  exact chk_shape _ h
theorem chkN_eq (a : List Gn) (n : Gn) : chkN a n = if 1 ≤ n.op ∧ n.op ≤ 6 then (if plcP a n = true then (if formP n = true then 0 else 112) else 111) else 110 := by
  by_cases hr : 1 ≤ n.op ∧ n.op ≤ 6
  · rw [if_pos hr]
    by_cases h1 : n.op = 1
    · obtain ⟨g, e, e1, e2, e3⟩ : ∃ g, opP n.op = some g ∧ g.least = 0 ∧ g.most = 0 ∧ g.side = 0 := ⟨gop1, by rw [h1]; rfl, rfl, rfl, rfl⟩
      refine chk_of e ?_
      rw [readP_both, readP_both]
      unfold plcP
      rw [if_pos h1, Bool.eq_iff_iff]
      simp only [e1, e2, e3, Bool.and_eq_true, decide_eq_true_eq]
      constructor
      · rintro ⟨⟨⟨h1, h2⟩, h3, h4⟩, ⟨h5, h6⟩, h7, h8⟩
        exact ⟨h5, h7, by omega, by omega⟩
      · rintro ⟨h5, h7, h1, h2⟩
        exact ⟨⟨by omega, by omega⟩, ⟨h5, risG_short (by omega)⟩, h7, risG_short (by omega)⟩
    by_cases h2 : n.op = 2
    · obtain ⟨g, e, e1, e2, e3⟩ : ∃ g, opP n.op = some g ∧ g.least = 1 ∧ g.most = 1 ∧ g.side = 4 := ⟨gop2, by rw [h2]; rfl, rfl, rfl, rfl⟩
      refine chk_of e ?_
      rw [readP_both, readP_both]
      unfold plcP
      rw [if_neg h1, if_pos h2, Bool.eq_iff_iff]
      simp only [e1, e2, e3, Bool.and_eq_true, decide_eq_true_eq]
      constructor
      · rintro ⟨⟨⟨h1, h2⟩, h3, h4⟩, ⟨h5, h6⟩, h7, h8⟩
        exact ⟨h5, h7, by omega, h8, by omega⟩
      · rintro ⟨h5, h7, h1, h8, h2⟩
        exact ⟨⟨by omega, by omega⟩, ⟨h5, risG_short (by omega)⟩, h7, h8⟩
    by_cases h5 : n.op = 5
    · obtain ⟨g, e, e1, e2, e3⟩ : ∃ g, opP n.op = some g ∧ g.least = 1 ∧ g.most = 4 ∧ g.side = 0 := ⟨gop5, by rw [h5]; rfl, rfl, rfl, rfl⟩
      refine chk_of e ?_
      rw [readP_both, readP_both]
      unfold plcP
      rw [if_neg h1, if_neg h2, if_pos h5, Bool.eq_iff_iff]
      simp only [e1, e2, e3, Bool.and_eq_true, decide_eq_true_eq]
      constructor
      · rintro ⟨⟨⟨h1, h2⟩, h3, h4⟩, ⟨h5, h6⟩, h7, h8⟩
        exact ⟨h5, h7, ⟨h6, by omega, by omega⟩, by omega⟩
      · rintro ⟨h5, h7, ⟨h6, h1, h2⟩, h3⟩
        exact ⟨⟨by omega, by omega⟩, ⟨h5, h6⟩, h7, risG_short (by omega)⟩
    have hx : n.op = 3 ∨ n.op = 4 ∨ n.op = 6 := by omega
    have e : ∃ g, opP n.op = some g ∧ g.least = 1 ∧ g.most = 1 ∧ g.side = 0 := by
      rcases hx with h | h | h <;> rw [h]
      · exact ⟨gop3, rfl, rfl, rfl, rfl⟩
      · exact ⟨gop4, rfl, rfl, rfl, rfl⟩
      · exact ⟨gop6, rfl, rfl, rfl, rfl⟩
    obtain ⟨g, e, e1, e2, e3⟩ := e
    refine chk_of e ?_
    rw [readP_both, readP_both]
    unfold plcP
    rw [if_neg h1, if_neg h2, if_neg h5, Bool.eq_iff_iff]
    simp only [e1, e2, e3, Bool.and_eq_true, decide_eq_true_eq]
    constructor
    · rintro ⟨⟨⟨h1, h2⟩, h3, h4⟩, ⟨h5, h6⟩, h7, h8⟩
      exact ⟨h5, h7, by omega, by omega⟩
    · rintro ⟨h5, h7, h1, h2⟩
      exact ⟨⟨by omega, by omega⟩, ⟨h5, risG_short (by omega)⟩, h7, risG_short (by omega)⟩
  · rw [if_neg hr]
    have e : opP n.op = none := by
      unfold opP
      rw [List.find?_eq_none]
      intro x hx
      simp only [gops, List.mem_cons, List.not_mem_nil, or_false] at hx
      rcases hx with rfl | rfl | rfl | rfl | rfl | rfl <;> simp only [gop1, gop2, gop3, gop4, gop5, gop6, beq_iff_eq] <;> omega
    unfold chkN
    rw [e]
set_option maxRecDepth 100000 in
set_option maxHeartbeats 4000000 in
theorem rcheck_any (w : World) (S : Nat → Prop) (d : Nat) (gv : Value) (l : List Gn) (hL : GsAt w S d gv l) (hs : ∀ n ∈ l, SmN n) (hlen : l.length ≤ 1000000) :
    Calls Tryz.prog 14 #[gv] w fun e w' => e = .returned (.tuple #[.int .i64 ((chkAll l).1 : Int), .int .i64 (chkAll l).2]) ∧ Below w.heap.size w w' := by
  obtain ⟨GA, gc, rfl⟩ := hL.form
  have HL := Lib.hid hL
  have HS := Lib.hid hs
  clear hL hs
  by_cases h0 : l.length = 0
  · have HC : Hid (chkAll l = (0, 112)) := Lib.hid (by unfold chkAll; rw [if_pos (.inl h0)])
    have hz : ((l.length : Int) == 0) = true := by simp [h0]
    clear h0
    go_enter Tryz.func14, Tryz.ntmps14
    go_wp2_with (fail)
    refine bodyPost_ret (v := .tuple #[.int .i64 0, .int .i64 112]) (by simp [results, Tryz.results14, go_sem]) rfl ?_
    rw [HC.out]
    exact ⟨rfl, Below.refl _ _⟩
  have hz : ((l.length : Int) == 0) = false := by simp [h0]
  by_cases h32 : 32 < l.length
  · have HC : Hid (chkAll l = (0, 112)) := Lib.hid (by unfold chkAll; rw [if_pos (.inr h32)])
    have hgt : (32 : Int) < (l.length : Int) := by omega
    clear h0
    go_enter Tryz.func14, Tryz.ntmps14
    go_wp2_with (fail)
    refine bodyPost_ret (v := .tuple #[.int .i64 0, .int .i64 112]) (by simp [results, Tryz.results14, go_sem]) rfl ?_
    rw [HC.out]
    exact ⟨rfl, Below.refl _ _⟩
  have hgt : ¬ ((32 : Int) < (l.length : Int)) := by omega
  have H0 := Lib.hid h0
  have h32' : l.length ≤ 32 := by omega
  have HF : Hid (FewG l) := Lib.hid fun n hn => by have := HS.out n hn; have h1 := this.ins; have h2 := this.side; omega
  clear h0 h32
  go_enter Tryz.func14, Tryz.ntmps14
  go_wp2_with (fail)
  go_loopw [4] (fun i wr => ∃ j : Nat, i = .int .i64 j ∧ j ≤ l.length ∧ Hid (∀ i, i < j → okN l i = 0) ∧ Hid (Below w.heap.size w wr)) (fun i _ => l.length - (intOf i).toNat)
  case atStart => exact ⟨0, rfl, Nat.zero_le _, Lib.hid (fun i hi => by omega), Lib.hid (Below.refl _ _)⟩
  case round =>
    obtain ⟨j, rfl, hj, HK, HBR⟩ := hrel
    by_cases hlt : j < l.length
    · have hjl : (j : Int) < (l.length : Int) := by omega
      have HGS := Lib.hid (HL.out.below HBR.out)
      have hat := HGS.out.at hlt
      have hjn : okN l j = chkN (l.take j) l[j] := by unfold okN; rw [List.getElem?_eq_getElem hlt]
      rw [chkN_eq] at hjn
      have hsm := HS.out _ (List.getElem_mem hlt)
      have hin : ∀ W, Below wr.heap.size wr W → Calls Tryz.prog 41 #[.slice GA l.length gc, .int .i64 j] W fun e w' => e = .returned (.bool (plcP (l.take j) l[j])) ∧ Below W.heap.size W w' := fun W hb => rinput_any W S d _ l j hlt (HGS.out.below hb) HF.out hlen
      generalize l[j] = n at *
      obtain ⟨b, o, rfl, hbl, hS, IA, SA, A, ic, sc, c, hN, a0, a1, a2, a3, a4, a5, a6, a7, a8, a9, a10, a11, a12, a13⟩ := hat
      have hty : TyAt wr S d (.agg #[.int .i64 n.ty.kind, .slice A n.ty.args.length c]) n.ty := by
        obtain ⟨_, _, _, _, _, _, e, h1, h2, h3⟩ := hN
        unfold Gn.val at e
        injection e with e
        simp only [Array.mk.injEq, List.cons.injEq, Value.slice.injEq, and_true, true_and] at e
        obtain ⟨⟨rfl, rfl⟩, ⟨rfl, rfl⟩, rfl, rfl⟩ := e
        exact h3
      have HFM : Hid (∀ W, Below wr.heap.size wr W → Calls Tryz.prog 42 #[.agg #[.int .i64 n.op, .slice IA n.ins.length ic, .slice SA n.side.length sc, .string ⟨n.text.toArray⟩, .int .i64 n.ty.kind, .slice A n.ty.args.length c, .int .i64 n.f0, .int .i64 n.f1, .int .i64 n.f2, .int .i64 n.f3, .int .i64 n.e, .int .i64 n.l, .int .i64 n.lt, .bool n.acc]] W fun e w' => e = .returned (.bool (formP n)) ∧ Below W.heap.size W w') := Lib.hid fun W hb => rform_any W S d 30 n IA SA A ic sc c (TyAt.move (fun b hb' hl => ⟨hb', fun _ => World.cell?_of_block (hb.block b hl)⟩) _ _ _ hty) hsm.ty (by have := hsm.text; omega)
      have HIN := Lib.hid hin
      have HJ := Lib.hid hjn
      have hbr := HBR.out.size
      clear hN hin hjn hsm hty
      obtain ⟨pl, hpl⟩ : ∃ q, plcP (l.take j) n = q := ⟨_, rfl⟩
      obtain ⟨fm, hfm⟩ : ∃ q, formP n = q := ⟨_, rfl⟩
      rw [hpl] at HIN HJ
      rw [hfm] at HFM HJ
      clear hpl hfm
      by_cases hop : 1 ≤ n.op ∧ n.op ≤ 6
      · have HJ2 := Lib.hid (HJ.out.trans (if_pos hop))
        obtain ⟨hop1, hop2⟩ := hop
        have hop3 : ¬ (n.op < 1) := by omega
        have hop4 : ¬ (6 < n.op) := by omega
        clear HJ hop1 hop2
        cases pl with
        | false =>
          have HE : Hid (chkAll l = (j, 111)) := Lib.hid (by have := chkAll_bad H0.out h32' hlt HK.out (by rw [HJ2.out]; simp); rwa [HJ2.out] at this)
          go_wp2_with (go_at_call 41; (with_reducible refine (HIN.out _ (Below.refl _ _)).mono ?_); rintro e w1 ⟨rfl, hb1⟩; have HB1 := Lib.hid hb1; clear hb1)
          refine bodyPost_ret (v := .tuple #[.int .i64 (j : Int), .int .i64 111]) (by simp [results, Tryz.results14, go_sem]) rfl ?_
          rw [HE.out]
          exact ⟨rfl, HBR.out.trans (HB1.out.mono hbr)⟩
        | true =>
          cases fm with
          | false =>
            have HE : Hid (chkAll l = (j, 112)) := Lib.hid (by have := chkAll_bad H0.out h32' hlt HK.out (by rw [HJ2.out]; simp); rwa [HJ2.out] at this)
            go_wp2_with (first
              | (go_at_call 41; (with_reducible refine (HIN.out _ (Below.refl _ _)).mono ?_); rintro e w1 ⟨rfl, hb1⟩; have a0 := (hb1.cell (p := ⟨b, o + j * 14, none⟩) hbl).trans a0; have a1 := (hb1.cell (p := ⟨b, o + j * 14 + 1, none⟩) hbl).trans a1; have a2 := (hb1.cell (p := ⟨b, o + j * 14 + 2, none⟩) hbl).trans a2; have a3 := (hb1.cell (p := ⟨b, o + j * 14 + 3, none⟩) hbl).trans a3; have a4 := (hb1.cell (p := ⟨b, o + j * 14 + 4, none⟩) hbl).trans a4; have a5 := (hb1.cell (p := ⟨b, o + j * 14 + 5, none⟩) hbl).trans a5; have a6 := (hb1.cell (p := ⟨b, o + j * 14 + 6, none⟩) hbl).trans a6; have a7 := (hb1.cell (p := ⟨b, o + j * 14 + 7, none⟩) hbl).trans a7; have a8 := (hb1.cell (p := ⟨b, o + j * 14 + 8, none⟩) hbl).trans a8; have a9 := (hb1.cell (p := ⟨b, o + j * 14 + 9, none⟩) hbl).trans a9; have a10 := (hb1.cell (p := ⟨b, o + j * 14 + 10, none⟩) hbl).trans a10; have a11 := (hb1.cell (p := ⟨b, o + j * 14 + 11, none⟩) hbl).trans a11; have a12 := (hb1.cell (p := ⟨b, o + j * 14 + 12, none⟩) hbl).trans a12; have a13 := (hb1.cell (p := ⟨b, o + j * 14 + 13, none⟩) hbl).trans a13; have HB1 := Lib.hid hb1; clear hb1)
              | (go_at_call 42; (with_reducible refine (HFM.out _ HB1.out).mono ?_); rintro e w2 ⟨rfl, hb2⟩; have HB2 := Lib.hid (HB1.out.trans (hb2.mono HB1.out.size)); clear hb2)
              | fail)
            refine bodyPost_ret (v := .tuple #[.int .i64 (j : Int), .int .i64 112]) (by simp [results, Tryz.results14, go_sem]) rfl ?_
            rw [HE.out]
            exact ⟨rfl, HBR.out.trans (HB2.out.mono hbr)⟩
          | true =>
            have HK' : Hid (∀ i, i < j + 1 → okN l i = 0) := Lib.hid fun i hi => by
              rcases Nat.lt_or_ge i j with h | h
              · exact HK.out i h
              · obtain rfl : i = j := by omega
                rw [HJ2.out]; rfl
            go_wp2_with (first
              | (go_at_call 41; (with_reducible refine (HIN.out _ (Below.refl _ _)).mono ?_); rintro e w1 ⟨rfl, hb1⟩; have a0 := (hb1.cell (p := ⟨b, o + j * 14, none⟩) hbl).trans a0; have a1 := (hb1.cell (p := ⟨b, o + j * 14 + 1, none⟩) hbl).trans a1; have a2 := (hb1.cell (p := ⟨b, o + j * 14 + 2, none⟩) hbl).trans a2; have a3 := (hb1.cell (p := ⟨b, o + j * 14 + 3, none⟩) hbl).trans a3; have a4 := (hb1.cell (p := ⟨b, o + j * 14 + 4, none⟩) hbl).trans a4; have a5 := (hb1.cell (p := ⟨b, o + j * 14 + 5, none⟩) hbl).trans a5; have a6 := (hb1.cell (p := ⟨b, o + j * 14 + 6, none⟩) hbl).trans a6; have a7 := (hb1.cell (p := ⟨b, o + j * 14 + 7, none⟩) hbl).trans a7; have a8 := (hb1.cell (p := ⟨b, o + j * 14 + 8, none⟩) hbl).trans a8; have a9 := (hb1.cell (p := ⟨b, o + j * 14 + 9, none⟩) hbl).trans a9; have a10 := (hb1.cell (p := ⟨b, o + j * 14 + 10, none⟩) hbl).trans a10; have a11 := (hb1.cell (p := ⟨b, o + j * 14 + 11, none⟩) hbl).trans a11; have a12 := (hb1.cell (p := ⟨b, o + j * 14 + 12, none⟩) hbl).trans a12; have a13 := (hb1.cell (p := ⟨b, o + j * 14 + 13, none⟩) hbl).trans a13; have HB1 := Lib.hid hb1; clear hb1)
              | (go_at_call 42; (with_reducible refine (HFM.out _ HB1.out).mono ?_); rintro e w2 ⟨rfl, hb2⟩; have HB2 := Lib.hid (HB1.out.trans (hb2.mono HB1.out.size)); clear hb2)
              | fail)
            go_roundw
            case rel => exact ⟨j + 1, by go_num, by omega, HK', Lib.hid (HBR.out.trans (HB2.out.mono hbr))⟩
            case measure => simp [intOf]; omega
      · have HJ2 := Lib.hid (HJ.out.trans (if_neg hop))
        have HE : Hid (chkAll l = (j, 110)) := Lib.hid (by have := chkAll_bad H0.out h32' hlt HK.out (by rw [HJ2.out]; simp); rwa [HJ2.out] at this)
        by_cases hlo : n.op < 1
        · clear hop
          go_wp2_with (fail)
          refine bodyPost_ret (v := .tuple #[.int .i64 (j : Int), .int .i64 110]) (by simp [results, Tryz.results14, go_sem]) rfl ?_
          rw [HE.out]
          exact ⟨rfl, HBR.out⟩
        · have hhi : 6 < n.op := by omega
          clear hop
          go_wp2_with (fail)
          refine bodyPost_ret (v := .tuple #[.int .i64 (j : Int), .int .i64 110]) (by simp [results, Tryz.results14, go_sem]) rfl ?_
          rw [HE.out]
          exact ⟨rfl, HBR.out⟩
    · obtain rfl : j = l.length := by omega
      have HC : Hid (chkAll l = (0, 0)) := Lib.hid (chkAll_ok H0.out h32' HK.out)
      have hjl : ¬ ((l.length : Int) < (l.length : Int)) := by omega
      go_wp2_with (fail)
      refine bodyPost_ret (v := .tuple #[.int .i64 0, .int .i64 0]) (by simp [results, Tryz.results14, go_sem]) rfl ?_
      rw [HC.out]
      exact ⟨rfl, HBR.out⟩
end Go.Proofs.YtllnamhgnbdkmaaGreatDoor
