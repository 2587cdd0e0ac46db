/-
Stage 11: formed: all that is no place.
-/
import Derived.Test.YtllnamhgnbdkmaaGreatDoorJc
set_option linter.unusedVariables false
set_option linter.unusedSimpArgs false
namespace Go.Proofs.YtllnamhgnbdkmaaGreatDoor
open Go.RowKit

/-- Four fields are held against four. -/
theorem eq4i (T : TypeId) (hT : Tryz.prog.underlying T = some (.struct (Tryz.prog.fieldsOf T))) (hs : Tryz.prog.stoodInHeld T = false) (m0 m1 m2 m3 : String) (hf : (Tryz.prog.fieldsOf T).toList.map (fun f => (f.name, f.type, f.offset)) = [(m0, 3, 0), (m1, 3, 1), (m2, 3, 2), (m3, 3, 3)]) (h0 : m0 ≠ "_") (h1 : m1 ≠ "_") (h2 : m2 ≠ "_") (h3 : m3 ≠ "_") (w : World) (a b c d a' b' c' d' : Int) :
    (Op.equalIn 10000 T (.agg #[.int .i64 a, .int .i64 b, .int .i64 c, .int .i64 d]) (.agg #[.int .i64 a', .int .i64 b', .int .i64 c', .int .i64 d'])).run Tryz.prog w = .ok (a == a' && b == b' && c == c' && d == d') w := by
  rw [run_equalIn_agg w 9999 T _ _ hT hs]
  generalize (Tryz.prog.fieldsOf T).toList = fs at hf
  rcases fs with _ | ⟨f0, _ | ⟨f1, _ | ⟨f2, _ | ⟨f3, _ | ⟨f4, r⟩⟩⟩⟩⟩
  · simp at hf
  · simp at hf
  · simp at hf
  · simp at hf
  · simp only [List.map_cons, List.map_nil, List.cons.injEq, Prod.mk.injEq, and_true] at hf
    obtain ⟨⟨n0, t0, o0⟩, ⟨n1, t1, o1⟩, ⟨n2, t2, o2⟩, ⟨n3, t3, o3⟩⟩ := hf
    simp [Op.eqFields, n0, t0, o0, n1, t1, o1, n2, t2, o2, n3, t3, o3, h0, h1, h2, h3, part, go_sem, Tryz.underlying3]
    by_cases ha : a = a' <;> by_cases hb : b = b' <;> by_cases hc : c = c' <;> by_cases hd : d = d' <;> simp [ha, hb, hc, hd]
  · simp at hf

theorem eq4b (T : TypeId) (hT : Tryz.prog.underlying T = some (.struct (Tryz.prog.fieldsOf T))) (hs : Tryz.prog.stoodInHeld T = false) (m0 m1 m2 m3 : String) (hf : (Tryz.prog.fieldsOf T).toList.map (fun f => (f.name, f.type, f.offset)) = [(m0, 3, 0), (m1, 3, 1), (m2, 3, 2), (m3, 4, 3)]) (h0 : m0 ≠ "_") (h1 : m1 ≠ "_") (h2 : m2 ≠ "_") (h3 : m3 ≠ "_") (w : World) (a b c a' b' c' : Int) (d d' : Bool) :
    (Op.equalIn 10000 T (.agg #[.int .i64 a, .int .i64 b, .int .i64 c, .bool d]) (.agg #[.int .i64 a', .int .i64 b', .int .i64 c', .bool d'])).run Tryz.prog w = .ok (a == a' && b == b' && c == c' && d == d') w := by
  rw [run_equalIn_agg w 9999 T _ _ hT hs]
  generalize (Tryz.prog.fieldsOf T).toList = fs at hf
  rcases fs with _ | ⟨f0, _ | ⟨f1, _ | ⟨f2, _ | ⟨f3, _ | ⟨f4, r⟩⟩⟩⟩⟩
  · simp at hf
  · simp at hf
  · simp at hf
  · simp at hf
  · simp only [List.map_cons, List.map_nil, List.cons.injEq, Prod.mk.injEq, and_true] at hf
    obtain ⟨⟨n0, t0, o0⟩, ⟨n1, t1, o1⟩, ⟨n2, t2, o2⟩, ⟨n3, t3, o3⟩⟩ := hf
    simp [Op.eqFields, n0, t0, o0, n1, t1, o1, n2, t2, o2, n3, t3, o3, h0, h1, h2, h3, part, go_sem, Tryz.underlying3, Tryz.underlying4]
    by_cases ha : a = a' <;> by_cases hb : b = b' <;> by_cases hc : c = c' <;> by_cases hd : d = d' <;> simp [ha, hb, hc, hd]
  · simp at hf

theorem Tryz.eqFn (w : World) (a b c d a' b' c' d' : Int) : (binOp .eql 69 (.agg #[.int .i64 a, .int .i64 b, .int .i64 c, .int .i64 d]) (.agg #[.int .i64 a', .int .i64 b', .int .i64 c', .int .i64 d'])).run Tryz.prog w = .ok (.bool (a == a' && b == b' && c == c' && d == d')) w := by
  rw [run_eql_struct, eq4i 69 (by kernel_rfl) (by kernel_rfl) "Kind" "Size" "Period" "Offset" (by kernel_rfl) (by decide) (by decide) (by decide) (by decide)]; rfl
theorem Tryz.eqSp (w : World) (a b c a' b' c' : Int) (d d' : Bool) : (binOp .eql 71 (.agg #[.int .i64 a, .int .i64 b, .int .i64 c, .bool d]) (.agg #[.int .i64 a', .int .i64 b', .int .i64 c', .bool d'])).run Tryz.prog w = .ok (.bool (a == a' && b == b' && c == c' && d == d')) w := by
  rw [run_eql_struct, eq4b 71 (by kernel_rfl) (by kernel_rfl) "Early" "Late" "Lateness" "Accumulate" (by kernel_rfl) (by decide) (by decide) (by decide) (by decide)]; rfl
theorem Tryz.guFn (op : BinOp) (w : World) (x y : Operand) (xs ys : Array Value) : (eqGuard op 69 x y (.agg xs) (.agg ys)).run Tryz.prog w = .ok () w := run_eqGuard_agg w op _ _ _ _ _ (by kernel_rfl)
theorem Tryz.guSp (op : BinOp) (w : World) (x y : Operand) (xs ys : Array Value) : (eqGuard op 71 x y (.agg xs) (.agg ys)).run Tryz.prog w = .ok () w := run_eqGuard_agg w op _ _ _ _ _ (by kernel_rfl)

/-- Is all that is no place as it has to be? -/
def noFn (n : Gn) : Bool := n.f0 == 0 && n.f1 == 0 && n.f2 == 0 && n.f3 == 0
def noSp (n : Gn) : Bool := n.e == 0 && n.l == 0 && n.lt == 0 && n.acc == false
def noTy (n : Gn) : Bool := n.ty.kind == 0 && decide (n.ty.args.length = 0)
def noTx (n : Gn) : Bool := n.text.isEmpty
def formP (n : Gn) : Bool :=
  (if n.op = 2 ∨ n.op = 4 then isTx n.text else noTx n) && ((if n.op = 1 then (Knd.measureT 6 n.ty).isSome else noTy n) && ((if n.op = 3 then Wi.rgtB n.f0 n.f1 n.f2 n.f3 else noFn n) && (if n.op = 4 then Tg.RightB n.e n.l n.lt else noSp n)))

/-- A node's cells. -/
def Gn.row (n : Gn) (IA SA A : Option Addr) (ic sc c : Nat) : Array Value := #[.int .i64 n.op, .slice IA n.ins.length ic, .slice SA n.side.length sc, .string ⟨n.text.toArray⟩, .int .i64 n.ty.kind, .slice A n.ty.args.length c, .int .i64 n.f0, .int .i64 n.f1, .int .i64 n.f2, .int .i64 n.f3, .int .i64 n.e, .int .i64 n.l, .int .i64 n.lt, .bool n.acc]

set_option maxRecDepth 100000 in
set_option maxHeartbeats 2000000 in
theorem formed_any (w : World) (S : Nat → Prop) (d : Nat) (n : Gn) (IA SA A : Option Addr) (ic sc c : Nat) (hT : TyAt w S d (.agg #[.int .i64 n.ty.kind, .slice A n.ty.args.length c]) n.ty) (hG : Knd.Glob w) :
    Calls Tryz.prog 69 #[.agg #[.int .i64 n.op, .slice IA n.ins.length ic, .slice SA n.side.length sc, .string ⟨n.text.toArray⟩, .int .i64 n.ty.kind, .slice A n.ty.args.length c, .int .i64 n.f0, .int .i64 n.f1, .int .i64 n.f2, .int .i64 n.f3, .int .i64 n.e, .int .i64 n.l, .int .i64 n.lt, .bool n.acc]] w fun e w' => e = .returned (.bool (formP n)) ∧ Below w.heap.size w w' := by
  have hGl := hG.lt
  obtain ⟨W0, hW0⟩ : ∃ W0, w.alloc (.cells #[.int .i64 n.op, .slice IA n.ins.length ic, .slice SA n.side.length sc, .string ⟨n.text.toArray⟩, .int .i64 n.ty.kind, .slice A n.ty.args.length c, .int .i64 n.f0, .int .i64 n.f1, .int .i64 n.f2, .int .i64 n.f3, .int .i64 n.e, .int .i64 n.l, .int .i64 n.lt, .bool n.acc] 83) = W0 := ⟨_, rfl⟩
  have hx : W0.heap[w.heap.size]? = some (.cells #[.int .i64 n.op, .slice IA n.ins.length ic, .slice SA n.side.length sc, .string ⟨n.text.toArray⟩, .int .i64 n.ty.kind, .slice A n.ty.args.length c, .int .i64 n.f0, .int .i64 n.f1, .int .i64 n.f2, .int .i64 n.f3, .int .i64 n.e, .int .i64 n.l, .int .i64 n.lt, .bool n.acc] 83 (0, 0)) := by rw [← hW0]; exact heap_alloc_new w _
  have hB0 : Below w.heap.size w W0 := by rw [← hW0]; exact bl_al (Below.refl _ _) _
  have HT := Lib.hid (hT.below hB0)
  have HG := Lib.hid (hG.kept (hB0.block _ hGl))
  have HW0 := Lib.hid hW0
  have HX := Lib.hid hx
  have HB0 := Lib.hid hB0
  clear hT hG hW0 hx hB0
  go_enter Tryz.func69, Tryz.ntmps69
  go_upto_region 1 with (fail)
  rw [HW0.out]
  clear HW0
  have c0 := cellN (i := 0) HX.out rfl
  have c3 := cellN (i := 3) HX.out rfl
  have c4 := cellN (i := 4) HX.out rfl
  have c5 := cellN (i := 5) HX.out rfl
  have c6 := cellN (i := 6) HX.out rfl
  have c7 := cellN (i := 7) HX.out rfl
  have c8 := cellN (i := 8) HX.out rfl
  have c9 := cellN (i := 9) HX.out rfl
  have c10 := cellN (i := 10) HX.out rfl
  have c11 := cellN (i := 11) HX.out rfl
  have c12 := cellN (i := 12) HX.out rfl
  have c13 := cellN (i := 13) HX.out rfl
  have cl := cell_lt HX.out
  go_upto_region 2 with (fail)
  generalize htx : n.text.isEmpty = tx
  obtain ⟨ty, hty⟩ : ∃ b, noTy n = b := ⟨_, rfl⟩
  obtain ⟨fn, hfn⟩ : ∃ b, noFn n = b := ⟨_, rfl⟩
  obtain ⟨sp, hsp⟩ : ∃ b, noSp n = b := ⟨_, rfl⟩
  have HTX : Hid (noTx n = tx) := Lib.hid htx
  have HTY := Lib.hid hty
  have HFN := Lib.hid hfn
  have HSP := Lib.hid hsp
  clear htx hty hfn hsp
  go_cut [4] from 10 to 21 (fun s4 wx => s4 = .bool ty ∧ wx = W0)
  case first =>
    obtain ⟨kb, hkb⟩ : ∃ b, (n.ty.kind == 0) = b := ⟨_, rfl⟩
    obtain ⟨lb, hlb⟩ : ∃ b, ((n.ty.args.length : Int) == 0) = b := ⟨_, rfl⟩
    have HK : Hid (ty = (kb && lb)) := Lib.hid (by
      rw [← HTY.out, ← hkb, ← hlb]
      unfold noTy
      congr 1
      rw [Bool.eq_iff_iff]
      simp)
    cases kb <;> cases lb <;> (
      go_wp2_with (fail)
      go_meet
      exact ⟨by rw [HK.out]; rfl, rfl⟩)
  case rest =>
  obtain ⟨rfl, rfl⟩ := hcut
  have g1 := fun w' => Tryz.guFn .eql w'
  have g2 := fun w' => Tryz.guSp .eql w'
  have q1 : ∀ w', (binOp .eql 69 (.agg #[.int .i64 n.f0, .int .i64 n.f1, .int .i64 n.f2, .int .i64 n.f3]) (.agg #[.int .i64 0, .int .i64 0, .int .i64 0, .int .i64 0])).run Tryz.prog w' = .ok (.bool fn) w' := fun w' => by rw [Tryz.eqFn, ← HFN.out]; rfl
  have q2 : ∀ w', (binOp .eql 71 (.agg #[.int .i64 n.e, .int .i64 n.l, .int .i64 n.lt, .bool n.acc]) (.agg #[.int .i64 0, .int .i64 0, .int .i64 0, .bool false])).run Tryz.prog w' = .ok (.bool sp) w' := fun w' => by rw [Tryz.eqSp, ← HSP.out]; rfl
  go_upto_region 5 with (fail)
  clear g1 g2 q1 q2
  by_cases h1 : n.op = 1
  · have o1 : (n.op == 1) = true := by simp [h1]
    have o2 : (n.op == 2) = false := by simp [h1]
    have o3 : (n.op == 3) = false := by simp [h1]
    have o4 : (n.op == 4) = false := by simp [h1]
    obtain ⟨b, hq⟩ : ∃ b, (Knd.measureT 6 n.ty).isSome = b := ⟨_, rfl⟩
    have HF : Hid (formP n = (tx && (b && (fn && sp)))) := Lib.hid (by unfold formP; simp only [h1, HTX.out, HTY.out, HFN.out, HSP.out, hq]; simp)
    have HC := Lib.hid (Knd.check_any d S _ n.ty wc HT.out HG.out)
    have HQ := Lib.hid hq
    clear h1 hq
    go_wp2_with (go_at_call 90; (with_reducible refine HC.out.mono ?_); rintro e w1 ⟨he, hb1⟩; unfold Knd.ChOut at he; rw [HQ.out] at he; subst he; have HB := Lib.hid (HB0.out.trans (hb1.mono HB0.out.size)); clear hb1; cases b <;> cases tx <;> cases fn <;> cases sp)
    all_goals (
      go_ret
      rw [HF.out]
      exact ⟨rfl, HB.out⟩)
  by_cases h2 : n.op = 2
  · have o1 : (n.op == 1) = false := by simp [h2]
    have o2 : (n.op == 2) = true := by simp [h2]
    have o3 : (n.op == 3) = false := by simp [h2]
    have o4 : (n.op == 4) = false := by simp [h2]
    obtain ⟨b, hq⟩ : ∃ b, isTx n.text = b := ⟨_, rfl⟩
    have HF : Hid (formP n = (b && (ty && (fn && sp)))) := Lib.hid (by unfold formP; simp only [h2, HTX.out, HTY.out, HFN.out, HSP.out, hq]; simp)
    have HC := Lib.hid (isText_any n.text wc)
    rw [hq] at HC
    have HQ := Lib.hid hq
    clear h2 hq
    go_wp2_with (go_at_call 91; (with_reducible refine HC.out.mono ?_); rintro e w1 ⟨rfl, rfl⟩; have HB := HB0; cases b <;> cases ty <;> cases fn <;> cases sp)
    all_goals (
      go_ret
      rw [HF.out]
      exact ⟨rfl, HB.out⟩)
  by_cases h3 : n.op = 3
  · have o1 : (n.op == 1) = false := by simp [h3]
    have o2 : (n.op == 2) = false := by simp [h3]
    have o3 : (n.op == 3) = true := by simp [h3]
    have o4 : (n.op == 4) = false := by simp [h3]
    obtain ⟨b, hq⟩ : ∃ b, Wi.rgtB n.f0 n.f1 n.f2 n.f3 = b := ⟨_, rfl⟩
    have HF : Hid (formP n = (tx && (ty && (b && sp)))) := Lib.hid (by unfold formP; simp only [h3, HTX.out, HTY.out, HFN.out, HSP.out, hq]; simp)
    have HC := Lib.hid (Wi.check_any n.f0 n.f1 n.f2 n.f3 wc)
    rw [hq] at HC
    have HQ := Lib.hid hq
    clear h3 hq
    go_wp2_with (go_at_call 92; (with_reducible refine HC.out.mono ?_); rintro e w1 ⟨rfl, hb1⟩; have HB := Lib.hid (HB0.out.trans (hb1.mono HB0.out.size)); clear hb1; cases b <;> cases tx <;> cases ty <;> cases sp)
    all_goals (
      go_ret
      rw [HF.out]
      exact ⟨rfl, HB.out⟩)
  by_cases h4 : n.op = 4
  · have o1 : (n.op == 1) = false := by simp [h4]
    have o2 : (n.op == 2) = false := by simp [h4]
    have o3 : (n.op == 3) = false := by simp [h4]
    have o4 : (n.op == 4) = true := by simp [h4]
    obtain ⟨b, hq⟩ : ∃ b, isTx n.text = b := ⟨_, rfl⟩
    obtain ⟨b', hq'⟩ : ∃ b, Tg.RightB n.e n.l n.lt = b := ⟨_, rfl⟩
    have HF : Hid (formP n = (b && (ty && (fn && b')))) := Lib.hid (by unfold formP; simp only [h4, HTX.out, HTY.out, HFN.out, HSP.out, hq, hq']; simp)
    have HC := Lib.hid (isText_any n.text wc)
    rw [hq] at HC
    have HC2 : Hid (∀ W : World, Calls Tryz.prog 93 #[.agg #[.int .i64 n.e, .int .i64 n.l, .int .i64 n.lt, .bool n.acc]] W fun e w' => e = .returned (.int .i64 (if b' = true then 0 else 100)) ∧ Below W.heap.size W w') := Lib.hid fun W => by
      cases b' with
      | true =>
        refine (Tg.check_yes n.e n.l n.lt n.acc W (of_decide_eq_true hq')).mono ?_
        rintro e w' ⟨rfl, rfl⟩
        exact ⟨rfl, bl_al (Below.refl _ _) _⟩
      | false =>
        refine (Tg.check_no n.e n.l n.lt n.acc W (of_decide_eq_false hq')).mono ?_
        rintro e w' ⟨rfl, rfl⟩
        exact ⟨rfl, bl_al (Below.refl _ _) _⟩
    clear h4 hq hq'
    go_wp2_with (first
      | (go_at_call 91; (with_reducible refine HC.out.mono ?_); rintro e w1 ⟨rfl, rfl⟩)
      | (go_at_call 93; (with_reducible refine (HC2.out _).mono ?_); rintro e w2 ⟨rfl, hb1⟩; have HB := Lib.hid (HB0.out.trans (hb1.mono HB0.out.size)); clear hb1; cases b' <;> cases b <;> cases ty <;> cases fn)
      | fail)
    all_goals (
      go_ret
      rw [HF.out]
      exact ⟨rfl, HB.out⟩)
  have HF : Hid (formP n = (tx && (ty && (fn && sp)))) := Lib.hid (by unfold formP; simp only [HTX.out, HTY.out, HFN.out, HSP.out, h1, h2, h3, h4]; simp)
  have o1 : (n.op == 1) = false := by simp [h1]
  have o2 : (n.op == 2) = false := by simp [h2]
  have o3 : (n.op == 3) = false := by simp [h3]
  have o4 : (n.op == 4) = false := by simp [h4]
  clear h1 h2 h3 h4
  have HB := HB0
  cases tx <;> cases ty <;> cases fn <;> cases sp <;> (
    go_wp2_with (fail)
    go_ret
    rw [HF.out]
    exact ⟨rfl, HB.out⟩)

end Go.Proofs.YtllnamhgnbdkmaaGreatDoor
