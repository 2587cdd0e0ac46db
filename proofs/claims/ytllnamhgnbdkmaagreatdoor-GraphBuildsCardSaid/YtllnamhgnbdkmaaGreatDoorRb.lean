/-
Stage 11: the document's Rises, ahead, Text. Stage 11: the document's input and form.
-/
import Derived.Test.YtllnamhgnbdkmaaGreatDoorJf
import Derived.Test.YtllnamhgnbdkmaaGreatDoorKh
set_option linter.unusedVariables false
set_option linter.unusedSimpArgs false
namespace Go.Proofs.YtllnamhgnbdkmaaGreatDoor
open Go.RowKit
set_option maxRecDepth 100000 in
set_option maxHeartbeats 1000000 in
theorem rrises_any (w : World) (S : Nat → Prop) (iv : Value) (l : List Int) (a b : Int) (hI : IntsAt w S iv l) (hl : l.length ≤ 1000000) :
    Calls Tryz.prog 63 #[iv, .int .i64 a, .int .i64 b] w fun e w' => e = .returned (.bool (risG l && decide (a ≤ l.length ∧ l.length ≤ b))) ∧ ∃ m, w' = w.drewN m := by
  obtain ⟨A, c, rfl⟩ := hI.form
  have HI := Lib.hid hI
  clear hI
  go_enter Tryz.func63, Tryz.ntmps63
  go_wp2_with (fail)
  go_loopw [7] (fun i wr => ∃ (j : Nat), i = .int .i64 ((j : Int) + 1) ∧ (l.length = 0 ∧ j = 0 ∨ j < l.length) ∧ Hid (risG l = risG (l.drop j)) ∧ ∃ q, wr = w.drewN q) (fun i _ => l.length - (intOf i).toNat)
  case atStart => exact ⟨0, rfl, by omega, Lib.hid rfl, 0, rfl⟩
  case round =>
    obtain ⟨j, rfl, hj, HR, q, rfl⟩ := hrel
    by_cases hlt : j + 1 < l.length
    · have hjl : (j : Int) + 1 < (l.length : Int) := by omega
      have hj0 : j < l.length := by omega
      obtain ⟨b', o', rfl, hc, hbl, hS⟩ := HI.out.cell hj0
      obtain ⟨b2, o2, e', hc', _, _⟩ := HI.out.cell hlt
      simp only [Option.some.injEq, Addr.mk.injEq, and_true] at e'
      obtain ⟨rfl, rfl⟩ := e'
      have hd : l.drop j = l[j] :: l[j + 1] :: l.drop (j + 2) := by
        rw [List.drop_eq_getElem_cons hj0, List.drop_eq_getElem_cons hlt]
      have hd1 : l.drop (j + 1) = l[j + 1] :: l.drop (j + 2) := List.drop_eq_getElem_cons hlt
      generalize l[j] = x at *
      generalize l[j + 1] = y at *
      have HD := Lib.hid hd
      have HD1 := Lib.hid hd1
      clear hd hd1
      have w1 : IntKind.i64.wrap ((j : Int) + 1 - 1) = (j : Int) := by
        rw [show (j : Int) + 1 - 1 = (j : Int) by omega]; exact IntWalk.i64_in _ (by omega)
      by_cases hlx : x < y
      · have hle : ¬ (y ≤ x) := by omega
        have HE : Hid (risG l = risG (l.drop (j + 1))) := Lib.hid (by
          rw [HR.out, HD.out, HD1.out]; simp [risG, risR, hlx])
        clear hlx
        go_wp2_with (fail)
        go_quiet (fail)
        go_wp2_with (fail)
        go_roundw
        case rel => exact ⟨j + 1, by go_num, .inr hlt, HE, _, rfl⟩
        case measure => simp [intOf]; omega
      · have hle : y ≤ x := by omega
        have HE : Hid (risG l = false) := Lib.hid (by
          rw [HR.out, HD.out]; simp [risG, risR, hlx])
        clear hlx
        go_wp2_with (fail)
        go_quiet (fail)
        go_wp2_with (fail)
        go_ret
        rw [HE.out]
        exact ⟨rfl, _, World.drewN_drewN _ _ _⟩
    · have HE : Hid (risG l = true) := Lib.hid (by
        rw [HR.out]
        rcases hj with ⟨h0, rfl⟩ | hj
        · rw [List.length_eq_zero_iff.1 h0]; rfl
        · rw [List.drop_eq_getElem_cons hj, List.drop_of_length_le (by omega)]; rfl)
      have hjl : ¬ ((j : Int) + 1 < (l.length : Int)) := by omega
      by_cases ha : a ≤ (l.length : Int)
      · by_cases hb : (l.length : Int) ≤ b
        · have HX : Hid (decide (a ≤ l.length ∧ l.length ≤ b) = true) := Lib.hid (decide_eq_true ⟨ha, hb⟩)
          go_wp2_with (fail)
          go_ret
          exact ⟨by show Ending.returned (.bool true) = _; simp [ha, hb, HE.out], _, rfl⟩
        · have HX : Hid (decide (a ≤ l.length ∧ l.length ≤ b) = false) := Lib.hid (decide_eq_false fun h => hb h.2)
          go_wp2_with (fail)
          go_ret
          exact ⟨by show Ending.returned (.bool false) = _; rw [Bool.and_comm]; simp only [Ending.returned.injEq, Value.bool.injEq]; simp; omega, _, rfl⟩
      · have HX : Hid (decide (a ≤ l.length ∧ l.length ≤ b) = false) := Lib.hid (decide_eq_false fun h => ha h.1)
        go_wp2_with (fail)
        go_ret
        exact ⟨by show Ending.returned (.bool false) = _; simp [HE.out]; omega, _, rfl⟩
set_option maxRecDepth 100000 in
set_option maxHeartbeats 1000000 in
theorem rahead_any (w : World) (S : Nat → Prop) (d : Nat) (iv gv : Value) (l : List Int) (p : List Gn) (i : Nat) (hI : IntsAt w S iv l) (hG : GsAt w S d gv p) (hl : l.length ≤ 1000000) (hi : i ≤ p.length) (ha : p.length ≤ 1000000) :
    Calls Tryz.prog 70 #[gv, .int .i64 i, iv] w fun e w' => e = .returned (.bool (okP (p.take i) l)) ∧ w = w' := by
  obtain ⟨A, c, rfl⟩ := hI.form
  obtain ⟨B, k, rfl⟩ := hG.form
  have HI := Lib.hid hI
  have HGs := Lib.hid hG
  have HLT : Hid ((p.take i).length = i) := Lib.hid (by rw [List.length_take]; omega)
  clear hI hG
  go_enter Tryz.func70, Tryz.ntmps70
  go_wp2_with (fail)
  go_loopw [7] (fun iv wr => ∃ (j : Nat), iv = .int .i64 j ∧ j ≤ l.length ∧ Hid (okP (p.take i) l = okP (p.take i) (l.drop j)) ∧ w = wr) (fun iv _ => l.length - (intOf iv).toNat)
  case atStart => exact ⟨0, rfl, Nat.zero_le _, Lib.hid rfl, rfl⟩
  case round =>
    obtain ⟨j, rfl, hj, HR, rfl⟩ := hrel
    by_cases hlt : j < l.length
    · have hjl : (j : Int) < (l.length : Int) := by omega
      obtain ⟨b, o, rfl, hc, hbl, hS⟩ := HI.out.cell hlt
      have hd : l.drop j = l[j] :: l.drop (j + 1) := List.drop_eq_getElem_cons hlt
      generalize l[j] = x at *
      have HD := Lib.hid hd
      clear hd
      by_cases hx : 0 ≤ x ∧ x < (i : Int)
      · obtain ⟨xn, rfl⟩ : ∃ n : Nat, x = (n : Int) := ⟨x.toNat, by omega⟩
        have hxi : xn < i := by omega
        have hxl : xn < p.length := by omega
        have hxi2 : (xn : Int) < (i : Int) := by omega
        have hxl2 : (xn : Int) < (p.length : Int) := by omega
        have hx0 : ¬ ((xn : Int) < 0) := by omega
        have hx9 : ¬ ((i : Int) ≤ (xn : Int)) := by omega
        obtain ⟨b2, o2, rfl, hbl2, _, _, _, _, _, _, _, _, hop, _⟩ := HGs.out.at hxl
        have ham : (p.take i)[((xn : Int)).toNat]? = some p[xn] := by rw [Int.toNat_natCast, List.getElem?_take, if_pos hxi]; exact List.getElem?_eq_getElem hxl
        have hde : decide (0 ≤ (xn : Int) ∧ (xn : Int) ≤ (((p.take i).length : Nat) : Int) - 1) = true := decide_eq_true (by rw [HLT.out]; omega)
        generalize p[xn] = n at *
        by_cases h6 : n.op = 6
        · have h6b : (n.op == 6) = true := by simp [h6]
          have HE : Hid (okP (p.take i) l = false) := Lib.hid (by
            rw [HR.out, HD.out, okP, List.all_cons, mayP, ham, hde]; simp [h6])
          clear ham hx h6 hde
          go_wp2_with (fail)
          go_ret
          rw [HE.out]
          exact ⟨rfl, rfl⟩
        · have h6b : (n.op == 6) = false := by simp [h6]
          have HE : Hid (okP (p.take i) l = okP (p.take i) (l.drop (j + 1))) := Lib.hid (by
            rw [HR.out, HD.out, okP, List.all_cons, mayP, ham, hde]; simp [h6b, okP])
          clear ham hx h6 hde
          go_wp2_with (fail)
          go_roundw
          case rel => exact ⟨j + 1, by go_num, by omega, HE, trivial⟩
          case measure => simp [intOf]; omega
      · have HE : Hid (okP (p.take i) l = false) := Lib.hid (by
          rw [HR.out, HD.out, okP, List.all_cons, HLT.out, decide_eq_false (by omega)]; simp)
        by_cases hx0 : x < 0
        · clear hx
          go_wp2_with (fail)
          go_ret
          rw [HE.out]
          exact ⟨rfl, rfl⟩
        · have hx9 : (i : Int) ≤ x := by omega
          clear hx
          go_wp2_with (fail)
          go_ret
          rw [HE.out]
          exact ⟨rfl, rfl⟩
    · obtain rfl : j = l.length := by omega
      have HE : Hid (okP (p.take i) l = true) := Lib.hid (by rw [HR.out, List.drop_length]; rfl)
      have hjl : ¬ ((l.length : Int) < (l.length : Int)) := by omega
      go_wp2_with (fail)
      go_ret
      rw [HE.out]
      exact ⟨rfl, rfl⟩
set_option maxRecDepth 100000 in
set_option maxHeartbeats 1000000 in
theorem rtext_any (s : List UInt8) (w : World) (hbig : s.length ≤ 1000000) :
    Calls Tryz.prog 65 #[.string ⟨s.toArray⟩] w fun e w' => e = .returned (.bool (isTx s)) ∧ w = w' := by
  have hsz : (ByteArray.mk s.toArray).size = s.length := by simp [ByteArray.size]
  obtain ⟨B, hB, hsz, hget⟩ : ∃ B : ByteArray, ByteArray.mk s.toArray = B ∧ B.size = s.length ∧ ∀ j (h : j < B.size) (h2 : j < s.length), B[j] = s[j] := ⟨_, rfl, hsz, fun j h h2 => by simp [ByteArray.getElem_eq_getElem_data]⟩
  rw [hB]
  clear hB
  have hbB : B.size ≤ 1000000 := by omega
  have HSZ := Lib.hid hsz
  have HG := Lib.hid hget
  clear hsz hget hbig
  go_enter Tryz.func65, Tryz.ntmps65
  go_wp2_with (fail)
  go_loopw [3] (fun i wr => ∃ (j : Nat), i = .int .i64 j ∧ j ≤ B.size ∧ Hid (s.all okB = (s.drop j).all okB) ∧ w = wr) (fun i _ => B.size - (intOf i).toNat)
  case atStart => exact ⟨0, rfl, Nat.zero_le _, Lib.hid rfl, rfl⟩
  case round =>
    obtain ⟨j, rfl, hj, HR, rfl⟩ := hrel
    by_cases hlt : j < B.size
    · have hjl : (j : Int) < (B.size : Int) := by omega
      have hd : s.drop j = s[j]'(by have := HSZ.out; omega) :: s.drop (j + 1) := List.drop_eq_getElem_cons (by have := HSZ.out; omega)
      have hbj := HG.out j hlt (by have := HSZ.out; omega)
      rw [← hbj] at hd
      have HD := Lib.hid hd
      clear hd hbj
      have hb8 : B[j].toNat ≤ 255 := by have := B[j].toNat_lt; omega
      by_cases hok : okB B[j] = true
      · have hok2 := of_decide_eq_true (show decide (32 ≤ B[j].toNat ∧ B[j].toNat ≤ 126) = true from hok)
        have HE : Hid (s.all okB = (s.drop (j + 1)).all okB) := Lib.hid (by rw [HR.out, HD.out, List.all_cons, hok]; rfl)
        have h32 : ¬ ((B[j].toNat : Int) < 32) := by omega
        have h126 : ¬ ((126 : Int) < (B[j].toNat : Int)) := by omega
        clear hok2 hok
        go_wp2_with (fail)
        go_roundw
        case rel => exact ⟨j + 1, by go_num, by omega, HE, trivial⟩
        case measure => simp [intOf]; omega
      · have hok1 : okB B[j] = false := by simpa using hok
        have hok2 := of_decide_eq_false (show decide (32 ≤ B[j].toNat ∧ B[j].toNat ≤ 126) = false from hok1)
        have HE : Hid (isTx s = false) := Lib.hid (by unfold isTx; rw [HR.out, HD.out, List.all_cons, hok1]; simp)
        by_cases h32 : (B[j].toNat : Int) < 32
        · clear hok2 hok hok1
          go_wp2_with (fail)
          go_ret
          rw [HE.out]
          exact ⟨rfl, rfl⟩
        · have h126 : (126 : Int) < (B[j].toNat : Int) := by omega
          clear hok2 hok hok1
          go_wp2_with (fail)
          go_ret
          rw [HE.out]
          exact ⟨rfl, rfl⟩
    · obtain rfl : j = B.size := by omega
      have HT : Hid (isTx s = decide (1 ≤ B.size ∧ B.size ≤ 1000)) := Lib.hid (by unfold isTx; rw [HR.out, HSZ.out, List.drop_length]; simp)
      have hjl : ¬ ((B.size : Int) < (B.size : Int)) := by omega
      by_cases h1 : (1 : Int) ≤ (B.size : Int)
      · by_cases h2 : (B.size : Int) ≤ 1000
        · have HE : Hid (isTx s = true) := Lib.hid (HT.out.trans (decide_eq_true (by omega)))
          go_wp2_with (fail)
          go_ret
          rw [HE.out]
          exact ⟨rfl, rfl⟩
        · have HE : Hid (isTx s = false) := Lib.hid (HT.out.trans (decide_eq_false (by omega)))
          go_wp2_with (fail)
          go_ret
          rw [HE.out]
          exact ⟨rfl, rfl⟩
      · have HE : Hid (isTx s = false) := Lib.hid (HT.out.trans (decide_eq_false (by omega)))
        go_wp2_with (fail)
        go_ret
        rw [HE.out]
        exact ⟨rfl, rfl⟩
end Go.Proofs.YtllnamhgnbdkmaaGreatDoor
namespace Go.Proofs.YtllnamhgnbdkmaaGreatDoor
open Go.RowKit
theorem Tryz.eqFnR (w : World) (a b c d a' b' c' d' : Int) : (binOp .neq 47 (.agg #[.int .i64 a, .int .i64 b, .int .i64 c, .int .i64 d]) (.agg #[.int .i64 a', .int .i64 b', .int .i64 c', .int .i64 d'])).run Tryz.prog w = .ok (.bool (!(a == a' && b == b' && c == c' && d == d'))) w := by
  rw [run_neq_struct, eq4i 47 (by kernel_rfl) (by kernel_rfl) "Kind" "Size" "Period" "Offset" (by kernel_rfl) (by decide) (by decide) (by decide) (by decide)]; rfl
theorem Tryz.eqSpR (w : World) (a b c a' b' c' : Int) (d d' : Bool) : (binOp .eql 49 (.agg #[.int .i64 a, .int .i64 b, .int .i64 c, .bool d]) (.agg #[.int .i64 a', .int .i64 b', .int .i64 c', .bool d'])).run Tryz.prog w = .ok (.bool (a == a' && b == b' && c == c' && d == d')) w := by
  rw [run_eql_struct, eq4b 49 (by kernel_rfl) (by kernel_rfl) "Early" "Late" "Lateness" "Accumulate" (by kernel_rfl) (by decide) (by decide) (by decide) (by decide)]; rfl
theorem Tryz.guFnR (op : BinOp) (w : World) (x y : Operand) (xs ys : Array Value) : (eqGuard op 47 x y (.agg xs) (.agg ys)).run Tryz.prog w = .ok () w := run_eqGuard_agg w op _ _ _ _ _ (by kernel_rfl)
theorem Tryz.guSpR (op : BinOp) (w : World) (x y : Operand) (xs ys : Array Value) : (eqGuard op 49 x y (.agg xs) (.agg ys)).run Tryz.prog w = .ok () w := run_eqGuard_agg w op _ _ _ _ _ (by kernel_rfl)
def plcP (ahead : List Gn) (n : Gn) : Bool :=
  okP ahead n.ins && (okP ahead n.side && (if n.op = 1 then decide (n.ins.length = 0 ∧ n.side.length = 0)
    else if n.op = 2 then decide (n.ins.length = 1) && (risG n.side && decide (n.side.length ≤ 4))
    else if n.op = 5 then (risG n.ins && decide (1 ≤ n.ins.length ∧ n.ins.length ≤ 4)) && decide (n.side.length = 0)
    else decide (n.ins.length = 1 ∧ n.side.length = 0)))
set_option maxRecDepth 100000 in
set_option maxHeartbeats 4000000 in
theorem rinput_any (w : World) (S : Nat → Prop) (d : Nat) (gv : Value) (p : List Gn) (i : Nat) (hi : i < p.length) (hG : GsAt w S d gv p) (hf : FewG p) (ha : p.length ≤ 1000000) :
    Calls Tryz.prog 41 #[gv, .int .i64 i] w fun e w' => e = .returned (.bool (plcP (p.take i) p[i])) ∧ Below w.heap.size w w' := by
  obtain ⟨B, k, rfl⟩ := hG.form
  have hat := hG.at hi
  have hfn := hf _ (List.getElem_mem hi)
  have HGs := Lib.hid hG
  have hii : (i : Int) < (p.length : Int) := by omega
  have hile : i ≤ p.length := by omega
  clear hG hf
  generalize p[i] = n at *
  obtain ⟨b, o, rfl, hbl, hS, IA, SA, A, ic, sc, c, hN, a0, a1, a2, a3, a4, a5, a6, a7, a8, a9, a10, a11, a12, a13⟩ := hat
  have hgi : IntsAt w S (.slice IA n.ins.length ic) n.ins ∧ IntsAt w S (.slice SA n.side.length sc) n.side ∧ TyAt w S d (.agg #[.int .i64 n.ty.kind, .slice A n.ty.args.length c]) n.ty := by
    obtain ⟨_, _, _, _, _, _, e, h1, h2, h3⟩ := hN
    unfold Gn.val at e
    injection e with e
    simp only [Array.mk.injEq, List.cons.injEq, Value.slice.injEq, and_true, true_and] at e
    obtain ⟨⟨rfl, rfl⟩, ⟨rfl, rfl⟩, rfl, rfl⟩ := e
    exact ⟨h1, h2, h3⟩
  obtain ⟨q1, hq1⟩ : ∃ q, okP (p.take i) n.ins = q := ⟨_, rfl⟩
  obtain ⟨q2, hq2⟩ : ∃ q, okP (p.take i) n.side = q := ⟨_, rfl⟩
  obtain ⟨r1, hr1⟩ : ∃ q, (risG n.ins && decide ((1 : Int) ≤ (n.ins.length : Int) ∧ (n.ins.length : Int) ≤ 4)) = q := ⟨_, rfl⟩
  obtain ⟨r2, hr2⟩ : ∃ q, (risG n.side && decide ((0 : Int) ≤ (n.side.length : Int) ∧ (n.side.length : Int) ≤ 4)) = q := ⟨_, rfl⟩
  obtain ⟨i0, hi0⟩ : ∃ q, ((n.ins.length : Int) == 0) = q := ⟨_, rfl⟩
  obtain ⟨i1, hi1⟩ : ∃ q, ((n.ins.length : Int) == 1) = q := ⟨_, rfl⟩
  obtain ⟨s0, hs0⟩ : ∃ q, ((n.side.length : Int) == 0) = q := ⟨_, rfl⟩
  have hP : plcP (p.take i) n = (q1 && (q2 && (if n.op = 1 then i0 && s0 else if n.op = 2 then i1 && r2 else if n.op = 5 then r1 && s0 else i1 && s0))) := by
    unfold plcP
    rw [hq1, hq2, ← hr1, ← hr2, ← hi0, ← hi1, ← hs0]
    congr 2
    repeat' split
    all_goals (cases risG n.ins <;> cases risG n.side <;> rw [Bool.eq_iff_iff] <;> simp <;> omega)
  have HP := Lib.hid hP
  obtain ⟨W0, hW0⟩ : ∃ W0, w.alloc (.cells #[.int .i64 n.op, .slice IA n.ins.length ic, .slice SA n.side.length sc, .string ⟨n.text.toArray⟩, .int .i64 n.ty.kind, .slice A n.ty.args.length c, .int .i64 n.f0, .int .i64 n.f1, .int .i64 n.f2, .int .i64 n.f3, .int .i64 n.e, .int .i64 n.l, .int .i64 n.lt, .bool n.acc] 51) = W0 := ⟨_, rfl⟩
  have hx : W0.heap[w.heap.size]? = some (.cells #[.int .i64 n.op, .slice IA n.ins.length ic, .slice SA n.side.length sc, .string ⟨n.text.toArray⟩, .int .i64 n.ty.kind, .slice A n.ty.args.length c, .int .i64 n.f0, .int .i64 n.f1, .int .i64 n.f2, .int .i64 n.f3, .int .i64 n.e, .int .i64 n.l, .int .i64 n.lt, .bool n.acc] 51 (0, 0)) := by rw [← hW0]; exact heap_alloc_new w _
  have hB0 : Below w.heap.size w W0 := by rw [← hW0]; exact bl_al (Below.refl _ _) _
  have HW0 := Lib.hid hW0
  have HX := Lib.hid hx
  have HB0 := Lib.hid hB0
  have HA1 : Hid (∀ W, Below w.heap.size w W → Calls Tryz.prog 70 #[.slice (some ⟨b, o, none⟩) p.length k, .int .i64 i, .slice IA n.ins.length ic] W fun e w' => e = .returned (.bool q1) ∧ W = w') := Lib.hid fun W hb => by
    rw [← hq1]; exact rahead_any W S d _ _ n.ins p i (hgi.1.below hb) (HGs.out.below hb) hfn.1 hile ha
  have HA2 : Hid (∀ W, Below w.heap.size w W → Calls Tryz.prog 70 #[.slice (some ⟨b, o, none⟩) p.length k, .int .i64 i, .slice SA n.side.length sc] W fun e w' => e = .returned (.bool q2) ∧ W = w') := Lib.hid fun W hb => by
    rw [← hq2]; exact rahead_any W S d _ _ n.side p i (hgi.2.1.below hb) (HGs.out.below hb) hfn.2 hile ha
  have HR1 : Hid (∀ W, Below w.heap.size w W → Calls Tryz.prog 63 #[.slice IA n.ins.length ic, .int .i64 1, .int .i64 4] W fun e w' => e = .returned (.bool r1) ∧ (∃ m, w' = W.drewN m)) := Lib.hid fun W hb => by
    rw [← hr1]; exact rrises_any W S _ n.ins 1 4 (hgi.1.below hb) hfn.1
  have HR2 : Hid (∀ W, Below w.heap.size w W → Calls Tryz.prog 63 #[.slice SA n.side.length sc, .int .i64 0, .int .i64 4] W fun e w' => e = .returned (.bool r2) ∧ (∃ m, w' = W.drewN m)) := Lib.hid fun W hb => by
    rw [← hr2]; exact rrises_any W S _ n.side 0 4 (hgi.2.1.below hb) hfn.2
  clear hP hgi hN hq1 hq2 hr1 hr2 hfn ha hile hW0 hx hB0
  go_enter Tryz.func41, Tryz.ntmps41
  go_upto_region 2 with (fail)
  rw [HW0.out]
  clear HW0 a0 a1 a2 a3 a4 a5 a6 a7 a8 a9 a10 a11 a12 a13
  have c0 := cellN (i := 0) HX.out rfl
  have c1 := cellN (i := 1) HX.out rfl
  have c2 := cellN (i := 2) HX.out rfl
  have cl := cell_lt HX.out
  by_cases h1 : n.op = 1
  · have o1 : (n.op == 1) = true := by simp [h1]
    have HE : Hid (plcP (p.take i) n = (q1 && (q2 && (i0 && s0)))) := Lib.hid (by rw [HP.out, if_pos h1])
    clear h1 HP
    cases i0 <;> cases s0 <;> cases q1 <;> cases q2 <;> (
      go_wp2_with (first
        | (go_at_call 70; (with_reducible refine (HA1.out _ HB0.out).mono ?_); rintro e w1 ⟨rfl, rfl⟩)
        | (go_at_call 70; (with_reducible refine (HA2.out _ HB0.out).mono ?_); rintro e w1 ⟨rfl, rfl⟩)
        | fail)
      go_ret
      rw [HE.out]
      exact ⟨rfl, HB0.out⟩)
  by_cases h2 : n.op = 2
  · have o1 : (n.op == 1) = false := by simp [h1]
    have o2 : (n.op == 2) = true := by simp [h2]
    have HE : Hid (plcP (p.take i) n = (q1 && (q2 && (i1 && r2)))) := Lib.hid (by rw [HP.out, if_neg h1, if_pos h2])
    clear h1 h2 HP
    cases i1 <;> cases r2 <;> cases q1 <;> cases q2 <;> (
      have HB9 := HB0
      go_wp2_with (first
        | (go_at_call 70; (with_reducible refine (HA1.out _ HB0.out).mono ?_); rintro e w1 ⟨rfl, rfl⟩)
        | (go_at_call 70; (with_reducible refine (HA2.out _ HB0.out).mono ?_); rintro e w1 ⟨rfl, rfl⟩)
        | (go_at_call 63; (with_reducible refine (HR2.out _ HB0.out).mono ?_); rintro e w1 ⟨rfl, m, rfl⟩; have HB9 := Lib.hid (bl_drn HB0.out m))
        | fail)
      go_ret
      rw [HE.out]
      exact ⟨rfl, HB9.out⟩)
  by_cases h5 : n.op = 5
  · have o1 : (n.op == 1) = false := by simp [h1]
    have o2 : (n.op == 2) = false := by simp [h2]
    have o5 : (n.op == 5) = true := by simp [h5]
    have HE : Hid (plcP (p.take i) n = (q1 && (q2 && (r1 && s0)))) := Lib.hid (by rw [HP.out, if_neg h1, if_neg h2, if_pos h5])
    clear h1 h2 h5 HP
    cases r1 <;> cases s0 <;> cases q1 <;> cases q2 <;> (
      have HB9 := HB0
      go_wp2_with (first
        | (go_at_call 70; (with_reducible refine (HA1.out _ HB0.out).mono ?_); rintro e w1 ⟨rfl, rfl⟩)
        | (go_at_call 70; (with_reducible refine (HA2.out _ HB0.out).mono ?_); rintro e w1 ⟨rfl, rfl⟩)
        | (go_at_call 63; (with_reducible refine (HR1.out _ HB0.out).mono ?_); rintro e w1 ⟨rfl, m, rfl⟩; have HB9 := Lib.hid (bl_drn HB0.out m))
        | fail)
      go_ret
      rw [HE.out]
      exact ⟨rfl, HB9.out⟩)
  · have o1 : (n.op == 1) = false := by simp [h1]
    have o2 : (n.op == 2) = false := by simp [h2]
    have o5 : (n.op == 5) = false := by simp [h5]
    have HE : Hid (plcP (p.take i) n = (q1 && (q2 && (i1 && s0)))) := Lib.hid (by rw [HP.out, if_neg h1, if_neg h2, if_neg h5])
    clear h1 h2 h5 HP
    cases i1 <;> cases s0 <;> cases q1 <;> cases q2 <;> (
      go_wp2_with (first
        | (go_at_call 70; (with_reducible refine (HA1.out _ HB0.out).mono ?_); rintro e w1 ⟨rfl, rfl⟩)
        | (go_at_call 70; (with_reducible refine (HA2.out _ HB0.out).mono ?_); rintro e w1 ⟨rfl, rfl⟩)
        | fail)
      go_ret
      rw [HE.out]
      exact ⟨rfl, HB0.out⟩)
end Go.Proofs.YtllnamhgnbdkmaaGreatDoor
