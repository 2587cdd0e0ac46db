/-
Stage 11: the document's Digits and commas. Stage 11: the document's Line. Stage 11: the document's Show.
-/
import Derived.Test.YtllnamhgnbdkmaaGreatDoorJn
import Derived.Laws.IdiomStrings
import Derived.Lib.ItoaLen
import Derived.Lib.ItoaMem
import Derived.Test.YtllnamhgnbdkmaaGreatDoorRc
import Derived.Test.YtllnamhgnbdkmaaGreatDoorJp
set_option linter.unusedVariables false
set_option linter.unusedSimpArgs false
namespace Go.Proofs.YtllnamhgnbdkmaaGreatDoor
open Go.RowKit
theorem dec_big {u : Nat} (h : ¬ u < 10) : Lib.decDigits u = Lib.decDigits (u / 10) ++ [UInt8.ofNat (48 + u % 10)] := by rw [Lib.decDigits, dif_neg h]
set_option maxRecDepth 100000 in
set_option maxHeartbeats 1000000 in
theorem digits_any : ∀ (k u : Nat) (w : World), u < 10 ^ (k + 1) → u ≤ 9223372036854775807 →
    Calls Tryz.prog 82 #[.int .i64 (u : Int)] w fun e w' => e = .returned (.string ⟨(Lib.decDigits u).toArray⟩) ∧ Below w.heap.size w w'
  | k, u, w, h, hu => by
    have hcv : (convert 87 9 (.slice (some ⟨w.heap.size, 0, none⟩) 1 1)).run Tryz.prog (w.alloc (.cells #[.int .u8 (48 + (u : Int) % 10)] 5)) = .ok (.string ⟨[UInt8.ofNat (48 + u % 10)].toArray⟩) (w.alloc (.cells #[.int .u8 (48 + (u : Int) % 10)] 5)) := by
      refine run_convert_bytes_back _ _ _ 5 ⟨w.heap.size, 0, none⟩ 1 [UInt8.ofNat (48 + u % 10)] (by kernel_rfl) (by kernel_rfl) (by kernel_rfl) (fun j hj => ?_)
      simp only [List.length_singleton, Nat.lt_one_iff] at hj
      subst hj
      have h1 : (48 + u % 10) % 256 = 48 + u % 10 := Nat.mod_eq_of_lt (by omega)
      have := cellN (i := 0) (x := .int .u8 (48 + (u : Int) % 10)) (heap_alloc_new w (.cells #[.int .u8 (48 + (u : Int) % 10)] 5)) rfl
      rw [show (⟨w.heap.size, 0, none⟩ : Addr).add 0 = ⟨w.heap.size, 0, none⟩ by simp [Addr.add], this]
      simp [UInt8.toNat_ofNat, h1]
    have hB1 : Below w.heap.size w (w.alloc (.cells #[.int .u8 (48 + (u : Int) % 10)] 5)) := bl_al (Below.refl _ _) _
    obtain ⟨s1, hs1⟩ : ∃ s : ByteArray, s = ⟨[UInt8.ofNat (48 + u % 10)].toArray⟩ := ⟨_, rfl⟩
    rw [← hs1] at hcv
    by_cases h10 : u < 10
    · have hi : (u : Int) < 10 := by omega
      have HR : Hid (Ending.returned (.string s1) = Ending.returned (.string ⟨(Lib.decDigits u).toArray⟩)) := Lib.hid (by rw [hs1, Lib.decDigits_one h10, Nat.mod_eq_of_lt h10])
      have HB := Lib.hid hB1
      clear hB1 hs1
      go_enter Tryz.func82, Tryz.ntmps82
      go_wp2_with (fail)
      go_ret
      exact ⟨HR.out, HB.out⟩
    · match k, h with
      | 0, h => exact absurd h (by simpa using h10)
      | k + 1, h =>
        have hi : ¬ ((u : Int) < 10) := by omega
        have IH := Lib.hid (fun W => digits_any k (u / 10) W (by rw [Nat.pow_succ] at h; omega) (by omega))
        have HR : Hid (∀ s : ByteArray, s = ⟨(Lib.decDigits (u / 10)).toArray⟩ → Ending.returned (.string (s ++ s1)) = Ending.returned (.string ⟨(Lib.decDigits u).toArray⟩)) := Lib.hid (by
          rintro s rfl
          rw [hs1, dec_big h10]
          congr 2)
        have HB := Lib.hid hB1
        obtain ⟨s2, hs2⟩ : ∃ s : ByteArray, s = ⟨(Lib.decDigits (u / 10)).toArray⟩ := ⟨_, rfl⟩
        rw [← hs2] at IH
        have HR2 := Lib.hid (HR.out s2 hs2)
        have hq : ((u / 10 : Nat) : Int) = (u : Int) / 10 := by omega
        rw [hq] at IH
        have hz1 : s1.size = 1 := by rw [hs1]; rfl
        have hz2 : s2.size ≤ 21 := by
          have h3 := Lib.itoa_length_le ((u / 10 : Nat) : Int) (by omega) (by omega)
          rw [Lib.itoa_nonneg] at h3
          rw [hs2]
          simpa [ByteArray.size] using h3
        clear hB1 hs1 HR hs2 hq h h10
        go_enter Tryz.func82, Tryz.ntmps82
        go_wp2_with (go_at_call 82; (with_reducible refine (IH.out _).mono ?_); rintro e w2 ⟨rfl, hb2⟩; have HB2 := Lib.hid (HB.out.trans (hb2.mono HB.out.size)); clear hb2)
        go_ret
        exact ⟨HR2.out, HB2.out⟩
theorem join_snoc (c : UInt8) (y : List UInt8) : ∀ (l : List (List UInt8)), l ≠ [] → Lib.join (l ++ [y]) [c] = Lib.join l [c] ++ ([c] ++ y)
  | [], h => absurd rfl h
  | x :: r, _ => by rw [List.cons_append, Lib.join_cons, Lib.join_cons]; simp [Lib.joinTail]
theorem bytes_app (a b : List UInt8) : (⟨a.toArray⟩ : ByteArray) ++ ⟨b.toArray⟩ = ⟨(a ++ b).toArray⟩ := by
  apply ByteArray.ext
  simp
theorem bytes_size (a : List UInt8) : (⟨a.toArray⟩ : ByteArray).size = a.length := by simp [ByteArray.size]
set_option maxRecDepth 100000 in
set_option maxHeartbeats 1000000 in
theorem rcommas_any (w : World) (S : Nat → Prop) (iv : Value) (l : List Int) (hI : IntsAt w S iv l) (hl : l.length ≤ 1000) (hr : ∀ x ∈ l, 0 ≤ x ∧ x ≤ 9223372036854775807) :
    Calls Tryz.prog 81 #[iv] w fun e w' => e = .returned (.string ⟨(placeT l).toArray⟩) ∧ Below w.heap.size w w' := by
  obtain ⟨A, c, rfl⟩ := hI.form
  have HI := Lib.hid hI
  have HR := Lib.hid hr
  clear hI hr
  by_cases h0 : l.length = 0
  · have hz : ((l.length : Int) == 0) = true := by simp [h0]
    have HE : Hid ((⟨#[45]⟩ : ByteArray) = ⟨(placeT l).toArray⟩) := Lib.hid (by unfold placeT; rw [if_pos h0])
    clear h0
    go_enter Tryz.func81, Tryz.ntmps81
    go_wp2_with (fail)
    go_ret
    rw [← HE.out]
    exact ⟨rfl, Below.refl _ _⟩
  have hz : ((l.length : Int) == 0) = false := by simp [h0]
  have HE : Hid (placeT l = Lib.join (l.map Lib.itoa) [44]) := Lib.hid (by unfold placeT; rw [if_neg h0])
  go_enter Tryz.func81, Tryz.ntmps81
  go_wp2_with (fail)
  go_loopw [3, 4] (fun sv iv wr => ∃ (j : Nat) (B : ByteArray), sv = .string B ∧ iv = .int .i64 (j : Int) ∧ j ≤ l.length ∧ Hid (B = ⟨(Lib.join ((l.take j).map Lib.itoa) [44]).toArray⟩) ∧ B.size ≤ j * 22 ∧ Hid (Below w.heap.size w wr)) (fun _ iv _ => l.length - (intOf iv).toNat)
  case atStart => exact ⟨0, _, rfl, rfl, Nat.zero_le _, Lib.hid rfl, Nat.le_refl _, Lib.hid (Below.refl _ _)⟩
  case round =>
    obtain ⟨j, B, rfl, rfl, hj, HB, hbs, HBW⟩ := hrel
    by_cases hlt : j < l.length
    · have hjl : (j : Int) < (l.length : Int) := by omega
      have hii : IntsAt wr S (.slice A l.length c) l := HI.out.below HBW.out
      obtain ⟨b, o, rfl, hc, hbl, hS⟩ := hii.cell hlt
      have hx := HR.out _ (List.getElem_mem hlt)
      have htk : l.take (j + 1) = l.take j ++ [l[j]] := by rw [List.take_add_one, List.getElem?_eq_getElem hlt]; rfl
      generalize l[j] = x at *
      obtain ⟨u, rfl⟩ : ∃ u : Nat, x = (u : Int) := ⟨x.toNat, by omega⟩
      have hu : u ≤ 9223372036854775807 := by omega
      have HDG : Hid (∀ W, Calls Tryz.prog 82 #[.int .i64 (u : Int)] W fun e w' => e = .returned (.string ⟨(Lib.itoa (u : Int)).toArray⟩) ∧ Below W.heap.size W w') := Lib.hid fun W => by
        rw [Lib.itoa_nonneg]
        exact digits_any 18 u W (Nat.lt_of_le_of_lt hu (by decide)) hu
      have hdl := Lib.itoa_length_le (u : Int) (by omega) (by omega)
      have HJ : Hid (Lib.join ((l.take (j + 1)).map Lib.itoa) [44] = if j = 0 then Lib.itoa (u : Int) else Lib.join ((l.take j).map Lib.itoa) [44] ++ ([44] ++ Lib.itoa (u : Int))) := Lib.hid (by
        rw [htk, List.map_append]
        split
        · rename_i h
          subst h
          simp [Lib.join_one]
        · rw [List.map_cons, List.map_nil, join_snoc]
          intro e
          have := congrArg List.length e
          rw [List.length_map, List.length_take, List.length_nil] at this
          omega)
      obtain ⟨D, hD⟩ : ∃ D : ByteArray, D = ⟨(Lib.itoa (u : Int)).toArray⟩ := ⟨_, rfl⟩
      have hDs : D.size ≤ 21 := by rw [hD, bytes_size]; exact hdl
      rw [← hD] at HDG
      have HD := Lib.hid hD
      clear hii htk hx hD hdl hS
      by_cases hj0 : j = 0
      · have hg : ¬ ((0 : Int) < (j : Int)) := by omega
        have H1 : Hid (B ++ D = ⟨(Lib.join ((l.take (j + 1)).map Lib.itoa) [44]).toArray⟩) := Lib.hid (by rw [HJ.out, if_pos hj0, HB.out, HD.out, hj0]; simp [Lib.join_nil, bytes_app])
        clear hj0
        go_wp2_with (go_at_call 82; (with_reducible refine (HDG.out _).mono ?_); rintro e w2 ⟨rfl, hb2⟩; have HB2 := Lib.hid (HBW.out.trans (hb2.mono HBW.out.size)); clear hb2)
        go_roundw
        case rel => exact ⟨j + 1, _, rfl, by go_num, by omega, H1, by rw [ByteArray.size_append]; omega, HB2⟩
        case measure => simp [intOf]; omega
      · have hg : ((0 : Int) < (j : Int)) := by omega
        have H1 : Hid (B ++ ⟨#[44]⟩ ++ D = ⟨(Lib.join ((l.take (j + 1)).map Lib.itoa) [44]).toArray⟩) := Lib.hid (by rw [HJ.out, if_neg hj0, HB.out, HD.out]; exact (congrArg (· ++ _) (bytes_app _ [44])).trans ((bytes_app _ _).trans (by rw [List.append_assoc])))
        clear hj0
        go_wp2_with (go_at_call 82; (with_reducible refine (HDG.out _).mono ?_); rintro e w2 ⟨rfl, hb2⟩; have HB2 := Lib.hid (HBW.out.trans (hb2.mono HBW.out.size)); clear hb2)
        go_roundw
        case rel => exact ⟨j + 1, _, rfl, by go_num, by omega, H1, by rw [ByteArray.size_append, ByteArray.size_append]; have : (⟨#[44]⟩ : ByteArray).size = 1 := rfl; omega, HB2⟩
        case measure => simp [intOf]; omega
    · obtain rfl : j = l.length := by omega
      have hjl : ¬ ((l.length : Int) < (l.length : Int)) := by omega
      have HE2 : Hid (B = ⟨(placeT l).toArray⟩) := Lib.hid (by rw [HB.out, HE.out, List.take_length])
      go_wp2_with (fail)
      go_ret
      rw [← HE2.out]
      exact ⟨rfl, HBW.out⟩
end Go.Proofs.YtllnamhgnbdkmaaGreatDoor
namespace Go.Proofs.YtllnamhgnbdkmaaGreatDoor
open Go.RowKit
theorem keep14s {w0 W : World} {q : Nat} {a0 a1 a2 a3 a4 a5 a6 a7 a8 a9 a10 a11 a12 a13 : Value} {t : TypeId} (hq : w0.heap[q]? = some (.cells #[a0, a1, a2, a3, a4, a5, a6, a7, a8, a9, a10, a11, a12, a13] t (0, 0))) (hb : Below w0.heap.size w0 W) :
    W.cell? ⟨q, 0, none⟩ = some a0 ∧ W.cell? ⟨q, 1, none⟩ = some a1 ∧ W.cell? ⟨q, 2, none⟩ = some a2 ∧ W.cell? ⟨q, 3, none⟩ = some a3 ∧ W.cell? ⟨q, 4, none⟩ = some a4 ∧ W.cell? ⟨q, 5, none⟩ = some a5 ∧ W.cell? ⟨q, 6, none⟩ = some a6 ∧ W.cell? ⟨q, 7, none⟩ = some a7 ∧ W.cell? ⟨q, 8, none⟩ = some a8 ∧ W.cell? ⟨q, 9, none⟩ = some a9 ∧ W.cell? ⟨q, 10, none⟩ = some a10 ∧ W.cell? ⟨q, 11, none⟩ = some a11 ∧ W.cell? ⟨q, 12, none⟩ = some a12 ∧ W.cell? ⟨q, 13, none⟩ = some a13 := by
  have g := bl_blk hb hq
  exact ⟨cellN (i := 0) g rfl, cellN (i := 1) g rfl, cellN (i := 2) g rfl, cellN (i := 3) g rfl, cellN (i := 4) g rfl, cellN (i := 5) g rfl, cellN (i := 6) g rfl, cellN (i := 7) g rfl, cellN (i := 8) g rfl, cellN (i := 9) g rfl, cellN (i := 10) g rfl, cellN (i := 11) g rfl, cellN (i := 12) g rfl, cellN (i := 13) g rfl⟩
theorem okP_in {a : List Gn} {l : List Int} (h : readP a l (-1) = true) : ∀ x ∈ l, 0 ≤ x := fun x hx => by
  rw [readP_both, Bool.and_eq_true] at h
  have := List.all_eq_true.1 h.1 x hx
  simp only [Bool.and_eq_true, decide_eq_true_eq] at this
  omega
set_option maxRecDepth 100000 in
set_option maxHeartbeats 8000000 in
theorem rline1_any (w : World) (S : Nat → Prop) (d : Nat) (l : List Gn) (i : Nat) (n : Gn) (IA SA A : Option Addr) (ic sc c : Nat) (hN : GnAt w S d (n.val IA SA A ic sc c) n) (hok : OkN l i n) (hr : GnR n) (h1 : n.op = 1) :
    Calls Tryz.prog 50 #[.agg #[.int .i64 n.op, .slice IA n.ins.length ic, .slice SA n.side.length sc, .string ⟨n.text.toArray⟩, .int .i64 n.ty.kind, .slice A n.ty.args.length c, .int .i64 n.f0, .int .i64 n.f1, .int .i64 n.f2, .int .i64 n.f3, .int .i64 n.e, .int .i64 n.l, .int .i64 n.lt, .bool n.acc]] w fun e w' => e = .returned (.string ⟨(lineP n).toArray⟩) ∧ Below w.heap.size w w' := by
  have hgi : IntsAt w S (.slice IA n.ins.length ic) n.ins ∧ IntsAt w S (.slice SA n.side.length sc) n.side ∧ TyAt w S d (.agg #[.int .i64 n.ty.kind, .slice A n.ty.args.length c]) n.ty := by
    obtain ⟨_, _, _, _, _, _, e, h1, h2, h3⟩ := hN
    unfold Gn.val at e
    injection e with e
    simp only [Array.mk.injEq, List.cons.injEq, Value.slice.injEq, and_true, true_and] at e
    obtain ⟨⟨rfl, rfl⟩, ⟨rfl, rfl⟩, rfl, rfl⟩ := e
    exact ⟨h1, h2, h3⟩
  obtain ⟨W0, hW0⟩ : ∃ W0, w.alloc (.cells #[.int .i64 n.op, .slice IA n.ins.length ic, .slice SA n.side.length sc, .string ⟨n.text.toArray⟩, .int .i64 n.ty.kind, .slice A n.ty.args.length c, .int .i64 n.f0, .int .i64 n.f1, .int .i64 n.f2, .int .i64 n.f3, .int .i64 n.e, .int .i64 n.l, .int .i64 n.lt, .bool n.acc] 51) = W0 := ⟨_, rfl⟩
  have hx : W0.heap[w.heap.size]? = some (.cells #[.int .i64 n.op, .slice IA n.ins.length ic, .slice SA n.side.length sc, .string ⟨n.text.toArray⟩, .int .i64 n.ty.kind, .slice A n.ty.args.length c, .int .i64 n.f0, .int .i64 n.f1, .int .i64 n.f2, .int .i64 n.f3, .int .i64 n.e, .int .i64 n.l, .int .i64 n.lt, .bool n.acc] 51 (0, 0)) := by rw [← hW0]; exact heap_alloc_new w _
  have hB0 : Below w.heap.size w W0 := by rw [← hW0]; exact bl_al (Below.refl _ _) _
  have hil : n.ins.length ≤ 1000 ∧ n.side.length ≤ 1000 := by
    obtain ⟨o, ho, ⟨h1, h2⟩, h3⟩ := hok.op
    have := (show ∀ o ∈ gops, o.most ≤ 4 ∧ o.side ≤ 4 by decide) o (opP_mem ho).1
    omega
  have hni := okP_in hok.ins
  have hns := okP_in hok.side
  have hform := hok.form
  unfold formP at hform
  simp only [h1] at hform
  have hms : (Knd.measureT 6 n.ty).isSome = true := by simp at hform; exact hform.2.1
  obtain ⟨q, hq⟩ := Option.isSome_iff_exists.1 hms
  obtain ⟨TT, hTT⟩ : ∃ B : ByteArray, B = ⟨(Knd.textT 6 n.ty).toArray⟩ := ⟨_, rfl⟩
  have zTT : TT.size ≤ 1000000 := by
    rw [hTT, bytes_size]
    have := Knd.textT_small 6 n.ty q hq
    omega
  have HTT : Hid (∀ W, Below W0.heap.size W0 W → Calls Tryz.prog 80 #[.agg #[.int .i64 n.ty.kind, .slice A n.ty.args.length c]] W fun e w' => e = .returned (.string TT) ∧ Below W.heap.size W w') := Lib.hid fun W hb => by
    rw [hTT]; exact Knd.rshow_any 6 d q S _ n.ty W (Nat.le_refl _) hq (TyAt.move (fun b hb' hl => ⟨hb', fun _ => World.cell?_of_block ((hB0.trans (hb.mono hB0.size)).block b hl)⟩) _ _ _ hgi.2.2)
  obtain ⟨E0, hE0⟩ : ∃ B : ByteArray, B = (⟨#[115, 111, 117, 114, 99, 101, 32]⟩ : ByteArray) ++ (TT : ByteArray) := ⟨_, rfl⟩
  have y0 : E0.size ≤ 1000007 := by
    rw [hE0, ByteArray.size_append]
    have s1 : (⟨#[115, 111, 117, 114, 99, 101, 32]⟩ : ByteArray).size = 7 := rfl
    omega
  have a0 : ∀ w' : World, (Op.stringOp .add (⟨#[115, 111, 117, 114, 99, 101, 32]⟩ : ByteArray) (TT : ByteArray)).run Tryz.prog w' = .ok (.string E0) w' := fun w' => by
    rw [hE0]
    refine run_string_add_sum _ _ _ ?_
    rw [← ByteArray.size_append, ← hE0]
    omega
  have HF : Hid (E0 = ⟨(lineP n).toArray⟩) := Lib.hid (by
    rw [hE0, hTT]
    show ((⟨[115, 111, 117, 114, 99, 101, 32].toArray⟩ : ByteArray) ++ ⟨(Knd.textT 6 n.ty).toArray⟩) = _
    simp only [bytes_app]
    congr 2
    unfold lineP partsP
    simp [opWord, opP, gops, gop1, gop2, gop3, gop4, gop5, gop6, h1, Lib.join, List.intercalate, List.intersperse])
  clear hE0 y0
  have H9 := Lib.hid h1
  have HW0 := Lib.hid hW0
  have HX := Lib.hid hx
  have HB0 := Lib.hid hB0
  clear hW0 hx hB0 hgi hni hns hform hok hr hN hil h1 hTT hms
  go_enter Tryz.func50, Tryz.ntmps50
  go_upto_region 1 with (fail)
  rw [HW0.out]
  clear HW0
  have c0 := cellN (i := 0) HX.out rfl
  have c1 := cellN (i := 1) HX.out rfl
  have c2 := cellN (i := 2) HX.out rfl
  have c3 := cellN (i := 3) HX.out rfl
  have c4 := cellN (i := 4) HX.out rfl
  have c5 := cellN (i := 5) HX.out rfl
  have c6 := cellN (i := 6) HX.out rfl
  have c7 := cellN (i := 7) HX.out rfl
  have c8 := cellN (i := 8) HX.out rfl
  have c9 := cellN (i := 9) HX.out rfl
  have c10 := cellN (i := 10) HX.out rfl
  have c11 := cellN (i := 11) HX.out rfl
  have c12 := cellN (i := 12) HX.out rfl
  have c13 := cellN (i := 13) HX.out rfl
  have cl := cell_lt HX.out
  have o1 : (n.op == 1) = true := by simp [H9.out]
  have o2 : (n.op == 2) = false := by simp [H9.out]
  have o3 : (n.op == 3) = false := by simp [H9.out]
  have o4 : (n.op == 4) = false := by simp [H9.out]
  have o5 : (n.op == 5) = false := by simp [H9.out]
  have o6 : (n.op == 6) = false := by simp [H9.out]
  go_wp2_with (first
    | (go_at_call 80; (with_reducible refine (HTT.out _ ?_).mono ?_); (focus exact (by repeat' (first | with_reducible exact HB3.out | with_reducible exact Below.refl _ _ | with_reducible refine bl_al ?_ _ | with_reducible refine bl_dr ?_))); rintro e w3 ⟨rfl, hb3⟩; have HB3 : Hid (Below W0.heap.size W0 w3) := Lib.hid (bl_tr (by repeat' (first | with_reducible exact HB3.out | with_reducible exact Below.refl _ _ | with_reducible refine bl_al ?_ _ | with_reducible refine bl_dr ?_)) hb3); clear hb3)
    | fail)
  go_ret
  exact ⟨congrArg _ (congrArg _ HF.out), HB0.out.trans (HB3.out.mono HB0.out.size)⟩
set_option maxRecDepth 100000 in
set_option maxHeartbeats 8000000 in
theorem rline2_any (w : World) (S : Nat → Prop) (d : Nat) (l : List Gn) (i : Nat) (n : Gn) (IA SA A : Option Addr) (ic sc c : Nat) (hN : GnAt w S d (n.val IA SA A ic sc c) n) (hok : OkN l i n) (hr : GnR n) (h2 : n.op = 2) :
    Calls Tryz.prog 50 #[.agg #[.int .i64 n.op, .slice IA n.ins.length ic, .slice SA n.side.length sc, .string ⟨n.text.toArray⟩, .int .i64 n.ty.kind, .slice A n.ty.args.length c, .int .i64 n.f0, .int .i64 n.f1, .int .i64 n.f2, .int .i64 n.f3, .int .i64 n.e, .int .i64 n.l, .int .i64 n.lt, .bool n.acc]] w fun e w' => e = .returned (.string ⟨(lineP n).toArray⟩) ∧ Below w.heap.size w w' := by
  have hgi : IntsAt w S (.slice IA n.ins.length ic) n.ins ∧ IntsAt w S (.slice SA n.side.length sc) n.side ∧ TyAt w S d (.agg #[.int .i64 n.ty.kind, .slice A n.ty.args.length c]) n.ty := by
    obtain ⟨_, _, _, _, _, _, e, h1, h2, h3⟩ := hN
    unfold Gn.val at e
    injection e with e
    simp only [Array.mk.injEq, List.cons.injEq, Value.slice.injEq, and_true, true_and] at e
    obtain ⟨⟨rfl, rfl⟩, ⟨rfl, rfl⟩, rfl, rfl⟩ := e
    exact ⟨h1, h2, h3⟩
  obtain ⟨W0, hW0⟩ : ∃ W0, w.alloc (.cells #[.int .i64 n.op, .slice IA n.ins.length ic, .slice SA n.side.length sc, .string ⟨n.text.toArray⟩, .int .i64 n.ty.kind, .slice A n.ty.args.length c, .int .i64 n.f0, .int .i64 n.f1, .int .i64 n.f2, .int .i64 n.f3, .int .i64 n.e, .int .i64 n.l, .int .i64 n.lt, .bool n.acc] 51) = W0 := ⟨_, rfl⟩
  have hx : W0.heap[w.heap.size]? = some (.cells #[.int .i64 n.op, .slice IA n.ins.length ic, .slice SA n.side.length sc, .string ⟨n.text.toArray⟩, .int .i64 n.ty.kind, .slice A n.ty.args.length c, .int .i64 n.f0, .int .i64 n.f1, .int .i64 n.f2, .int .i64 n.f3, .int .i64 n.e, .int .i64 n.l, .int .i64 n.lt, .bool n.acc] 51 (0, 0)) := by rw [← hW0]; exact heap_alloc_new w _
  have hB0 : Below w.heap.size w W0 := by rw [← hW0]; exact bl_al (Below.refl _ _) _
  have hil : n.ins.length ≤ 1000 ∧ n.side.length ≤ 1000 := by
    obtain ⟨o, ho, ⟨h1, h2⟩, h3⟩ := hok.op
    have := (show ∀ o ∈ gops, o.most ≤ 4 ∧ o.side ≤ 4 by decide) o (opP_mem ho).1
    omega
  have hni := okP_in hok.ins
  have hns := okP_in hok.side
  have hform := hok.form
  unfold formP at hform
  simp only [h2] at hform
  have htl : n.text.length ≤ 1000 := by
    have : isTx n.text = true := by simp at hform; exact hform.1
    unfold isTx at this
    simp only [Bool.and_eq_true, decide_eq_true_eq] at this
    omega
  obtain ⟨CI, hCI⟩ : ∃ B : ByteArray, B = ⟨(placeT n.ins).toArray⟩ := ⟨_, rfl⟩
  have zCI : CI.size ≤ 30000 := by rw [hCI, bytes_size]; exact placeT_len hil.1 hr.ins
  have HCI : Hid (∀ W, Below W0.heap.size W0 W → Calls Tryz.prog 81 #[.slice IA n.ins.length ic] W fun e w' => e = .returned (.string CI) ∧ Below W.heap.size W w') := Lib.hid fun W hb => by
    rw [hCI]; exact rcommas_any W S _ n.ins (hgi.1.below (hB0.trans (hb.mono hB0.size))) hil.1 (fun x hx => ⟨hni x hx, (hr.ins x hx).2⟩)
  obtain ⟨CS, hCS⟩ : ∃ B : ByteArray, B = ⟨(placeT n.side).toArray⟩ := ⟨_, rfl⟩
  have zCS : CS.size ≤ 30000 := by rw [hCS, bytes_size]; exact placeT_len hil.2 hr.side
  have HCS : Hid (∀ W, Below W0.heap.size W0 W → Calls Tryz.prog 81 #[.slice SA n.side.length sc] W fun e w' => e = .returned (.string CS) ∧ Below W.heap.size W w') := Lib.hid fun W hb => by
    rw [hCS]; exact rcommas_any W S _ n.side (hgi.2.1.below (hB0.trans (hb.mono hB0.size))) hil.2 (fun x hx => ⟨hns x hx, (hr.side x hx).2⟩)
  obtain ⟨TX, hTX⟩ : ∃ B : ByteArray, B = ⟨n.text.toArray⟩ := ⟨_, rfl⟩
  have zTX : TX.size ≤ 1000 := by rw [hTX, bytes_size]; exact htl
  obtain ⟨E0, hE0⟩ : ∃ B : ByteArray, B = (⟨#[101, 97, 99, 104, 32]⟩ : ByteArray) ++ (CI : ByteArray) := ⟨_, rfl⟩
  have y0 : E0.size ≤ 30005 := by
    rw [hE0, ByteArray.size_append]
    have s1 : (⟨#[101, 97, 99, 104, 32]⟩ : ByteArray).size = 5 := rfl
    omega
  have a0 : ∀ w' : World, (Op.stringOp .add (⟨#[101, 97, 99, 104, 32]⟩ : ByteArray) (CI : ByteArray)).run Tryz.prog w' = .ok (.string E0) w' := fun w' => by
    rw [hE0]
    refine run_string_add_sum _ _ _ ?_
    rw [← ByteArray.size_append, ← hE0]
    omega
  obtain ⟨E1, hE1⟩ : ∃ B : ByteArray, B = (E0 : ByteArray) ++ (⟨#[32]⟩ : ByteArray) := ⟨_, rfl⟩
  have y1 : E1.size ≤ 30006 := by
    rw [hE1, ByteArray.size_append]
    have s2 : (⟨#[32]⟩ : ByteArray).size = 1 := rfl
    omega
  have a1 : ∀ w' : World, (Op.stringOp .add (E0 : ByteArray) (⟨#[32]⟩ : ByteArray)).run Tryz.prog w' = .ok (.string E1) w' := fun w' => by
    rw [hE1]
    refine run_string_add_sum _ _ _ ?_
    rw [← ByteArray.size_append, ← hE1]
    omega
  obtain ⟨E2, hE2⟩ : ∃ B : ByteArray, B = (E1 : ByteArray) ++ (CS : ByteArray) := ⟨_, rfl⟩
  have y2 : E2.size ≤ 60006 := by
    rw [hE2, ByteArray.size_append]
    omega
  have a2 : ∀ w' : World, (Op.stringOp .add (E1 : ByteArray) (CS : ByteArray)).run Tryz.prog w' = .ok (.string E2) w' := fun w' => by
    rw [hE2]
    refine run_string_add_sum _ _ _ ?_
    rw [← ByteArray.size_append, ← hE2]
    omega
  obtain ⟨E3, hE3⟩ : ∃ B : ByteArray, B = (E2 : ByteArray) ++ (⟨#[32]⟩ : ByteArray) := ⟨_, rfl⟩
  have y3 : E3.size ≤ 60007 := by
    rw [hE3, ByteArray.size_append]
    have s2 : (⟨#[32]⟩ : ByteArray).size = 1 := rfl
    omega
  have a3 : ∀ w' : World, (Op.stringOp .add (E2 : ByteArray) (⟨#[32]⟩ : ByteArray)).run Tryz.prog w' = .ok (.string E3) w' := fun w' => by
    rw [hE3]
    refine run_string_add_sum _ _ _ ?_
    rw [← ByteArray.size_append, ← hE3]
    omega
  obtain ⟨E4, hE4⟩ : ∃ B : ByteArray, B = (E3 : ByteArray) ++ (TX : ByteArray) := ⟨_, rfl⟩
  have y4 : E4.size ≤ 61007 := by
    rw [hE4, ByteArray.size_append]
    omega
  have a4 : ∀ w' : World, (Op.stringOp .add (E3 : ByteArray) (TX : ByteArray)).run Tryz.prog w' = .ok (.string E4) w' := fun w' => by
    rw [hE4]
    refine run_string_add_sum _ _ _ ?_
    rw [← ByteArray.size_append, ← hE4]
    omega
  have HF : Hid (E4 = ⟨(lineP n).toArray⟩) := Lib.hid (by
    rw [hE4, hE3, hE2, hE1, hE0, hCI, hCS, hTX]
    show ((((((⟨[101, 97, 99, 104, 32].toArray⟩ : ByteArray) ++ ⟨(placeT n.ins).toArray⟩) ++ ⟨[32].toArray⟩) ++ ⟨(placeT n.side).toArray⟩) ++ ⟨[32].toArray⟩) ++ ⟨(n.text).toArray⟩) = _
    simp only [bytes_app]
    congr 2
    unfold lineP partsP
    simp [opWord, opP, gops, gop1, gop2, gop3, gop4, gop5, gop6, h2, Lib.join, List.intercalate, List.intersperse])
  clear hE0 y0 hE1 y1 hE2 y2 hE3 y3 hE4 y4
  have H9 := Lib.hid h2
  have HW0 := Lib.hid hW0
  have HX := Lib.hid hx
  have HB0 := Lib.hid hB0
  have HTX := Lib.hid hTX
  clear hW0 hx hB0 hgi hni hns hform hok hr hN hil h2 hCI hCS hTX htl
  go_enter Tryz.func50, Tryz.ntmps50
  go_upto_region 1 with (fail)
  rw [HW0.out]
  clear HW0
  rw [← HTX.out] at HX
  have c0 := cellN (i := 0) HX.out rfl
  have c1 := cellN (i := 1) HX.out rfl
  have c2 := cellN (i := 2) HX.out rfl
  have c3 := cellN (i := 3) HX.out rfl
  have c4 := cellN (i := 4) HX.out rfl
  have c5 := cellN (i := 5) HX.out rfl
  have c6 := cellN (i := 6) HX.out rfl
  have c7 := cellN (i := 7) HX.out rfl
  have c8 := cellN (i := 8) HX.out rfl
  have c9 := cellN (i := 9) HX.out rfl
  have c10 := cellN (i := 10) HX.out rfl
  have c11 := cellN (i := 11) HX.out rfl
  have c12 := cellN (i := 12) HX.out rfl
  have c13 := cellN (i := 13) HX.out rfl
  have cl := cell_lt HX.out
  have o1 : (n.op == 1) = false := by simp [H9.out]
  have o2 : (n.op == 2) = true := by simp [H9.out]
  have o3 : (n.op == 3) = false := by simp [H9.out]
  have o4 : (n.op == 4) = false := by simp [H9.out]
  have o5 : (n.op == 5) = false := by simp [H9.out]
  have o6 : (n.op == 6) = false := by simp [H9.out]
  go_wp2_with (fail)
  go_region_held3 (fun W => W.cell? ⟨w.heap.size, 0, none⟩ = some (.int .i64 n.op) ∧ W.cell? ⟨w.heap.size, 1, none⟩ = some (.slice IA n.ins.length ic) ∧ W.cell? ⟨w.heap.size, 2, none⟩ = some (.slice SA n.side.length sc) ∧ W.cell? ⟨w.heap.size, 3, none⟩ = some (.string TX) ∧ W.cell? ⟨w.heap.size, 4, none⟩ = some (.int .i64 n.ty.kind) ∧ W.cell? ⟨w.heap.size, 5, none⟩ = some (.slice A n.ty.args.length c) ∧ W.cell? ⟨w.heap.size, 6, none⟩ = some (.int .i64 n.f0) ∧ W.cell? ⟨w.heap.size, 7, none⟩ = some (.int .i64 n.f1) ∧ W.cell? ⟨w.heap.size, 8, none⟩ = some (.int .i64 n.f2) ∧ W.cell? ⟨w.heap.size, 9, none⟩ = some (.int .i64 n.f3) ∧ W.cell? ⟨w.heap.size, 10, none⟩ = some (.int .i64 n.e) ∧ W.cell? ⟨w.heap.size, 11, none⟩ = some (.int .i64 n.l) ∧ W.cell? ⟨w.heap.size, 12, none⟩ = some (.int .i64 n.lt) ∧ W.cell? ⟨w.heap.size, 13, none⟩ = some (.bool n.acc))
    (exact keep14s HX.out (by repeat' (first | with_reducible exact HB3.out | with_reducible exact Below.refl _ _ | with_reducible refine bl_al ?_ _ | with_reducible refine bl_dr ?_)))
    (first
    | (go_at_call 81; (with_reducible refine (HCI.out _ ?_).mono ?_); (focus exact (by repeat' (first | with_reducible exact HB3.out | with_reducible exact Below.refl _ _ | with_reducible refine bl_al ?_ _ | with_reducible refine bl_dr ?_))); rintro e w3 ⟨rfl, hb3⟩; have HB3 : Hid (Below W0.heap.size W0 w3) := Lib.hid (bl_tr (by repeat' (first | with_reducible exact HB3.out | with_reducible exact Below.refl _ _ | with_reducible refine bl_al ?_ _ | with_reducible refine bl_dr ?_)) hb3); clear hb3)
    | (go_at_call 81; (with_reducible refine (HCS.out _ ?_).mono ?_); (focus exact (by repeat' (first | with_reducible exact HB3.out | with_reducible exact Below.refl _ _ | with_reducible refine bl_al ?_ _ | with_reducible refine bl_dr ?_))); rintro e w3 ⟨rfl, hb3⟩; have HB3 : Hid (Below W0.heap.size W0 w3) := Lib.hid (bl_tr (by repeat' (first | with_reducible exact HB3.out | with_reducible exact Below.refl _ _ | with_reducible refine bl_al ?_ _ | with_reducible refine bl_dr ?_)) hb3); clear hb3)
    | fail)
  all_goals (
    go_wp2_with (fail)
    go_ret
    exact ⟨congrArg _ (congrArg _ HF.out), HB0.out.trans ((show Below W0.heap.size W0 _ from (by repeat' (first | with_reducible exact HB3.out | with_reducible exact Below.refl _ _ | with_reducible refine bl_al ?_ _ | with_reducible refine bl_dr ?_))).mono HB0.out.size)⟩)
set_option maxRecDepth 100000 in
set_option maxHeartbeats 8000000 in
theorem rline3_any (w : World) (S : Nat → Prop) (d : Nat) (l : List Gn) (i : Nat) (n : Gn) (IA SA A : Option Addr) (ic sc c : Nat) (hN : GnAt w S d (n.val IA SA A ic sc c) n) (hok : OkN l i n) (hr : GnR n) (h3 : n.op = 3) :
    Calls Tryz.prog 50 #[.agg #[.int .i64 n.op, .slice IA n.ins.length ic, .slice SA n.side.length sc, .string ⟨n.text.toArray⟩, .int .i64 n.ty.kind, .slice A n.ty.args.length c, .int .i64 n.f0, .int .i64 n.f1, .int .i64 n.f2, .int .i64 n.f3, .int .i64 n.e, .int .i64 n.l, .int .i64 n.lt, .bool n.acc]] w fun e w' => e = .returned (.string ⟨(lineP n).toArray⟩) ∧ Below w.heap.size w w' := by
  have hgi : IntsAt w S (.slice IA n.ins.length ic) n.ins ∧ IntsAt w S (.slice SA n.side.length sc) n.side ∧ TyAt w S d (.agg #[.int .i64 n.ty.kind, .slice A n.ty.args.length c]) n.ty := by
    obtain ⟨_, _, _, _, _, _, e, h1, h2, h3⟩ := hN
    unfold Gn.val at e
    injection e with e
    simp only [Array.mk.injEq, List.cons.injEq, Value.slice.injEq, and_true, true_and] at e
    obtain ⟨⟨rfl, rfl⟩, ⟨rfl, rfl⟩, rfl, rfl⟩ := e
    exact ⟨h1, h2, h3⟩
  obtain ⟨W0, hW0⟩ : ∃ W0, w.alloc (.cells #[.int .i64 n.op, .slice IA n.ins.length ic, .slice SA n.side.length sc, .string ⟨n.text.toArray⟩, .int .i64 n.ty.kind, .slice A n.ty.args.length c, .int .i64 n.f0, .int .i64 n.f1, .int .i64 n.f2, .int .i64 n.f3, .int .i64 n.e, .int .i64 n.l, .int .i64 n.lt, .bool n.acc] 51) = W0 := ⟨_, rfl⟩
  have hx : W0.heap[w.heap.size]? = some (.cells #[.int .i64 n.op, .slice IA n.ins.length ic, .slice SA n.side.length sc, .string ⟨n.text.toArray⟩, .int .i64 n.ty.kind, .slice A n.ty.args.length c, .int .i64 n.f0, .int .i64 n.f1, .int .i64 n.f2, .int .i64 n.f3, .int .i64 n.e, .int .i64 n.l, .int .i64 n.lt, .bool n.acc] 51 (0, 0)) := by rw [← hW0]; exact heap_alloc_new w _
  have hB0 : Below w.heap.size w W0 := by rw [← hW0]; exact bl_al (Below.refl _ _) _
  have hil : n.ins.length ≤ 1000 ∧ n.side.length ≤ 1000 := by
    obtain ⟨o, ho, ⟨h1, h2⟩, h3⟩ := hok.op
    have := (show ∀ o ∈ gops, o.most ≤ 4 ∧ o.side ≤ 4 by decide) o (opP_mem ho).1
    omega
  have hni := okP_in hok.ins
  have hns := okP_in hok.side
  have hform := hok.form
  unfold formP at hform
  simp only [h3] at hform
  have hnn : 0 ≤ n.f0 ∧ 0 ≤ n.f1 ∧ 0 ≤ n.f2 ∧ 0 ≤ n.f3 := by
    have : Wi.rgtB n.f0 n.f1 n.f2 n.f3 = true := by simp at hform; exact hform.2.2.1
    have := of_decide_eq_true this
    unfold Wi.Rgt at this
    omega
  obtain ⟨CI, hCI⟩ : ∃ B : ByteArray, B = ⟨(placeT n.ins).toArray⟩ := ⟨_, rfl⟩
  have zCI : CI.size ≤ 30000 := by rw [hCI, bytes_size]; exact placeT_len hil.1 hr.ins
  have HCI : Hid (∀ W, Below W0.heap.size W0 W → Calls Tryz.prog 81 #[.slice IA n.ins.length ic] W fun e w' => e = .returned (.string CI) ∧ Below W.heap.size W w') := Lib.hid fun W hb => by
    rw [hCI]; exact rcommas_any W S _ n.ins (hgi.1.below (hB0.trans (hb.mono hB0.size))) hil.1 (fun x hx => ⟨hni x hx, (hr.ins x hx).2⟩)
  obtain ⟨D0, hD0⟩ : ∃ B : ByteArray, B = ⟨(Lib.itoa n.f0).toArray⟩ := ⟨_, rfl⟩
  have zD0 : D0.size ≤ 21 := by rw [hD0, bytes_size]; exact Lib.itoa_length_le _ hr.f0.1 hr.f0.2
  have HD0 : Hid (∀ W, Calls Tryz.prog 82 #[.int .i64 n.f0] W fun e w' => e = .returned (.string D0) ∧ Below W.heap.size W w') := Lib.hid fun W => by
    have h0 := hnn.1
    have h1 := hr.f0.2
    obtain ⟨v, hv⟩ : ∃ v : Nat, n.f0 = (v : Int) := ⟨n.f0.toNat, by omega⟩
    rw [hD0, hv, Lib.itoa_nonneg]
    exact digits_any 18 v W (Nat.lt_of_le_of_lt (show v ≤ 9223372036854775807 by omega) (by decide)) (by omega)
  obtain ⟨D1, hD1⟩ : ∃ B : ByteArray, B = ⟨(Lib.itoa n.f1).toArray⟩ := ⟨_, rfl⟩
  have zD1 : D1.size ≤ 21 := by rw [hD1, bytes_size]; exact Lib.itoa_length_le _ hr.f1.1 hr.f1.2
  have HD1 : Hid (∀ W, Calls Tryz.prog 82 #[.int .i64 n.f1] W fun e w' => e = .returned (.string D1) ∧ Below W.heap.size W w') := Lib.hid fun W => by
    have h0 := hnn.2.1
    have h1 := hr.f1.2
    obtain ⟨v, hv⟩ : ∃ v : Nat, n.f1 = (v : Int) := ⟨n.f1.toNat, by omega⟩
    rw [hD1, hv, Lib.itoa_nonneg]
    exact digits_any 18 v W (Nat.lt_of_le_of_lt (show v ≤ 9223372036854775807 by omega) (by decide)) (by omega)
  obtain ⟨D2, hD2⟩ : ∃ B : ByteArray, B = ⟨(Lib.itoa n.f2).toArray⟩ := ⟨_, rfl⟩
  have zD2 : D2.size ≤ 21 := by rw [hD2, bytes_size]; exact Lib.itoa_length_le _ hr.f2.1 hr.f2.2
  have HD2 : Hid (∀ W, Calls Tryz.prog 82 #[.int .i64 n.f2] W fun e w' => e = .returned (.string D2) ∧ Below W.heap.size W w') := Lib.hid fun W => by
    have h0 := hnn.2.2.1
    have h1 := hr.f2.2
    obtain ⟨v, hv⟩ : ∃ v : Nat, n.f2 = (v : Int) := ⟨n.f2.toNat, by omega⟩
    rw [hD2, hv, Lib.itoa_nonneg]
    exact digits_any 18 v W (Nat.lt_of_le_of_lt (show v ≤ 9223372036854775807 by omega) (by decide)) (by omega)
  obtain ⟨D3, hD3⟩ : ∃ B : ByteArray, B = ⟨(Lib.itoa n.f3).toArray⟩ := ⟨_, rfl⟩
  have zD3 : D3.size ≤ 21 := by rw [hD3, bytes_size]; exact Lib.itoa_length_le _ hr.f3.1 hr.f3.2
  have HD3 : Hid (∀ W, Calls Tryz.prog 82 #[.int .i64 n.f3] W fun e w' => e = .returned (.string D3) ∧ Below W.heap.size W w') := Lib.hid fun W => by
    have h0 := hnn.2.2.2
    have h1 := hr.f3.2
    obtain ⟨v, hv⟩ : ∃ v : Nat, n.f3 = (v : Int) := ⟨n.f3.toNat, by omega⟩
    rw [hD3, hv, Lib.itoa_nonneg]
    exact digits_any 18 v W (Nat.lt_of_le_of_lt (show v ≤ 9223372036854775807 by omega) (by decide)) (by omega)
  obtain ⟨E0, hE0⟩ : ∃ B : ByteArray, B = (⟨#[119, 105, 110, 100, 111, 119, 32]⟩ : ByteArray) ++ (CI : ByteArray) := ⟨_, rfl⟩
  have y0 : E0.size ≤ 30007 := by
    rw [hE0, ByteArray.size_append]
    have s1 : (⟨#[119, 105, 110, 100, 111, 119, 32]⟩ : ByteArray).size = 7 := rfl
    omega
  have a0 : ∀ w' : World, (Op.stringOp .add (⟨#[119, 105, 110, 100, 111, 119, 32]⟩ : ByteArray) (CI : ByteArray)).run Tryz.prog w' = .ok (.string E0) w' := fun w' => by
    rw [hE0]
    refine run_string_add_sum _ _ _ ?_
    rw [← ByteArray.size_append, ← hE0]
    omega
  obtain ⟨E1, hE1⟩ : ∃ B : ByteArray, B = (E0 : ByteArray) ++ (⟨#[32]⟩ : ByteArray) := ⟨_, rfl⟩
  have y1 : E1.size ≤ 30008 := by
    rw [hE1, ByteArray.size_append]
    have s2 : (⟨#[32]⟩ : ByteArray).size = 1 := rfl
    omega
  have a1 : ∀ w' : World, (Op.stringOp .add (E0 : ByteArray) (⟨#[32]⟩ : ByteArray)).run Tryz.prog w' = .ok (.string E1) w' := fun w' => by
    rw [hE1]
    refine run_string_add_sum _ _ _ ?_
    rw [← ByteArray.size_append, ← hE1]
    omega
  obtain ⟨E2, hE2⟩ : ∃ B : ByteArray, B = (E1 : ByteArray) ++ (D0 : ByteArray) := ⟨_, rfl⟩
  have y2 : E2.size ≤ 30029 := by
    rw [hE2, ByteArray.size_append]
    omega
  have a2 : ∀ w' : World, (Op.stringOp .add (E1 : ByteArray) (D0 : ByteArray)).run Tryz.prog w' = .ok (.string E2) w' := fun w' => by
    rw [hE2]
    refine run_string_add_sum _ _ _ ?_
    rw [← ByteArray.size_append, ← hE2]
    omega
  obtain ⟨E3, hE3⟩ : ∃ B : ByteArray, B = (E2 : ByteArray) ++ (⟨#[32]⟩ : ByteArray) := ⟨_, rfl⟩
  have y3 : E3.size ≤ 30030 := by
    rw [hE3, ByteArray.size_append]
    have s2 : (⟨#[32]⟩ : ByteArray).size = 1 := rfl
    omega
  have a3 : ∀ w' : World, (Op.stringOp .add (E2 : ByteArray) (⟨#[32]⟩ : ByteArray)).run Tryz.prog w' = .ok (.string E3) w' := fun w' => by
    rw [hE3]
    refine run_string_add_sum _ _ _ ?_
    rw [← ByteArray.size_append, ← hE3]
    omega
  obtain ⟨E4, hE4⟩ : ∃ B : ByteArray, B = (E3 : ByteArray) ++ (D1 : ByteArray) := ⟨_, rfl⟩
  have y4 : E4.size ≤ 30051 := by
    rw [hE4, ByteArray.size_append]
    omega
  have a4 : ∀ w' : World, (Op.stringOp .add (E3 : ByteArray) (D1 : ByteArray)).run Tryz.prog w' = .ok (.string E4) w' := fun w' => by
    rw [hE4]
    refine run_string_add_sum _ _ _ ?_
    rw [← ByteArray.size_append, ← hE4]
    omega
  obtain ⟨E5, hE5⟩ : ∃ B : ByteArray, B = (E4 : ByteArray) ++ (⟨#[32]⟩ : ByteArray) := ⟨_, rfl⟩
  have y5 : E5.size ≤ 30052 := by
    rw [hE5, ByteArray.size_append]
    have s2 : (⟨#[32]⟩ : ByteArray).size = 1 := rfl
    omega
  have a5 : ∀ w' : World, (Op.stringOp .add (E4 : ByteArray) (⟨#[32]⟩ : ByteArray)).run Tryz.prog w' = .ok (.string E5) w' := fun w' => by
    rw [hE5]
    refine run_string_add_sum _ _ _ ?_
    rw [← ByteArray.size_append, ← hE5]
    omega
  obtain ⟨E6, hE6⟩ : ∃ B : ByteArray, B = (E5 : ByteArray) ++ (D2 : ByteArray) := ⟨_, rfl⟩
  have y6 : E6.size ≤ 30073 := by
    rw [hE6, ByteArray.size_append]
    omega
  have a6 : ∀ w' : World, (Op.stringOp .add (E5 : ByteArray) (D2 : ByteArray)).run Tryz.prog w' = .ok (.string E6) w' := fun w' => by
    rw [hE6]
    refine run_string_add_sum _ _ _ ?_
    rw [← ByteArray.size_append, ← hE6]
    omega
  obtain ⟨E7, hE7⟩ : ∃ B : ByteArray, B = (E6 : ByteArray) ++ (⟨#[32]⟩ : ByteArray) := ⟨_, rfl⟩
  have y7 : E7.size ≤ 30074 := by
    rw [hE7, ByteArray.size_append]
    have s2 : (⟨#[32]⟩ : ByteArray).size = 1 := rfl
    omega
  have a7 : ∀ w' : World, (Op.stringOp .add (E6 : ByteArray) (⟨#[32]⟩ : ByteArray)).run Tryz.prog w' = .ok (.string E7) w' := fun w' => by
    rw [hE7]
    refine run_string_add_sum _ _ _ ?_
    rw [← ByteArray.size_append, ← hE7]
    omega
  obtain ⟨E8, hE8⟩ : ∃ B : ByteArray, B = (E7 : ByteArray) ++ (D3 : ByteArray) := ⟨_, rfl⟩
  have y8 : E8.size ≤ 30095 := by
    rw [hE8, ByteArray.size_append]
    omega
  have a8 : ∀ w' : World, (Op.stringOp .add (E7 : ByteArray) (D3 : ByteArray)).run Tryz.prog w' = .ok (.string E8) w' := fun w' => by
    rw [hE8]
    refine run_string_add_sum _ _ _ ?_
    rw [← ByteArray.size_append, ← hE8]
    omega
  have HF : Hid (E8 = ⟨(lineP n).toArray⟩) := Lib.hid (by
    rw [hE8, hE7, hE6, hE5, hE4, hE3, hE2, hE1, hE0, hCI, hD0, hD1, hD2, hD3]
    show ((((((((((⟨[119, 105, 110, 100, 111, 119, 32].toArray⟩ : ByteArray) ++ ⟨(placeT n.ins).toArray⟩) ++ ⟨[32].toArray⟩) ++ ⟨(Lib.itoa n.f0).toArray⟩) ++ ⟨[32].toArray⟩) ++ ⟨(Lib.itoa n.f1).toArray⟩) ++ ⟨[32].toArray⟩) ++ ⟨(Lib.itoa n.f2).toArray⟩) ++ ⟨[32].toArray⟩) ++ ⟨(Lib.itoa n.f3).toArray⟩) = _
    simp only [bytes_app]
    congr 2
    unfold lineP partsP
    simp [opWord, opP, gops, gop1, gop2, gop3, gop4, gop5, gop6, h3, Lib.join, List.intercalate, List.intersperse])
  clear hE0 y0 hE1 y1 hE2 y2 hE3 y3 hE4 y4 hE5 y5 hE6 y6 hE7 y7 hE8 y8
  have H9 := Lib.hid h3
  have HW0 := Lib.hid hW0
  have HX := Lib.hid hx
  have HB0 := Lib.hid hB0
  clear hW0 hx hB0 hgi hni hns hform hok hr hN hil h3 hCI hD0 hD1 hD2 hD3 hnn
  go_enter Tryz.func50, Tryz.ntmps50
  go_upto_region 1 with (fail)
  rw [HW0.out]
  clear HW0
  have c0 := cellN (i := 0) HX.out rfl
  have c1 := cellN (i := 1) HX.out rfl
  have c2 := cellN (i := 2) HX.out rfl
  have c3 := cellN (i := 3) HX.out rfl
  have c4 := cellN (i := 4) HX.out rfl
  have c5 := cellN (i := 5) HX.out rfl
  have c6 := cellN (i := 6) HX.out rfl
  have c7 := cellN (i := 7) HX.out rfl
  have c8 := cellN (i := 8) HX.out rfl
  have c9 := cellN (i := 9) HX.out rfl
  have c10 := cellN (i := 10) HX.out rfl
  have c11 := cellN (i := 11) HX.out rfl
  have c12 := cellN (i := 12) HX.out rfl
  have c13 := cellN (i := 13) HX.out rfl
  have cl := cell_lt HX.out
  have o1 : (n.op == 1) = false := by simp [H9.out]
  have o2 : (n.op == 2) = false := by simp [H9.out]
  have o3 : (n.op == 3) = true := by simp [H9.out]
  have o4 : (n.op == 4) = false := by simp [H9.out]
  have o5 : (n.op == 5) = false := by simp [H9.out]
  have o6 : (n.op == 6) = false := by simp [H9.out]
  go_wp2_with (fail)
  go_region_held3 (fun W => W.cell? ⟨w.heap.size, 0, none⟩ = some (.int .i64 n.op) ∧ W.cell? ⟨w.heap.size, 1, none⟩ = some (.slice IA n.ins.length ic) ∧ W.cell? ⟨w.heap.size, 2, none⟩ = some (.slice SA n.side.length sc) ∧ W.cell? ⟨w.heap.size, 3, none⟩ = some (.string ⟨n.text.toArray⟩) ∧ W.cell? ⟨w.heap.size, 4, none⟩ = some (.int .i64 n.ty.kind) ∧ W.cell? ⟨w.heap.size, 5, none⟩ = some (.slice A n.ty.args.length c) ∧ W.cell? ⟨w.heap.size, 6, none⟩ = some (.int .i64 n.f0) ∧ W.cell? ⟨w.heap.size, 7, none⟩ = some (.int .i64 n.f1) ∧ W.cell? ⟨w.heap.size, 8, none⟩ = some (.int .i64 n.f2) ∧ W.cell? ⟨w.heap.size, 9, none⟩ = some (.int .i64 n.f3) ∧ W.cell? ⟨w.heap.size, 10, none⟩ = some (.int .i64 n.e) ∧ W.cell? ⟨w.heap.size, 11, none⟩ = some (.int .i64 n.l) ∧ W.cell? ⟨w.heap.size, 12, none⟩ = some (.int .i64 n.lt) ∧ W.cell? ⟨w.heap.size, 13, none⟩ = some (.bool n.acc))
    (exact keep14s HX.out (by repeat' (first | with_reducible exact HB3.out | with_reducible exact Below.refl _ _ | with_reducible refine bl_al ?_ _ | with_reducible refine bl_dr ?_)))
    (first
    | (go_at_call 81; (with_reducible refine (HCI.out _ ?_).mono ?_); (focus exact (by repeat' (first | with_reducible exact HB3.out | with_reducible exact Below.refl _ _ | with_reducible refine bl_al ?_ _ | with_reducible refine bl_dr ?_))); rintro e w3 ⟨rfl, hb3⟩; have HB3 : Hid (Below W0.heap.size W0 w3) := Lib.hid (bl_tr (by repeat' (first | with_reducible exact HB3.out | with_reducible exact Below.refl _ _ | with_reducible refine bl_al ?_ _ | with_reducible refine bl_dr ?_)) hb3); clear hb3)
    | (go_at_call 82; (with_reducible refine (HD0.out _).mono ?_); rintro e w3 ⟨rfl, hb3⟩; have HB3 : Hid (Below W0.heap.size W0 w3) := Lib.hid (bl_tr (by repeat' (first | with_reducible exact HB3.out | with_reducible exact Below.refl _ _ | with_reducible refine bl_al ?_ _ | with_reducible refine bl_dr ?_)) hb3); clear hb3)
    | (go_at_call 82; (with_reducible refine (HD1.out _).mono ?_); rintro e w3 ⟨rfl, hb3⟩; have HB3 : Hid (Below W0.heap.size W0 w3) := Lib.hid (bl_tr (by repeat' (first | with_reducible exact HB3.out | with_reducible exact Below.refl _ _ | with_reducible refine bl_al ?_ _ | with_reducible refine bl_dr ?_)) hb3); clear hb3)
    | (go_at_call 82; (with_reducible refine (HD2.out _).mono ?_); rintro e w3 ⟨rfl, hb3⟩; have HB3 : Hid (Below W0.heap.size W0 w3) := Lib.hid (bl_tr (by repeat' (first | with_reducible exact HB3.out | with_reducible exact Below.refl _ _ | with_reducible refine bl_al ?_ _ | with_reducible refine bl_dr ?_)) hb3); clear hb3)
    | (go_at_call 82; (with_reducible refine (HD3.out _).mono ?_); rintro e w3 ⟨rfl, hb3⟩; have HB3 : Hid (Below W0.heap.size W0 w3) := Lib.hid (bl_tr (by repeat' (first | with_reducible exact HB3.out | with_reducible exact Below.refl _ _ | with_reducible refine bl_al ?_ _ | with_reducible refine bl_dr ?_)) hb3); clear hb3)
    | fail)
  all_goals (
    go_wp2_with (fail)
    go_ret
    exact ⟨congrArg _ (congrArg _ HF.out), HB0.out.trans ((show Below W0.heap.size W0 _ from (by repeat' (first | with_reducible exact HB3.out | with_reducible exact Below.refl _ _ | with_reducible refine bl_al ?_ _ | with_reducible refine bl_dr ?_))).mono HB0.out.size)⟩)
set_option maxRecDepth 100000 in
set_option maxHeartbeats 8000000 in
theorem rline4a_any (w : World) (S : Nat → Prop) (d : Nat) (l : List Gn) (i : Nat) (n : Gn) (IA SA A : Option Addr) (ic sc c : Nat) (hN : GnAt w S d (n.val IA SA A ic sc c) n) (hok : OkN l i n) (hr : GnR n) (h4 : n.op = 4) (hacc : n.acc = true) :
    Calls Tryz.prog 50 #[.agg #[.int .i64 n.op, .slice IA n.ins.length ic, .slice SA n.side.length sc, .string ⟨n.text.toArray⟩, .int .i64 n.ty.kind, .slice A n.ty.args.length c, .int .i64 n.f0, .int .i64 n.f1, .int .i64 n.f2, .int .i64 n.f3, .int .i64 n.e, .int .i64 n.l, .int .i64 n.lt, .bool n.acc]] w fun e w' => e = .returned (.string ⟨(lineP n).toArray⟩) ∧ Below w.heap.size w w' := by
  have hgi : IntsAt w S (.slice IA n.ins.length ic) n.ins ∧ IntsAt w S (.slice SA n.side.length sc) n.side ∧ TyAt w S d (.agg #[.int .i64 n.ty.kind, .slice A n.ty.args.length c]) n.ty := by
    obtain ⟨_, _, _, _, _, _, e, h1, h2, h3⟩ := hN
    unfold Gn.val at e
    injection e with e
    simp only [Array.mk.injEq, List.cons.injEq, Value.slice.injEq, and_true, true_and] at e
    obtain ⟨⟨rfl, rfl⟩, ⟨rfl, rfl⟩, rfl, rfl⟩ := e
    exact ⟨h1, h2, h3⟩
  obtain ⟨W0, hW0⟩ : ∃ W0, w.alloc (.cells #[.int .i64 n.op, .slice IA n.ins.length ic, .slice SA n.side.length sc, .string ⟨n.text.toArray⟩, .int .i64 n.ty.kind, .slice A n.ty.args.length c, .int .i64 n.f0, .int .i64 n.f1, .int .i64 n.f2, .int .i64 n.f3, .int .i64 n.e, .int .i64 n.l, .int .i64 n.lt, .bool n.acc] 51) = W0 := ⟨_, rfl⟩
  have hx : W0.heap[w.heap.size]? = some (.cells #[.int .i64 n.op, .slice IA n.ins.length ic, .slice SA n.side.length sc, .string ⟨n.text.toArray⟩, .int .i64 n.ty.kind, .slice A n.ty.args.length c, .int .i64 n.f0, .int .i64 n.f1, .int .i64 n.f2, .int .i64 n.f3, .int .i64 n.e, .int .i64 n.l, .int .i64 n.lt, .bool n.acc] 51 (0, 0)) := by rw [← hW0]; exact heap_alloc_new w _
  have hB0 : Below w.heap.size w W0 := by rw [← hW0]; exact bl_al (Below.refl _ _) _
  have hil : n.ins.length ≤ 1000 ∧ n.side.length ≤ 1000 := by
    obtain ⟨o, ho, ⟨h1, h2⟩, h3⟩ := hok.op
    have := (show ∀ o ∈ gops, o.most ≤ 4 ∧ o.side ≤ 4 by decide) o (opP_mem ho).1
    omega
  have hni := okP_in hok.ins
  have hns := okP_in hok.side
  have hform := hok.form
  unfold formP at hform
  simp only [h4] at hform
  have htl : n.text.length ≤ 1000 := by
    have : isTx n.text = true := by simp at hform; exact hform.1
    unfold isTx at this
    simp only [Bool.and_eq_true, decide_eq_true_eq] at this
    omega
  have hnn : 0 ≤ n.e ∧ 0 ≤ n.l ∧ 0 ≤ n.lt := by
    have : Tg.RightB n.e n.l n.lt = true := by simp at hform; exact hform.2.2.2
    obtain ⟨h1, h2, h3, _⟩ := of_decide_eq_true this
    exact ⟨h1.1, h2.1, h3.1⟩
  obtain ⟨CI, hCI⟩ : ∃ B : ByteArray, B = ⟨(placeT n.ins).toArray⟩ := ⟨_, rfl⟩
  have zCI : CI.size ≤ 30000 := by rw [hCI, bytes_size]; exact placeT_len hil.1 hr.ins
  have HCI : Hid (∀ W, Below W0.heap.size W0 W → Calls Tryz.prog 81 #[.slice IA n.ins.length ic] W fun e w' => e = .returned (.string CI) ∧ Below W.heap.size W w') := Lib.hid fun W hb => by
    rw [hCI]; exact rcommas_any W S _ n.ins (hgi.1.below (hB0.trans (hb.mono hB0.size))) hil.1 (fun x hx => ⟨hni x hx, (hr.ins x hx).2⟩)
  obtain ⟨D4, hD4⟩ : ∃ B : ByteArray, B = ⟨(Lib.itoa n.e).toArray⟩ := ⟨_, rfl⟩
  have zD4 : D4.size ≤ 21 := by rw [hD4, bytes_size]; exact Lib.itoa_length_le _ hr.e.1 hr.e.2
  have HD4 : Hid (∀ W, Calls Tryz.prog 82 #[.int .i64 n.e] W fun e w' => e = .returned (.string D4) ∧ Below W.heap.size W w') := Lib.hid fun W => by
    have h0 := hnn.1
    have h1 := hr.e.2
    obtain ⟨v, hv⟩ : ∃ v : Nat, n.e = (v : Int) := ⟨n.e.toNat, by omega⟩
    rw [hD4, hv, Lib.itoa_nonneg]
    exact digits_any 18 v W (Nat.lt_of_le_of_lt (show v ≤ 9223372036854775807 by omega) (by decide)) (by omega)
  obtain ⟨D5, hD5⟩ : ∃ B : ByteArray, B = ⟨(Lib.itoa n.l).toArray⟩ := ⟨_, rfl⟩
  have zD5 : D5.size ≤ 21 := by rw [hD5, bytes_size]; exact Lib.itoa_length_le _ hr.l.1 hr.l.2
  have HD5 : Hid (∀ W, Calls Tryz.prog 82 #[.int .i64 n.l] W fun e w' => e = .returned (.string D5) ∧ Below W.heap.size W w') := Lib.hid fun W => by
    have h0 := hnn.2.1
    have h1 := hr.l.2
    obtain ⟨v, hv⟩ : ∃ v : Nat, n.l = (v : Int) := ⟨n.l.toNat, by omega⟩
    rw [hD5, hv, Lib.itoa_nonneg]
    exact digits_any 18 v W (Nat.lt_of_le_of_lt (show v ≤ 9223372036854775807 by omega) (by decide)) (by omega)
  obtain ⟨D6, hD6⟩ : ∃ B : ByteArray, B = ⟨(Lib.itoa n.lt).toArray⟩ := ⟨_, rfl⟩
  have zD6 : D6.size ≤ 21 := by rw [hD6, bytes_size]; exact Lib.itoa_length_le _ hr.lt.1 hr.lt.2
  have HD6 : Hid (∀ W, Calls Tryz.prog 82 #[.int .i64 n.lt] W fun e w' => e = .returned (.string D6) ∧ Below W.heap.size W w') := Lib.hid fun W => by
    have h0 := hnn.2.2
    have h1 := hr.lt.2
    obtain ⟨v, hv⟩ : ∃ v : Nat, n.lt = (v : Int) := ⟨n.lt.toNat, by omega⟩
    rw [hD6, hv, Lib.itoa_nonneg]
    exact digits_any 18 v W (Nat.lt_of_le_of_lt (show v ≤ 9223372036854775807 by omega) (by decide)) (by omega)
  obtain ⟨TX, hTX⟩ : ∃ B : ByteArray, B = ⟨n.text.toArray⟩ := ⟨_, rfl⟩
  have zTX : TX.size ≤ 1000 := by rw [hTX, bytes_size]; exact htl
  obtain ⟨E0, hE0⟩ : ∃ B : ByteArray, B = (⟨#[103, 114, 111, 117, 112, 32]⟩ : ByteArray) ++ (CI : ByteArray) := ⟨_, rfl⟩
  have y0 : E0.size ≤ 30006 := by
    rw [hE0, ByteArray.size_append]
    have s1 : (⟨#[103, 114, 111, 117, 112, 32]⟩ : ByteArray).size = 6 := rfl
    omega
  have a0 : ∀ w' : World, (Op.stringOp .add (⟨#[103, 114, 111, 117, 112, 32]⟩ : ByteArray) (CI : ByteArray)).run Tryz.prog w' = .ok (.string E0) w' := fun w' => by
    rw [hE0]
    refine run_string_add_sum _ _ _ ?_
    rw [← ByteArray.size_append, ← hE0]
    omega
  obtain ⟨E1, hE1⟩ : ∃ B : ByteArray, B = (E0 : ByteArray) ++ (⟨#[32]⟩ : ByteArray) := ⟨_, rfl⟩
  have y1 : E1.size ≤ 30007 := by
    rw [hE1, ByteArray.size_append]
    have s2 : (⟨#[32]⟩ : ByteArray).size = 1 := rfl
    omega
  have a1 : ∀ w' : World, (Op.stringOp .add (E0 : ByteArray) (⟨#[32]⟩ : ByteArray)).run Tryz.prog w' = .ok (.string E1) w' := fun w' => by
    rw [hE1]
    refine run_string_add_sum _ _ _ ?_
    rw [← ByteArray.size_append, ← hE1]
    omega
  obtain ⟨E2, hE2⟩ : ∃ B : ByteArray, B = (E1 : ByteArray) ++ (D4 : ByteArray) := ⟨_, rfl⟩
  have y2 : E2.size ≤ 30028 := by
    rw [hE2, ByteArray.size_append]
    omega
  have a2 : ∀ w' : World, (Op.stringOp .add (E1 : ByteArray) (D4 : ByteArray)).run Tryz.prog w' = .ok (.string E2) w' := fun w' => by
    rw [hE2]
    refine run_string_add_sum _ _ _ ?_
    rw [← ByteArray.size_append, ← hE2]
    omega
  obtain ⟨E3, hE3⟩ : ∃ B : ByteArray, B = (E2 : ByteArray) ++ (⟨#[32]⟩ : ByteArray) := ⟨_, rfl⟩
  have y3 : E3.size ≤ 30029 := by
    rw [hE3, ByteArray.size_append]
    have s2 : (⟨#[32]⟩ : ByteArray).size = 1 := rfl
    omega
  have a3 : ∀ w' : World, (Op.stringOp .add (E2 : ByteArray) (⟨#[32]⟩ : ByteArray)).run Tryz.prog w' = .ok (.string E3) w' := fun w' => by
    rw [hE3]
    refine run_string_add_sum _ _ _ ?_
    rw [← ByteArray.size_append, ← hE3]
    omega
  obtain ⟨E4, hE4⟩ : ∃ B : ByteArray, B = (E3 : ByteArray) ++ (D5 : ByteArray) := ⟨_, rfl⟩
  have y4 : E4.size ≤ 30050 := by
    rw [hE4, ByteArray.size_append]
    omega
  have a4 : ∀ w' : World, (Op.stringOp .add (E3 : ByteArray) (D5 : ByteArray)).run Tryz.prog w' = .ok (.string E4) w' := fun w' => by
    rw [hE4]
    refine run_string_add_sum _ _ _ ?_
    rw [← ByteArray.size_append, ← hE4]
    omega
  obtain ⟨E5, hE5⟩ : ∃ B : ByteArray, B = (E4 : ByteArray) ++ (⟨#[32]⟩ : ByteArray) := ⟨_, rfl⟩
  have y5 : E5.size ≤ 30051 := by
    rw [hE5, ByteArray.size_append]
    have s2 : (⟨#[32]⟩ : ByteArray).size = 1 := rfl
    omega
  have a5 : ∀ w' : World, (Op.stringOp .add (E4 : ByteArray) (⟨#[32]⟩ : ByteArray)).run Tryz.prog w' = .ok (.string E5) w' := fun w' => by
    rw [hE5]
    refine run_string_add_sum _ _ _ ?_
    rw [← ByteArray.size_append, ← hE5]
    omega
  obtain ⟨E6, hE6⟩ : ∃ B : ByteArray, B = (E5 : ByteArray) ++ (D6 : ByteArray) := ⟨_, rfl⟩
  have y6 : E6.size ≤ 30072 := by
    rw [hE6, ByteArray.size_append]
    omega
  have a6 : ∀ w' : World, (Op.stringOp .add (E5 : ByteArray) (D6 : ByteArray)).run Tryz.prog w' = .ok (.string E6) w' := fun w' => by
    rw [hE6]
    refine run_string_add_sum _ _ _ ?_
    rw [← ByteArray.size_append, ← hE6]
    omega
  obtain ⟨E7, hE7⟩ : ∃ B : ByteArray, B = (E6 : ByteArray) ++ (⟨#[32, 97, 99, 99, 32]⟩ : ByteArray) := ⟨_, rfl⟩
  have y7 : E7.size ≤ 30077 := by
    rw [hE7, ByteArray.size_append]
    have s2 : (⟨#[32, 97, 99, 99, 32]⟩ : ByteArray).size = 5 := rfl
    omega
  have a7 : ∀ w' : World, (Op.stringOp .add (E6 : ByteArray) (⟨#[32, 97, 99, 99, 32]⟩ : ByteArray)).run Tryz.prog w' = .ok (.string E7) w' := fun w' => by
    rw [hE7]
    refine run_string_add_sum _ _ _ ?_
    rw [← ByteArray.size_append, ← hE7]
    omega
  obtain ⟨E8, hE8⟩ : ∃ B : ByteArray, B = (E7 : ByteArray) ++ (TX : ByteArray) := ⟨_, rfl⟩
  have y8 : E8.size ≤ 31077 := by
    rw [hE8, ByteArray.size_append]
    omega
  have a8 : ∀ w' : World, (Op.stringOp .add (E7 : ByteArray) (TX : ByteArray)).run Tryz.prog w' = .ok (.string E8) w' := fun w' => by
    rw [hE8]
    refine run_string_add_sum _ _ _ ?_
    rw [← ByteArray.size_append, ← hE8]
    omega
  have HF : Hid (E8 = ⟨(lineP n).toArray⟩) := Lib.hid (by
    rw [hE8, hE7, hE6, hE5, hE4, hE3, hE2, hE1, hE0, hCI, hD4, hD5, hD6, hTX]
    show ((((((((((⟨[103, 114, 111, 117, 112, 32].toArray⟩ : ByteArray) ++ ⟨(placeT n.ins).toArray⟩) ++ ⟨[32].toArray⟩) ++ ⟨(Lib.itoa n.e).toArray⟩) ++ ⟨[32].toArray⟩) ++ ⟨(Lib.itoa n.l).toArray⟩) ++ ⟨[32].toArray⟩) ++ ⟨(Lib.itoa n.lt).toArray⟩) ++ ⟨[32, 97, 99, 99, 32].toArray⟩) ++ ⟨(n.text).toArray⟩) = _
    simp only [bytes_app]
    congr 2
    unfold lineP partsP
    simp [opWord, opP, gops, gop1, gop2, gop3, gop4, gop5, gop6, h4, Lib.join, List.intercalate, List.intersperse, hacc])
  clear hE0 y0 hE1 y1 hE2 y2 hE3 y3 hE4 y4 hE5 y5 hE6 y6 hE7 y7 hE8 y8
  have H9 := Lib.hid h4
  have HAC := Lib.hid hacc
  have HW0 := Lib.hid hW0
  have HX := Lib.hid hx
  have HB0 := Lib.hid hB0
  have HTX := Lib.hid hTX
  clear hW0 hx hB0 hgi hni hns hform hok hr hN hil h4 hacc hCI hD4 hD5 hD6 hTX htl hnn
  go_enter Tryz.func50, Tryz.ntmps50
  go_upto_region 1 with (fail)
  rw [HW0.out]
  clear HW0
  rw [← HTX.out] at HX
  have c0 := cellN (i := 0) HX.out rfl
  have c1 := cellN (i := 1) HX.out rfl
  have c2 := cellN (i := 2) HX.out rfl
  have c3 := cellN (i := 3) HX.out rfl
  have c4 := cellN (i := 4) HX.out rfl
  have c5 := cellN (i := 5) HX.out rfl
  have c6 := cellN (i := 6) HX.out rfl
  have c7 := cellN (i := 7) HX.out rfl
  have c8 := cellN (i := 8) HX.out rfl
  have c9 := cellN (i := 9) HX.out rfl
  have c10 := cellN (i := 10) HX.out rfl
  have c11 := cellN (i := 11) HX.out rfl
  have c12 := cellN (i := 12) HX.out rfl
  have c13 := cellN (i := 13) HX.out rfl
  have cl := cell_lt HX.out
  have o1 : (n.op == 1) = false := by simp [H9.out]
  have o2 : (n.op == 2) = false := by simp [H9.out]
  have o3 : (n.op == 3) = false := by simp [H9.out]
  have o4 : (n.op == 4) = true := by simp [H9.out]
  have o5 : (n.op == 5) = false := by simp [H9.out]
  have o6 : (n.op == 6) = false := by simp [H9.out]
  have ha : n.acc = true := HAC.out
  go_wp2_with (fail)
  go_region_held3 (fun W => W.cell? ⟨w.heap.size, 0, none⟩ = some (.int .i64 n.op) ∧ W.cell? ⟨w.heap.size, 1, none⟩ = some (.slice IA n.ins.length ic) ∧ W.cell? ⟨w.heap.size, 2, none⟩ = some (.slice SA n.side.length sc) ∧ W.cell? ⟨w.heap.size, 3, none⟩ = some (.string TX) ∧ W.cell? ⟨w.heap.size, 4, none⟩ = some (.int .i64 n.ty.kind) ∧ W.cell? ⟨w.heap.size, 5, none⟩ = some (.slice A n.ty.args.length c) ∧ W.cell? ⟨w.heap.size, 6, none⟩ = some (.int .i64 n.f0) ∧ W.cell? ⟨w.heap.size, 7, none⟩ = some (.int .i64 n.f1) ∧ W.cell? ⟨w.heap.size, 8, none⟩ = some (.int .i64 n.f2) ∧ W.cell? ⟨w.heap.size, 9, none⟩ = some (.int .i64 n.f3) ∧ W.cell? ⟨w.heap.size, 10, none⟩ = some (.int .i64 n.e) ∧ W.cell? ⟨w.heap.size, 11, none⟩ = some (.int .i64 n.l) ∧ W.cell? ⟨w.heap.size, 12, none⟩ = some (.int .i64 n.lt) ∧ W.cell? ⟨w.heap.size, 13, none⟩ = some (.bool n.acc))
    (exact keep14s HX.out (by repeat' (first | with_reducible exact HB3.out | with_reducible exact Below.refl _ _ | with_reducible refine bl_al ?_ _ | with_reducible refine bl_dr ?_)))
    (first
    | (go_at_call 81; (with_reducible refine (HCI.out _ ?_).mono ?_); (focus exact (by repeat' (first | with_reducible exact HB3.out | with_reducible exact Below.refl _ _ | with_reducible refine bl_al ?_ _ | with_reducible refine bl_dr ?_))); rintro e w3 ⟨rfl, hb3⟩; have HB3 : Hid (Below W0.heap.size W0 w3) := Lib.hid (bl_tr (by repeat' (first | with_reducible exact HB3.out | with_reducible exact Below.refl _ _ | with_reducible refine bl_al ?_ _ | with_reducible refine bl_dr ?_)) hb3); clear hb3)
    | (go_at_call 82; (with_reducible refine (HD4.out _).mono ?_); rintro e w3 ⟨rfl, hb3⟩; have HB3 : Hid (Below W0.heap.size W0 w3) := Lib.hid (bl_tr (by repeat' (first | with_reducible exact HB3.out | with_reducible exact Below.refl _ _ | with_reducible refine bl_al ?_ _ | with_reducible refine bl_dr ?_)) hb3); clear hb3)
    | (go_at_call 82; (with_reducible refine (HD5.out _).mono ?_); rintro e w3 ⟨rfl, hb3⟩; have HB3 : Hid (Below W0.heap.size W0 w3) := Lib.hid (bl_tr (by repeat' (first | with_reducible exact HB3.out | with_reducible exact Below.refl _ _ | with_reducible refine bl_al ?_ _ | with_reducible refine bl_dr ?_)) hb3); clear hb3)
    | (go_at_call 82; (with_reducible refine (HD6.out _).mono ?_); rintro e w3 ⟨rfl, hb3⟩; have HB3 : Hid (Below W0.heap.size W0 w3) := Lib.hid (bl_tr (by repeat' (first | with_reducible exact HB3.out | with_reducible exact Below.refl _ _ | with_reducible refine bl_al ?_ _ | with_reducible refine bl_dr ?_)) hb3); clear hb3)
    | fail)
  all_goals (
    go_wp2_with (fail)
    go_ret
    exact ⟨congrArg _ (congrArg _ HF.out), HB0.out.trans ((show Below W0.heap.size W0 _ from (by repeat' (first | with_reducible exact HB3.out | with_reducible exact Below.refl _ _ | with_reducible refine bl_al ?_ _ | with_reducible refine bl_dr ?_))).mono HB0.out.size)⟩)
set_option maxRecDepth 100000 in
set_option maxHeartbeats 8000000 in
theorem rline4d_any (w : World) (S : Nat → Prop) (d : Nat) (l : List Gn) (i : Nat) (n : Gn) (IA SA A : Option Addr) (ic sc c : Nat) (hN : GnAt w S d (n.val IA SA A ic sc c) n) (hok : OkN l i n) (hr : GnR n) (h4 : n.op = 4) (hacc : n.acc = false) :
    Calls Tryz.prog 50 #[.agg #[.int .i64 n.op, .slice IA n.ins.length ic, .slice SA n.side.length sc, .string ⟨n.text.toArray⟩, .int .i64 n.ty.kind, .slice A n.ty.args.length c, .int .i64 n.f0, .int .i64 n.f1, .int .i64 n.f2, .int .i64 n.f3, .int .i64 n.e, .int .i64 n.l, .int .i64 n.lt, .bool n.acc]] w fun e w' => e = .returned (.string ⟨(lineP n).toArray⟩) ∧ Below w.heap.size w w' := by
  have hgi : IntsAt w S (.slice IA n.ins.length ic) n.ins ∧ IntsAt w S (.slice SA n.side.length sc) n.side ∧ TyAt w S d (.agg #[.int .i64 n.ty.kind, .slice A n.ty.args.length c]) n.ty := by
    obtain ⟨_, _, _, _, _, _, e, h1, h2, h3⟩ := hN
    unfold Gn.val at e
    injection e with e
    simp only [Array.mk.injEq, List.cons.injEq, Value.slice.injEq, and_true, true_and] at e
    obtain ⟨⟨rfl, rfl⟩, ⟨rfl, rfl⟩, rfl, rfl⟩ := e
    exact ⟨h1, h2, h3⟩
  obtain ⟨W0, hW0⟩ : ∃ W0, w.alloc (.cells #[.int .i64 n.op, .slice IA n.ins.length ic, .slice SA n.side.length sc, .string ⟨n.text.toArray⟩, .int .i64 n.ty.kind, .slice A n.ty.args.length c, .int .i64 n.f0, .int .i64 n.f1, .int .i64 n.f2, .int .i64 n.f3, .int .i64 n.e, .int .i64 n.l, .int .i64 n.lt, .bool n.acc] 51) = W0 := ⟨_, rfl⟩
  have hx : W0.heap[w.heap.size]? = some (.cells #[.int .i64 n.op, .slice IA n.ins.length ic, .slice SA n.side.length sc, .string ⟨n.text.toArray⟩, .int .i64 n.ty.kind, .slice A n.ty.args.length c, .int .i64 n.f0, .int .i64 n.f1, .int .i64 n.f2, .int .i64 n.f3, .int .i64 n.e, .int .i64 n.l, .int .i64 n.lt, .bool n.acc] 51 (0, 0)) := by rw [← hW0]; exact heap_alloc_new w _
  have hB0 : Below w.heap.size w W0 := by rw [← hW0]; exact bl_al (Below.refl _ _) _
  have hil : n.ins.length ≤ 1000 ∧ n.side.length ≤ 1000 := by
    obtain ⟨o, ho, ⟨h1, h2⟩, h3⟩ := hok.op
    have := (show ∀ o ∈ gops, o.most ≤ 4 ∧ o.side ≤ 4 by decide) o (opP_mem ho).1
    omega
  have hni := okP_in hok.ins
  have hns := okP_in hok.side
  have hform := hok.form
  unfold formP at hform
  simp only [h4] at hform
  have htl : n.text.length ≤ 1000 := by
    have : isTx n.text = true := by simp at hform; exact hform.1
    unfold isTx at this
    simp only [Bool.and_eq_true, decide_eq_true_eq] at this
    omega
  have hnn : 0 ≤ n.e ∧ 0 ≤ n.l ∧ 0 ≤ n.lt := by
    have : Tg.RightB n.e n.l n.lt = true := by simp at hform; exact hform.2.2.2
    obtain ⟨h1, h2, h3, _⟩ := of_decide_eq_true this
    exact ⟨h1.1, h2.1, h3.1⟩
  obtain ⟨CI, hCI⟩ : ∃ B : ByteArray, B = ⟨(placeT n.ins).toArray⟩ := ⟨_, rfl⟩
  have zCI : CI.size ≤ 30000 := by rw [hCI, bytes_size]; exact placeT_len hil.1 hr.ins
  have HCI : Hid (∀ W, Below W0.heap.size W0 W → Calls Tryz.prog 81 #[.slice IA n.ins.length ic] W fun e w' => e = .returned (.string CI) ∧ Below W.heap.size W w') := Lib.hid fun W hb => by
    rw [hCI]; exact rcommas_any W S _ n.ins (hgi.1.below (hB0.trans (hb.mono hB0.size))) hil.1 (fun x hx => ⟨hni x hx, (hr.ins x hx).2⟩)
  obtain ⟨D4, hD4⟩ : ∃ B : ByteArray, B = ⟨(Lib.itoa n.e).toArray⟩ := ⟨_, rfl⟩
  have zD4 : D4.size ≤ 21 := by rw [hD4, bytes_size]; exact Lib.itoa_length_le _ hr.e.1 hr.e.2
  have HD4 : Hid (∀ W, Calls Tryz.prog 82 #[.int .i64 n.e] W fun e w' => e = .returned (.string D4) ∧ Below W.heap.size W w') := Lib.hid fun W => by
    have h0 := hnn.1
    have h1 := hr.e.2
    obtain ⟨v, hv⟩ : ∃ v : Nat, n.e = (v : Int) := ⟨n.e.toNat, by omega⟩
    rw [hD4, hv, Lib.itoa_nonneg]
    exact digits_any 18 v W (Nat.lt_of_le_of_lt (show v ≤ 9223372036854775807 by omega) (by decide)) (by omega)
  obtain ⟨D5, hD5⟩ : ∃ B : ByteArray, B = ⟨(Lib.itoa n.l).toArray⟩ := ⟨_, rfl⟩
  have zD5 : D5.size ≤ 21 := by rw [hD5, bytes_size]; exact Lib.itoa_length_le _ hr.l.1 hr.l.2
  have HD5 : Hid (∀ W, Calls Tryz.prog 82 #[.int .i64 n.l] W fun e w' => e = .returned (.string D5) ∧ Below W.heap.size W w') := Lib.hid fun W => by
    have h0 := hnn.2.1
    have h1 := hr.l.2
    obtain ⟨v, hv⟩ : ∃ v : Nat, n.l = (v : Int) := ⟨n.l.toNat, by omega⟩
    rw [hD5, hv, Lib.itoa_nonneg]
    exact digits_any 18 v W (Nat.lt_of_le_of_lt (show v ≤ 9223372036854775807 by omega) (by decide)) (by omega)
  obtain ⟨D6, hD6⟩ : ∃ B : ByteArray, B = ⟨(Lib.itoa n.lt).toArray⟩ := ⟨_, rfl⟩
  have zD6 : D6.size ≤ 21 := by rw [hD6, bytes_size]; exact Lib.itoa_length_le _ hr.lt.1 hr.lt.2
  have HD6 : Hid (∀ W, Calls Tryz.prog 82 #[.int .i64 n.lt] W fun e w' => e = .returned (.string D6) ∧ Below W.heap.size W w') := Lib.hid fun W => by
    have h0 := hnn.2.2
    have h1 := hr.lt.2
    obtain ⟨v, hv⟩ : ∃ v : Nat, n.lt = (v : Int) := ⟨n.lt.toNat, by omega⟩
    rw [hD6, hv, Lib.itoa_nonneg]
    exact digits_any 18 v W (Nat.lt_of_le_of_lt (show v ≤ 9223372036854775807 by omega) (by decide)) (by omega)
  obtain ⟨TX, hTX⟩ : ∃ B : ByteArray, B = ⟨n.text.toArray⟩ := ⟨_, rfl⟩
  have zTX : TX.size ≤ 1000 := by rw [hTX, bytes_size]; exact htl
  obtain ⟨E0, hE0⟩ : ∃ B : ByteArray, B = (⟨#[103, 114, 111, 117, 112, 32]⟩ : ByteArray) ++ (CI : ByteArray) := ⟨_, rfl⟩
  have y0 : E0.size ≤ 30006 := by
    rw [hE0, ByteArray.size_append]
    have s1 : (⟨#[103, 114, 111, 117, 112, 32]⟩ : ByteArray).size = 6 := rfl
    omega
  have a0 : ∀ w' : World, (Op.stringOp .add (⟨#[103, 114, 111, 117, 112, 32]⟩ : ByteArray) (CI : ByteArray)).run Tryz.prog w' = .ok (.string E0) w' := fun w' => by
    rw [hE0]
    refine run_string_add_sum _ _ _ ?_
    rw [← ByteArray.size_append, ← hE0]
    omega
  obtain ⟨E1, hE1⟩ : ∃ B : ByteArray, B = (E0 : ByteArray) ++ (⟨#[32]⟩ : ByteArray) := ⟨_, rfl⟩
  have y1 : E1.size ≤ 30007 := by
    rw [hE1, ByteArray.size_append]
    have s2 : (⟨#[32]⟩ : ByteArray).size = 1 := rfl
    omega
  have a1 : ∀ w' : World, (Op.stringOp .add (E0 : ByteArray) (⟨#[32]⟩ : ByteArray)).run Tryz.prog w' = .ok (.string E1) w' := fun w' => by
    rw [hE1]
    refine run_string_add_sum _ _ _ ?_
    rw [← ByteArray.size_append, ← hE1]
    omega
  obtain ⟨E2, hE2⟩ : ∃ B : ByteArray, B = (E1 : ByteArray) ++ (D4 : ByteArray) := ⟨_, rfl⟩
  have y2 : E2.size ≤ 30028 := by
    rw [hE2, ByteArray.size_append]
    omega
  have a2 : ∀ w' : World, (Op.stringOp .add (E1 : ByteArray) (D4 : ByteArray)).run Tryz.prog w' = .ok (.string E2) w' := fun w' => by
    rw [hE2]
    refine run_string_add_sum _ _ _ ?_
    rw [← ByteArray.size_append, ← hE2]
    omega
  obtain ⟨E3, hE3⟩ : ∃ B : ByteArray, B = (E2 : ByteArray) ++ (⟨#[32]⟩ : ByteArray) := ⟨_, rfl⟩
  have y3 : E3.size ≤ 30029 := by
    rw [hE3, ByteArray.size_append]
    have s2 : (⟨#[32]⟩ : ByteArray).size = 1 := rfl
    omega
  have a3 : ∀ w' : World, (Op.stringOp .add (E2 : ByteArray) (⟨#[32]⟩ : ByteArray)).run Tryz.prog w' = .ok (.string E3) w' := fun w' => by
    rw [hE3]
    refine run_string_add_sum _ _ _ ?_
    rw [← ByteArray.size_append, ← hE3]
    omega
  obtain ⟨E4, hE4⟩ : ∃ B : ByteArray, B = (E3 : ByteArray) ++ (D5 : ByteArray) := ⟨_, rfl⟩
  have y4 : E4.size ≤ 30050 := by
    rw [hE4, ByteArray.size_append]
    omega
  have a4 : ∀ w' : World, (Op.stringOp .add (E3 : ByteArray) (D5 : ByteArray)).run Tryz.prog w' = .ok (.string E4) w' := fun w' => by
    rw [hE4]
    refine run_string_add_sum _ _ _ ?_
    rw [← ByteArray.size_append, ← hE4]
    omega
  obtain ⟨E5, hE5⟩ : ∃ B : ByteArray, B = (E4 : ByteArray) ++ (⟨#[32]⟩ : ByteArray) := ⟨_, rfl⟩
  have y5 : E5.size ≤ 30051 := by
    rw [hE5, ByteArray.size_append]
    have s2 : (⟨#[32]⟩ : ByteArray).size = 1 := rfl
    omega
  have a5 : ∀ w' : World, (Op.stringOp .add (E4 : ByteArray) (⟨#[32]⟩ : ByteArray)).run Tryz.prog w' = .ok (.string E5) w' := fun w' => by
    rw [hE5]
    refine run_string_add_sum _ _ _ ?_
    rw [← ByteArray.size_append, ← hE5]
    omega
  obtain ⟨E6, hE6⟩ : ∃ B : ByteArray, B = (E5 : ByteArray) ++ (D6 : ByteArray) := ⟨_, rfl⟩
  have y6 : E6.size ≤ 30072 := by
    rw [hE6, ByteArray.size_append]
    omega
  have a6 : ∀ w' : World, (Op.stringOp .add (E5 : ByteArray) (D6 : ByteArray)).run Tryz.prog w' = .ok (.string E6) w' := fun w' => by
    rw [hE6]
    refine run_string_add_sum _ _ _ ?_
    rw [← ByteArray.size_append, ← hE6]
    omega
  obtain ⟨E7, hE7⟩ : ∃ B : ByteArray, B = (E6 : ByteArray) ++ (⟨#[32, 100, 105, 115, 32]⟩ : ByteArray) := ⟨_, rfl⟩
  have y7 : E7.size ≤ 30077 := by
    rw [hE7, ByteArray.size_append]
    have s2 : (⟨#[32, 100, 105, 115, 32]⟩ : ByteArray).size = 5 := rfl
    omega
  have a7 : ∀ w' : World, (Op.stringOp .add (E6 : ByteArray) (⟨#[32, 100, 105, 115, 32]⟩ : ByteArray)).run Tryz.prog w' = .ok (.string E7) w' := fun w' => by
    rw [hE7]
    refine run_string_add_sum _ _ _ ?_
    rw [← ByteArray.size_append, ← hE7]
    omega
  obtain ⟨E8, hE8⟩ : ∃ B : ByteArray, B = (E7 : ByteArray) ++ (TX : ByteArray) := ⟨_, rfl⟩
  have y8 : E8.size ≤ 31077 := by
    rw [hE8, ByteArray.size_append]
    omega
  have a8 : ∀ w' : World, (Op.stringOp .add (E7 : ByteArray) (TX : ByteArray)).run Tryz.prog w' = .ok (.string E8) w' := fun w' => by
    rw [hE8]
    refine run_string_add_sum _ _ _ ?_
    rw [← ByteArray.size_append, ← hE8]
    omega
  have HF : Hid (E8 = ⟨(lineP n).toArray⟩) := Lib.hid (by
    rw [hE8, hE7, hE6, hE5, hE4, hE3, hE2, hE1, hE0, hCI, hD4, hD5, hD6, hTX]
    show ((((((((((⟨[103, 114, 111, 117, 112, 32].toArray⟩ : ByteArray) ++ ⟨(placeT n.ins).toArray⟩) ++ ⟨[32].toArray⟩) ++ ⟨(Lib.itoa n.e).toArray⟩) ++ ⟨[32].toArray⟩) ++ ⟨(Lib.itoa n.l).toArray⟩) ++ ⟨[32].toArray⟩) ++ ⟨(Lib.itoa n.lt).toArray⟩) ++ ⟨[32, 100, 105, 115, 32].toArray⟩) ++ ⟨(n.text).toArray⟩) = _
    simp only [bytes_app]
    congr 2
    unfold lineP partsP
    simp [opWord, opP, gops, gop1, gop2, gop3, gop4, gop5, gop6, h4, Lib.join, List.intercalate, List.intersperse, hacc])
  clear hE0 y0 hE1 y1 hE2 y2 hE3 y3 hE4 y4 hE5 y5 hE6 y6 hE7 y7 hE8 y8
  have H9 := Lib.hid h4
  have HAC := Lib.hid hacc
  have HW0 := Lib.hid hW0
  have HX := Lib.hid hx
  have HB0 := Lib.hid hB0
  have HTX := Lib.hid hTX
  clear hW0 hx hB0 hgi hni hns hform hok hr hN hil h4 hacc hCI hD4 hD5 hD6 hTX htl hnn
  go_enter Tryz.func50, Tryz.ntmps50
  go_upto_region 1 with (fail)
  rw [HW0.out]
  clear HW0
  rw [← HTX.out] at HX
  have c0 := cellN (i := 0) HX.out rfl
  have c1 := cellN (i := 1) HX.out rfl
  have c2 := cellN (i := 2) HX.out rfl
  have c3 := cellN (i := 3) HX.out rfl
  have c4 := cellN (i := 4) HX.out rfl
  have c5 := cellN (i := 5) HX.out rfl
  have c6 := cellN (i := 6) HX.out rfl
  have c7 := cellN (i := 7) HX.out rfl
  have c8 := cellN (i := 8) HX.out rfl
  have c9 := cellN (i := 9) HX.out rfl
  have c10 := cellN (i := 10) HX.out rfl
  have c11 := cellN (i := 11) HX.out rfl
  have c12 := cellN (i := 12) HX.out rfl
  have c13 := cellN (i := 13) HX.out rfl
  have cl := cell_lt HX.out
  have o1 : (n.op == 1) = false := by simp [H9.out]
  have o2 : (n.op == 2) = false := by simp [H9.out]
  have o3 : (n.op == 3) = false := by simp [H9.out]
  have o4 : (n.op == 4) = true := by simp [H9.out]
  have o5 : (n.op == 5) = false := by simp [H9.out]
  have o6 : (n.op == 6) = false := by simp [H9.out]
  have ha : n.acc = false := HAC.out
  go_wp2_with (fail)
  go_region_held3 (fun W => W.cell? ⟨w.heap.size, 0, none⟩ = some (.int .i64 n.op) ∧ W.cell? ⟨w.heap.size, 1, none⟩ = some (.slice IA n.ins.length ic) ∧ W.cell? ⟨w.heap.size, 2, none⟩ = some (.slice SA n.side.length sc) ∧ W.cell? ⟨w.heap.size, 3, none⟩ = some (.string TX) ∧ W.cell? ⟨w.heap.size, 4, none⟩ = some (.int .i64 n.ty.kind) ∧ W.cell? ⟨w.heap.size, 5, none⟩ = some (.slice A n.ty.args.length c) ∧ W.cell? ⟨w.heap.size, 6, none⟩ = some (.int .i64 n.f0) ∧ W.cell? ⟨w.heap.size, 7, none⟩ = some (.int .i64 n.f1) ∧ W.cell? ⟨w.heap.size, 8, none⟩ = some (.int .i64 n.f2) ∧ W.cell? ⟨w.heap.size, 9, none⟩ = some (.int .i64 n.f3) ∧ W.cell? ⟨w.heap.size, 10, none⟩ = some (.int .i64 n.e) ∧ W.cell? ⟨w.heap.size, 11, none⟩ = some (.int .i64 n.l) ∧ W.cell? ⟨w.heap.size, 12, none⟩ = some (.int .i64 n.lt) ∧ W.cell? ⟨w.heap.size, 13, none⟩ = some (.bool n.acc))
    (exact keep14s HX.out (by repeat' (first | with_reducible exact HB3.out | with_reducible exact Below.refl _ _ | with_reducible refine bl_al ?_ _ | with_reducible refine bl_dr ?_)))
    (first
    | (go_at_call 81; (with_reducible refine (HCI.out _ ?_).mono ?_); (focus exact (by repeat' (first | with_reducible exact HB3.out | with_reducible exact Below.refl _ _ | with_reducible refine bl_al ?_ _ | with_reducible refine bl_dr ?_))); rintro e w3 ⟨rfl, hb3⟩; have HB3 : Hid (Below W0.heap.size W0 w3) := Lib.hid (bl_tr (by repeat' (first | with_reducible exact HB3.out | with_reducible exact Below.refl _ _ | with_reducible refine bl_al ?_ _ | with_reducible refine bl_dr ?_)) hb3); clear hb3)
    | (go_at_call 82; (with_reducible refine (HD4.out _).mono ?_); rintro e w3 ⟨rfl, hb3⟩; have HB3 : Hid (Below W0.heap.size W0 w3) := Lib.hid (bl_tr (by repeat' (first | with_reducible exact HB3.out | with_reducible exact Below.refl _ _ | with_reducible refine bl_al ?_ _ | with_reducible refine bl_dr ?_)) hb3); clear hb3)
    | (go_at_call 82; (with_reducible refine (HD5.out _).mono ?_); rintro e w3 ⟨rfl, hb3⟩; have HB3 : Hid (Below W0.heap.size W0 w3) := Lib.hid (bl_tr (by repeat' (first | with_reducible exact HB3.out | with_reducible exact Below.refl _ _ | with_reducible refine bl_al ?_ _ | with_reducible refine bl_dr ?_)) hb3); clear hb3)
    | (go_at_call 82; (with_reducible refine (HD6.out _).mono ?_); rintro e w3 ⟨rfl, hb3⟩; have HB3 : Hid (Below W0.heap.size W0 w3) := Lib.hid (bl_tr (by repeat' (first | with_reducible exact HB3.out | with_reducible exact Below.refl _ _ | with_reducible refine bl_al ?_ _ | with_reducible refine bl_dr ?_)) hb3); clear hb3)
    | fail)
  all_goals (
    go_wp2_with (fail)
    go_ret
    exact ⟨congrArg _ (congrArg _ HF.out), HB0.out.trans ((show Below W0.heap.size W0 _ from (by repeat' (first | with_reducible exact HB3.out | with_reducible exact Below.refl _ _ | with_reducible refine bl_al ?_ _ | with_reducible refine bl_dr ?_))).mono HB0.out.size)⟩)
set_option maxRecDepth 100000 in
set_option maxHeartbeats 8000000 in
theorem rline5_any (w : World) (S : Nat → Prop) (d : Nat) (l : List Gn) (i : Nat) (n : Gn) (IA SA A : Option Addr) (ic sc c : Nat) (hN : GnAt w S d (n.val IA SA A ic sc c) n) (hok : OkN l i n) (hr : GnR n) (h5 : n.op = 5) :
    Calls Tryz.prog 50 #[.agg #[.int .i64 n.op, .slice IA n.ins.length ic, .slice SA n.side.length sc, .string ⟨n.text.toArray⟩, .int .i64 n.ty.kind, .slice A n.ty.args.length c, .int .i64 n.f0, .int .i64 n.f1, .int .i64 n.f2, .int .i64 n.f3, .int .i64 n.e, .int .i64 n.l, .int .i64 n.lt, .bool n.acc]] w fun e w' => e = .returned (.string ⟨(lineP n).toArray⟩) ∧ Below w.heap.size w w' := by
  have hgi : IntsAt w S (.slice IA n.ins.length ic) n.ins ∧ IntsAt w S (.slice SA n.side.length sc) n.side ∧ TyAt w S d (.agg #[.int .i64 n.ty.kind, .slice A n.ty.args.length c]) n.ty := by
    obtain ⟨_, _, _, _, _, _, e, h1, h2, h3⟩ := hN
    unfold Gn.val at e
    injection e with e
    simp only [Array.mk.injEq, List.cons.injEq, Value.slice.injEq, and_true, true_and] at e
    obtain ⟨⟨rfl, rfl⟩, ⟨rfl, rfl⟩, rfl, rfl⟩ := e
    exact ⟨h1, h2, h3⟩
  obtain ⟨W0, hW0⟩ : ∃ W0, w.alloc (.cells #[.int .i64 n.op, .slice IA n.ins.length ic, .slice SA n.side.length sc, .string ⟨n.text.toArray⟩, .int .i64 n.ty.kind, .slice A n.ty.args.length c, .int .i64 n.f0, .int .i64 n.f1, .int .i64 n.f2, .int .i64 n.f3, .int .i64 n.e, .int .i64 n.l, .int .i64 n.lt, .bool n.acc] 51) = W0 := ⟨_, rfl⟩
  have hx : W0.heap[w.heap.size]? = some (.cells #[.int .i64 n.op, .slice IA n.ins.length ic, .slice SA n.side.length sc, .string ⟨n.text.toArray⟩, .int .i64 n.ty.kind, .slice A n.ty.args.length c, .int .i64 n.f0, .int .i64 n.f1, .int .i64 n.f2, .int .i64 n.f3, .int .i64 n.e, .int .i64 n.l, .int .i64 n.lt, .bool n.acc] 51 (0, 0)) := by rw [← hW0]; exact heap_alloc_new w _
  have hB0 : Below w.heap.size w W0 := by rw [← hW0]; exact bl_al (Below.refl _ _) _
  have hil : n.ins.length ≤ 1000 ∧ n.side.length ≤ 1000 := by
    obtain ⟨o, ho, ⟨h1, h2⟩, h3⟩ := hok.op
    have := (show ∀ o ∈ gops, o.most ≤ 4 ∧ o.side ≤ 4 by decide) o (opP_mem ho).1
    omega
  have hni := okP_in hok.ins
  have hns := okP_in hok.side
  have hform := hok.form
  unfold formP at hform
  simp only [h5] at hform
  obtain ⟨CI, hCI⟩ : ∃ B : ByteArray, B = ⟨(placeT n.ins).toArray⟩ := ⟨_, rfl⟩
  have zCI : CI.size ≤ 30000 := by rw [hCI, bytes_size]; exact placeT_len hil.1 hr.ins
  have HCI : Hid (∀ W, Below W0.heap.size W0 W → Calls Tryz.prog 81 #[.slice IA n.ins.length ic] W fun e w' => e = .returned (.string CI) ∧ Below W.heap.size W w') := Lib.hid fun W hb => by
    rw [hCI]; exact rcommas_any W S _ n.ins (hgi.1.below (hB0.trans (hb.mono hB0.size))) hil.1 (fun x hx => ⟨hni x hx, (hr.ins x hx).2⟩)
  obtain ⟨E0, hE0⟩ : ∃ B : ByteArray, B = (⟨#[102, 108, 97, 116, 116, 101, 110, 32]⟩ : ByteArray) ++ (CI : ByteArray) := ⟨_, rfl⟩
  have y0 : E0.size ≤ 30008 := by
    rw [hE0, ByteArray.size_append]
    have s1 : (⟨#[102, 108, 97, 116, 116, 101, 110, 32]⟩ : ByteArray).size = 8 := rfl
    omega
  have a0 : ∀ w' : World, (Op.stringOp .add (⟨#[102, 108, 97, 116, 116, 101, 110, 32]⟩ : ByteArray) (CI : ByteArray)).run Tryz.prog w' = .ok (.string E0) w' := fun w' => by
    rw [hE0]
    refine run_string_add_sum _ _ _ ?_
    rw [← ByteArray.size_append, ← hE0]
    omega
  have HF : Hid (E0 = ⟨(lineP n).toArray⟩) := Lib.hid (by
    rw [hE0, hCI]
    show ((⟨[102, 108, 97, 116, 116, 101, 110, 32].toArray⟩ : ByteArray) ++ ⟨(placeT n.ins).toArray⟩) = _
    simp only [bytes_app]
    congr 2
    unfold lineP partsP
    simp [opWord, opP, gops, gop1, gop2, gop3, gop4, gop5, gop6, h5, Lib.join, List.intercalate, List.intersperse])
  clear hE0 y0
  have H9 := Lib.hid h5
  have HW0 := Lib.hid hW0
  have HX := Lib.hid hx
  have HB0 := Lib.hid hB0
  clear hW0 hx hB0 hgi hni hns hform hok hr hN hil h5 hCI
  go_enter Tryz.func50, Tryz.ntmps50
  go_upto_region 1 with (fail)
  rw [HW0.out]
  clear HW0
  have c0 := cellN (i := 0) HX.out rfl
  have c1 := cellN (i := 1) HX.out rfl
  have c2 := cellN (i := 2) HX.out rfl
  have c3 := cellN (i := 3) HX.out rfl
  have c4 := cellN (i := 4) HX.out rfl
  have c5 := cellN (i := 5) HX.out rfl
  have c6 := cellN (i := 6) HX.out rfl
  have c7 := cellN (i := 7) HX.out rfl
  have c8 := cellN (i := 8) HX.out rfl
  have c9 := cellN (i := 9) HX.out rfl
  have c10 := cellN (i := 10) HX.out rfl
  have c11 := cellN (i := 11) HX.out rfl
  have c12 := cellN (i := 12) HX.out rfl
  have c13 := cellN (i := 13) HX.out rfl
  have cl := cell_lt HX.out
  have o1 : (n.op == 1) = false := by simp [H9.out]
  have o2 : (n.op == 2) = false := by simp [H9.out]
  have o3 : (n.op == 3) = false := by simp [H9.out]
  have o4 : (n.op == 4) = false := by simp [H9.out]
  have o5 : (n.op == 5) = true := by simp [H9.out]
  have o6 : (n.op == 6) = false := by simp [H9.out]
  go_wp2_with (first
    | (go_at_call 81; (with_reducible refine (HCI.out _ ?_).mono ?_); (focus exact (by repeat' (first | with_reducible exact HB3.out | with_reducible exact Below.refl _ _ | with_reducible refine bl_al ?_ _ | with_reducible refine bl_dr ?_))); rintro e w3 ⟨rfl, hb3⟩; have HB3 : Hid (Below W0.heap.size W0 w3) := Lib.hid (bl_tr (by repeat' (first | with_reducible exact HB3.out | with_reducible exact Below.refl _ _ | with_reducible refine bl_al ?_ _ | with_reducible refine bl_dr ?_)) hb3); clear hb3)
    | fail)
  go_ret
  exact ⟨congrArg _ (congrArg _ HF.out), HB0.out.trans (HB3.out.mono HB0.out.size)⟩
set_option maxRecDepth 100000 in
set_option maxHeartbeats 8000000 in
theorem rline6_any (w : World) (S : Nat → Prop) (d : Nat) (l : List Gn) (i : Nat) (n : Gn) (IA SA A : Option Addr) (ic sc c : Nat) (hN : GnAt w S d (n.val IA SA A ic sc c) n) (hok : OkN l i n) (hr : GnR n) (h6 : n.op = 6) :
    Calls Tryz.prog 50 #[.agg #[.int .i64 n.op, .slice IA n.ins.length ic, .slice SA n.side.length sc, .string ⟨n.text.toArray⟩, .int .i64 n.ty.kind, .slice A n.ty.args.length c, .int .i64 n.f0, .int .i64 n.f1, .int .i64 n.f2, .int .i64 n.f3, .int .i64 n.e, .int .i64 n.l, .int .i64 n.lt, .bool n.acc]] w fun e w' => e = .returned (.string ⟨(lineP n).toArray⟩) ∧ Below w.heap.size w w' := by
  have hgi : IntsAt w S (.slice IA n.ins.length ic) n.ins ∧ IntsAt w S (.slice SA n.side.length sc) n.side ∧ TyAt w S d (.agg #[.int .i64 n.ty.kind, .slice A n.ty.args.length c]) n.ty := by
    obtain ⟨_, _, _, _, _, _, e, h1, h2, h3⟩ := hN
    unfold Gn.val at e
    injection e with e
    simp only [Array.mk.injEq, List.cons.injEq, Value.slice.injEq, and_true, true_and] at e
    obtain ⟨⟨rfl, rfl⟩, ⟨rfl, rfl⟩, rfl, rfl⟩ := e
    exact ⟨h1, h2, h3⟩
  obtain ⟨W0, hW0⟩ : ∃ W0, w.alloc (.cells #[.int .i64 n.op, .slice IA n.ins.length ic, .slice SA n.side.length sc, .string ⟨n.text.toArray⟩, .int .i64 n.ty.kind, .slice A n.ty.args.length c, .int .i64 n.f0, .int .i64 n.f1, .int .i64 n.f2, .int .i64 n.f3, .int .i64 n.e, .int .i64 n.l, .int .i64 n.lt, .bool n.acc] 51) = W0 := ⟨_, rfl⟩
  have hx : W0.heap[w.heap.size]? = some (.cells #[.int .i64 n.op, .slice IA n.ins.length ic, .slice SA n.side.length sc, .string ⟨n.text.toArray⟩, .int .i64 n.ty.kind, .slice A n.ty.args.length c, .int .i64 n.f0, .int .i64 n.f1, .int .i64 n.f2, .int .i64 n.f3, .int .i64 n.e, .int .i64 n.l, .int .i64 n.lt, .bool n.acc] 51 (0, 0)) := by rw [← hW0]; exact heap_alloc_new w _
  have hB0 : Below w.heap.size w W0 := by rw [← hW0]; exact bl_al (Below.refl _ _) _
  have hil : n.ins.length ≤ 1000 ∧ n.side.length ≤ 1000 := by
    obtain ⟨o, ho, ⟨h1, h2⟩, h3⟩ := hok.op
    have := (show ∀ o ∈ gops, o.most ≤ 4 ∧ o.side ≤ 4 by decide) o (opP_mem ho).1
    omega
  have hni := okP_in hok.ins
  have hns := okP_in hok.side
  have hform := hok.form
  unfold formP at hform
  simp only [h6] at hform
  obtain ⟨CI, hCI⟩ : ∃ B : ByteArray, B = ⟨(placeT n.ins).toArray⟩ := ⟨_, rfl⟩
  have zCI : CI.size ≤ 30000 := by rw [hCI, bytes_size]; exact placeT_len hil.1 hr.ins
  have HCI : Hid (∀ W, Below W0.heap.size W0 W → Calls Tryz.prog 81 #[.slice IA n.ins.length ic] W fun e w' => e = .returned (.string CI) ∧ Below W.heap.size W w') := Lib.hid fun W hb => by
    rw [hCI]; exact rcommas_any W S _ n.ins (hgi.1.below (hB0.trans (hb.mono hB0.size))) hil.1 (fun x hx => ⟨hni x hx, (hr.ins x hx).2⟩)
  obtain ⟨E0, hE0⟩ : ∃ B : ByteArray, B = (⟨#[115, 105, 110, 107, 32]⟩ : ByteArray) ++ (CI : ByteArray) := ⟨_, rfl⟩
  have y0 : E0.size ≤ 30005 := by
    rw [hE0, ByteArray.size_append]
    have s1 : (⟨#[115, 105, 110, 107, 32]⟩ : ByteArray).size = 5 := rfl
    omega
  have a0 : ∀ w' : World, (Op.stringOp .add (⟨#[115, 105, 110, 107, 32]⟩ : ByteArray) (CI : ByteArray)).run Tryz.prog w' = .ok (.string E0) w' := fun w' => by
    rw [hE0]
    refine run_string_add_sum _ _ _ ?_
    rw [← ByteArray.size_append, ← hE0]
    omega
  have HF : Hid (E0 = ⟨(lineP n).toArray⟩) := Lib.hid (by
    rw [hE0, hCI]
    show ((⟨[115, 105, 110, 107, 32].toArray⟩ : ByteArray) ++ ⟨(placeT n.ins).toArray⟩) = _
    simp only [bytes_app]
    congr 2
    unfold lineP partsP
    simp [opWord, opP, gops, gop1, gop2, gop3, gop4, gop5, gop6, h6, Lib.join, List.intercalate, List.intersperse])
  clear hE0 y0
  have H9 := Lib.hid h6
  have HW0 := Lib.hid hW0
  have HX := Lib.hid hx
  have HB0 := Lib.hid hB0
  clear hW0 hx hB0 hgi hni hns hform hok hr hN hil h6 hCI
  go_enter Tryz.func50, Tryz.ntmps50
  go_upto_region 1 with (fail)
  rw [HW0.out]
  clear HW0
  have c0 := cellN (i := 0) HX.out rfl
  have c1 := cellN (i := 1) HX.out rfl
  have c2 := cellN (i := 2) HX.out rfl
  have c3 := cellN (i := 3) HX.out rfl
  have c4 := cellN (i := 4) HX.out rfl
  have c5 := cellN (i := 5) HX.out rfl
  have c6 := cellN (i := 6) HX.out rfl
  have c7 := cellN (i := 7) HX.out rfl
  have c8 := cellN (i := 8) HX.out rfl
  have c9 := cellN (i := 9) HX.out rfl
  have c10 := cellN (i := 10) HX.out rfl
  have c11 := cellN (i := 11) HX.out rfl
  have c12 := cellN (i := 12) HX.out rfl
  have c13 := cellN (i := 13) HX.out rfl
  have cl := cell_lt HX.out
  have o1 : (n.op == 1) = false := by simp [H9.out]
  have o2 : (n.op == 2) = false := by simp [H9.out]
  have o3 : (n.op == 3) = false := by simp [H9.out]
  have o4 : (n.op == 4) = false := by simp [H9.out]
  have o5 : (n.op == 5) = false := by simp [H9.out]
  have o6 : (n.op == 6) = true := by simp [H9.out]
  go_wp2_with (first
    | (go_at_call 81; (with_reducible refine (HCI.out _ ?_).mono ?_); (focus exact (by repeat' (first | with_reducible exact HB3.out | with_reducible exact Below.refl _ _ | with_reducible refine bl_al ?_ _ | with_reducible refine bl_dr ?_))); rintro e w3 ⟨rfl, hb3⟩; have HB3 : Hid (Below W0.heap.size W0 w3) := Lib.hid (bl_tr (by repeat' (first | with_reducible exact HB3.out | with_reducible exact Below.refl _ _ | with_reducible refine bl_al ?_ _ | with_reducible refine bl_dr ?_)) hb3); clear hb3)
    | fail)
  go_ret
  exact ⟨congrArg _ (congrArg _ HF.out), HB0.out.trans (HB3.out.mono HB0.out.size)⟩
end Go.Proofs.YtllnamhgnbdkmaaGreatDoor
namespace Go.Proofs.YtllnamhgnbdkmaaGreatDoor
open Go.RowKit
theorem rline_any (w : World) (S : Nat → Prop) (d : Nat) (l : List Gn) (i : Nat) (n : Gn) (IA SA A : Option Addr) (ic sc c : Nat) (hN : GnAt w S d (n.val IA SA A ic sc c) n) (hok : OkN l i n) (hr : GnR n) :
    Calls Tryz.prog 50 #[.agg #[.int .i64 n.op, .slice IA n.ins.length ic, .slice SA n.side.length sc, .string ⟨n.text.toArray⟩, .int .i64 n.ty.kind, .slice A n.ty.args.length c, .int .i64 n.f0, .int .i64 n.f1, .int .i64 n.f2, .int .i64 n.f3, .int .i64 n.e, .int .i64 n.l, .int .i64 n.lt, .bool n.acc]] w fun e w' => e = .returned (.string ⟨(lineP n).toArray⟩) ∧ Below w.heap.size w w' := by
  obtain ⟨o, ho, _⟩ := hok.op
  have hx : n.op = 1 ∨ n.op = 2 ∨ n.op = 3 ∨ n.op = 4 ∨ n.op = 5 ∨ n.op = 6 := by
    unfold opP at ho
    have h1 := List.mem_of_find?_eq_some ho
    have h2 := List.find?_some ho
    simp only [gops, List.mem_cons, List.not_mem_nil, or_false] at h1
    rcases h1 with rfl | rfl | rfl | rfl | rfl | rfl <;> simp only [gop1, gop2, gop3, gop4, gop5, gop6, beq_iff_eq] at h2 <;> omega
  rcases hx with h | h | h | h | h | h
  · exact rline1_any w S d l i n IA SA A ic sc c hN hok hr h
  · exact rline2_any w S d l i n IA SA A ic sc c hN hok hr h
  · exact rline3_any w S d l i n IA SA A ic sc c hN hok hr h
  · cases ha : n.acc with
    | true => exact ha ▸ rline4a_any w S d l i n IA SA A ic sc c hN hok hr h ha
    | false => exact ha ▸ rline4d_any w S d l i n IA SA A ic sc c hN hok hr h ha
  · exact rline5_any w S d l i n IA SA A ic sc c hN hok hr h
  · exact rline6_any w S d l i n IA SA A ic sc c hN hok hr h
set_option maxRecDepth 100000 in
set_option maxHeartbeats 8000000 in
theorem rshowP_any (w : World) (S : Nat → Prop) (d : Nat) (gv : Value) (l : List Gn) (hL : GsAt w S d gv l) (hok : OkG l) (hlen : l.length ≤ 32) (hr : ∀ n ∈ l, GnR n) :
    Calls Tryz.prog 17 #[gv] w fun e w' => e = .returned (.string ⟨(textP l).toArray⟩) ∧ Below w.heap.size w w' := by
  obtain ⟨GA, gc, rfl⟩ := hL.form
  have HL := Lib.hid hL
  have HOK := Lib.hid hok
  have HR := Lib.hid hr
  clear hL hok hr
  go_enter Tryz.func17, Tryz.ntmps17
  go_wp2_with (fail)
  go_loopw [3, 4] (fun sv iv wr => ∃ (j : Nat) (B : ByteArray), sv = .string B ∧ iv = .int .i64 (j : Int) ∧ j ≤ l.length ∧ Hid (B = ⟨(textP (l.take j)).toArray⟩) ∧ B.size ≤ j * 200011 ∧ Hid (Below w.heap.size w wr)) (fun _ iv _ => l.length - (intOf iv).toNat)
  case atStart => exact ⟨0, _, rfl, rfl, Nat.zero_le _, Lib.hid rfl, Nat.le_refl _, Lib.hid (Below.refl _ _)⟩
  case round =>
    obtain ⟨j, B, rfl, rfl, hj, HB, hbs, HBW⟩ := hrel
    by_cases hlt : j < l.length
    · have hjl : (j : Int) < (l.length : Int) := by omega
      have hat := (HL.out.below HBW.out).at hlt
      have hon : OkN l j l[j] := HOK.out.each j _ (List.getElem?_eq_getElem hlt)
      have hrn := HR.out _ (List.getElem_mem hlt)
      have htk : l.take (j + 1) = l.take j ++ [l[j]] := by rw [List.take_add_one, List.getElem?_eq_getElem hlt]; rfl
      have hll := lineP_len hon hrn
      generalize l[j] = n at *
      obtain ⟨b, o, rfl, hbl, hS, IA, SA, A, ic, sc, c, hN, a0, a1, a2, a3, a4, a5, a6, a7, a8, a9, a10, a11, a12, a13⟩ := hat
      obtain ⟨D, hD⟩ : ∃ D : ByteArray, D = ⟨(lineP n).toArray⟩ := ⟨_, rfl⟩
      have hDs : D.size ≤ 200010 := by rw [hD, bytes_size]; exact hll
      have HLN : Hid (∀ W, Below wr.heap.size wr W → Calls Tryz.prog 50 #[.agg #[.int .i64 n.op, .slice IA n.ins.length ic, .slice SA n.side.length sc, .string ⟨n.text.toArray⟩, .int .i64 n.ty.kind, .slice A n.ty.args.length c, .int .i64 n.f0, .int .i64 n.f1, .int .i64 n.f2, .int .i64 n.f3, .int .i64 n.e, .int .i64 n.l, .int .i64 n.lt, .bool n.acc]] W fun e w' => e = .returned (.string D) ∧ Below W.heap.size W w') := Lib.hid fun W hb => by
        rw [hD]; exact rline_any W S d l j n IA SA A ic sc c (hN.below hb) hon hrn
      have H1 : Hid (B ++ (D ++ ⟨#[10]⟩) = ⟨(textP (l.take (j + 1))).toArray⟩) := Lib.hid (by
        rw [htk, textP_snoc, HB.out, hD, List.append_assoc]
        exact (congrArg (_ ++ ·) (bytes_app _ [10])).trans (bytes_app _ _))
      clear hD hll hon hrn htk hN hS
      go_wp2_with (go_at_call 50; (with_reducible refine (HLN.out _ (Below.refl _ _)).mono ?_); rintro e w2 ⟨rfl, hb2⟩; have HB2 := Lib.hid (HBW.out.trans (hb2.mono HBW.out.size)); clear hb2)
      go_roundw
      case rel => exact ⟨j + 1, _, rfl, by go_num, by omega, H1, by rw [ByteArray.size_append, ByteArray.size_append]; have : (⟨#[10]⟩ : ByteArray).size = 1 := rfl; omega, HB2⟩
      case measure => simp [intOf]; omega
    · obtain rfl : j = l.length := by omega
      have hjl : ¬ ((l.length : Int) < (l.length : Int)) := by omega
      have HE2 : Hid (B = ⟨(textP l).toArray⟩) := Lib.hid (by rw [HB.out, List.take_length])
      go_wp2_with (fail)
      go_ret
      rw [← HE2.out]
      exact ⟨rfl, HBW.out⟩
end Go.Proofs.YtllnamhgnbdkmaaGreatDoor
