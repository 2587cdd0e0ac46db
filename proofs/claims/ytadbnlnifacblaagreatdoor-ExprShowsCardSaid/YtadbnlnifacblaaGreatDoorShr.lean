/-
ExprShows: Right of the document's answer; the walk of the law.
-/
import Derived.Test.YtadbnlnifacblaaGreatDoorShs
import Derived.Test.YtadbnlnifacblaaGreatDoorShn
import Derived.Test.YtadbnlnifacblaaGreatDoorQf
import Derived.Test.YtadbnlnifacblaaGreatDoorSzp
namespace Go.Proofs.YtadbnlnifacblaaGreatDoor
open Go.RowKit Go.Sort
set_option maxRecDepth 100000 in
set_option maxHeartbeats 4000000 in
theorem right_d (e d i : Nat) (S : Nat → Prop) (v : Value) (n : Nd) (w : World) (he : 24 ≤ e) (he2 : e ≤ 1000) (hF : FewN e n) (hI : IntN i n) (hT : NdAt w S d v n) :
    Calls Tryz.prog 17 #[v] w fun e' w' => e' = .returned (.bool (showW n).isSome) ∧ Below w.heap.size w w' := by
  obtain ⟨A, c, K, kc, rfl⟩ := hT.form
  have hri := right_iff (few_rg 24 i e n hI hF) e he
  have hb1 := (Below.refl w.heap.size w).alloc (Nat.le_refl _) (.cells #[.string ⟨n.op.toArray⟩, .int .i64 n.int, .string ⟨n.text.toArray⟩, .int .i64 n.ty.kind, .slice A n.ty.args.length c, .slice K n.kids.length kc] 37)
  have hs1 : (w.alloc (.cells #[.string ⟨n.op.toArray⟩, .int .i64 n.int, .string ⟨n.text.toArray⟩, .int .i64 n.ty.kind, .slice A n.ty.args.length c, .slice K n.kids.length kc] 37)).heap.size = w.heap.size + 1 := by simp
  have HC1 := Lib.hid (heap_alloc_new w (.cells #[.string ⟨n.op.toArray⟩, .int .i64 n.int, .string ⟨n.text.toArray⟩, .int .i64 n.ty.kind, .slice A n.ty.args.length c, .slice K n.kids.length kc] 37))
  have HB1 := Lib.hid hb1
  have HN1 := Lib.hid (hT.below hb1)
  have HSH := Lib.hid (fun (W : World) (h : NdAt W S d (.agg #[.string ⟨n.op.toArray⟩, .int .i64 n.int, .string ⟨n.text.toArray⟩, .int .i64 n.ty.kind, .slice A n.ty.args.length c, .slice K n.kids.length kc]) n) => show_d e d i S _ n W hF hI h (by omega))
  obtain ⟨s, hs0⟩ : ∃ s : ByteArray, s = ⟨(showD e n).toArray⟩ := ⟨_, rfl⟩
  have hsz : s.size = (showD e n).length := by rw [hs0]; simp [ByteArray.size]
  have hbl : bl s = showD e n := by rw [hs0]; simp [bl]
  rw [← hs0] at HSH
  rw [← hsz, ← hbl] at hri
  have HRI := Lib.hid hri
  clear hT hb1 hri hs0 hsz hbl hF hI
  go_enter Tryz.func17, Tryz.ntmps17
  go_wp2_with (fail)
  refine (HSH.out _ HN1.out).mono ?_
  rintro e' w2 ⟨rfl, hb2⟩
  have HC2 := Lib.hid (below_at hb2 HC1.out)
  have HN2 := Lib.hid (HN1.out.below hb2)
  have HB2 := Lib.hid (HB1.out.trans (hb2.mono (by omega)))
  have hs2 := hb2.size
  clear hb2 HSH HC1 HN1 HB1
  by_cases hl : s.size ≤ 4096
  · have hlD : decide ((4096 : Int) < (s.size : Int)) = false := by simp; omega
    have HP := Lib.hid (parse_d s w2 (by omega))
    obtain ⟨m, o, hmo⟩ : ∃ m o, parseR Knd.parseT (bl s) = (m, o) := ⟨_, _, rfl⟩
    rw [hmo] at HP
    have HMO := Lib.hid hmo
    clear hmo
    go_wp2_with (fail)
    refine HP.out.mono ?_
    rintro e' w3 ⟨hP, hb3⟩
    have HB3 := Lib.hid (HB2.out.trans (hb3.mono (by omega)))
    have hs3 := hb3.size
    cases o with
    | none =>
      obtain rfl : e' = .returned (.tuple #[.agg #[.string ⟨#[]⟩, .int .i64 0, .string ⟨#[]⟩, .int .i64 0, .slice none 0 0, .slice none 0 0], .int .i64 (m : Int), .bool false]) := hP
      have HR : Hid ((showW n).isSome = false) := by
        show _ = _
        cases hh : (showW n).isSome with
        | false => rfl
        | true =>
          obtain ⟨_, k, hk⟩ := HRI.out.1 hh
          rw [HMO.out] at hk
          injection hk with _ hk
          cases hk
      have hb4 := HB3.out.alloc HB3.out.size (.cells #[.string ⟨#[]⟩, .int .i64 0, .string ⟨#[]⟩, .int .i64 0, .slice none 0 0, .slice none 0 0] 37)
      go_wp2_with (fail)
      refine bodyPost_ret (v := .bool false) (by simp [results, Tryz.results17, go_sem]) rfl ?_
      exact ⟨by rw [HR.out], hb4⟩
    | some n' =>
      obtain ⟨dd, v', rfl, hX⟩ := hP
      obtain ⟨A2, c2, K2, k2, rfl⟩ := hX.form
      have HNAR : Hid (NarN 24 n') := by
        obtain ⟨_, c', q2⟩ := parse_good HMO.out (by rw [bl_length]; omega)
        exact show_nar q2
      have hba := (Below.refl w3.heap.size w3).alloc (Nat.le_refl _) (.cells #[.string ⟨n'.op.toArray⟩, .int .i64 n'.int, .string ⟨n'.text.toArray⟩, .int .i64 n'.ty.kind, .slice A2 n'.ty.args.length c2, .slice K2 n'.kids.length k2] 37)
      have HC4 := Lib.hid (below_at (hb3.trans (hba.mono hb3.size)) HC2.out)
      have HN4 := Lib.hid (HN2.out.below (hb3.trans (hba.mono hb3.size)))
      have HX4 := Lib.hid (hX.below hba)
      have HK4 := Lib.hid (heap_alloc_new w3 (.cells #[.string ⟨n'.op.toArray⟩, .int .i64 n'.int, .string ⟨n'.text.toArray⟩, .int .i64 n'.ty.kind, .slice A2 n'.ty.args.length c2, .slice K2 n'.kids.length k2] 37))
      have HB4 := Lib.hid (HB3.out.trans (hba.mono (by omega)))
      have hs4 : (w3.alloc (.cells #[.string ⟨n'.op.toArray⟩, .int .i64 n'.int, .string ⟨n'.text.toArray⟩, .int .i64 n'.ty.kind, .slice A2 n'.ty.args.length c2, .slice K2 n'.kids.length k2] 37)).heap.size = w3.heap.size + 1 := by simp
      clear hX hb3 hba HC2 HN2 HP HB2 HB3
      go_upto_region 5 with (fail)
      generalize w3.alloc (.cells #[.string ⟨n'.op.toArray⟩, .int .i64 n'.int, .string ⟨n'.text.toArray⟩, .int .i64 n'.ty.kind, .slice A2 n'.ty.args.length c2, .slice K2 n'.kids.length k2] 37) = w4 at *
      have x0 := cell6_0 HC4.out
      have x1 := cell6_1 HC4.out
      have x2 := cell6_2 HC4.out
      have x3 := cell6_3 HC4.out
      have x4 := cell6_4 HC4.out
      have x5 := cell6_5 HC4.out
      have xl := cell_lt HC4.out
      have y0 := cell6_0 HK4.out
      have y1 := cell6_1 HK4.out
      have y2 := cell6_2 HK4.out
      have y3 := cell6_3 HK4.out
      have y4 := cell6_4 HK4.out
      have y5 := cell6_5 HK4.out
      have yl := cell_lt HK4.out
      go_wp2_with (fail)
      refine (same_any dd d 24 _ _ _ _ n' n w4 HNAR.out HX4.out HN4.out).mono ?_
      rintro e' w5 ⟨⟨q, rfl, hq⟩, hb5⟩
      have HR : Hid ((showW n).isSome = q) := by
        show _ = _
        cases q with
        | true =>
          have e1 := hq.1 rfl
          have e2 := HMO.out
          rw [e1] at e2
          exact HRI.out.2 ⟨hl, m, e2⟩
        | false =>
          cases hh : (showW n).isSome with
          | false => rfl
          | true =>
            obtain ⟨_, k, hk⟩ := HRI.out.1 hh
            rw [HMO.out] at hk
            injection hk with _ hk
            injection hk with hk
            exact absurd (hq.2 hk) (by decide)
      have HB5 := Lib.hid (HB4.out.trans (hb5.mono (by omega)))
      clear hq hb5
      go_wp2_with (fail)
      refine bodyPost_ret (v := .bool q) (by simp [results, Tryz.results17, go_sem]) rfl ?_
      exact ⟨by rw [HR.out], HB5.out⟩
  · have hlD : decide ((4096 : Int) < (s.size : Int)) = true := by simp; omega
    have HR : Hid ((showW n).isSome = false) := by
      show _ = _
      cases hh : (showW n).isSome with
      | false => rfl
      | true => exact absurd (HRI.out.1 hh).1 hl
    clear hl
    go_wp2_with (fail)
    refine bodyPost_ret (v := .bool false) (by simp [results, Tryz.results17, go_sem]) rfl ?_
    exact ⟨by rw [HR.out], HB2.out⟩
theorem fe_form {B : Nat} {w' : World} {e : Ending} {n : Nd} (h : FeOut B w' e n) (hq : (showW n).isSome = true) : ∃ (A : Option Addr) (c : Nat), e = .returned (.tuple #[.slice A (freeL n).length c, .int .i64 0]) ∧ StrAt w' (fun _ => True) (.slice A (freeL n).length c) (freeL n) := by
  unfold FeOut at h
  rw [if_pos hq] at h
  obtain ⟨v, he, ho⟩ := h
  obtain ⟨A, c, rfl⟩ := (StrAt.of_own ho).form
  exact ⟨A, c, he, (StrAt.of_own ho).wider fun _ _ => trivial⟩
end Go.Proofs.YtadbnlnifacblaaGreatDoor
