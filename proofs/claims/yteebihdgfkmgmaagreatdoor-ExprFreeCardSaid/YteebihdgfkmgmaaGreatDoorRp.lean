/-
Package expr: Parse.
-/
import Derived.Test.YteebihdgfkmgmaaGreatDoorRe
namespace Go.Proofs.YteebihdgfkmgmaaGreatDoor
open Go.RowKit

/-- What Parse answers with, to a text that isn't too long. -/
def QaOut (w w' : World) (e : Ending) : Nat × Option Nd → Prop
  | (m, none) => e = .returned (.tuple #[.agg #[.string ⟨#[]⟩, .int .i64 0, .string ⟨#[]⟩, .int .i64 0, .slice none 0 0, .slice none 0 0], .int .i64 (m : Int), .int .i64 40])
  | (_, some n) => ∃ v, e = .returned (.tuple #[v, .int .i64 0, .int .i64 0]) ∧ NdAt w' (fun b => w.heap.size ≤ b) 25 v n

theorem parse_at (kp : List UInt8 → Nat × Option Ty) (l : List UInt8) : parseR kp l = bindP (exprR kp l 24 (skip l 0)) fun m n => if skip l m < l.length then (skip l m, none) else (skip l m, some n) := rfl

set_option maxRecDepth 100000 in
set_option maxHeartbeats 4000000 in
theorem exprParse_any (s : ByteArray) (w : World) (hs : s.size ≤ 4096) (hG : Knd.Glob w) :
    Calls Tryz.prog 12 #[.string s] w fun e w' => QaOut w w' e (parseR Knd.parseT (bl s)) ∧ Below w.heap.size w w' := by
  have hGl := hG.lt
  have HG := Lib.hid hG
  have hns : ¬ (4096 < (s.size : Int)) := by omega
  have hbl := bl_length s
  have hb1 := (Below.refl w.heap.size w).alloc (Nat.le_refl _) (.cells #[.string ⟨#[]⟩, .int .i64 0, .string ⟨#[]⟩, .int .i64 0, .slice none 0 0, .slice none 0 0] 27)
  have hz1 : (w.alloc (.cells #[.string ⟨#[]⟩, .int .i64 0, .string ⟨#[]⟩, .int .i64 0, .slice none 0 0, .slice none 0 0] 27)).heap.size = w.heap.size + 1 := by simp
  have hb2 := hb1.alloc (by omega : w.heap.size ≤ (w.alloc (.cells #[.string ⟨#[]⟩, .int .i64 0, .string ⟨#[]⟩, .int .i64 0, .slice none 0 0, .slice none 0 0] 27)).heap.size) (.cells #[.string s, .int .i64 0] 90)
  have hz2 : ((w.alloc (.cells #[.string ⟨#[]⟩, .int .i64 0, .string ⟨#[]⟩, .int .i64 0, .slice none 0 0, .slice none 0 0] 27)).alloc (.cells #[.string s, .int .i64 0] 90)).heap.size = w.heap.size + 2 := by simp
  have HN : Hid (((w.alloc (.cells #[.string ⟨#[]⟩, .int .i64 0, .string ⟨#[]⟩, .int .i64 0, .slice none 0 0, .slice none 0 0] 27)).alloc (.cells #[.string s, .int .i64 0] 90)).heap[w.heap.size]? = some (.cells #[.string ⟨#[]⟩, .int .i64 0, .string ⟨#[]⟩, .int .i64 0, .slice none 0 0, .slice none 0 0] 27 (0, 0))) := (Below.heap_alloc _ _ _ (by omega)).trans (heap_alloc_new w _)
  have HR : Hid (Rdr ((w.alloc (.cells #[.string ⟨#[]⟩, .int .i64 0, .string ⟨#[]⟩, .int .i64 0, .slice none 0 0, .slice none 0 0] 27)).alloc (.cells #[.string s, .int .i64 0] 90)) (w.heap.size + 1) s 0) := ⟨by have := heap_alloc_new (w.alloc (.cells #[.string ⟨#[]⟩, .int .i64 0, .string ⟨#[]⟩, .int .i64 0, .slice none 0 0, .slice none 0 0] 27)) (.cells #[.string s, .int .i64 0] 90); rw [hz1] at this; exact this, Nat.zero_le _, by omega⟩
  have HE := Lib.hid (parse_at Knd.parseT (bl s))
  clear hG
  go_enter Tryz.func12, Tryz.ntmps12
  go_wp2_with (fail)
  generalize (w.alloc (.cells #[.string ⟨#[]⟩, .int .i64 0, .string ⟨#[]⟩, .int .i64 0, .slice none 0 0, .slice none 0 0] 27)).alloc (.cells #[.string s, .int .i64 0] 90) = wA at *
  have HBA := Lib.hid hb2
  clear hb1 hz1 hb2
  obtain ⟨R, hR⟩ : ∃ R, R = w.heap.size + 1 := ⟨_, rfl⟩
  rw [← hR] at HR
  rw [← hR]
  have h2R : 0 < R := by omega
  have HGA := Lib.hid (HG.out.kept (HBA.out.block 0 hGl))
  have hRw : w.heap.size < R := by omega
  have HRR := Lib.hid hR
  clear hR
  refine (skip_any R s 0 wA HR.out).mono ?_
  rintro e w3 ⟨⟨v, rfl⟩, ho3, hr3⟩
  have HO3 := Lib.hid ho3
  have HR3 := Lib.hid hr3
  have hs3 := ho3.size
  have HG3 := Lib.hid (glob_only h2R ho3 HGA.out)
  have hX := expr_any 24 (by omega) R s h2R (by omega) (skip (bl s) 0) w3 HG3.out HR3.out
  rw [show (((24 : Nat) : Nat) : Int) = 24 from rfl] at hX
  clear ho3 hr3
  go_wp2_with (fail)
  refine hX.mono ?_
  clear hX
  intro e w4 h4
  obtain ⟨k0, k1, k2, k3, KA, kn, kc, KK, km, kk, good, rfl, ho4, hr4, hgood, hv4⟩ := h4.parts
  have HO4 := Lib.hid (HO3.out.trans ho4)
  have hs4 := ho4.size
  have HN4 := Lib.hid (((HO3.out.trans ho4).block w.heap.size (by omega) (by simp; omega)).trans HN.out)
  revert HE hr4 hgood hv4
  clear ho4 h4
  generalize exprR Knd.parseT (bl s) 24 (skip (bl s) 0) = q
  match q with
  | (m4, none) =>
    intro HE hr4 hgood hv4
    obtain rfl : good = false := hgood
    have HF : Hid (parseR Knd.parseT (bl s) = (m4, none)) := HE
    have HR4 := Lib.hid hr4
    clear hr4 hv4 HE
    have d0 := cell6_0 HN4.out
    have d1 := cell6_1 HN4.out
    have d2 := cell6_2 HN4.out
    have d3 := cell6_3 HN4.out
    have d4 := cell6_4 HN4.out
    have d5 := cell6_5 HN4.out
    have f0 := cell3_f HN4.out 0
    have f1 := cell3_f HN4.out 1
    have f2 := cell3_f HN4.out 2
    have f3 := cell3_f HN4.out 3
    have f4 := cell3_f HN4.out 4
    have f5 := cell3_f HN4.out 5
    have hl := cell_lt HN4.out
    have r0 := cell2_0 HR4.out.box
    have r1 := cell2_1 HR4.out.box
    have rl := cell_lt HR4.out.box
    go_upto_region 9 with (fail)
    obtain ⟨w5, hw5⟩ : ∃ w5, w5 = (((((w4.setCell ⟨w.heap.size, 0, none⟩ (.string k0)).setCell ⟨w.heap.size, 1, none⟩ (.int .i64 k1)).setCell ⟨w.heap.size, 2, none⟩ (.string k2)).setCell ⟨w.heap.size, 3, none⟩ (.int .i64 k3)).setCell ⟨w.heap.size, 4, none⟩ (.slice KA kn kc)).setCell ⟨w.heap.size, 5, none⟩ (.slice KK km kk) := ⟨_, rfl⟩
    have HN5 := Lib.hid (put6_heap (b0 := .string k0) (b1 := .int .i64 k1) (b2 := .string k2) (b3 := .int .i64 k3) (b4 := .slice KA kn kc) (b5 := .slice KK km kk) HN4.out)
    have hO5 : Only w.heap.size w4 w5 := by rw [hw5]; exact put6_only
    have hB4 : Below w.heap.size w w4 := HBA.out.trans (HO4.out.below (by omega) (by omega))
    have HB5 : Hid (Below w.heap.size w w5) := hB4.trans (hO5.below (Nat.le_refl _) (by omega))
    have HR5 : Hid (Rdr w5 R s m4) := ⟨(hO5.block R HR4.out.lt (by simp; omega)).trans HR4.out.box, HR4.out.le, HR4.out.len⟩
    have hs5 := hO5.size
    rw [← hw5] at HN5
    rw [← hw5]
    clear hw5 hO5 hB4 d0 d1 d2 d3 d4 d5 f0 f1 f2 f3 f4 f5 hl r0 r1 rl
    have d0 := cell6_0 HN5.out
    have d1 := cell6_1 HN5.out
    have d2 := cell6_2 HN5.out
    have d3 := cell6_3 HN5.out
    have d4 := cell6_4 HN5.out
    have d5 := cell6_5 HN5.out
    have f0 := cell3_f HN5.out 0
    have f1 := cell3_f HN5.out 1
    have f2 := cell3_f HN5.out 2
    have f3 := cell3_f HN5.out 3
    have f4 := cell3_f HN5.out 4
    have f5 := cell3_f HN5.out 5
    have hl := cell_lt HN5.out
    have r0 := cell2_0 HR5.out.box
    have r1 := cell2_1 HR5.out.box
    have rl := cell_lt HR5.out.box
    have hz := put6_heap (b0 := .string ⟨#[]⟩) (b1 := .int .i64 0) (b2 := .string ⟨#[]⟩) (b3 := .int .i64 0) (b4 := .slice none 0 0) (b5 := .slice none 0 0) HN5.out
    have z0 := cell6_0 hz
    have z1 := cell6_1 hz
    have z2 := cell6_2 hz
    have z3 := cell6_3 hz
    have z4 := cell6_4 hz
    have z5 := cell6_5 hz
    clear hz
    go_region
    all_goals
      go_wp2_with (fail)
      refine bodyPost_ret (v := .tuple #[.agg #[.string ⟨#[]⟩, .int .i64 0, .string ⟨#[]⟩, .int .i64 0, .slice none 0 0, .slice none 0 0], .int .i64 ((m4 : Nat) : Int), .int .i64 40]) (by simp [results, Tryz.results12, go_sem, z0, z1, z2, z3, z4, z5]) rfl ?_
      rw [HF.out]
      refine ⟨rfl, ?_⟩
      have hbb := HB5.out
      (repeat' (first | with_reducible assumption | with_reducible refine Below.setCell ?_ ?_ _ | with_reducible refine Below.drew ?_ | (dsimp only; omega)))
  | (m4, some nd) =>
    intro HE hr4 hgood hv4
    obtain rfl : good = true := hgood
    have HR4 := Lib.hid hr4
    have HV4 := Lib.hid (hv4 nd rfl)
    have HE4 : Hid (parseR Knd.parseT (bl s) = if skip (bl s) m4 < s.size then (skip (bl s) m4, none) else (skip (bl s) m4, some nd)) := by show _ = _; rw [HE.out, ← hbl]; rfl
    clear hr4 hv4 HE
    have d0 := cell6_0 HN4.out
    have d1 := cell6_1 HN4.out
    have d2 := cell6_2 HN4.out
    have d3 := cell6_3 HN4.out
    have d4 := cell6_4 HN4.out
    have d5 := cell6_5 HN4.out
    have f0 := cell3_f HN4.out 0
    have f1 := cell3_f HN4.out 1
    have f2 := cell3_f HN4.out 2
    have f3 := cell3_f HN4.out 3
    have f4 := cell3_f HN4.out 4
    have f5 := cell3_f HN4.out 5
    have hl := cell_lt HN4.out
    have r0 := cell2_0 HR4.out.box
    have r1 := cell2_1 HR4.out.box
    have rl := cell_lt HR4.out.box
    go_wp2_with (fail)
    obtain ⟨w5, hw5⟩ : ∃ w5, w5 = (((((w4.setCell ⟨w.heap.size, 0, none⟩ (.string k0)).setCell ⟨w.heap.size, 1, none⟩ (.int .i64 k1)).setCell ⟨w.heap.size, 2, none⟩ (.string k2)).setCell ⟨w.heap.size, 3, none⟩ (.int .i64 k3)).setCell ⟨w.heap.size, 4, none⟩ (.slice KA kn kc)).setCell ⟨w.heap.size, 5, none⟩ (.slice KK km kk) := ⟨_, rfl⟩
    have HN5 := Lib.hid (put6_heap (b0 := .string k0) (b1 := .int .i64 k1) (b2 := .string k2) (b3 := .int .i64 k3) (b4 := .slice KA kn kc) (b5 := .slice KK km kk) HN4.out)
    have hO5 : Only w.heap.size w4 w5 := by rw [hw5]; exact put6_only
    have hB4 : Below w.heap.size w w4 := HBA.out.trans (HO4.out.below (by omega) (by omega))
    have HB5 : Hid (Below w.heap.size w w5) := hB4.trans (hO5.below (Nat.le_refl _) (by omega))
    have HR5 : Hid (Rdr w5 R s m4) := ⟨(hO5.block R HR4.out.lt (by simp; omega)).trans HR4.out.box, HR4.out.le, HR4.out.len⟩
    have hs5 := hO5.size
    rw [← hw5] at HN5
    rw [← hw5]
    have HV5 : Hid (NdAt w5 (fun b => R < b) 25 (.agg #[.string k0, .int .i64 k1, .string k2, .int .i64 k3, .slice KA kn kc, .slice KK km kk]) nd) := NdAt.move (fun b hb hl => ⟨by have := HRR.out; omega, fun o => World.cell?_of_block (hO5.block b hl (by have := HRR.out; simp; omega))⟩) 25 _ _ HV4.out
    clear hw5 hO5 hB4 d0 d1 d2 d3 d4 d5 f0 f1 f2 f3 f4 f5 hl r0 r1 rl
    refine (skip_any R s m4 w5 HR5.out).mono ?_
    rintro e w6 ⟨⟨v6, rfl⟩, ho6, hr6⟩
    have HR6 := Lib.hid hr6
    have HN6 := Lib.hid ((ho6.block w.heap.size (by omega) (by simp; omega)).trans HN5.out)
    have HB6 : Hid (Below w.heap.size w w6) := HB5.out.trans (ho6.below (by omega) (by omega))
    have HV6 : Hid (NdAt w6 (fun b => R < b) 25 (.agg #[.string k0, .int .i64 k1, .string k2, .int .i64 k3, .slice KA kn kc, .slice KK km kk]) nd) := NdAt.move (fun b hb hl => ⟨by omega, fun o => World.cell?_of_block (ho6.block b hl (by simp; omega))⟩) 25 _ _ HV5.out
    clear ho6 hr6
    obtain ⟨m6, hm6⟩ : ∃ m6, m6 = skip (bl s) m4 := ⟨_, rfl⟩
    rw [← hm6] at HR6 HE4
    clear hm6
    have d0 := cell6_0 HN6.out
    have d1 := cell6_1 HN6.out
    have d2 := cell6_2 HN6.out
    have d3 := cell6_3 HN6.out
    have d4 := cell6_4 HN6.out
    have d5 := cell6_5 HN6.out
    have f0 := cell3_f HN6.out 0
    have f1 := cell3_f HN6.out 1
    have f2 := cell3_f HN6.out 2
    have f3 := cell3_f HN6.out 3
    have f4 := cell3_f HN6.out 4
    have f5 := cell3_f HN6.out 5
    have hl := cell_lt HN6.out
    have r0 := cell2_0 HR6.out.box
    have r1 := cell2_1 HR6.out.box
    have rl := cell_lt HR6.out.box
    by_cases hlt : m6 < s.size
    · have hlt2 : (m6 : Int) < (s.size : Int) := by omega
      have HF : Hid (parseR Knd.parseT (bl s) = (m6, none)) := by show _ = _; rw [HE4.out, if_pos hlt]
      go_upto_region 9 with (fail)
      have hz := put6_heap (b0 := .string ⟨#[]⟩) (b1 := .int .i64 0) (b2 := .string ⟨#[]⟩) (b3 := .int .i64 0) (b4 := .slice none 0 0) (b5 := .slice none 0 0) HN6.out
      have z0 := cell6_0 hz
      have z1 := cell6_1 hz
      have z2 := cell6_2 hz
      have z3 := cell6_3 hz
      have z4 := cell6_4 hz
      have z5 := cell6_5 hz
      clear hz
      go_region
      all_goals
        go_wp2_with (fail)
        refine bodyPost_ret (v := .tuple #[.agg #[.string ⟨#[]⟩, .int .i64 0, .string ⟨#[]⟩, .int .i64 0, .slice none 0 0, .slice none 0 0], .int .i64 ((m6 : Nat) : Int), .int .i64 40]) (by simp [results, Tryz.results12, go_sem, z0, z1, z2, z3, z4, z5]) rfl ?_
        rw [HF.out]
        refine ⟨rfl, ?_⟩
        have hbb := HB6.out
        (repeat' (first | with_reducible assumption | with_reducible refine Below.setCell ?_ ?_ _ | with_reducible refine Below.drew ?_ | (dsimp only; omega)))
    · have hlt2 : ¬ (m6 : Int) < (s.size : Int) := by omega
      have HF : Hid (parseR Knd.parseT (bl s) = (m6, some nd)) := by show _ = _; rw [HE4.out, if_neg hlt]
      go_wp2_with (fail)
      refine bodyPost_ret (v := .tuple #[.agg #[.string k0, .int .i64 k1, .string k2, .int .i64 k3, .slice KA kn kc, .slice KK km kk], .int .i64 0, .int .i64 0]) (by simp [results, Tryz.results12, go_sem, d0, d1, d2, d3, d4, d5]) rfl ?_
      rw [HF.out]
      have hbb := HB6.out
      refine ⟨⟨_, rfl, ?_⟩, ?_⟩
      · refine NdAt.move (fun b hb hlb => ⟨by omega, fun o => World.cell?_of_block ?_⟩) 25 _ _ HV6.out
        exact set6_block (by show b ≠ w.heap.size; omega)
      · (repeat' (first | with_reducible assumption | with_reducible refine Below.setCell ?_ ?_ _ | with_reducible refine Below.drew ?_ | (dsimp only; omega)))
end Go.Proofs.YteebihdgfkmgmaaGreatDoor
