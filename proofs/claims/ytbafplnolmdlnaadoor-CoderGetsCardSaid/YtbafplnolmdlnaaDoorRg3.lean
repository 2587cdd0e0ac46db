/-
The document's answer: Get, of points.
-/
import Derived.Test.YtbafplnolmdlnaaDoorBnd
import Derived.Deep.RegionHeld3
import Derived.BigRegion
import Derived.RegionTactic
namespace Go.Proofs.YtbafplnolmdlnaaDoor
open Go.RowKit

/-- The rest of a point: k numbers more. -/
def ptOn (l : List UInt8) : Nat → List Int → Nat → Nat × Option (Int × Int)
  | 0, acc, m => (m, some (acc.getD 0 0, acc.getD 1 0))
  | k + 1, acc, m => match numL l 3 0 m 31 with
    | (m', none) => (m', none)
    | (m', some a) => ptOn l k (acc ++ [(a : Int) - 1048576]) m'
theorem pointL_on (l : List UInt8) (m : Nat) : pointL l m = ptOn l 2 [] m := by
  simp only [pointL, ptOn]
  cases numL l 3 0 m 31 with
  | mk m' o =>
    cases o with
    | none => rfl
    | some a =>
      simp only
      cases numL l 3 0 m' 31 with
      | mk m2 o2 => cases o2 <;> rfl

theorem num3_high {l : List UInt8} {m : Nat} {x : UInt8} (hx : l[m]? = some x) (h : 31 < x.toNat) : numL l 3 0 m 31 = (m, none) := by
  simp only [numL, okB, hx]
  rw [if_neg (by omega)]
theorem okB_le {l : List UInt8} {m M : Nat} {x : UInt8} (hx : l[m]? = some x) (h : x.toNat ≤ M) : okB l m M = some x := by
  simp only [okB, hx]
  rw [if_pos h]
theorem num3_short {l : List UInt8} {m : Nat} (hm : m ≤ l.length) (hs : l.length < m + 3) (h : ∀ x, l[m]? = some x → x.toNat ≤ 31) : numL l 3 0 m 31 = (l.length, none) := by
  by_cases hlt : m < l.length
  · have hx := List.getElem?_eq_getElem hlt
    rw [show numL l 3 0 m 31 = numL l 2 (0 * 256 + (l[m]).toNat) (m + 1) 255 by simp only [numL, okB_le hx (h _ hx)]]
    exact numL_short l 2 _ (m + 1) (by omega) (by omega)
  · have hm : m = l.length := by omega
    have : okB l m 31 = none := by simp only [okB, List.getElem?_eq_none_iff.2 (show l.length ≤ m by omega)]
    simp only [numL, this]
    rw [hm]
theorem num3_on {l : List UInt8} {m : Nat} {x y z : UInt8} (hx : l[m]? = some x) (hy : l[m + 1]? = some y) (hz : l[m + 2]? = some z) (h : x.toNat ≤ 31) : numL l 3 0 m 31 = (m + 3, some (x.toNat * 65536 + y.toNat * 256 + z.toNat)) := by
  simp only [numL, okB_le hx h, okB_any hy, show m + 1 + 1 = m + 2 from rfl, okB_any hz]
  simp only [Prod.mk.injEq, Option.some.injEq, true_and]
  omega

/-- What holds ahead of each part. -/
structure PtI (w w0 : World) (acc : List Int) (wr : World) : Prop where
  below : Below w.heap.size w wr
  kept : ∀ k, k < w0.heap.size → wr.heap[k]? = w0.heap[k]?
  size : w0.heap.size < wr.heap.size
  parts : wr.heap[w0.heap.size]? = some (.cells #[.int .i64 (acc.getD 0 0), .int .i64 (acc.getD 1 0)] 79 (0, 0))

theorem PtI.next {w w0 wr : World} {acc : List Int} (h : PtI w w0 acc wr) (hs0 : w.heap.size ≤ w0.heap.size) {n B : Nat} (hl : acc.length = n) (hn : n < 2) (hB : w0.heap.size = B) (x : Int) : PtI w w0 (acc ++ [x]) ((wr.setCell ⟨B, n, none⟩ (.int .i64 x)).drew) := by
  subst hB
  have hc : (wr.setCell ⟨w0.heap.size, n, none⟩ (.int .i64 x)).drew.heap = (wr.setCell ⟨w0.heap.size, n, none⟩ (.int .i64 x)).heap := rfl
  refine ⟨(h.below.setCell (p := ⟨w0.heap.size, n, none⟩) hs0 _).drew, fun k hk => ?_, ?_, ?_⟩
  · rw [hc, Below.heap_setCell _ _ _ _ (by show k ≠ w0.heap.size; omega)]; exact h.kept k hk
  · rw [hc]; simpa [World.setCell] using h.size
  · rw [hc]
    have hp := h.parts
    match n, acc, hl, hn with
    | 0, [], _, _ => simp [World.setCell, Array.getElem?_modify, hp]
    | 1, [a], _, _ => simp [World.setCell, Array.getElem?_modify, hp]

theorem info79 : (Tryd.prog.info? 79).map (fun i => (i.zero, i.size, i.bytes)) = some (some (.agg #[.int .i64 0, .int .i64 0]), 2, 16) := by kernel_rfl

set_option maxRecDepth 100000 in
set_option maxHeartbeats 2000000 in
theorem get_point (r Q : Nat) (S : Nat → Prop) (A : Option Addr) (c : Nat) (l : List UInt8) (m sz : Nat) (A0 : Option Addr) (n0 c0 : Nat) (w : World) (hB : BAt w S A l) (hlen : l.length ≤ 1000000) (hm : m ≤ l.length) (hQ : w.heap[Q]? = some (.cells #[.int .i64 (sz : Int)] 3 (0, 0))) :
    Calls Tryd.prog 24 #[.agg #[.int .i64 5, .slice A0 n0 c0], .slice A l.length c, .int .i64 (m : Int), .pointer (some ⟨Q, 0, none⟩)] w fun e w' => GgOut Q l (r + 1) w e w' (leafV pointV sz (pointL l m)) := by
  have hQl := cell_lt hQ
  have HQ := Lib.hid hQ
  have HB := Lib.hid (hB.move (w' := w) (S' := fun b => b < w.heap.size) fun b _ hl => ⟨hl, fun _ => rfl⟩)
  clear hQ hB
  have hb3 := (((Below.refl w.heap.size w).alloc (Nat.le_refl _) (.cells #[.int .i64 5, .slice A0 n0 c0] 24)).alloc (by simp) (.cells #[.int .i64 0, .int .i64 0, .string ⟨#[]⟩, .complex .f64 0 0, .slice none 0 0] 32)).alloc (by simp; omega) (.cells #[.int .i64 5, .int .i64 0, .string ⟨#[]⟩, .complex .f64 0 0, .slice none 0 0] 32)
  have hx1 : (((w.alloc (.cells #[.int .i64 5, .slice A0 n0 c0] 24)).alloc (.cells #[.int .i64 0, .int .i64 0, .string ⟨#[]⟩, .complex .f64 0 0, .slice none 0 0] 32)).alloc (.cells #[.int .i64 5, .int .i64 0, .string ⟨#[]⟩, .complex .f64 0 0, .slice none 0 0] 32)).heap[w.heap.size + 1]? = some (.cells #[.int .i64 0, .int .i64 0, .string ⟨#[]⟩, .complex .f64 0 0, .slice none 0 0] 32 (0, 0)) := heap_alloc_some (heap_new_at (by simp))
  have HX1 := Lib.hid hx1
  clear hx1
  go_enter Tryd.func24, Tryd.ntmps24
  go_wp2_with (fail)
  obtain ⟨w0, hw0⟩ : ∃ w0, w0 = ((w.alloc (.cells #[.int .i64 5, .slice A0 n0 c0] 24)).alloc (.cells #[.int .i64 0, .int .i64 0, .string ⟨#[]⟩, .complex .f64 0 0, .slice none 0 0] 32)).alloc (.cells #[.int .i64 5, .int .i64 0, .string ⟨#[]⟩, .complex .f64 0 0, .slice none 0 0] 32) := ⟨_, rfl⟩
  have hsz0 : w0.heap.size = w.heap.size + 3 := by rw [hw0]; simp
  rw [← hw0] at hb3 HX1
  rw [← hw0]
  clear hw0
  have hB3 : w0.heap.size = w.heap.size + 1 + 1 + 1 := by omega
  have HB3 := Lib.hid hB3
  clear hB3
  have hp0 := heap_alloc_new w0 (.cells #[.int .i64 0, .int .i64 0] 79)
  have HP0 := Lib.hid hp0
  clear hp0
  go_loopw [2, 15] (fun av kv wr => ∃ (m' : Nat) (acc : List Int), av = .int .i64 (m' : Int) ∧ kv = .int .i64 (acc.length : Int) ∧ acc.length ≤ 2 ∧ m' ≤ l.length ∧ Hid (pointL l m = ptOn l (2 - acc.length) acc m') ∧ Hid (∀ x ∈ acc, -1048576 ≤ x ∧ x < 1048576) ∧ Hid (PtI w w0 acc wr)) (fun _ kv _ => 10 - (intOf kv).toNat)
  case atStart => exact ⟨m, [], rfl, rfl, by simp, hm, Lib.hid (pointL_on l m), Lib.hid (by intro x hx; simp at hx), Lib.hid ⟨hb3.trans ((Below.refl _ w0).alloc (by omega) _), fun k hk => Below.heap_alloc _ _ _ hk, by simp, HP0.out⟩⟩
  case round =>
    obtain ⟨m', acc, rfl, rfl, hal, hm', HE, HR, HI⟩ := hrel
    have hy := (HI.out.kept (w.heap.size + 1) (by omega)).trans HX1.out
    have hbr := HI.out.below
    have hsr := hbr.size
    have d0 := cell5_0 hy
    have d1 := cell5_1 hy
    have d2 := cell5_2 hy
    have d3 := cell5_3 hy
    have d4 := cell5_4 hy
    have f0 := cell3_f hy 0
    have f1 := cell3_f hy 1
    have f2 := cell3_f hy 2
    have f3 := cell3_f hy 3
    have f4 := cell3_f hy 4
    have hlz := cell_lt hy
    have hsz := HI.out.size
    clear hy
    have HBr := Lib.hid (HB.out.move (w' := wr) (S' := fun _ => True) fun b _ hl => ⟨trivial, fun _ => hbr.cell (p := ⟨b, _, none⟩) hl⟩)
    have hOO : Only Q w wr := Only.of_below hbr
    have hBX := (hbr.block Q hQl).trans HQ.out
    by_cases hlt2 : acc.length < 2
    · have HST : Hid (pointL l m = (match numL l 3 0 m' 31 with
        | (m', none) => (m', none)
        | (m', some a) => ptOn l (2 - (acc.length + 1)) (acc ++ [(a : Int) - 1048576]) m')) := by
        show _ = _
        rw [HE.out, show 2 - acc.length = (2 - (acc.length + 1)) + 1 by omega]
        rfl
      by_cases hsh : l.length < m' + 3
      · have hl3 : decide ((l.length : Int) - (m' : Int) < 3) = true := by simp; omega
        by_cases hlt : m' < l.length
        · obtain ⟨b, o, hA, _, hj⟩ := HBr.out (by omega)
          subst hA
          have hx := List.getElem?_eq_getElem hlt
          generalize l[m'] = x at hx
          have cx := hj m' x hx
          have HX := Lib.hid hx
          clear hx hj
          by_cases hx1 : 31 < x.toNat
          · have hgt : decide ((31 : Int) < (x.toNat : Int)) = true := by simp; omega
            have HF : Hid (leafV pointV sz (pointL l m) = (m', none)) := by show _ = _; rw [HST.out, num3_high HX.out hx1]; rfl
            have HER : Hid (errA l m' = 31) := by show _ = _; unfold errA; rw [if_neg (by omega)]
            go_wp2_with (fail)
            refine bodyPost_ret (v := .tuple #[.agg #[.int .i64 0, .int .i64 0, .string ⟨#[]⟩, .complex .f64 0 0, .slice none 0 0], .int .i64 (m' : Int), .int .i64 31]) (by simp [results, Tryd.results24, go_sem, d0, d1, d2, d3, d4]) rfl ?_
            rw [HF.out]
            refine gg_bad rfl HER.out.symm ?_
            (repeat' (first | with_reducible assumption | with_reducible refine Only.more ?_ | with_reducible refine Only.far ?_ ?_ | (dsimp only; omega)))
          · have hgt : decide ((31 : Int) < (x.toNat : Int)) = false := by simp; omega
            have HF : Hid (leafV pointV sz (pointL l m) = (l.length, none)) := by show _ = _; rw [HST.out, num3_short hm' hsh (fun y hy => by rw [HX.out] at hy; injection hy with hy; subst hy; omega)]; rfl
            have HER : Hid (errA l l.length = 30) := by show _ = _; unfold errA; rw [if_pos rfl]
            go_wp2_with (fail)
            refine bodyPost_ret (v := .tuple #[.agg #[.int .i64 0, .int .i64 0, .string ⟨#[]⟩, .complex .f64 0 0, .slice none 0 0], .int .i64 (l.length : Int), .int .i64 30]) (by simp [results, Tryd.results24, go_sem, d0, d1, d2, d3, d4]) rfl ?_
            rw [HF.out]
            refine gg_bad rfl HER.out.symm ?_
            (repeat' (first | with_reducible assumption | with_reducible refine Only.more ?_ | with_reducible refine Only.far ?_ ?_ | (dsimp only; omega)))
        · have hle : decide ((m' : Int) < (l.length : Int)) = false := by simp; omega
          have HF : Hid (leafV pointV sz (pointL l m) = (l.length, none)) := by show _ = _; rw [HST.out, num3_short hm' hsh (fun y hy => by have := (List.getElem?_eq_some_iff.1 hy).1; omega)]; rfl
          have HER : Hid (errA l l.length = 30) := by show _ = _; unfold errA; rw [if_pos rfl]
          go_wp2_with (fail)
          refine bodyPost_ret (v := .tuple #[.agg #[.int .i64 0, .int .i64 0, .string ⟨#[]⟩, .complex .f64 0 0, .slice none 0 0], .int .i64 (l.length : Int), .int .i64 30]) (by simp [results, Tryd.results24, go_sem, d0, d1, d2, d3, d4]) rfl ?_
          rw [HF.out]
          refine gg_bad rfl HER.out.symm ?_
          (repeat' (first | with_reducible assumption | with_reducible refine Only.more ?_ | with_reducible refine Only.far ?_ ?_ | (dsimp only; omega)))
      · have hl3 : decide ((l.length : Int) - (m' : Int) < 3) = false := by simp; omega
        have hlt : m' < l.length := by omega
        obtain ⟨b, o, hA, _, hj⟩ := HBr.out (by omega)
        subst hA
        have hx := List.getElem?_eq_getElem hlt
        generalize l[m'] = x at hx
        have hx2 := List.getElem?_eq_getElem (show m' + 1 < l.length by omega)
        generalize l[m' + 1] = y at hx2
        have hx3 := List.getElem?_eq_getElem (show m' + 2 < l.length by omega)
        generalize l[m' + 2] = z at hx3
        have cx := hj m' x hx
        have cy := hj (m' + 1) y hx2
        have cz := hj (m' + 2) z hx3
        have HX := Lib.hid hx
        have HY := Lib.hid hx2
        have HZ := Lib.hid hx3
        clear hx hx2 hx3 hj
        by_cases hx1 : 31 < x.toNat
        · have hgt : decide ((31 : Int) < (x.toNat : Int)) = true := by simp; omega
          have HF : Hid (leafV pointV sz (pointL l m) = (m', none)) := by show _ = _; rw [HST.out, num3_high HX.out hx1]; rfl
          have HER : Hid (errA l m' = 31) := by show _ = _; unfold errA; rw [if_neg (by omega)]
          go_wp2_with (fail)
          refine bodyPost_ret (v := .tuple #[.agg #[.int .i64 0, .int .i64 0, .string ⟨#[]⟩, .complex .f64 0 0, .slice none 0 0], .int .i64 (m' : Int), .int .i64 31]) (by simp [results, Tryd.results24, go_sem, d0, d1, d2, d3, d4]) rfl ?_
          rw [HF.out]
          refine gg_bad rfl HER.out.symm ?_
          (repeat' (first | with_reducible assumption | with_reducible refine Only.more ?_ | with_reducible refine Only.far ?_ ?_ | (dsimp only; omega)))
        · have hgt : decide ((31 : Int) < (x.toNat : Int)) = false := by simp; omega
          have hyl := y.toNat_lt
          have hzl := z.toNat_lt
          have HF : Hid (pointL l m = ptOn l (2 - (acc.length + 1)) (acc ++ [((x.toNat * 65536 + y.toNat * 256 + z.toNat : Nat) : Int) - 1048576]) (m' + 3)) := by
            show _ = _; rw [HST.out, num3_on HX.out HY.out HZ.out (by omega)]
          have HPA := Lib.hid HI.out.parts
          go_wp2_with (fail)
          clear d0 d1 d2 d3 d4 f0 f1 f2 f3 f4 hgt hl3
          have hpl := cell_lt HPA.out
          have s1 : IntKind.i64.wrap ((m' : Int) + 1) = (m' : Int) + 1 := IntWalk.i64_in _ (by omega)
          have s2 : IntKind.i64.wrap ((m' : Int) + 2) = (m' : Int) + 2 := IntWalk.i64_in _ (by omega)
          have t1 : ((m' : Int) + 1).toNat = m' + 1 := by omega
          have t2 : ((m' : Int) + 2).toNat = m' + 2 := by omega
          have g1 : 0 ≤ (m' : Int) + 1 := by omega
          have g2 : 0 ≤ (m' : Int) + 2 := by omega
          have s3 : IntKind.i64.wrap ((x.toNat : Int) * 65536) = (x.toNat : Int) * 65536 := IntWalk.i64_in _ (by omega)
          have s4 : IntKind.i64.wrap ((y.toNat : Int) * 256) = (y.toNat : Int) * 256 := IntWalk.i64_in _ (by omega)
          have s5 : IntKind.i64.wrap ((x.toNat : Int) * 65536 + (y.toNat : Int) * 256) = (x.toNat : Int) * 65536 + (y.toNat : Int) * 256 := IntWalk.i64_in _ (by omega)
          have s6 : IntKind.i64.wrap ((x.toNat : Int) * 65536 + (y.toNat : Int) * 256 + (z.toNat : Int)) = (x.toNat : Int) * 65536 + (y.toNat : Int) * 256 + (z.toNat : Int) := IntWalk.i64_in _ (by omega)
          have s7 : IntKind.i64.wrap ((x.toNat : Int) * 65536 + (y.toNat : Int) * 256 + (z.toNat : Int) - 1048576) = (x.toNat : Int) * 65536 + (y.toNat : Int) * 256 + (z.toNat : Int) - 1048576 := IntWalk.i64_in _ (by omega)
          have u1 : (m' : Int) + 1 < (l.length : Int) := by omega
          have u2 : (m' : Int) + 2 < (l.length : Int) := by omega
          rcases (show acc.length = 0 ∨ acc.length = 1 by omega) with hk0 | hk0
          · have hk : (acc.length : Int) = 0 := by omega
            have p0 : wr.cell? ⟨w.heap.size + 1 + 1 + 1, 0, none⟩ = some (.int .i64 (acc.getD 0 0)) := by rw [← HB3.out]; exact cell2_0 HPA.out
            have pf : wr.frozen? ⟨w.heap.size + 1 + 1 + 1, 0, none⟩ = false := by rw [← HB3.out]; exact cell3_f HPA.out 0
            have HK := Lib.hid hk0
            clear hk0
            go_region
            clear s1 s2 t1 t2 g1 g2 s3 s4 s5 s6 s7 u1 u2
            go_wp2_with (fail)
            go_roundw
            case rel =>
              have hxe : ((x.toNat * 65536 + y.toNat * 256 + z.toNat : Nat) : Int) - 1048576 = (x.toNat : Int) * 65536 + (y.toNat : Int) * 256 + (z.toNat : Int) - 1048576 := by omega
              refine ⟨m' + 3, acc ++ [(x.toNat : Int) * 65536 + (y.toNat : Int) * 256 + (z.toNat : Int) - 1048576], by go_num, ?_, ?_, by omega, ?_, ?_, Lib.hid (HI.out.next (by omega) HK.out (by omega) HB3.out _)⟩
              · rw [List.length_append, HK.out]; rfl
              · simp [HK.out]
              · rw [← hxe, List.length_append]; exact HF
              · refine Lib.hid fun v hv => ?_
                rcases List.mem_append.1 hv with hv | hv
                · exact HR.out v hv
                · simp at hv; subst hv; omega
            case measure => simp [intOf]; omega
          · have hk : (acc.length : Int) = 1 := by omega
            have p0 : wr.cell? ⟨w.heap.size + 1 + 1 + 1, 1, none⟩ = some (.int .i64 (acc.getD 1 0)) := by rw [← HB3.out]; exact cell2_1 HPA.out
            have pf : wr.frozen? ⟨w.heap.size + 1 + 1 + 1, 1, none⟩ = false := by rw [← HB3.out]; exact cell3_f HPA.out 1
            have HK := Lib.hid hk0
            clear hk0
            go_region
            clear s1 s2 t1 t2 g1 g2 s3 s4 s5 s6 s7 u1 u2
            go_wp2_with (fail)
            go_roundw
            case rel =>
              have hxe : ((x.toNat * 65536 + y.toNat * 256 + z.toNat : Nat) : Int) - 1048576 = (x.toNat : Int) * 65536 + (y.toNat : Int) * 256 + (z.toNat : Int) - 1048576 := by omega
              refine ⟨m' + 3, acc ++ [(x.toNat : Int) * 65536 + (y.toNat : Int) * 256 + (z.toNat : Int) - 1048576], by go_num, ?_, ?_, by omega, ?_, ?_, Lib.hid (HI.out.next (by omega) HK.out (by omega) HB3.out _)⟩
              · rw [List.length_append, HK.out]; rfl
              · simp [HK.out]
              · rw [← hxe, List.length_append]; exact HF
              · refine Lib.hid fun v hv => ?_
                rcases List.mem_append.1 hv with hv | hv
                · exact HR.out v hv
                · simp at hv; subst hv; omega
            case measure => simp [intOf]; omega
    · have h2 : acc.length = 2 := by omega
      have HF : Hid (leafV pointV sz (pointL l m) = (m', some (pointV (acc.getD 0 0, acc.getD 1 0), sz))) := by show _ = _; rw [HE.out, h2]; rfl
      have HPA := Lib.hid HI.out.parts
      have p0 : wr.cell? ⟨w.heap.size + 1 + 1 + 1, 0, none⟩ = some (.int .i64 (acc.getD 0 0)) := by rw [← HB3.out]; exact cell2_0 HPA.out
      have p1 : wr.cell? ⟨w.heap.size + 1 + 1 + 1, 1, none⟩ = some (.int .i64 (acc.getD 1 0)) := by rw [← HB3.out]; exact cell2_1 HPA.out
      have hpl := cell_lt HPA.out
      have r0 : -1048576 ≤ acc.getD 0 0 ∧ acc.getD 0 0 < 1048576 := HR.out _ (by rw [List.getD_eq_getElem?_getD, List.getElem?_eq_getElem (show 0 < acc.length by omega)]; exact List.getElem_mem _)
      have r1 : -1048576 ≤ acc.getD 1 0 ∧ acc.getD 1 0 < 1048576 := HR.out _ (by rw [List.getD_eq_getElem?_getD, List.getElem?_eq_getElem (show 1 < acc.length by omega)]; exact List.getElem_mem _)
      have R0 := Lib.hid r0
      have R1 := Lib.hid r1
      generalize acc.getD 0 0 = v0 at *
      generalize acc.getD 1 0 = v1 at *
      clear r0 r1
      have hd2 : decide ((acc.length : Int) < 2) = false := by simp; omega
      clear h2
      go_wp2_with (fail)
      refine (rpoint_any (fun b => w.heap.size + 3 ≤ b) r v0 v1 wr R0.out R1.out).mono ?_
      rintro e w2 ⟨⟨v, hv, rfl⟩, hb⟩
      obtain ⟨Av, cv, xv, yv, rfl, _, _⟩ := hv.form
      have HV := Lib.hid hv
      have hy := (hb.block (w.heap.size + 1) hlz).trans ((HI.out.kept (w.heap.size + 1) (by omega)).trans HX1.out)
      generalize pointV (v0, v1) = V at *
      clear d0 d1 d2 d3 d4 f0 f1 f2 f3 f4 hlz hv
      have d0 := cell5_0 hy
      have d1 := cell5_1 hy
      have d2 := cell5_2 hy
      have d3 := cell5_3 hy
      have d4 := cell5_4 hy
      have f0 := cell3_f hy 0
      have f1 := cell3_f hy 1
      have f2 := cell3_f hy 2
      have f3 := cell3_f hy 3
      have f4 := cell3_f hy 4
      have hlz := cell_lt hy
      clear hy
      go_wp2_with (fail)
      refine bodyPost_ret (v := .tuple #[.agg #[.int .i64 V.kind, .int .i64 V.int, .string V.text, .complex .f64 xv yv, .slice Av V.list.length cv], .int .i64 (m' : Int), .int .i64 0]) (by simp [results, Tryd.results24, go_sem, d0, d1, d2, d3, d4]) rfl ?_
      rw [HF.out]
      have hBW : Below w.heap.size w w2 := hbr.trans (hb.mono hsr)
      have hOO : Only Q w w2 := Only.of_below hBW
      have hBX := (hBW.block Q hQl).trans HQ.out
      refine gg_good (HV.out.move fun b hb hl => ⟨by have hb' : w.heap.size + 3 ≤ b := hb; show w.heap.size ≤ b; omega, fun o => World.cell?_of_block (set5_block' (b := b) (g := w.heap.size + 1) (by have hb' : w.heap.size + 3 ≤ b := hb; omega))⟩) rfl ?_ ?_
      · (repeat' (first | with_reducible assumption | with_reducible refine Only.more ?_ | with_reducible refine Only.far ?_ ?_ | (dsimp only; omega)))
      · (repeat' (first | with_reducible assumption | with_reducible refine heap_alloc_some ?_ | with_reducible refine heap_set_some ?_ ?_ | (dsimp only; omega)))
end Go.Proofs.YtbafplnolmdlnaaDoor
