/-
The document's answer: Get, of bools and texts.
-/
import Derived.Test.YtbafplnolmdlnaaDoorGtt
namespace Go.Proofs.YtbafplnolmdlnaaDoor
open Go.RowKit

/-- What Get answers with: the count at Q goes along. -/
def GgOut (Q : Nat) (l : List UInt8) (r : Nat) (w : World) (e : Ending) (w' : World) : Nat × Option (Val × Nat) → Prop
  | (m', none) => e = .returned (.tuple #[.agg #[.int .i64 0, .int .i64 0, .string ⟨#[]⟩, .complex .f64 0 0, .slice none 0 0], .int .i64 (m' : Int), .int .i64 (errA l m')]) ∧ Only Q w w'
  | (m', some (V, sz')) => (∃ v, VAt w' (fun b => w.heap.size ≤ b) r v V ∧ e = .returned (.tuple #[v, .int .i64 (m' : Int), .int .i64 0])) ∧ Only Q w w' ∧ w'.heap[Q]? = some (.cells #[.int .i64 (sz' : Int)] 3 (0, 0))

theorem gg_bad {Q : Nat} {l : List UInt8} {r : Nat} {w W : World} {m' : Nat} {n c : Int} (hn : n = m') (hc : c = errA l m') (ho : Only Q w W) : GgOut Q l r w (.returned (.tuple #[.agg #[.int .i64 0, .int .i64 0, .string ⟨#[]⟩, .complex .f64 0 0, .slice none 0 0], .int .i64 n, .int .i64 c])) W (m', none) := by subst hn; subst hc; exact ⟨rfl, ho⟩
theorem gg_good {Q : Nat} {l : List UInt8} {r : Nat} {w W : World} {v : Value} {V : Val} {m' sz' : Nat} {n : Int} (hv : VAt W (fun b => w.heap.size ≤ b) r v V) (hn : n = m') (ho : Only Q w W) (hq : W.heap[Q]? = some (.cells #[.int .i64 (sz' : Int)] 3 (0, 0))) : GgOut Q l r w (.returned (.tuple #[v, .int .i64 n, .int .i64 0])) W (m', some (V, sz')) := by subst hn; exact ⟨⟨v, hv, rfl⟩, ho, hq⟩

theorem num_one {l : List UInt8} {m : Nat} : numL l 1 0 m 1 = (match okB l m 1 with | none => (m, none) | some x => (m + 1, some x.toNat)) := by
  simp only [numL]
  cases okB l m 1 <;> simp

set_option maxRecDepth 100000 in
set_option maxHeartbeats 2000000 in
theorem get_bool (r Q : Nat) (S : Nat → Prop) (A : Option Addr) (c : Nat) (l : List UInt8) (m sz : Nat) (A0 : Option Addr) (n0 c0 : Nat) (w : World) (hB : BAt w S A l) (hlen : l.length ≤ 1000000) (hm : m ≤ l.length) (hQ : w.heap[Q]? = some (.cells #[.int .i64 (sz : Int)] 3 (0, 0))) :
    Calls Tryd.prog 24 #[.agg #[.int .i64 1, .slice A0 n0 c0], .slice A l.length c, .int .i64 (m : Int), .pointer (some ⟨Q, 0, none⟩)] w fun e w' => GgOut Q l (r + 1) w e w' (leafV boolV sz (numL l 1 0 m 1)) := by
  have hQl := cell_lt hQ
  have HQ := Lib.hid hQ
  have HB := Lib.hid hB
  have hOO := Only.refl Q w
  clear hQ hB
  by_cases hlt : m < l.length
  · obtain ⟨b, o, hA, _, hj⟩ := HB.out (by omega)
    subst hA
    have hx := List.getElem?_eq_getElem hlt
    generalize l[m] = x at hx
    have cx := hj m x hx
    have hbl : b < w.heap.size := World.block_lt_of_cell? w _ cx
    have HX := Lib.hid hx
    clear hx hj
    have hbl2 : b < w.heap.size + 1 := by omega
    have hge : decide ((l.length : Int) ≤ (m : Int)) = false := by simp; omega
    by_cases hx1 : x.toNat ≤ 1
    · have hgt : decide ((1 : Int) < (x.toNat : Int)) = false := by simp; omega
      have HF : Hid (leafV boolV sz (numL l 1 0 m 1) = (m + 1, some (boolV x.toNat, sz))) := by
        show _ = _; rw [num_one]; simp only [okB, HX.out, if_pos hx1]; rfl
      go_enter Tryd.func24, Tryd.ntmps24
      go_wp2_with (fail)
      refine bodyPost_ret (v := .tuple #[.agg #[.int .i64 1, .int .i64 (x.toNat : Int), .string ⟨#[]⟩, .complex .f64 0 0, .slice none 0 0], .int .i64 ((m : Int) + 1), .int .i64 0]) (by simp [results, Tryd.results24, go_sem]) rfl ?_
      rw [HF.out]
      have hBX := HQ.out
      refine gg_good (VAt.of_leaf float_zero float_zero) (by omega) ?_ ?_
      · (repeat' (first | with_reducible assumption | with_reducible refine Only.more ?_ | with_reducible refine Only.far ?_ ?_ | (dsimp only; omega)))
      · (repeat' (first | with_reducible assumption | with_reducible refine heap_alloc_some ?_ | with_reducible refine heap_set_some ?_ ?_ | (dsimp only; omega)))
    · have hgt : decide ((1 : Int) < (x.toNat : Int)) = true := by simp; omega
      have HF : Hid (leafV boolV sz (numL l 1 0 m 1) = (m, none)) := by
        show _ = _; rw [num_one]; simp only [okB, HX.out, if_neg hx1]; rfl
      have HER : Hid (errA l m = 31) := by show _ = _; unfold errA; rw [if_neg (by omega)]
      go_enter Tryd.func24, Tryd.ntmps24
      go_wp2_with (fail)
      refine bodyPost_ret (v := .tuple #[.agg #[.int .i64 0, .int .i64 0, .string ⟨#[]⟩, .complex .f64 0 0, .slice none 0 0], .int .i64 (m : Int), .int .i64 31]) (by simp [results, Tryd.results24, go_sem]) rfl ?_
      rw [HF.out]
      refine gg_bad rfl HER.out.symm ?_
      (repeat' (first | with_reducible assumption | with_reducible refine Only.more ?_ | with_reducible refine Only.far ?_ ?_ | (dsimp only; omega)))
  · have hge : decide ((l.length : Int) ≤ (m : Int)) = true := by simp; omega
    have HF : Hid (leafV boolV sz (numL l 1 0 m 1) = (m, none)) := by
      show _ = _; rw [num_one]; simp only [okB, List.getElem?_eq_none_iff.2 (show l.length ≤ m by omega)]; rfl
    have HER : Hid (errA l m = 30) := by show _ = _; unfold errA; rw [if_pos (by omega)]
    go_enter Tryd.func24, Tryd.ntmps24
    go_wp2_with (fail)
    refine bodyPost_ret (v := .tuple #[.agg #[.int .i64 0, .int .i64 0, .string ⟨#[]⟩, .complex .f64 0 0, .slice none 0 0], .int .i64 (m : Int), .int .i64 30]) (by simp [results, Tryd.results24, go_sem]) rfl ?_
    rw [HF.out]
    refine gg_bad rfl HER.out.symm ?_
    (repeat' (first | with_reducible assumption | with_reducible refine Only.more ?_ | with_reducible refine Only.far ?_ ?_ | (dsimp only; omega)))

set_option maxRecDepth 100000 in
set_option maxHeartbeats 2000000 in
theorem get_text (r Q : Nat) (S : Nat → Prop) (A : Option Addr) (c : Nat) (l : List UInt8) (m sz : Nat) (A0 : Option Addr) (n0 c0 : Nat) (w : World) (hB : BAt w S A l) (hlen : l.length ≤ 1000000) (hm : m ≤ l.length) (hQ : w.heap[Q]? = some (.cells #[.int .i64 (sz : Int)] 3 (0, 0))) :
    Calls Tryd.prog 24 #[.agg #[.int .i64 3, .slice A0 n0 c0], .slice A l.length c, .int .i64 (m : Int), .pointer (some ⟨Q, 0, none⟩)] w fun e w' => GgOut Q l (r + 1) w e w' (leafV (textV 3) sz (textL l (l.length + 1 - m) [] false m)) := by
  have hQl := cell_lt hQ
  have HQ := Lib.hid hQ
  have HB := Lib.hid (hB.move (w' := w) (S' := fun b => b < w.heap.size) fun b _ hl => ⟨hl, fun _ => rfl⟩)
  clear hQ hB
  have hb3 := (((Below.refl w.heap.size w).alloc (Nat.le_refl _) (.cells #[.int .i64 3, .slice A0 n0 c0] 24)).alloc (by simp) (.cells #[.int .i64 0, .int .i64 0, .string ⟨#[]⟩, .complex .f64 0 0, .slice none 0 0] 32)).alloc (by simp; omega) (.cells #[.int .i64 3, .int .i64 0, .string ⟨#[]⟩, .complex .f64 0 0, .slice none 0 0] 32)
  have hx1 : (((w.alloc (.cells #[.int .i64 3, .slice A0 n0 c0] 24)).alloc (.cells #[.int .i64 0, .int .i64 0, .string ⟨#[]⟩, .complex .f64 0 0, .slice none 0 0] 32)).alloc (.cells #[.int .i64 3, .int .i64 0, .string ⟨#[]⟩, .complex .f64 0 0, .slice none 0 0] 32)).heap[w.heap.size + 1]? = some (.cells #[.int .i64 0, .int .i64 0, .string ⟨#[]⟩, .complex .f64 0 0, .slice none 0 0] 32 (0, 0)) := heap_alloc_some (heap_new_at (by simp))
  have HX1 := Lib.hid hx1
  clear hx1
  go_enter Tryd.func24, Tryd.ntmps24
  go_wp2_with (fail)
  obtain ⟨w0, hw0⟩ : ∃ w0, w0 = ((w.alloc (.cells #[.int .i64 3, .slice A0 n0 c0] 24)).alloc (.cells #[.int .i64 0, .int .i64 0, .string ⟨#[]⟩, .complex .f64 0 0, .slice none 0 0] 32)).alloc (.cells #[.int .i64 3, .int .i64 0, .string ⟨#[]⟩, .complex .f64 0 0, .slice none 0 0] 32) := ⟨_, rfl⟩
  have hsz0 : w0.heap.size = w.heap.size + 3 := by rw [hw0]; simp
  rw [← hw0] at hb3 HX1
  rw [← hw0]
  clear hw0
  refine (gettext_any (fun b => b < w.heap.size) r 3 A c l m w0 (HB.out.move fun b hb hl => ⟨hb, fun _ => hb3.cell (p := ⟨b, _, none⟩) hl⟩) hlen hm).mono ?_
  cases hg : textL l (l.length + 1 - m) [] false m with
  | mk m' o' =>
  cases o' with
  | none =>
    have HF : Hid (leafV (textV 3) sz (textL l (l.length + 1 - m) [] false m) = (m', none)) := by show _ = _; rw [hg]; rfl
    clear hg
    rintro e w2 ⟨he, hb⟩
    obtain rfl : e = .returned (.tuple #[.agg #[.int .i64 0, .int .i64 0, .string ⟨#[]⟩, .complex .f64 0 0, .slice none 0 0], .int .i64 (m' : Int), .int .i64 (errA l m')]) := he
    have hs2 := hb.size
    have hy := (hb.block (w.heap.size + 1) (by omega)).trans HX1.out
    have d0 := cell5_0 hy
    have d1 := cell5_1 hy
    have d2 := cell5_2 hy
    have d3 := cell5_3 hy
    have d4 := cell5_4 hy
    have f0 := cell3_f hy 0
    have f1 := cell3_f hy 1
    have f2 := cell3_f hy 2
    have f3 := cell3_f hy 3
    have f4 := cell3_f hy 4
    have hlz := cell_lt hy
    clear hy
    go_wp2_with (fail)
    refine bodyPost_ret (v := .tuple #[.agg #[.int .i64 0, .int .i64 0, .string ⟨#[]⟩, .complex .f64 0 0, .slice none 0 0], .int .i64 (m' : Int), .int .i64 (errA l m')]) (by simp [results, Tryd.results24, go_sem, d0, d1, d2, d3, d4]) rfl ?_
    rw [HF.out]
    have hOO : Only Q w w2 := Only.of_below (hb3.trans (hb.mono hb3.size))
    refine gg_bad rfl rfl ?_
    (repeat' (first | with_reducible assumption | with_reducible refine Only.more ?_ | with_reducible refine Only.far ?_ ?_ | (dsimp only; omega)))
  | some t =>
    have HF : Hid (leafV (textV 3) sz (textL l (l.length + 1 - m) [] false m) = (m', some (textV 3 t, sz))) := by show _ = _; rw [hg]; rfl
    clear hg
    rintro e w2 ⟨⟨v, hv, rfl⟩, hb⟩
    obtain ⟨Av, cv, xv, yv, rfl, _, _⟩ := hv.form
    have HV := Lib.hid hv
    have hs2 := hb.size
    have hy := (hb.block (w.heap.size + 1) (by omega)).trans HX1.out
    generalize textV 3 t = V at *
    have d0 := cell5_0 hy
    have d1 := cell5_1 hy
    have d2 := cell5_2 hy
    have d3 := cell5_3 hy
    have d4 := cell5_4 hy
    have f0 := cell3_f hy 0
    have f1 := cell3_f hy 1
    have f2 := cell3_f hy 2
    have f3 := cell3_f hy 3
    have f4 := cell3_f hy 4
    have hlz := cell_lt hy
    clear hy hv
    go_wp2_with (fail)
    refine bodyPost_ret (v := .tuple #[.agg #[.int .i64 V.kind, .int .i64 V.int, .string V.text, .complex .f64 xv yv, .slice Av V.list.length cv], .int .i64 (m' : Int), .int .i64 0]) (by simp [results, Tryd.results24, go_sem, d0, d1, d2, d3, d4]) rfl ?_
    rw [HF.out]
    have hBW : Below w.heap.size w w2 := hb3.trans (hb.mono hb3.size)
    have hOO : Only Q w w2 := Only.of_below hBW
    have hBX := (hBW.block Q hQl).trans HQ.out
    refine gg_good (HV.out.move fun b hb hl => ⟨by have hb' : w0.heap.size ≤ b := hb; show w.heap.size ≤ b; omega, fun o => World.cell?_of_block ?_⟩) rfl ?_ ?_
    · have hne : b ≠ w.heap.size + 1 := by have hb' : w0.heap.size ≤ b := hb; omega
      exact set5_block' hne
    · (repeat' (first | with_reducible assumption | with_reducible refine Only.more ?_ | with_reducible refine Only.far ?_ ?_ | (dsimp only; omega)))
    · (repeat' (first | with_reducible assumption | with_reducible refine heap_alloc_some ?_ | with_reducible refine heap_set_some ?_ ?_ | (dsimp only; omega)))

set_option maxRecDepth 100000 in
set_option maxHeartbeats 2000000 in
theorem get_bytes (r Q : Nat) (S : Nat → Prop) (A : Option Addr) (c : Nat) (l : List UInt8) (m sz : Nat) (A0 : Option Addr) (n0 c0 : Nat) (w : World) (hB : BAt w S A l) (hlen : l.length ≤ 1000000) (hm : m ≤ l.length) (hQ : w.heap[Q]? = some (.cells #[.int .i64 (sz : Int)] 3 (0, 0))) :
    Calls Tryd.prog 24 #[.agg #[.int .i64 4, .slice A0 n0 c0], .slice A l.length c, .int .i64 (m : Int), .pointer (some ⟨Q, 0, none⟩)] w fun e w' => GgOut Q l (r + 1) w e w' (leafV (textV 4) sz (textL l (l.length + 1 - m) [] false m)) := by
  have hQl := cell_lt hQ
  have HQ := Lib.hid hQ
  have HB := Lib.hid (hB.move (w' := w) (S' := fun b => b < w.heap.size) fun b _ hl => ⟨hl, fun _ => rfl⟩)
  clear hQ hB
  have hb3 := (((Below.refl w.heap.size w).alloc (Nat.le_refl _) (.cells #[.int .i64 4, .slice A0 n0 c0] 24)).alloc (by simp) (.cells #[.int .i64 0, .int .i64 0, .string ⟨#[]⟩, .complex .f64 0 0, .slice none 0 0] 32)).alloc (by simp; omega) (.cells #[.int .i64 4, .int .i64 0, .string ⟨#[]⟩, .complex .f64 0 0, .slice none 0 0] 32)
  have hx1 : (((w.alloc (.cells #[.int .i64 4, .slice A0 n0 c0] 24)).alloc (.cells #[.int .i64 0, .int .i64 0, .string ⟨#[]⟩, .complex .f64 0 0, .slice none 0 0] 32)).alloc (.cells #[.int .i64 4, .int .i64 0, .string ⟨#[]⟩, .complex .f64 0 0, .slice none 0 0] 32)).heap[w.heap.size + 1]? = some (.cells #[.int .i64 0, .int .i64 0, .string ⟨#[]⟩, .complex .f64 0 0, .slice none 0 0] 32 (0, 0)) := heap_alloc_some (heap_new_at (by simp))
  have HX1 := Lib.hid hx1
  clear hx1
  go_enter Tryd.func24, Tryd.ntmps24
  go_wp2_with (fail)
  obtain ⟨w0, hw0⟩ : ∃ w0, w0 = ((w.alloc (.cells #[.int .i64 4, .slice A0 n0 c0] 24)).alloc (.cells #[.int .i64 0, .int .i64 0, .string ⟨#[]⟩, .complex .f64 0 0, .slice none 0 0] 32)).alloc (.cells #[.int .i64 4, .int .i64 0, .string ⟨#[]⟩, .complex .f64 0 0, .slice none 0 0] 32) := ⟨_, rfl⟩
  have hsz0 : w0.heap.size = w.heap.size + 3 := by rw [hw0]; simp
  rw [← hw0] at hb3 HX1
  rw [← hw0]
  clear hw0
  refine (gettext_any (fun b => b < w.heap.size) r 4 A c l m w0 (HB.out.move fun b hb hl => ⟨hb, fun _ => hb3.cell (p := ⟨b, _, none⟩) hl⟩) hlen hm).mono ?_
  cases hg : textL l (l.length + 1 - m) [] false m with
  | mk m' o' =>
  cases o' with
  | none =>
    have HF : Hid (leafV (textV 4) sz (textL l (l.length + 1 - m) [] false m) = (m', none)) := by show _ = _; rw [hg]; rfl
    clear hg
    rintro e w2 ⟨he, hb⟩
    obtain rfl : e = .returned (.tuple #[.agg #[.int .i64 0, .int .i64 0, .string ⟨#[]⟩, .complex .f64 0 0, .slice none 0 0], .int .i64 (m' : Int), .int .i64 (errA l m')]) := he
    have hs2 := hb.size
    have hy := (hb.block (w.heap.size + 1) (by omega)).trans HX1.out
    have d0 := cell5_0 hy
    have d1 := cell5_1 hy
    have d2 := cell5_2 hy
    have d3 := cell5_3 hy
    have d4 := cell5_4 hy
    have f0 := cell3_f hy 0
    have f1 := cell3_f hy 1
    have f2 := cell3_f hy 2
    have f3 := cell3_f hy 3
    have f4 := cell3_f hy 4
    have hlz := cell_lt hy
    clear hy
    go_wp2_with (fail)
    refine bodyPost_ret (v := .tuple #[.agg #[.int .i64 0, .int .i64 0, .string ⟨#[]⟩, .complex .f64 0 0, .slice none 0 0], .int .i64 (m' : Int), .int .i64 (errA l m')]) (by simp [results, Tryd.results24, go_sem, d0, d1, d2, d3, d4]) rfl ?_
    rw [HF.out]
    have hOO : Only Q w w2 := Only.of_below (hb3.trans (hb.mono hb3.size))
    refine gg_bad rfl rfl ?_
    (repeat' (first | with_reducible assumption | with_reducible refine Only.more ?_ | with_reducible refine Only.far ?_ ?_ | (dsimp only; omega)))
  | some t =>
    have HF : Hid (leafV (textV 4) sz (textL l (l.length + 1 - m) [] false m) = (m', some (textV 4 t, sz))) := by show _ = _; rw [hg]; rfl
    clear hg
    rintro e w2 ⟨⟨v, hv, rfl⟩, hb⟩
    obtain ⟨Av, cv, xv, yv, rfl, _, _⟩ := hv.form
    have HV := Lib.hid hv
    have hs2 := hb.size
    have hy := (hb.block (w.heap.size + 1) (by omega)).trans HX1.out
    generalize textV 4 t = V at *
    have d0 := cell5_0 hy
    have d1 := cell5_1 hy
    have d2 := cell5_2 hy
    have d3 := cell5_3 hy
    have d4 := cell5_4 hy
    have f0 := cell3_f hy 0
    have f1 := cell3_f hy 1
    have f2 := cell3_f hy 2
    have f3 := cell3_f hy 3
    have f4 := cell3_f hy 4
    have hlz := cell_lt hy
    clear hy hv
    go_wp2_with (fail)
    refine bodyPost_ret (v := .tuple #[.agg #[.int .i64 V.kind, .int .i64 V.int, .string V.text, .complex .f64 xv yv, .slice Av V.list.length cv], .int .i64 (m' : Int), .int .i64 0]) (by simp [results, Tryd.results24, go_sem, d0, d1, d2, d3, d4]) rfl ?_
    rw [HF.out]
    have hBW : Below w.heap.size w w2 := hb3.trans (hb.mono hb3.size)
    have hOO : Only Q w w2 := Only.of_below hBW
    have hBX := (hBW.block Q hQl).trans HQ.out
    refine gg_good (HV.out.move fun b hb hl => ⟨by have hb' : w0.heap.size ≤ b := hb; show w.heap.size ≤ b; omega, fun o => World.cell?_of_block ?_⟩) rfl ?_ ?_
    · have hne : b ≠ w.heap.size + 1 := by have hb' : w0.heap.size ≤ b := hb; omega
      exact set5_block' hne
    · (repeat' (first | with_reducible assumption | with_reducible refine Only.more ?_ | with_reducible refine Only.far ?_ ?_ | (dsimp only; omega)))
    · (repeat' (first | with_reducible assumption | with_reducible refine heap_alloc_some ?_ | with_reducible refine heap_set_some ?_ ?_ | (dsimp only; omega)))
end Go.Proofs.YtbafplnolmdlnaaDoor
