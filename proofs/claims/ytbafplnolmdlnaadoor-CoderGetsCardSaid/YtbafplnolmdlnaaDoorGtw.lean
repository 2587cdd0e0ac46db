/-
The walk of CoderGets.
-/
import Derived.Test.YtbafplnolmdlnaaDoorRg8
import Derived.Test.YtbafplnolmdlnaaDoorAwe
namespace Go.Proofs.YtbafplnolmdlnaaDoor
open Go.RowKit

theorem BAt.below {w w' : World} {S : Nat → Prop} {A : Option Addr} {l : List UInt8} (h : BAt w S A l) (hb : Below w.heap.size w w') : BAt w' S A l :=
  h.move fun b hS hl => ⟨hS, fun _ => hb.cell (p := ⟨b, _, none⟩) hl⟩
theorem BAt.all {w : World} {S : Nat → Prop} {A : Option Addr} {l : List UInt8} (h : BAt w S A l) : BAt w (fun _ => True) A l :=
  h.move fun _ _ _ => ⟨trivial, fun _ => rfl⟩
theorem below_at {w w' : World} {k : Nat} {ob : Obj} (hb : Below w.heap.size w w') (h : w.heap[k]? = some ob) : w'.heap[k]? = some ob := (hb.block k (cell_lt h)).trans h

set_option maxRecDepth 100000 in
set_option maxHeartbeats 2000000 in
theorem gets_A (d : Nat) (S SB : Nat → Prop) (v : Value) (t : Ty) (A : Option Addr) (c : Nat) (l : List UInt8) (w : World) (hT : TyAt w S d v t) (hB : BAt w SB A l) (hG : Glob w) (hm : measureT 6 t = none) :
    Calls Tryd.prog 3 #[v, .slice A l.length c] w fun e w' => e = .returned (.bool true) ∧ Below w.heap.size w w' := by
  have hGl := hG.lt
  have HG := Lib.hid hG
  have HT := Lib.hid hT
  have HB := Lib.hid hB
  have HM := Lib.hid hm
  obtain ⟨A0, c0, rfl⟩ := hT.form
  have HB_w1 := (Below.refl w.heap.size w).alloc (Nat.le_refl _) (.cells #[.int .i64 t.kind, .slice A0 t.args.length c0] 24)
  have hx0 := heap_alloc_new w (.cells #[.int .i64 t.kind, .slice A0 t.args.length c0] 24)
  have HX0 := Lib.hid hx0
  have HNX : Hid (nextR t l = none) := by show _ = _; unfold nextR; rw [hm]; rfl
  have HOK : Hid (okT 6 t = false) := by show _ = _; unfold okT; rw [hm]; rfl
  clear hG hT hB hm hx0
  go_enter Tryd.func3, Tryd.ntmps3
  go_wp2_with (fail)
  obtain ⟨w1, hw1⟩ : ∃ w1, w1 = w.alloc (.cells #[.int .i64 t.kind, .slice A0 t.args.length c0] 24) := ⟨_, rfl⟩
  rw [← hw1] at HB_w1 HX0
  rw [← hw1]
  have hs1 : w1.heap.size = w.heap.size + 1 := by rw [hw1]; simp
  clear hw1
  refine (small4_any d S _ t w1 (HT.out.below HB_w1)).mono ?_
  rintro e w2 ⟨⟨bb, rfl, hbb⟩, hb2⟩
  have HBB := Lib.hid hbb
  have HB_w2 := HB_w1.trans (hb2.mono HB_w1.size)
  have HX2 := Lib.hid (below_at hb2 HX0.out)
  have t0 := cell2_0 HX2.out
  have t1 := cell2_1 HX2.out
  have hs2 := hb2.size
  clear hbb hb2
  cases bb with
  | false =>
    clear t0 t1
    go_wp2_with (fail)
    refine (awake_any _ (HG.out.kept (HB_w2.block 0 hGl))).mono ?_
    rintro e we ⟨rfl, hbe⟩
    go_wp2_with (fail)
    go_ret
    exact ⟨rfl, HB_w2.trans (hbe.mono HB_w2.size)⟩
  | true =>
    have HN := Lib.hid (HBB.out rfl)
    by_cases hlen : 100000 < l.length
    · have hgt : decide ((100000 : Int) < (l.length : Int)) = true := by simp; omega
      clear t0 t1
      go_wp2_with (fail)
      refine (awake_any _ (HG.out.kept (HB_w2.block 0 hGl))).mono ?_
      rintro e we ⟨rfl, hbe⟩
      go_wp2_with (fail)
      go_ret
      exact ⟨rfl, HB_w2.trans (hbe.mono HB_w2.size)⟩
    · have hgt : decide ((100000 : Int) < (l.length : Int)) = false := by simp; omega
      go_wp2_with (fail)
      refine (copy_any SB A c l w2 (HB.out.below HB_w2) (by omega)).mono ?_
      rintro e w3 ⟨⟨A', c', rfl, hB'⟩, hb3⟩
      have HB_w3 := HB_w2.trans (hb3.mono HB_w2.size)
      have HBC := Lib.hid hB'
      have HX3 := Lib.hid (below_at hb3 HX2.out)
      have hs3 := hb3.size
      clear t0 t1 hB' hb3 hgt
      have t0 := cell2_0 HX3.out
      have t1 := cell2_1 HX3.out
      have tl := cell_lt HX3.out
      go_wp2_with (fail)
      refine (of_any d 30 S _ t w3 HN.out (HT.out.below HB_w3)).mono ?_
      rintro e w4 ⟨⟨v4, rfl, hT4⟩, hb4⟩
      obtain ⟨A4, c4, rfl⟩ := hT4.form
      have HT4 := Lib.hid hT4
      have HB_w4 := HB_w3.trans (hb4.mono HB_w3.size)
      have HBC4 := Lib.hid (HBC.out.below hb4)
      have HX4 := Lib.hid (below_at hb4 HX3.out)
      have hs4 := hb4.size
      clear t0 t1 tl hT4 hb4
      go_wp2_with (fail)
      refine (decode_any d _ _ t A' c' l w4 HT4.out (HG.out.kept (HB_w4.block 0 hGl)) HBC4.out.all (by omega)).mono ?_
      rw [HNX.out]
      rintro e w5 ⟨he, hb5⟩
      obtain rfl : e = .returned (.tuple #[.agg #[.int .i64 0, .int .i64 0, .string ⟨#[]⟩, .complex .f64 0 0, .slice none 0 0], .int .i64 0, .int .i64 20]) := he
      have HB_w5 := HB_w4.trans (hb5.mono HB_w4.size)
      have HB_w6 := HB_w5.alloc HB_w5.size (.cells #[.int .i64 0, .int .i64 0, .string ⟨#[]⟩, .complex .f64 0 0, .slice none 0 0] 32)
      have HBC5 := Lib.hid ((HBC4.out.below hb5).below ((Below.refl w5.heap.size w5).alloc (Nat.le_refl _) (.cells #[.int .i64 0, .int .i64 0, .string ⟨#[]⟩, .complex .f64 0 0, .slice none 0 0] 32)))
      have HX5 := Lib.hid (below_at hb5 HX4.out)
      have HX6 := Lib.hid (heap_alloc_some (o := .cells #[.int .i64 0, .int .i64 0, .string ⟨#[]⟩, .complex .f64 0 0, .slice none 0 0] 32) HX5.out)
      have HV6 := Lib.hid (heap_alloc_new w5 (.cells #[.int .i64 0, .int .i64 0, .string ⟨#[]⟩, .complex .f64 0 0, .slice none 0 0] 32))
      have hs5 := hb5.size
      have t0 := cell2_0 HX5.out
      have t1 := cell2_1 HX5.out
      have tl := cell_lt HX5.out
      clear hb5
      go_wp2_with (fail)
      obtain ⟨w6, hw6⟩ : ∃ w6, w6 = w5.alloc (.cells #[.int .i64 0, .int .i64 0, .string ⟨#[]⟩, .complex .f64 0 0, .slice none 0 0] 32) := ⟨_, rfl⟩
      have hs6 : w6.heap.size = w5.heap.size + 1 := by rw [hw6]; simp
      rw [← hw6] at HB_w6 HBC5 HX6 HV6
      rw [← hw6]
      clear hw6 t0 t1 tl
      refine (of_any d 30 S _ t w6 HN.out (HT.out.below HB_w6)).mono ?_
      rintro e w7 ⟨⟨v7, rfl, hT7⟩, hb7⟩
      obtain ⟨A7, c7, rfl⟩ := hT7.form
      have HT7 := Lib.hid hT7
      have HB_w7 := HB_w6.trans (hb7.mono HB_w6.size)
      have HBC7 := Lib.hid (HBC5.out.below hb7)
      have HX7 := Lib.hid (below_at hb7 HX6.out)
      have HV7 := Lib.hid (below_at hb7 HV6.out)
      have hs7 := hb7.size
      clear hT7 hb7
      go_wp2_with (fail)
      refine (next_any d _ _ t A' c' l w7 HT7.out (HG.out.kept (HB_w7.block 0 hGl)) HBC7.out.all (by omega)).mono ?_
      rw [HNX.out]
      rintro e w8 ⟨he, hb8⟩
      obtain rfl : e = .returned (.tuple #[.agg #[.int .i64 0, .int .i64 0, .string ⟨#[]⟩, .complex .f64 0 0, .slice none 0 0], .int .i64 0, .int .i64 20]) := he
      have HB_w8 := HB_w7.trans (hb8.mono HB_w7.size)
      have HB_w9 := HB_w8.alloc HB_w8.size (.cells #[.int .i64 0, .int .i64 0, .string ⟨#[]⟩, .complex .f64 0 0, .slice none 0 0] 32)
      have hba9 := (Below.refl w8.heap.size w8).alloc (Nat.le_refl _) (.cells #[.int .i64 0, .int .i64 0, .string ⟨#[]⟩, .complex .f64 0 0, .slice none 0 0] 32)
      have HBC9 := Lib.hid ((HBC7.out.below hb8).below hba9)
      have HX8 := Lib.hid (below_at hb8 HX7.out)
      have HX9 := Lib.hid (heap_alloc_some (o := .cells #[.int .i64 0, .int .i64 0, .string ⟨#[]⟩, .complex .f64 0 0, .slice none 0 0] 32) HX8.out)
      have HV9 := Lib.hid (heap_alloc_some (o := .cells #[.int .i64 0, .int .i64 0, .string ⟨#[]⟩, .complex .f64 0 0, .slice none 0 0] 32) (below_at hb8 HV7.out))
      have HW9 := Lib.hid (heap_alloc_new w8 (.cells #[.int .i64 0, .int .i64 0, .string ⟨#[]⟩, .complex .f64 0 0, .slice none 0 0] 32))
      have hs8 := hb8.size
      have t0 := cell2_0 HX8.out
      have t1 := cell2_1 HX8.out
      have tl := cell_lt HX8.out
      clear hb8
      go_wp2_with (fail)
      obtain ⟨w9, hw9⟩ : ∃ w9, w9 = w8.alloc (.cells #[.int .i64 0, .int .i64 0, .string ⟨#[]⟩, .complex .f64 0 0, .slice none 0 0] 32) := ⟨_, rfl⟩
      have hs9 : w9.heap.size = w8.heap.size + 1 := by rw [hw9]; simp
      rw [← hw9] at HB_w9 HBC9 HX9 HV9 HW9
      rw [← hw9]
      clear hw9 hba9 t0 t1 tl
      refine (rright_any 6 d 30 S _ t w9 (Nat.le_refl _) HN.out (HT.out.below HB_w9)).mono ?_
      rw [HOK.out]
      rintro e w10 ⟨rfl, hb10⟩
      have HB_w10 := HB_w9.trans (hb10.mono HB_w9.size)
      have HX10 := Lib.hid (below_at hb10 HX9.out)
      have HV10 := Lib.hid (below_at hb10 HV9.out)
      have HW10 := Lib.hid (below_at hb10 HW9.out)
      have HBC10 := Lib.hid (HBC9.out.below hb10)
      have hs10 := hb10.size
      clear hb10
      go_wp2_with (fail)
      refine (awake_any _ (HG.out.kept (HB_w10.block 0 hGl))).mono ?_
      rintro e we ⟨rfl, hbe⟩
      go_wp2_with (fail)
      go_ret
      exact ⟨rfl, HB_w10.trans (hbe.mono HB_w10.size)⟩

set_option maxRecDepth 100000 in
set_option maxHeartbeats 2000000 in
theorem gets_B (d : Nat) (S SB : Nat → Prop) (v : Value) (t : Ty) (A : Option Addr) (c : Nat) (l : List UInt8) (w : World) (hT : TyAt w S d v t) (hB : BAt w SB A l) (hG : Glob w) (q m' : Nat) (hm : measureT 6 t = some q) (hg : getV 6 t l 0 (leastT 6 t) = (m', none)) :
    Calls Tryd.prog 3 #[v, .slice A l.length c] w fun e w' => e = .returned (.bool true) ∧ Below w.heap.size w w' := by
  have hGl := hG.lt
  have HG := Lib.hid hG
  have HT := Lib.hid hT
  have HB := Lib.hid hB
  have HM := Lib.hid hm
  obtain ⟨A0, c0, rfl⟩ := hT.form
  have HB_w1 := (Below.refl w.heap.size w).alloc (Nat.le_refl _) (.cells #[.int .i64 t.kind, .slice A0 t.args.length c0] 24)
  have hx0 := heap_alloc_new w (.cells #[.int .i64 t.kind, .slice A0 t.args.length c0] 24)
  have HX0 := Lib.hid hx0
  have HNX : Hid (nextR t l = some (m', none)) := by show _ = _; unfold nextR; rw [hm]; show some _ = _; rw [hg]
  have HOK : Hid (okT 6 t = true) := by show _ = _; unfold okT; rw [hm]; rfl
  have HGV := Lib.hid hg
  have hbd := getV_bd l 6 t 0 (leastT 6 t) (Nat.zero_le _) (by have := (leastT_le 6 t q hm).2; omega)
  rw [hg] at hbd
  have hmle := hbd.1
  clear hbd hg
  clear hG hT hB hm hx0
  go_enter Tryd.func3, Tryd.ntmps3
  go_wp2_with (fail)
  obtain ⟨w1, hw1⟩ : ∃ w1, w1 = w.alloc (.cells #[.int .i64 t.kind, .slice A0 t.args.length c0] 24) := ⟨_, rfl⟩
  rw [← hw1] at HB_w1 HX0
  rw [← hw1]
  have hs1 : w1.heap.size = w.heap.size + 1 := by rw [hw1]; simp
  clear hw1
  refine (small4_any d S _ t w1 (HT.out.below HB_w1)).mono ?_
  rintro e w2 ⟨⟨bb, rfl, hbb⟩, hb2⟩
  have HBB := Lib.hid hbb
  have HB_w2 := HB_w1.trans (hb2.mono HB_w1.size)
  have HX2 := Lib.hid (below_at hb2 HX0.out)
  have t0 := cell2_0 HX2.out
  have t1 := cell2_1 HX2.out
  have hs2 := hb2.size
  clear hbb hb2
  cases bb with
  | false =>
    clear t0 t1
    go_wp2_with (fail)
    refine (awake_any _ (HG.out.kept (HB_w2.block 0 hGl))).mono ?_
    rintro e we ⟨rfl, hbe⟩
    go_wp2_with (fail)
    go_ret
    exact ⟨rfl, HB_w2.trans (hbe.mono HB_w2.size)⟩
  | true =>
    have HN := Lib.hid (HBB.out rfl)
    by_cases hlen : 100000 < l.length
    · have hgt : decide ((100000 : Int) < (l.length : Int)) = true := by simp; omega
      clear t0 t1
      go_wp2_with (fail)
      refine (awake_any _ (HG.out.kept (HB_w2.block 0 hGl))).mono ?_
      rintro e we ⟨rfl, hbe⟩
      go_wp2_with (fail)
      go_ret
      exact ⟨rfl, HB_w2.trans (hbe.mono HB_w2.size)⟩
    · have hgt : decide ((100000 : Int) < (l.length : Int)) = false := by simp; omega
      go_wp2_with (fail)
      refine (copy_any SB A c l w2 (HB.out.below HB_w2) (by omega)).mono ?_
      rintro e w3 ⟨⟨A', c', rfl, hB'⟩, hb3⟩
      have HB_w3 := HB_w2.trans (hb3.mono HB_w2.size)
      have HBC := Lib.hid hB'
      have HX3 := Lib.hid (below_at hb3 HX2.out)
      have hs3 := hb3.size
      clear t0 t1 hB' hb3 hgt
      have t0 := cell2_0 HX3.out
      have t1 := cell2_1 HX3.out
      have tl := cell_lt HX3.out
      go_wp2_with (fail)
      refine (of_any d 30 S _ t w3 HN.out (HT.out.below HB_w3)).mono ?_
      rintro e w4 ⟨⟨v4, rfl, hT4⟩, hb4⟩
      obtain ⟨A4, c4, rfl⟩ := hT4.form
      have HT4 := Lib.hid hT4
      have HB_w4 := HB_w3.trans (hb4.mono HB_w3.size)
      have HBC4 := Lib.hid (HBC.out.below hb4)
      have HX4 := Lib.hid (below_at hb4 HX3.out)
      have hs4 := hb4.size
      clear t0 t1 tl hT4 hb4
      go_wp2_with (fail)
      refine (decode_any d _ _ t A' c' l w4 HT4.out (HG.out.kept (HB_w4.block 0 hGl)) HBC4.out.all (by omega)).mono ?_
      rw [HNX.out]
      rintro e w5 ⟨he, hb5⟩
      obtain rfl : e = .returned (.tuple #[.agg #[.int .i64 0, .int .i64 0, .string ⟨#[]⟩, .complex .f64 0 0, .slice none 0 0], .int .i64 (m' : Int), .int .i64 (errA l m')]) := he
      have HB_w5 := HB_w4.trans (hb5.mono HB_w4.size)
      have HB_w6 := HB_w5.alloc HB_w5.size (.cells #[.int .i64 0, .int .i64 0, .string ⟨#[]⟩, .complex .f64 0 0, .slice none 0 0] 32)
      have HBC5 := Lib.hid ((HBC4.out.below hb5).below ((Below.refl w5.heap.size w5).alloc (Nat.le_refl _) (.cells #[.int .i64 0, .int .i64 0, .string ⟨#[]⟩, .complex .f64 0 0, .slice none 0 0] 32)))
      have HX5 := Lib.hid (below_at hb5 HX4.out)
      have HX6 := Lib.hid (heap_alloc_some (o := .cells #[.int .i64 0, .int .i64 0, .string ⟨#[]⟩, .complex .f64 0 0, .slice none 0 0] 32) HX5.out)
      have HV6 := Lib.hid (heap_alloc_new w5 (.cells #[.int .i64 0, .int .i64 0, .string ⟨#[]⟩, .complex .f64 0 0, .slice none 0 0] 32))
      have hs5 := hb5.size
      have t0 := cell2_0 HX5.out
      have t1 := cell2_1 HX5.out
      have tl := cell_lt HX5.out
      clear hb5
      go_wp2_with (fail)
      obtain ⟨w6, hw6⟩ : ∃ w6, w6 = w5.alloc (.cells #[.int .i64 0, .int .i64 0, .string ⟨#[]⟩, .complex .f64 0 0, .slice none 0 0] 32) := ⟨_, rfl⟩
      have hs6 : w6.heap.size = w5.heap.size + 1 := by rw [hw6]; simp
      rw [← hw6] at HB_w6 HBC5 HX6 HV6
      rw [← hw6]
      clear hw6 t0 t1 tl
      refine (of_any d 30 S _ t w6 HN.out (HT.out.below HB_w6)).mono ?_
      rintro e w7 ⟨⟨v7, rfl, hT7⟩, hb7⟩
      obtain ⟨A7, c7, rfl⟩ := hT7.form
      have HT7 := Lib.hid hT7
      have HB_w7 := HB_w6.trans (hb7.mono HB_w6.size)
      have HBC7 := Lib.hid (HBC5.out.below hb7)
      have HX7 := Lib.hid (below_at hb7 HX6.out)
      have HV7 := Lib.hid (below_at hb7 HV6.out)
      have hs7 := hb7.size
      clear hT7 hb7
      go_wp2_with (fail)
      refine (next_any d _ _ t A' c' l w7 HT7.out (HG.out.kept (HB_w7.block 0 hGl)) HBC7.out.all (by omega)).mono ?_
      rw [HNX.out]
      rintro e w8 ⟨⟨he, _⟩, hb8⟩
      obtain rfl : e = .returned (.tuple #[.agg #[.int .i64 0, .int .i64 0, .string ⟨#[]⟩, .complex .f64 0 0, .slice none 0 0], .int .i64 (m' : Int), .int .i64 (errA l m')]) := he
      have HB_w8 := HB_w7.trans (hb8.mono HB_w7.size)
      have HB_w9 := HB_w8.alloc HB_w8.size (.cells #[.int .i64 0, .int .i64 0, .string ⟨#[]⟩, .complex .f64 0 0, .slice none 0 0] 32)
      have hba9 := (Below.refl w8.heap.size w8).alloc (Nat.le_refl _) (.cells #[.int .i64 0, .int .i64 0, .string ⟨#[]⟩, .complex .f64 0 0, .slice none 0 0] 32)
      have HBC9 := Lib.hid ((HBC7.out.below hb8).below hba9)
      have HX8 := Lib.hid (below_at hb8 HX7.out)
      have HX9 := Lib.hid (heap_alloc_some (o := .cells #[.int .i64 0, .int .i64 0, .string ⟨#[]⟩, .complex .f64 0 0, .slice none 0 0] 32) HX8.out)
      have HV9 := Lib.hid (heap_alloc_some (o := .cells #[.int .i64 0, .int .i64 0, .string ⟨#[]⟩, .complex .f64 0 0, .slice none 0 0] 32) (below_at hb8 HV7.out))
      have HW9 := Lib.hid (heap_alloc_new w8 (.cells #[.int .i64 0, .int .i64 0, .string ⟨#[]⟩, .complex .f64 0 0, .slice none 0 0] 32))
      have hs8 := hb8.size
      have t0 := cell2_0 HX8.out
      have t1 := cell2_1 HX8.out
      have tl := cell_lt HX8.out
      clear hb8
      go_wp2_with (fail)
      obtain ⟨w9, hw9⟩ : ∃ w9, w9 = w8.alloc (.cells #[.int .i64 0, .int .i64 0, .string ⟨#[]⟩, .complex .f64 0 0, .slice none 0 0] 32) := ⟨_, rfl⟩
      have hs9 : w9.heap.size = w8.heap.size + 1 := by rw [hw9]; simp
      rw [← hw9] at HB_w9 HBC9 HX9 HV9 HW9
      rw [← hw9]
      clear hw9 hba9 t0 t1 tl
      refine (rright_any 6 d 30 S _ t w9 (Nat.le_refl _) HN.out (HT.out.below HB_w9)).mono ?_
      rw [HOK.out]
      rintro e w10 ⟨rfl, hb10⟩
      have HB_w10 := HB_w9.trans (hb10.mono HB_w9.size)
      have HX10 := Lib.hid (below_at hb10 HX9.out)
      have HV10 := Lib.hid (below_at hb10 HV9.out)
      have HW10 := Lib.hid (below_at hb10 HW9.out)
      have HBC10 := Lib.hid (HBC9.out.below hb10)
      have hs10 := hb10.size
      have t0 := cell2_0 HX10.out
      have t1 := cell2_1 HX10.out
      have tl := cell_lt HX10.out
      clear hb10
      go_wp2_with (fail)
      clear t0 t1 tl
      refine (rnext_any d q S SB _ t A c l w10 HM.out (HT.out.below HB_w10) (HB.out.below HB_w10) (by omega)).mono ?_
      rw [HGV.out]
      rintro e w11 ⟨he, hb11⟩
      obtain rfl : e = .returned (.tuple #[.agg #[.int .i64 0, .int .i64 0, .string ⟨#[]⟩, .complex .f64 0 0, .slice none 0 0], .int .i64 (m' : Int), .int .i64 (errA l m')]) := he
      have HB_w11 := HB_w10.trans (hb11.mono HB_w10.size)
      have HB_w12 := HB_w11.alloc HB_w11.size (.cells #[.int .i64 0, .int .i64 0, .string ⟨#[]⟩, .complex .f64 0 0, .slice none 0 0] 32)
      have hba := (Below.refl w11.heap.size w11).alloc (Nat.le_refl _) (.cells #[.int .i64 0, .int .i64 0, .string ⟨#[]⟩, .complex .f64 0 0, .slice none 0 0] 32)
      have HBC12 := Lib.hid ((HBC10.out.below hb11).below hba)
      have HV12 := Lib.hid (heap_alloc_some (o := .cells #[.int .i64 0, .int .i64 0, .string ⟨#[]⟩, .complex .f64 0 0, .slice none 0 0] 32) (below_at hb11 HV10.out))
      have HW12 := Lib.hid (heap_alloc_some (o := .cells #[.int .i64 0, .int .i64 0, .string ⟨#[]⟩, .complex .f64 0 0, .slice none 0 0] 32) (below_at hb11 HW10.out))
      have HX12 := Lib.hid (heap_alloc_new w11 (.cells #[.int .i64 0, .int .i64 0, .string ⟨#[]⟩, .complex .f64 0 0, .slice none 0 0] 32))
      have hs11 := hb11.size
      clear hb11
      go_wp2_with (fail)
      obtain ⟨w12, hw12⟩ : ∃ w12, w12 = w11.alloc (.cells #[.int .i64 0, .int .i64 0, .string ⟨#[]⟩, .complex .f64 0 0, .slice none 0 0] 32) := ⟨_, rfl⟩
      have hs12 : w12.heap.size = w11.heap.size + 1 := by rw [hw12]; simp
      rw [← hw12] at HB_w12 HBC12 HV12 HW12 HX12
      rw [← hw12]
      clear hw12 hba
      refine (rsameb_any _ SB A' A c' c l w12 HBC12.out (HB.out.below HB_w12)).mono ?_
      rintro e w13 ⟨rfl, hb13⟩
      have HB_w13 := HB_w12.trans (hb13.mono HB_w12.size)
      have HV13 := Lib.hid (below_at hb13 HV12.out)
      have HW13 := Lib.hid (below_at hb13 HW12.out)
      have HX13 := Lib.hid (below_at hb13 HX12.out)
      have hs13 := hb13.size
      have hne := errA_ne l m'
      have v0 := cell5_0 HV13.out
      have u0 := cell5_0 HW13.out
      have vl := cell_lt HV13.out
      have ul := cell_lt HW13.out
      clear hb13
      go_wp2_with (fail)
      refine (awake_any _ (HG.out.kept (HB_w13.block 0 hGl))).mono ?_
      rintro e we ⟨rfl, hbe⟩
      go_wp2_with (fail)
      go_ret
      exact ⟨rfl, HB_w13.trans (hbe.mono HB_w13.size)⟩

set_option maxRecDepth 100000 in
set_option maxHeartbeats 2000000 in
theorem gets_C (d : Nat) (S SB : Nat → Prop) (v : Value) (t : Ty) (A : Option Addr) (c : Nat) (l : List UInt8) (w : World) (hT : TyAt w S d v t) (hB : BAt w SB A l) (hG : Glob w) (q m' sz' : Nat) (V : Val) (hm : measureT 6 t = some q) (hg : getV 6 t l 0 (leastT 6 t) = (m', some (V, sz'))) (hml : m' < l.length) :
    Calls Tryd.prog 3 #[v, .slice A l.length c] w fun e w' => e = .returned (.bool true) ∧ Below w.heap.size w w' := by
  have hGl := hG.lt
  have HG := Lib.hid hG
  have HT := Lib.hid hT
  have HB := Lib.hid hB
  have HM := Lib.hid hm
  obtain ⟨A0, c0, rfl⟩ := hT.form
  have HB_w1 := (Below.refl w.heap.size w).alloc (Nat.le_refl _) (.cells #[.int .i64 t.kind, .slice A0 t.args.length c0] 24)
  have hx0 := heap_alloc_new w (.cells #[.int .i64 t.kind, .slice A0 t.args.length c0] 24)
  have HX0 := Lib.hid hx0
  have HNX : Hid (nextR t l = some (m', some (V, sz'))) := by show _ = _; unfold nextR; rw [hm]; show some _ = _; rw [hg]
  have HOK : Hid (okT 6 t = true) := by show _ = _; unfold okT; rw [hm]; rfl
  have HGV := Lib.hid hg
  have hbd := getV_bd l 6 t 0 (leastT 6 t) (Nat.zero_le _) (by have := (leastT_le 6 t q hm).2; omega)
  rw [hg] at hbd
  have hmle := hbd.1
  have HCM := Lib.hid (hbd.2 V sz' rfl).2
  have hmd : decide ((m' : Int) < (l.length : Int)) = true := by simp; omega
  have hmn : decide (m' < l.length) = true := by simp; omega
  have hnn : m' < l.length := hml
  have HML := Lib.hid hml
  clear hml
  clear hbd hg
  clear hG hT hB hm hx0
  go_enter Tryd.func3, Tryd.ntmps3
  go_wp2_with (fail)
  obtain ⟨w1, hw1⟩ : ∃ w1, w1 = w.alloc (.cells #[.int .i64 t.kind, .slice A0 t.args.length c0] 24) := ⟨_, rfl⟩
  rw [← hw1] at HB_w1 HX0
  rw [← hw1]
  have hs1 : w1.heap.size = w.heap.size + 1 := by rw [hw1]; simp
  clear hw1
  refine (small4_any d S _ t w1 (HT.out.below HB_w1)).mono ?_
  rintro e w2 ⟨⟨bb, rfl, hbb⟩, hb2⟩
  have HBB := Lib.hid hbb
  have HB_w2 := HB_w1.trans (hb2.mono HB_w1.size)
  have HX2 := Lib.hid (below_at hb2 HX0.out)
  have t0 := cell2_0 HX2.out
  have t1 := cell2_1 HX2.out
  have hs2 := hb2.size
  clear hbb hb2
  cases bb with
  | false =>
    clear t0 t1
    go_wp2_with (fail)
    refine (awake_any _ (HG.out.kept (HB_w2.block 0 hGl))).mono ?_
    rintro e we ⟨rfl, hbe⟩
    go_wp2_with (fail)
    go_ret
    exact ⟨rfl, HB_w2.trans (hbe.mono HB_w2.size)⟩
  | true =>
    have HN := Lib.hid (HBB.out rfl)
    by_cases hlen : 100000 < l.length
    · have hgt : decide ((100000 : Int) < (l.length : Int)) = true := by simp; omega
      clear t0 t1
      go_wp2_with (fail)
      refine (awake_any _ (HG.out.kept (HB_w2.block 0 hGl))).mono ?_
      rintro e we ⟨rfl, hbe⟩
      go_wp2_with (fail)
      go_ret
      exact ⟨rfl, HB_w2.trans (hbe.mono HB_w2.size)⟩
    · have hgt : decide ((100000 : Int) < (l.length : Int)) = false := by simp; omega
      go_wp2_with (fail)
      refine (copy_any SB A c l w2 (HB.out.below HB_w2) (by omega)).mono ?_
      rintro e w3 ⟨⟨A', c', rfl, hB'⟩, hb3⟩
      have HB_w3 := HB_w2.trans (hb3.mono HB_w2.size)
      have HBC := Lib.hid hB'
      have HX3 := Lib.hid (below_at hb3 HX2.out)
      have hs3 := hb3.size
      clear t0 t1 hB' hb3 hgt
      have t0 := cell2_0 HX3.out
      have t1 := cell2_1 HX3.out
      have tl := cell_lt HX3.out
      go_wp2_with (fail)
      refine (of_any d 30 S _ t w3 HN.out (HT.out.below HB_w3)).mono ?_
      rintro e w4 ⟨⟨v4, rfl, hT4⟩, hb4⟩
      obtain ⟨A4, c4, rfl⟩ := hT4.form
      have HT4 := Lib.hid hT4
      have HB_w4 := HB_w3.trans (hb4.mono HB_w3.size)
      have HBC4 := Lib.hid (HBC.out.below hb4)
      have HX4 := Lib.hid (below_at hb4 HX3.out)
      have hs4 := hb4.size
      clear t0 t1 tl hT4 hb4
      go_wp2_with (fail)
      refine (decode_any d _ _ t A' c' l w4 HT4.out (HG.out.kept (HB_w4.block 0 hGl)) HBC4.out.all (by omega)).mono ?_
      rw [HNX.out]
      rintro e w5 ⟨he, hb5⟩
      have he2 : e = .returned (.tuple #[.agg #[.int .i64 0, .int .i64 0, .string ⟨#[]⟩, .complex .f64 0 0, .slice none 0 0], .int .i64 (m' : Int), .int .i64 31]) := by
        have he3 := he
        simp only [DcOut, if_pos HML.out] at he3
        exact he3
      clear he
      subst he2
      have HB_w5 := HB_w4.trans (hb5.mono HB_w4.size)
      have HB_w6 := HB_w5.alloc HB_w5.size (.cells #[.int .i64 0, .int .i64 0, .string ⟨#[]⟩, .complex .f64 0 0, .slice none 0 0] 32)
      have HBC5 := Lib.hid ((HBC4.out.below hb5).below ((Below.refl w5.heap.size w5).alloc (Nat.le_refl _) (.cells #[.int .i64 0, .int .i64 0, .string ⟨#[]⟩, .complex .f64 0 0, .slice none 0 0] 32)))
      have HX5 := Lib.hid (below_at hb5 HX4.out)
      have HX6 := Lib.hid (heap_alloc_some (o := .cells #[.int .i64 0, .int .i64 0, .string ⟨#[]⟩, .complex .f64 0 0, .slice none 0 0] 32) HX5.out)
      have HV6 := Lib.hid (heap_alloc_new w5 (.cells #[.int .i64 0, .int .i64 0, .string ⟨#[]⟩, .complex .f64 0 0, .slice none 0 0] 32))
      have hs5 := hb5.size
      have t0 := cell2_0 HX5.out
      have t1 := cell2_1 HX5.out
      have tl := cell_lt HX5.out
      clear hb5
      go_wp2_with (fail)
      obtain ⟨w6, hw6⟩ : ∃ w6, w6 = w5.alloc (.cells #[.int .i64 0, .int .i64 0, .string ⟨#[]⟩, .complex .f64 0 0, .slice none 0 0] 32) := ⟨_, rfl⟩
      have hs6 : w6.heap.size = w5.heap.size + 1 := by rw [hw6]; simp
      rw [← hw6] at HB_w6 HBC5 HX6 HV6
      rw [← hw6]
      clear hw6 t0 t1 tl
      refine (of_any d 30 S _ t w6 HN.out (HT.out.below HB_w6)).mono ?_
      rintro e w7 ⟨⟨v7, rfl, hT7⟩, hb7⟩
      obtain ⟨A7, c7, rfl⟩ := hT7.form
      have HT7 := Lib.hid hT7
      have HB_w7 := HB_w6.trans (hb7.mono HB_w6.size)
      have HBC7 := Lib.hid (HBC5.out.below hb7)
      have HX7 := Lib.hid (below_at hb7 HX6.out)
      have HV7 := Lib.hid (below_at hb7 HV6.out)
      have hs7 := hb7.size
      clear hT7 hb7
      go_wp2_with (fail)
      refine (next_any d _ _ t A' c' l w7 HT7.out (HG.out.kept (HB_w7.block 0 hGl)) HBC7.out.all (by omega)).mono ?_
      rw [HNX.out]
      rintro e w8 ⟨⟨⟨v8, hv8, rfl⟩, _⟩, hb8⟩
      obtain ⟨Aw, cw, xw, yw, rfl, _, _⟩ := hv8.form
      have HV8 := Lib.hid hv8
      clear hv8
      have HB_w8 := HB_w7.trans (hb8.mono HB_w7.size)
      have HB_w9 := HB_w8.alloc HB_w8.size (.cells #[.int .i64 V.kind, .int .i64 V.int, .string V.text, .complex .f64 xw yw, .slice Aw V.list.length cw] 32)
      have hba9 := (Below.refl w8.heap.size w8).alloc (Nat.le_refl _) (.cells #[.int .i64 V.kind, .int .i64 V.int, .string V.text, .complex .f64 xw yw, .slice Aw V.list.length cw] 32)
      have HBC9 := Lib.hid ((HBC7.out.below hb8).below hba9)
      have HX8 := Lib.hid (below_at hb8 HX7.out)
      have HX9 := Lib.hid (heap_alloc_some (o := .cells #[.int .i64 V.kind, .int .i64 V.int, .string V.text, .complex .f64 xw yw, .slice Aw V.list.length cw] 32) HX8.out)
      have HV9 := Lib.hid (heap_alloc_some (o := .cells #[.int .i64 V.kind, .int .i64 V.int, .string V.text, .complex .f64 xw yw, .slice Aw V.list.length cw] 32) (below_at hb8 HV7.out))
      have HW9 := Lib.hid (heap_alloc_new w8 (.cells #[.int .i64 V.kind, .int .i64 V.int, .string V.text, .complex .f64 xw yw, .slice Aw V.list.length cw] 32))
      have hs8 := hb8.size
      have t0 := cell2_0 HX8.out
      have t1 := cell2_1 HX8.out
      have tl := cell_lt HX8.out
      have HV8a := Lib.hid (HV8.out.below hba9)
      clear hb8
      go_wp2_with (fail)
      obtain ⟨w9, hw9⟩ : ∃ w9, w9 = w8.alloc (.cells #[.int .i64 V.kind, .int .i64 V.int, .string V.text, .complex .f64 xw yw, .slice Aw V.list.length cw] 32) := ⟨_, rfl⟩
      have hs9 : w9.heap.size = w8.heap.size + 1 := by rw [hw9]; simp
      rw [← hw9] at HB_w9 HBC9 HX9 HV9 HW9 HV8a
      rw [← hw9]
      clear hw9 hba9 t0 t1 tl
      refine (rright_any 6 d 30 S _ t w9 (Nat.le_refl _) HN.out (HT.out.below HB_w9)).mono ?_
      rw [HOK.out]
      rintro e w10 ⟨rfl, hb10⟩
      have HB_w10 := HB_w9.trans (hb10.mono HB_w9.size)
      have HX10 := Lib.hid (below_at hb10 HX9.out)
      have HV10 := Lib.hid (below_at hb10 HV9.out)
      have HW10 := Lib.hid (below_at hb10 HW9.out)
      have HBC10 := Lib.hid (HBC9.out.below hb10)
      have hs10 := hb10.size
      have HV8b := Lib.hid (HV8a.out.below hb10)
      have t0 := cell2_0 HX10.out
      have t1 := cell2_1 HX10.out
      have tl := cell_lt HX10.out
      clear hb10
      go_wp2_with (fail)
      clear t0 t1 tl
      refine (rnext_any d q S SB _ t A c l w10 HM.out (HT.out.below HB_w10) (HB.out.below HB_w10) (by omega)).mono ?_
      rw [HGV.out]
      rintro e w11 ⟨⟨vx, hvx, rfl⟩, hb11⟩
      obtain ⟨Ax, cx, xx, yx, rfl, _, _⟩ := hvx.form
      have HVX := Lib.hid hvx
      clear hvx
      have HB_w11 := HB_w10.trans (hb11.mono HB_w10.size)
      have HB_w12 := HB_w11.alloc HB_w11.size (.cells #[.int .i64 V.kind, .int .i64 V.int, .string V.text, .complex .f64 xx yx, .slice Ax V.list.length cx] 32)
      have hba := (Below.refl w11.heap.size w11).alloc (Nat.le_refl _) (.cells #[.int .i64 V.kind, .int .i64 V.int, .string V.text, .complex .f64 xx yx, .slice Ax V.list.length cx] 32)
      have HBC12 := Lib.hid ((HBC10.out.below hb11).below hba)
      have HV12 := Lib.hid (heap_alloc_some (o := .cells #[.int .i64 V.kind, .int .i64 V.int, .string V.text, .complex .f64 xx yx, .slice Ax V.list.length cx] 32) (below_at hb11 HV10.out))
      have HW12 := Lib.hid (heap_alloc_some (o := .cells #[.int .i64 V.kind, .int .i64 V.int, .string V.text, .complex .f64 xx yx, .slice Ax V.list.length cx] 32) (below_at hb11 HW10.out))
      have HX12 := Lib.hid (heap_alloc_new w11 (.cells #[.int .i64 V.kind, .int .i64 V.int, .string V.text, .complex .f64 xx yx, .slice Ax V.list.length cx] 32))
      have hs11 := hb11.size
      have HV8c := Lib.hid ((HV8b.out.below hb11).below hba)
      have HVXc := Lib.hid (HVX.out.below hba)
      clear hb11
      go_wp2_with (fail)
      obtain ⟨w12, hw12⟩ : ∃ w12, w12 = w11.alloc (.cells #[.int .i64 V.kind, .int .i64 V.int, .string V.text, .complex .f64 xx yx, .slice Ax V.list.length cx] 32) := ⟨_, rfl⟩
      have hs12 : w12.heap.size = w11.heap.size + 1 := by rw [hw12]; simp
      rw [← hw12] at HB_w12 HBC12 HV12 HW12 HX12 HV8c HVXc
      rw [← hw12]
      clear hw12 hba
      refine (rsameb_any _ SB A' A c' c l w12 HBC12.out (HB.out.below HB_w12)).mono ?_
      rintro e w13 ⟨rfl, hb13⟩
      have HB_w13 := HB_w12.trans (hb13.mono HB_w12.size)
      have HV13 := Lib.hid (below_at hb13 HV12.out)
      have HW13 := Lib.hid (below_at hb13 HW12.out)
      have HX13 := Lib.hid (below_at hb13 HX12.out)
      have hs13 := hb13.size
      have HV8d := Lib.hid (HV8c.out.below hb13)
      have HVXd := Lib.hid (HVXc.out.below hb13)
      have u0 := cell5_0 HW13.out
      have x0 := cell5_0 HX13.out
      have u1 := cell5_1 HW13.out
      have x1 := cell5_1 HX13.out
      have u2 := cell5_2 HW13.out
      have x2 := cell5_2 HX13.out
      have u3 := cell5_3 HW13.out
      have x3 := cell5_3 HX13.out
      have u4 := cell5_4 HW13.out
      have x4 := cell5_4 HX13.out
      have ul := cell_lt HW13.out
      have xl := cell_lt HX13.out
      clear hb13
      go_wp2_with (fail)
      refine (vsame_self 6 6 6 _ _ _ _ V w13 HCM.out HV8d.out HVXd.out).mono ?_
      rintro e w14 ⟨rfl, hb14⟩
      have HB_w14 := HB_w13.trans (hb14.mono HB_w13.size)
      have HV14 := Lib.hid (below_at hb14 HV13.out)
      have HX14 := Lib.hid (below_at hb14 HX13.out)
      clear u0 u1 u2 u3 u4 x0 x1 x2 x3 x4 ul xl
      have v0 := cell5_0 HV14.out
      have vl := cell_lt HV14.out
      clear hb14
      go_wp2_with (fail)
      refine (awake_any _ (HG.out.kept (HB_w14.block 0 hGl))).mono ?_
      rintro e we ⟨rfl, hbe⟩
      go_wp2_with (fail)
      go_ret
      exact ⟨rfl, HB_w14.trans (hbe.mono HB_w14.size)⟩

set_option maxRecDepth 100000 in
set_option maxHeartbeats 2000000 in
theorem gets_D (d : Nat) (S SB : Nat → Prop) (v : Value) (t : Ty) (A : Option Addr) (c : Nat) (l : List UInt8) (w : World) (hT : TyAt w S d v t) (hB : BAt w SB A l) (hG : Glob w) (q m' sz' : Nat) (V : Val) (hm : measureT 6 t = some q) (hg : getV 6 t l 0 (leastT 6 t) = (m', some (V, sz'))) (hml : m' = l.length) :
    Calls Tryd.prog 3 #[v, .slice A l.length c] w fun e w' => e = .returned (.bool true) ∧ Below w.heap.size w w' := by
  have hGl := hG.lt
  have HG := Lib.hid hG
  have HT := Lib.hid hT
  have HB := Lib.hid hB
  have HM := Lib.hid hm
  obtain ⟨A0, c0, rfl⟩ := hT.form
  have HB_w1 := (Below.refl w.heap.size w).alloc (Nat.le_refl _) (.cells #[.int .i64 t.kind, .slice A0 t.args.length c0] 24)
  have hx0 := heap_alloc_new w (.cells #[.int .i64 t.kind, .slice A0 t.args.length c0] 24)
  have HX0 := Lib.hid hx0
  have HNX : Hid (nextR t l = some (m', some (V, sz'))) := by show _ = _; unfold nextR; rw [hm]; show some _ = _; rw [hg]
  have HOK : Hid (okT 6 t = true) := by show _ = _; unfold okT; rw [hm]; rfl
  have HGV := Lib.hid hg
  have hbd := getV_bd l 6 t 0 (leastT 6 t) (Nat.zero_le _) (by have := (leastT_le 6 t q hm).2; omega)
  rw [hg] at hbd
  have hmle := hbd.1
  have HCM := Lib.hid (hbd.2 V sz' rfl).2
  have hmd : decide ((m' : Int) < (l.length : Int)) = false := by simp; omega
  have hmn : decide (m' < l.length) = false := by simp; omega
  have hnn : ¬ m' < l.length := by omega
  have HML := Lib.hid hml
  clear hml
  clear hbd hg
  clear hG hT hB hm hx0
  go_enter Tryd.func3, Tryd.ntmps3
  go_wp2_with (fail)
  obtain ⟨w1, hw1⟩ : ∃ w1, w1 = w.alloc (.cells #[.int .i64 t.kind, .slice A0 t.args.length c0] 24) := ⟨_, rfl⟩
  rw [← hw1] at HB_w1 HX0
  rw [← hw1]
  have hs1 : w1.heap.size = w.heap.size + 1 := by rw [hw1]; simp
  clear hw1
  refine (small4_any d S _ t w1 (HT.out.below HB_w1)).mono ?_
  rintro e w2 ⟨⟨bb, rfl, hbb⟩, hb2⟩
  have HBB := Lib.hid hbb
  have HB_w2 := HB_w1.trans (hb2.mono HB_w1.size)
  have HX2 := Lib.hid (below_at hb2 HX0.out)
  have t0 := cell2_0 HX2.out
  have t1 := cell2_1 HX2.out
  have hs2 := hb2.size
  clear hbb hb2
  cases bb with
  | false =>
    clear t0 t1
    go_wp2_with (fail)
    refine (awake_any _ (HG.out.kept (HB_w2.block 0 hGl))).mono ?_
    rintro e we ⟨rfl, hbe⟩
    go_wp2_with (fail)
    go_ret
    exact ⟨rfl, HB_w2.trans (hbe.mono HB_w2.size)⟩
  | true =>
    have HN := Lib.hid (HBB.out rfl)
    by_cases hlen : 100000 < l.length
    · have hgt : decide ((100000 : Int) < (l.length : Int)) = true := by simp; omega
      clear t0 t1
      go_wp2_with (fail)
      refine (awake_any _ (HG.out.kept (HB_w2.block 0 hGl))).mono ?_
      rintro e we ⟨rfl, hbe⟩
      go_wp2_with (fail)
      go_ret
      exact ⟨rfl, HB_w2.trans (hbe.mono HB_w2.size)⟩
    · have hgt : decide ((100000 : Int) < (l.length : Int)) = false := by simp; omega
      go_wp2_with (fail)
      refine (copy_any SB A c l w2 (HB.out.below HB_w2) (by omega)).mono ?_
      rintro e w3 ⟨⟨A', c', rfl, hB'⟩, hb3⟩
      have HB_w3 := HB_w2.trans (hb3.mono HB_w2.size)
      have HBC := Lib.hid hB'
      have HX3 := Lib.hid (below_at hb3 HX2.out)
      have hs3 := hb3.size
      clear t0 t1 hB' hb3 hgt
      have t0 := cell2_0 HX3.out
      have t1 := cell2_1 HX3.out
      have tl := cell_lt HX3.out
      go_wp2_with (fail)
      refine (of_any d 30 S _ t w3 HN.out (HT.out.below HB_w3)).mono ?_
      rintro e w4 ⟨⟨v4, rfl, hT4⟩, hb4⟩
      obtain ⟨A4, c4, rfl⟩ := hT4.form
      have HT4 := Lib.hid hT4
      have HB_w4 := HB_w3.trans (hb4.mono HB_w3.size)
      have HBC4 := Lib.hid (HBC.out.below hb4)
      have HX4 := Lib.hid (below_at hb4 HX3.out)
      have hs4 := hb4.size
      clear t0 t1 tl hT4 hb4
      go_wp2_with (fail)
      refine (decode_any d _ _ t A' c' l w4 HT4.out (HG.out.kept (HB_w4.block 0 hGl)) HBC4.out.all (by omega)).mono ?_
      rw [HNX.out]
      rintro e w5 ⟨he, hb5⟩
      have he2 : ∃ v, VAt w5 (fun b => w4.heap.size ≤ b) 6 v V ∧ e = .returned (.tuple #[v, .int .i64 0, .int .i64 0]) := by
        have he3 := he
        simp only [DcOut, if_neg (show ¬ m' < l.length by rw [HML.out]; exact Nat.lt_irrefl _)] at he3
        exact he3
      clear he
      obtain ⟨v5, hv5, rfl⟩ := he2
      obtain ⟨Av, cv, xv, yv, rfl, _, _⟩ := hv5.form
      have HV5 := Lib.hid hv5
      clear hv5
      have HB_w5 := HB_w4.trans (hb5.mono HB_w4.size)
      have HB_w6 := HB_w5.alloc HB_w5.size (.cells #[.int .i64 V.kind, .int .i64 V.int, .string V.text, .complex .f64 xv yv, .slice Av V.list.length cv] 32)
      have HBC5 := Lib.hid ((HBC4.out.below hb5).below ((Below.refl w5.heap.size w5).alloc (Nat.le_refl _) (.cells #[.int .i64 V.kind, .int .i64 V.int, .string V.text, .complex .f64 xv yv, .slice Av V.list.length cv] 32)))
      have HX5 := Lib.hid (below_at hb5 HX4.out)
      have HX6 := Lib.hid (heap_alloc_some (o := .cells #[.int .i64 V.kind, .int .i64 V.int, .string V.text, .complex .f64 xv yv, .slice Av V.list.length cv] 32) HX5.out)
      have HV6 := Lib.hid (heap_alloc_new w5 (.cells #[.int .i64 V.kind, .int .i64 V.int, .string V.text, .complex .f64 xv yv, .slice Av V.list.length cv] 32))
      have hs5 := hb5.size
      have t0 := cell2_0 HX5.out
      have t1 := cell2_1 HX5.out
      have tl := cell_lt HX5.out
      have HV5a := Lib.hid (HV5.out.below ((Below.refl w5.heap.size w5).alloc (Nat.le_refl _) (.cells #[.int .i64 V.kind, .int .i64 V.int, .string V.text, .complex .f64 xv yv, .slice Av V.list.length cv] 32)))
      clear hb5
      go_wp2_with (fail)
      obtain ⟨w6, hw6⟩ : ∃ w6, w6 = w5.alloc (.cells #[.int .i64 V.kind, .int .i64 V.int, .string V.text, .complex .f64 xv yv, .slice Av V.list.length cv] 32) := ⟨_, rfl⟩
      have hs6 : w6.heap.size = w5.heap.size + 1 := by rw [hw6]; simp
      rw [← hw6] at HB_w6 HBC5 HX6 HV6 HV5a
      rw [← hw6]
      clear hw6 t0 t1 tl
      refine (of_any d 30 S _ t w6 HN.out (HT.out.below HB_w6)).mono ?_
      rintro e w7 ⟨⟨v7, rfl, hT7⟩, hb7⟩
      obtain ⟨A7, c7, rfl⟩ := hT7.form
      have HT7 := Lib.hid hT7
      have HB_w7 := HB_w6.trans (hb7.mono HB_w6.size)
      have HBC7 := Lib.hid (HBC5.out.below hb7)
      have HX7 := Lib.hid (below_at hb7 HX6.out)
      have HV7 := Lib.hid (below_at hb7 HV6.out)
      have hs7 := hb7.size
      have HV5b := Lib.hid (HV5a.out.below hb7)
      clear hT7 hb7
      go_wp2_with (fail)
      refine (next_any d _ _ t A' c' l w7 HT7.out (HG.out.kept (HB_w7.block 0 hGl)) HBC7.out.all (by omega)).mono ?_
      rw [HNX.out]
      rintro e w8 ⟨⟨⟨v8, hv8, rfl⟩, _⟩, hb8⟩
      obtain ⟨Aw, cw, xw, yw, rfl, _, _⟩ := hv8.form
      have HV8 := Lib.hid hv8
      clear hv8
      have HB_w8 := HB_w7.trans (hb8.mono HB_w7.size)
      have HB_w9 := HB_w8.alloc HB_w8.size (.cells #[.int .i64 V.kind, .int .i64 V.int, .string V.text, .complex .f64 xw yw, .slice Aw V.list.length cw] 32)
      have hba9 := (Below.refl w8.heap.size w8).alloc (Nat.le_refl _) (.cells #[.int .i64 V.kind, .int .i64 V.int, .string V.text, .complex .f64 xw yw, .slice Aw V.list.length cw] 32)
      have HBC9 := Lib.hid ((HBC7.out.below hb8).below hba9)
      have HX8 := Lib.hid (below_at hb8 HX7.out)
      have HX9 := Lib.hid (heap_alloc_some (o := .cells #[.int .i64 V.kind, .int .i64 V.int, .string V.text, .complex .f64 xw yw, .slice Aw V.list.length cw] 32) HX8.out)
      have HV9 := Lib.hid (heap_alloc_some (o := .cells #[.int .i64 V.kind, .int .i64 V.int, .string V.text, .complex .f64 xw yw, .slice Aw V.list.length cw] 32) (below_at hb8 HV7.out))
      have HW9 := Lib.hid (heap_alloc_new w8 (.cells #[.int .i64 V.kind, .int .i64 V.int, .string V.text, .complex .f64 xw yw, .slice Aw V.list.length cw] 32))
      have hs8 := hb8.size
      have t0 := cell2_0 HX8.out
      have t1 := cell2_1 HX8.out
      have tl := cell_lt HX8.out
      have HV8a := Lib.hid (HV8.out.below hba9)
      have HV5c := Lib.hid ((HV5b.out.below hb8).below hba9)
      clear hb8
      go_wp2_with (fail)
      obtain ⟨w9, hw9⟩ : ∃ w9, w9 = w8.alloc (.cells #[.int .i64 V.kind, .int .i64 V.int, .string V.text, .complex .f64 xw yw, .slice Aw V.list.length cw] 32) := ⟨_, rfl⟩
      have hs9 : w9.heap.size = w8.heap.size + 1 := by rw [hw9]; simp
      rw [← hw9] at HB_w9 HBC9 HX9 HV9 HW9 HV8a HV5c
      rw [← hw9]
      clear hw9 hba9 t0 t1 tl
      refine (rright_any 6 d 30 S _ t w9 (Nat.le_refl _) HN.out (HT.out.below HB_w9)).mono ?_
      rw [HOK.out]
      rintro e w10 ⟨rfl, hb10⟩
      have HB_w10 := HB_w9.trans (hb10.mono HB_w9.size)
      have HX10 := Lib.hid (below_at hb10 HX9.out)
      have HV10 := Lib.hid (below_at hb10 HV9.out)
      have HW10 := Lib.hid (below_at hb10 HW9.out)
      have HBC10 := Lib.hid (HBC9.out.below hb10)
      have hs10 := hb10.size
      have HV8b := Lib.hid (HV8a.out.below hb10)
      have HV5d := Lib.hid (HV5c.out.below hb10)
      have t0 := cell2_0 HX10.out
      have t1 := cell2_1 HX10.out
      have tl := cell_lt HX10.out
      clear hb10
      go_wp2_with (fail)
      clear t0 t1 tl
      refine (rnext_any d q S SB _ t A c l w10 HM.out (HT.out.below HB_w10) (HB.out.below HB_w10) (by omega)).mono ?_
      rw [HGV.out]
      rintro e w11 ⟨⟨vx, hvx, rfl⟩, hb11⟩
      obtain ⟨Ax, cx, xx, yx, rfl, _, _⟩ := hvx.form
      have HVX := Lib.hid hvx
      clear hvx
      have HB_w11 := HB_w10.trans (hb11.mono HB_w10.size)
      have HB_w12 := HB_w11.alloc HB_w11.size (.cells #[.int .i64 V.kind, .int .i64 V.int, .string V.text, .complex .f64 xx yx, .slice Ax V.list.length cx] 32)
      have hba := (Below.refl w11.heap.size w11).alloc (Nat.le_refl _) (.cells #[.int .i64 V.kind, .int .i64 V.int, .string V.text, .complex .f64 xx yx, .slice Ax V.list.length cx] 32)
      have HBC12 := Lib.hid ((HBC10.out.below hb11).below hba)
      have HV12 := Lib.hid (heap_alloc_some (o := .cells #[.int .i64 V.kind, .int .i64 V.int, .string V.text, .complex .f64 xx yx, .slice Ax V.list.length cx] 32) (below_at hb11 HV10.out))
      have HW12 := Lib.hid (heap_alloc_some (o := .cells #[.int .i64 V.kind, .int .i64 V.int, .string V.text, .complex .f64 xx yx, .slice Ax V.list.length cx] 32) (below_at hb11 HW10.out))
      have HX12 := Lib.hid (heap_alloc_new w11 (.cells #[.int .i64 V.kind, .int .i64 V.int, .string V.text, .complex .f64 xx yx, .slice Ax V.list.length cx] 32))
      have hs11 := hb11.size
      have HV8c := Lib.hid ((HV8b.out.below hb11).below hba)
      have HVXc := Lib.hid (HVX.out.below hba)
      have HV5e := Lib.hid ((HV5d.out.below hb11).below hba)
      clear hb11
      go_wp2_with (fail)
      obtain ⟨w12, hw12⟩ : ∃ w12, w12 = w11.alloc (.cells #[.int .i64 V.kind, .int .i64 V.int, .string V.text, .complex .f64 xx yx, .slice Ax V.list.length cx] 32) := ⟨_, rfl⟩
      have hs12 : w12.heap.size = w11.heap.size + 1 := by rw [hw12]; simp
      rw [← hw12] at HB_w12 HBC12 HV12 HW12 HX12 HV8c HVXc HV5e
      rw [← hw12]
      clear hw12 hba
      refine (rsameb_any _ SB A' A c' c l w12 HBC12.out (HB.out.below HB_w12)).mono ?_
      rintro e w13 ⟨rfl, hb13⟩
      have HB_w13 := HB_w12.trans (hb13.mono HB_w12.size)
      have HV13 := Lib.hid (below_at hb13 HV12.out)
      have HW13 := Lib.hid (below_at hb13 HW12.out)
      have HX13 := Lib.hid (below_at hb13 HX12.out)
      have hs13 := hb13.size
      have HV8d := Lib.hid (HV8c.out.below hb13)
      have HVXd := Lib.hid (HVXc.out.below hb13)
      have HV5f := Lib.hid (HV5e.out.below hb13)
      have u0 := cell5_0 HW13.out
      have x0 := cell5_0 HX13.out
      have u1 := cell5_1 HW13.out
      have x1 := cell5_1 HX13.out
      have u2 := cell5_2 HW13.out
      have x2 := cell5_2 HX13.out
      have u3 := cell5_3 HW13.out
      have x3 := cell5_3 HX13.out
      have u4 := cell5_4 HW13.out
      have x4 := cell5_4 HX13.out
      have ul := cell_lt HW13.out
      have xl := cell_lt HX13.out
      clear hb13
      go_wp2_with (fail)
      refine (vsame_self 6 6 6 _ _ _ _ V w13 HCM.out HV8d.out HVXd.out).mono ?_
      rintro e w14 ⟨rfl, hb14⟩
      have HB_w14 := HB_w13.trans (hb14.mono HB_w13.size)
      have HV14 := Lib.hid (below_at hb14 HV13.out)
      have HX14 := Lib.hid (below_at hb14 HX13.out)
      clear u0 u1 u2 u3 u4 x0 x1 x2 x3 x4 ul xl
      have HV5g := Lib.hid (HV5f.out.below hb14)
      have HVXe := Lib.hid (HVXd.out.below hb14)
      have v0 := cell5_0 HV14.out
      have x0 := cell5_0 HX14.out
      have v1 := cell5_1 HV14.out
      have x1 := cell5_1 HX14.out
      have v2 := cell5_2 HV14.out
      have x2 := cell5_2 HX14.out
      have v3 := cell5_3 HV14.out
      have x3 := cell5_3 HX14.out
      have v4 := cell5_4 HV14.out
      have x4 := cell5_4 HX14.out
      have vl := cell_lt HV14.out
      have xl := cell_lt HX14.out
      clear hb14
      go_wp2_with (fail)
      refine (vsame_self 6 6 6 _ _ _ _ V w14 HCM.out HV5g.out HVXe.out).mono ?_
      rintro e w15 ⟨rfl, hb15⟩
      have HB_w15 := HB_w14.trans (hb15.mono HB_w14.size)
      go_wp2_with (fail)
      refine (awake_any _ (HG.out.kept (HB_w15.block 0 hGl))).mono ?_
      rintro e we ⟨rfl, hbe⟩
      go_wp2_with (fail)
      go_ret
      exact ⟨rfl, HB_w15.trans (hbe.mono HB_w15.size)⟩

theorem gets_walk (d : Nat) (S SB : Nat → Prop) (v : Value) (t : Ty) (A : Option Addr) (c : Nat) (l : List UInt8) (w : World) (hT : TyAt w S d v t) (hB : BAt w SB A l) (hG : Glob w) :
    Calls Tryd.prog 3 #[v, .slice A l.length c] w fun e w' => e = .returned (.bool true) ∧ Below w.heap.size w w' := by
  cases hm : measureT 6 t with
  | none => exact gets_A d S SB v t A c l w hT hB hG hm
  | some q =>
    cases hg : getV 6 t l 0 (leastT 6 t) with
    | mk m' o =>
    cases o with
    | none => exact gets_B d S SB v t A c l w hT hB hG q m' hm hg
    | some p =>
      obtain ⟨V, sz'⟩ := p
      by_cases hml : m' < l.length
      · exact gets_C d S SB v t A c l w hT hB hG q m' sz' V hm hg hml
      · have hb := getV_bd l 6 t 0 (leastT 6 t) (Nat.zero_le _) (by have := (leastT_le 6 t q hm).2; omega)
        rw [hg] at hb
        have hle : m' ≤ l.length := hb.1
        exact gets_D d S SB v t A c l w hT hB hG q m' sz' V hm hg (by omega)
end Go.Proofs.YtbafplnolmdlnaaDoor
