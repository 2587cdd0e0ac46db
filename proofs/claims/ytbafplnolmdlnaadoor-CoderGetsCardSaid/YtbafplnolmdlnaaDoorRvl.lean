/-
readValue: lists, options; and all.
-/
import Derived.Test.YtbafplnolmdlnaaDoorRvp
namespace Go.Proofs.YtbafplnolmdlnaaDoor
open Go.RowKit

theorem put5_heap {w : World} {g : Nat} {a0 a1 a2 a3 a4 b0 b1 b2 b3 b4 : Value} {t : TypeId} (h : w.heap[g]? = some (.cells #[a0, a1, a2, a3, a4] t (0, 0))) : (((((w.setCell ⟨g, 0, none⟩ b0).setCell ⟨g, 1, none⟩ b1).setCell ⟨g, 2, none⟩ b2).setCell ⟨g, 3, none⟩ b3).setCell ⟨g, 4, none⟩ b4).heap[g]? = some (.cells #[b0, b1, b2, b3, b4] t (0, 0)) := by
  simp [World.setCell, Array.getElem?_modify, h]

set_option maxRecDepth 100000 in
set_option maxHeartbeats 2000000 in
theorem val_list (r d q0 : Nat) (S : Nat → Prop) (R : Nat) (A : Option Addr) (c : Nat) (l : List UInt8) (m sz : Nat) (a0 : Ty) (b o c0 k0 : Nat) (A0 : Option Addr) (w : World) (hV : VOk r) (hr6 : r ≤ 6) (h0 : measureT r a0 = some q0) (hbl : b < w.heap.size)
    (g0 : w.cell? ⟨b, o, none⟩ = some (.int .i64 a0.kind)) (g1 : w.cell? ⟨b, o + 1, none⟩ = some (.slice A0 a0.args.length k0))
    (T0 : TyAt w S d (.agg #[.int .i64 a0.kind, .slice A0 a0.args.length k0]) a0) (hS : ∀ b, S b → b ≠ R) (h : Rdr w R A c l m sz) (hsz : sz ≤ 2000) :
    Calls Tryd.prog 19 #[.pointer (some ⟨R, 0, none⟩), .agg #[.int .i64 7, .slice (some ⟨b, o, none⟩) 1 c0]] w fun e w' => ROut R A c l (fun w' S v V => VAt w' S (r + 1) v V) JunkV w e w' (listV 7 (getL (getV r a0 l) (leastT r a0) l 65 [] m sz)) := by
  have HV := Lib.hid hV
  have HS := Lib.hid hS
  have hRl := h.lt
  have HR := Lib.hid h
  have hb2 := ((Below.refl w.heap.size w).alloc (Nat.le_refl _) (.cells #[.int .i64 7, .slice (some ⟨b, o, none⟩) 1 c0] 38)).alloc (by simp) (.cells #[.int .i64 7, .int .i64 0, .string ⟨#[]⟩, .complex .f64 0 0, .slice none 0 0] 32)
  have hx0 : ((w.alloc (.cells #[.int .i64 7, .slice (some ⟨b, o, none⟩) 1 c0] 38)).alloc (.cells #[.int .i64 7, .int .i64 0, .string ⟨#[]⟩, .complex .f64 0 0, .slice none 0 0] 32)).heap[w.heap.size]? = some (.cells #[.int .i64 7, .slice (some ⟨b, o, none⟩) 1 c0] 38 (0, 0)) := heap_alloc_some (heap_alloc_new w _)
  have hx1 : ((w.alloc (.cells #[.int .i64 7, .slice (some ⟨b, o, none⟩) 1 c0] 38)).alloc (.cells #[.int .i64 7, .int .i64 0, .string ⟨#[]⟩, .complex .f64 0 0, .slice none 0 0] 32)).heap[w.heap.size + 1]? = some (.cells #[.int .i64 7, .int .i64 0, .string ⟨#[]⟩, .complex .f64 0 0, .slice none 0 0] 32 (0, 0)) := heap_new_at (by simp)
  have H0 := Lib.hid h0
  have HX0 := Lib.hid hx0
  have HX1 := Lib.hid hx1
  have HT0 := Lib.hid (T0.below hb2)
  have HR0 := Lib.hid (HR.out.below hb2)
  have E0 := Lib.hid ((hb2.cell (p := ⟨b, o, none⟩) hbl).trans g0)
  have E1 := Lib.hid ((hb2.cell (p := ⟨b, o + 1, none⟩) hbl).trans g1)
  clear hV h0 hS h hx0 hx1 T0 g0 g1
  have hbl2 : b < w.heap.size + 1 := by omega
  have e0 := E0.out
  have e1 := E1.out
  go_enter Tryd.func19, Tryd.ntmps19
  go_wp2_with (fail)
  clear e0 e1
  obtain ⟨w0, hw0⟩ : ∃ w0, w0 = (w.alloc (.cells #[.int .i64 7, .slice (some ⟨b, o, none⟩) 1 c0] 38)).alloc (.cells #[.int .i64 7, .int .i64 0, .string ⟨#[]⟩, .complex .f64 0 0, .slice none 0 0] 32) := ⟨_, rfl⟩
  have hsz0 : w0.heap.size = w.heap.size + 2 := by rw [hw0]; simp
  rw [← hw0] at hb2 HX0 HX1 HT0 HR0 E0 E1
  rw [← hw0]
  clear hw0
  have hRw : R < w0.heap.size := by omega
  refine (list_any r d q0 S R A c l m sz _ a0 w0 HV.out hr6 H0.out HT0.out HS.out HR0.out hsz).mono ?_
  cases hg : getL (getV r a0 l) (leastT r a0) l 65 [] m sz with
  | mk m' o' =>
  cases o' with
  | none =>
    have HF : Hid (listV 7 (getL (getV r a0 l) (leastT r a0) l 65 [] m sz) = (m', none)) := by show _ = _; rw [hg]; rfl
    clear hg
    rintro e w2 ⟨⟨v, ⟨AA, nn, cc, rfl⟩, rfl⟩, ho, sz', hr⟩
    have HR2 := Lib.hid hr
    have hs2 := ho.size
    have hy := (ho.block (w.heap.size + 1) (by omega) (by simp; omega)).trans HX1.out
    have d0 := cell5_0 hy
    have d1 := cell5_1 hy
    have d2 := cell5_2 hy
    have d3 := cell5_3 hy
    have d4 := cell5_4 hy
    have f0 := cell3_f hy 0
    have f1 := cell3_f hy 1
    have f2 := cell3_f hy 2
    have f3 := cell3_f hy 3
    have f4 := cell3_f hy 4
    have hl := cell_lt hy
    have hrl := hr.le
    clear hr hy
    go_wp2_with (fail)
    refine bodyPost_ret (v := .tuple #[.agg #[.int .i64 7, .int .i64 0, .string ⟨#[]⟩, .complex .f64 0 0, .slice AA nn cc], .bool false]) (by simp [results, Tryd.results19, go_sem, d0, d1, d2, d3, d4]) rfl ?_
    rw [HF.out]
    have hOO := (Only.of_below hb2).trans ho
    have hBX := HR2.out.box
    refine out_bad (sz' := sz') ⟨_, _, _, _, _, _, _, _, rfl⟩ ?_ (fun hO => HR.out.moved hO ?_ hrl)
    · (repeat' (first | with_reducible assumption | with_reducible refine Only.more ?_ | with_reducible refine Only.far ?_ ?_ | (show w.heap.size ≤ w.heap.size + 1; omega)))
    · (repeat' (first | with_reducible assumption | with_reducible refine heap_alloc_some ?_ | with_reducible refine heap_set_some ?_ ?_ | (show R ≠ w.heap.size + 1; omega)))
  | some p =>
    obtain ⟨vs, sz1⟩ := p
    have HF : Hid (listV 7 (getL (getV r a0 l) (leastT r a0) l 65 [] m sz) = (m', some (.mk 7 0 ⟨#[]⟩ 0 0 vs, sz1))) := by show _ = _; rw [hg]; rfl
    clear hg
    rintro e w2 ⟨⟨v, ⟨AA, cc, rfl, hcc, hLL⟩, rfl⟩, ho, hr, hsz1⟩
    have HLA : Hid (LAt w2 (fun b => w0.heap.size ≤ b) r (.slice AA vs.length cc) vs) := Lib.hid ⟨AA, cc, rfl, hcc, hLL⟩
    clear hLL
    have HR2 := Lib.hid hr
    have hs2 := ho.size
    have hy := (ho.block (w.heap.size + 1) (by omega) (by simp; omega)).trans HX1.out
    have d0 := cell5_0 hy
    have d1 := cell5_1 hy
    have d2 := cell5_2 hy
    have d3 := cell5_3 hy
    have d4 := cell5_4 hy
    have f0 := cell3_f hy 0
    have f1 := cell3_f hy 1
    have f2 := cell3_f hy 2
    have f3 := cell3_f hy 3
    have f4 := cell3_f hy 4
    have hl := cell_lt hy
    have hrl := hr.le
    clear hr hy
    go_wp2_with (fail)
    refine bodyPost_ret (v := .tuple #[.agg #[.int .i64 7, .int .i64 0, .string ⟨#[]⟩, .complex .f64 0 0, .slice AA vs.length cc], .bool true]) (by simp [results, Tryd.results19, go_sem, d0, d1, d2, d3, d4]) rfl ?_
    rw [HF.out]
    have hOO := (Only.of_below hb2).trans ho
    have hBX := HR2.out.box
    refine out_good (VAt.of_list 7 (HLA.out.move fun b hb hl => ⟨by have hb' : w0.heap.size ≤ b := hb; show w.heap.size ≤ b; omega, fun o => World.cell?_of_block ?_⟩)) ?_ (fun hO => HR.out.moved hO ?_ hrl) hsz1
    · have hne : b ≠ w.heap.size + 1 := by have hb' : w0.heap.size ≤ b := hb; omega
      repeat rw [Below.heap_setCell _ _ _ _ hne]
    · (repeat' (first | with_reducible assumption | with_reducible refine Only.more ?_ | with_reducible refine Only.far ?_ ?_ | (show w.heap.size ≤ w.heap.size + 1; omega)))
    · (repeat' (first | with_reducible assumption | with_reducible refine heap_alloc_some ?_ | with_reducible refine heap_set_some ?_ ?_ | (show R ≠ w.heap.size + 1; omega)))

set_option maxRecDepth 100000 in
set_option maxHeartbeats 2000000 in
theorem val_option (r d q0 : Nat) (S : Nat → Prop) (R : Nat) (A : Option Addr) (c : Nat) (l : List UInt8) (m sz : Nat) (a0 : Ty) (b o c0 k0 : Nat) (A0 : Option Addr) (w : World) (hV : VOk r) (hr6 : r ≤ 6) (h0 : measureT r a0 = some q0) (hbl : b < w.heap.size)
    (g0 : w.cell? ⟨b, o, none⟩ = some (.int .i64 a0.kind)) (g1 : w.cell? ⟨b, o + 1, none⟩ = some (.slice A0 a0.args.length k0))
    (T0 : TyAt w S d (.agg #[.int .i64 a0.kind, .slice A0 a0.args.length k0]) a0) (hS : ∀ b, S b → b ≠ R) (h : Rdr w R A c l m sz) (hsz : sz ≤ 2000) :
    Calls Tryd.prog 19 #[.pointer (some ⟨R, 0, none⟩), .agg #[.int .i64 9, .slice (some ⟨b, o, none⟩) 1 c0]] w fun e w' => ROut R A c l (fun w' S v V => VAt w' S (r + 1) v V) JunkV w e w' (getO (getV r a0 l) (leastT r a0) l m sz) := by
  have HV := Lib.hid hV
  have HS := Lib.hid hS
  have hRl := h.lt
  have HR := Lib.hid h
  have hb2 := ((Below.refl w.heap.size w).alloc (Nat.le_refl _) (.cells #[.int .i64 9, .slice (some ⟨b, o, none⟩) 1 c0] 38)).alloc (by simp) (.cells #[.int .i64 9, .int .i64 0, .string ⟨#[]⟩, .complex .f64 0 0, .slice none 0 0] 32)
  have hx0 : ((w.alloc (.cells #[.int .i64 9, .slice (some ⟨b, o, none⟩) 1 c0] 38)).alloc (.cells #[.int .i64 9, .int .i64 0, .string ⟨#[]⟩, .complex .f64 0 0, .slice none 0 0] 32)).heap[w.heap.size]? = some (.cells #[.int .i64 9, .slice (some ⟨b, o, none⟩) 1 c0] 38 (0, 0)) := heap_alloc_some (heap_alloc_new w _)
  have hx1 : ((w.alloc (.cells #[.int .i64 9, .slice (some ⟨b, o, none⟩) 1 c0] 38)).alloc (.cells #[.int .i64 9, .int .i64 0, .string ⟨#[]⟩, .complex .f64 0 0, .slice none 0 0] 32)).heap[w.heap.size + 1]? = some (.cells #[.int .i64 9, .int .i64 0, .string ⟨#[]⟩, .complex .f64 0 0, .slice none 0 0] 32 (0, 0)) := heap_new_at (by simp)
  have H0 := Lib.hid h0
  have HX0 := Lib.hid hx0
  have HX1 := Lib.hid hx1
  have HT0 := Lib.hid (T0.below hb2)
  have HR0 := Lib.hid (HR.out.below hb2)
  have E0 := Lib.hid ((hb2.cell (p := ⟨b, o, none⟩) hbl).trans g0)
  have E1 := Lib.hid ((hb2.cell (p := ⟨b, o + 1, none⟩) hbl).trans g1)
  clear hV h0 hS h hx0 hx1 T0 g0 g1
  have hbl2 : b < w.heap.size + 1 := by omega
  have e0 := E0.out
  have e1 := E1.out
  go_enter Tryd.func19, Tryd.ntmps19
  go_wp2_with (fail)
  clear e0 e1
  obtain ⟨w0, hw0⟩ : ∃ w0, w0 = (w.alloc (.cells #[.int .i64 9, .slice (some ⟨b, o, none⟩) 1 c0] 38)).alloc (.cells #[.int .i64 9, .int .i64 0, .string ⟨#[]⟩, .complex .f64 0 0, .slice none 0 0] 32) := ⟨_, rfl⟩
  have hsz0 : w0.heap.size = w.heap.size + 2 := by rw [hw0]; simp
  rw [← hw0] at hb2 HX0 HX1 HT0 HR0 E0 E1
  rw [← hw0]
  clear hw0
  have hRw : R < w0.heap.size := by omega
  refine (option_any r d q0 S R A c l m sz _ a0 w0 HV.out hr6 H0.out HT0.out HS.out HR0.out hsz).mono ?_
  cases hg : getO (getV r a0 l) (leastT r a0) l m sz with
  | mk m' o' =>
  cases o' with
  | none =>
    have HF := Lib.hid hg
    clear hg
    rintro e w2 ⟨⟨v, ⟨kk, ii, ss, xx, yy, AA, nn, cc, rfl⟩, rfl⟩, ho, sz', hr⟩
    have HR2 := Lib.hid hr
    have hs2 := ho.size
    have hy := (ho.block (w.heap.size + 1) (by omega) (by simp; omega)).trans HX1.out
    have d0 := cell5_0 hy
    have d1 := cell5_1 hy
    have d2 := cell5_2 hy
    have d3 := cell5_3 hy
    have d4 := cell5_4 hy
    have f0 := cell3_f hy 0
    have f1 := cell3_f hy 1
    have f2 := cell3_f hy 2
    have f3 := cell3_f hy 3
    have f4 := cell3_f hy 4
    have hl := cell_lt hy
    have hrl := hr.le
    have HYZ := Lib.hid hy
    clear hr hy
    go_wp2_with (fail)
    have HY := put5_heap (b0 := .int .i64 kk) (b1 := .int .i64 ii) (b2 := .string ss) (b3 := .complex .f64 xx yy) (b4 := .slice AA nn cc) HYZ.out
    have x0 := cell5_0 HY
    have x1 := cell5_1 HY
    have x2 := cell5_2 HY
    have x3 := cell5_3 HY
    have x4 := cell5_4 HY
    clear HY
    refine bodyPost_ret (v := .tuple #[.agg #[.int .i64 kk, .int .i64 ii, .string ss, .complex .f64 xx yy, .slice AA nn cc], .bool false]) (by simp [results, Tryd.results19, go_sem, d0, d1, d2, d3, d4, x0, x1, x2, x3, x4]) rfl ?_
    rw [HF.out]
    have hOO := (Only.of_below hb2).trans ho
    have hBX := HR2.out.box
    refine out_bad (sz' := sz') ⟨_, _, _, _, _, _, _, _, rfl⟩ ?_ (fun hO => HR.out.moved hO ?_ hrl)
    · (repeat' (first | with_reducible assumption | with_reducible refine Only.more ?_ | with_reducible refine Only.far ?_ ?_ | (show w.heap.size ≤ w.heap.size + 1; omega)))
    · (repeat' (first | with_reducible assumption | with_reducible refine heap_alloc_some ?_ | with_reducible refine heap_set_some ?_ ?_ | (show R ≠ w.heap.size + 1; omega)))
  | some p =>
    obtain ⟨V0, sz1⟩ := p
    have HF := Lib.hid hg
    clear hg
    rintro e w2 ⟨⟨v, hv, rfl⟩, ho, hr, hsz1⟩
    obtain ⟨Aw, cw, xw, yw, rfl, _, _⟩ := hv.form
    have HVB := Lib.hid hv
    have HR2 := Lib.hid hr
    have hs2 := ho.size
    have hy := (ho.block (w.heap.size + 1) (by omega) (by simp; omega)).trans HX1.out
    have d0 := cell5_0 hy
    have d1 := cell5_1 hy
    have d2 := cell5_2 hy
    have d3 := cell5_3 hy
    have d4 := cell5_4 hy
    have f0 := cell3_f hy 0
    have f1 := cell3_f hy 1
    have f2 := cell3_f hy 2
    have f3 := cell3_f hy 3
    have f4 := cell3_f hy 4
    have hl := cell_lt hy
    have hrl := hr.le
    have HYZ := Lib.hid hy
    clear hr hy hv
    go_wp2_with (fail)
    have HY := put5_heap (b0 := .int .i64 V0.kind) (b1 := .int .i64 V0.int) (b2 := .string V0.text) (b3 := .complex .f64 xw yw) (b4 := .slice Aw V0.list.length cw) HYZ.out
    have x0 := cell5_0 HY
    have x1 := cell5_1 HY
    have x2 := cell5_2 HY
    have x3 := cell5_3 HY
    have x4 := cell5_4 HY
    clear HY
    refine bodyPost_ret (v := .tuple #[.agg #[.int .i64 V0.kind, .int .i64 V0.int, .string V0.text, .complex .f64 xw yw, .slice Aw V0.list.length cw], .bool true]) (by simp [results, Tryd.results19, go_sem, d0, d1, d2, d3, d4, x0, x1, x2, x3, x4]) rfl ?_
    rw [HF.out]
    have hOO := (Only.of_below hb2).trans ho
    have hBX := HR2.out.box
    refine out_good (HVB.out.move fun b hb hl => ⟨by have hb' : w0.heap.size ≤ b := hb; show w.heap.size ≤ b; omega, fun o => World.cell?_of_block ?_⟩) ?_ (fun hO => HR.out.moved hO ?_ hrl) hsz1
    · have hne : b ≠ w.heap.size + 1 := by have hb' : w0.heap.size ≤ b := hb; omega
      repeat rw [Below.heap_setCell _ _ _ _ hne]
    · (repeat' (first | with_reducible assumption | with_reducible refine Only.more ?_ | with_reducible refine Only.far ?_ ?_ | (show w.heap.size ≤ w.heap.size + 1; omega)))
    · (repeat' (first | with_reducible assumption | with_reducible refine heap_alloc_some ?_ | with_reducible refine heap_set_some ?_ ?_ | (show R ≠ w.heap.size + 1; omega)))

theorem word_kinds : ∀ x ∈ words, (x.kind = 1 ∧ x.args = 0) ∨ (x.kind = 2 ∧ x.args = 0) ∨ (x.kind = 3 ∧ x.args = 0) ∨ (x.kind = 4 ∧ x.args = 0) ∨ (x.kind = 5 ∧ x.args = 0) ∨ (x.kind = 6 ∧ x.args = 2) ∨ (x.kind = 7 ∧ x.args = 1) ∨ (x.kind = 9 ∧ x.args = 1) := by decide
theorem list_one {α : Type} {l : List α} (h : l.length = 1) : ∃ a, l = [a] := by
  match l, h with
  | [a], _ => exact ⟨a, rfl⟩

theorem val_any : ∀ r : Nat, VOk r
  | 0 => fun d S q R A c l m sz v t w _ hm _ _ _ _ => by simp [measureT] at hm
  | r + 1 => fun d S q R A c l m sz v t w hr6 hm hT hS h hsz => by
    obtain ⟨x, hw, hxa, hxw, hall⟩ := measure_right hm
    obtain ⟨_, hxk⟩ := wordK_mem hw
    have IH := val_any r
    cases d with
    | zero => exact hT.elim
    | succ d =>
    obtain ⟨A1, c1, rfl, hlc, hA⟩ := hT
    rcases word_kinds x hxw with ⟨hk, ha⟩ | ⟨hk, ha⟩ | ⟨hk, ha⟩ | ⟨hk, ha⟩ | ⟨hk, ha⟩ | ⟨hk, ha⟩ | ⟨hk, ha⟩ | ⟨hk, ha⟩ <;> rw [hxk] at hk
    · rw [hk, show getV (r + 1) t l m sz = leafV boolV sz (numL l 1 0 m 1) by simp only [getV, hk]; rfl]
      exact val_bool r R A c l m sz A1 _ c1 w h hsz
    · rw [hk, show getV (r + 1) t l m sz = leafV intV sz (numL l 8 0 m 255) by simp only [getV, hk]; rfl]
      exact val_int r R A c l m sz A1 _ c1 w h hsz
    · rw [hk, show getV (r + 1) t l m sz = leafV (textV 3) sz (textL l (l.length + 1 - m) [] false m) by simp only [getV, hk]; rfl]
      exact val_text r R A c l m sz A1 _ c1 w h hsz
    · rw [hk, show getV (r + 1) t l m sz = leafV (textV 4) sz (textL l (l.length + 1 - m) [] false m) by simp only [getV, hk]; rfl]
      exact val_bytes r R A c l m sz A1 _ c1 w h hsz
    · rw [hk, show getV (r + 1) t l m sz = leafV pointV sz (pointL l m) by simp only [getV, hk]; rfl]
      exact val_point r R A c l m sz A1 _ c1 w h hsz
    · have h2 : t.args.length = 2 := by omega
      obtain ⟨a0, a1, hl⟩ := list_two h2
      obtain ⟨b, o, rfl, hSb, hcells⟩ := hA (by omega)
      obtain ⟨q0, hq0⟩ := hall a0 (by rw [hl]; simp)
      obtain ⟨q1, hq1⟩ := hall a1 (by rw [hl]; simp)
      obtain ⟨B0, k0, g0, g1, T0, hbl⟩ := arg_cells hcells (j := 0) (by omega)
      obtain ⟨B1, k1, g2, g3, T1, _⟩ := arg_cells hcells (j := 1) (by omega)
      simp only [hl, List.getElem_cons_zero, List.getElem_cons_succ, Nat.zero_mul, Nat.add_zero, Nat.one_mul] at g0 g1 g2 g3 T0 T1
      rw [hk, h2, show getV (r + 1) t l m sz = listV 6 (getP (getV r a0 l) (getV r a1 l) m sz) by simp only [getV, hk, argT, hl]; rfl]
      exact val_pair r d q0 q1 S R A c l m sz a0 a1 b o c1 k0 k1 B0 B1 w IH (by omega) hq0 hq1 hbl (hS b hSb) g0 g1 g2 g3 T0 T1 hS h hsz
    · have h1 : t.args.length = 1 := by omega
      obtain ⟨a0, hl⟩ := list_one h1
      obtain ⟨b, o, rfl, hSb, hcells⟩ := hA (by omega)
      obtain ⟨q0, hq0⟩ := hall a0 (by rw [hl]; simp)
      obtain ⟨B0, k0, g0, g1, T0, hbl⟩ := arg_cells hcells (j := 0) (by omega)
      simp only [hl, List.getElem_cons_zero, Nat.zero_mul, Nat.add_zero] at g0 g1 T0
      rw [hk, h1, show getV (r + 1) t l m sz = listV 7 (getL (getV r a0 l) (leastT r a0) l 65 [] m sz) by simp only [getV, hk, argT, hl]; rfl]
      exact val_list r d q0 S R A c l m sz a0 b o c1 k0 B0 w IH (by omega) hq0 hbl g0 g1 T0 hS h hsz
    · have h1 : t.args.length = 1 := by omega
      obtain ⟨a0, hl⟩ := list_one h1
      obtain ⟨b, o, rfl, hSb, hcells⟩ := hA (by omega)
      obtain ⟨q0, hq0⟩ := hall a0 (by rw [hl]; simp)
      obtain ⟨B0, k0, g0, g1, T0, hbl⟩ := arg_cells hcells (j := 0) (by omega)
      simp only [hl, List.getElem_cons_zero, Nat.zero_mul, Nat.add_zero] at g0 g1 T0
      rw [hk, h1, show getV (r + 1) t l m sz = getO (getV r a0 l) (leastT r a0) l m sz by simp only [getV, hk, argT, hl]; rfl]
      exact val_option r d q0 S R A c l m sz a0 b o c1 k0 B0 w IH (by omega) hq0 hbl g0 g1 T0 hS h hsz
end Go.Proofs.YtbafplnolmdlnaaDoor
