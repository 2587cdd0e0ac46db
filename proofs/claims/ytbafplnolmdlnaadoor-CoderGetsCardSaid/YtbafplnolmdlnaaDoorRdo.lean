/-
The reader of package coder: readOption.
-/
import Derived.Test.YtbafplnolmdlnaaDoorRdv
namespace Go.Proofs.YtbafplnolmdlnaaDoor
open Go.RowKit

theorem Rdr.moved {w W : World} {R : Nat} {A : Option Addr} {c : Nat} {l : List UInt8} {m sz m' sz' : Nat} (h : Rdr w R A c l m sz) (ho : Only R w W) (hb : W.heap[R]? = some (.cells #[.slice A l.length c, .int .i64 (m' : Int), .int .i64 (sz' : Int)] 54 (0, 0))) (hm : m' ≤ l.length) : Rdr W R A c l m' sz' :=
  ⟨hb, h.bytes.move fun b hb hl => ⟨hb, fun _ => World.cell?_of_block (ho.block b hl (by simpa using hb))⟩, hm, h.len⟩
theorem Only.far {R : Nat} {w w' : World} {p : Addr} {u : Value} (hp : w.heap.size ≤ p.block) (h : Only R w w') : Only R w (w'.setCell p u) := only_far h hp u
theorem Only.more {R : Nat} {w w' : World} {o : Obj} (h : Only R w w') : Only R w (w'.alloc o) := only_alloc' h o
theorem heap_new_at {X : World} {cs : Array Value} {t : TypeId} {g : Nat} (h : X.heap.size = g) : (X.alloc (.cells cs t)).heap[g]? = some (.cells cs t (0, 0)) := by subst h; exact heap_alloc_new X _
theorem heap_alloc_some {w : World} {k : Nat} {o ob : Obj} (h : w.heap[k]? = some ob) : (w.alloc o).heap[k]? = some ob := (Below.heap_alloc w o k (Array.getElem?_eq_some_iff.1 h).1).trans h
theorem heap_set_some {w : World} {k : Nat} {p : Addr} {u : Value} {ob : Obj} (hk : k ≠ p.block) (h : w.heap[k]? = some ob) : (w.setCell p u).heap[k]? = some ob := (Below.heap_setCell w p u k hk).trans h

set_option maxRecDepth 100000 in
set_option maxHeartbeats 2000000 in
theorem option_any (r d q : Nat) (S : Nat → Prop) (R : Nat) (A : Option Addr) (c : Nat) (l : List UInt8) (m sz : Nat) (v : Value) (t : Ty) (w : World) (hV : VOk r) (hr6 : r ≤ 6) (hm : measureT r t = some q) (hT : TyAt w S d v t) (hS : ∀ b, S b → b ≠ R) (h : Rdr w R A c l m sz) (hsz : sz ≤ 2000) :
    Calls Tryd.prog 35 #[.pointer (some ⟨R, 0, none⟩), v] w fun e w' => ROut R A c l (fun w' S v V => VAt w' S (r + 1) v V) JunkV w e w' (getO (getV r t l) (leastT r t) l m sz) := by
  have HV := Lib.hid hV
  have HM := Lib.hid hm
  have HS := Lib.hid hS
  have hRl := h.lt
  have HR := Lib.hid h
  have HT := Lib.hid hT
  obtain ⟨A0, c0, rfl⟩ := hT.form
  have hb2 := ((Below.refl w.heap.size w).alloc (Nat.le_refl _) (.cells #[.int .i64 t.kind, .slice A0 t.args.length c0] 38)).alloc (by simp) (.cells #[.int .i64 0, .int .i64 0, .string ⟨#[]⟩, .complex .f64 0 0, .slice none 0 0] 32)
  have hx0 := (Below.heap_alloc (w.alloc (.cells #[.int .i64 t.kind, .slice A0 t.args.length c0] 38)) (.cells #[.int .i64 0, .int .i64 0, .string ⟨#[]⟩, .complex .f64 0 0, .slice none 0 0] 32) w.heap.size (by simp)).trans (heap_alloc_new w _)
  have hx1 : ((w.alloc (.cells #[.int .i64 t.kind, .slice A0 t.args.length c0] 38)).alloc (.cells #[.int .i64 0, .int .i64 0, .string ⟨#[]⟩, .complex .f64 0 0, .slice none 0 0] 32)).heap[w.heap.size + 1]? = some (.cells #[.int .i64 0, .int .i64 0, .string ⟨#[]⟩, .complex .f64 0 0, .slice none 0 0] 32 (0, 0)) := by simpa using heap_alloc_new (w.alloc (.cells #[.int .i64 t.kind, .slice A0 t.args.length c0] 38)) (.cells #[.int .i64 0, .int .i64 0, .string ⟨#[]⟩, .complex .f64 0 0, .slice none 0 0] 32)
  have HX0 := Lib.hid hx0
  have HX1 := Lib.hid hx1
  clear hV hm hS h hT hx0 hx1
  go_enter Tryd.func35, Tryd.ntmps35
  go_wp2_with (fail)
  obtain ⟨w0, hw0⟩ : ∃ w0, w0 = (w.alloc (.cells #[.int .i64 t.kind, .slice A0 t.args.length c0] 38)).alloc (.cells #[.int .i64 0, .int .i64 0, .string ⟨#[]⟩, .complex .f64 0 0, .slice none 0 0] 32) := ⟨_, rfl⟩
  have hsz0 : w0.heap.size = w.heap.size + 2 := by rw [hw0]; simp
  rw [← hw0] at hb2 HX0 HX1
  rw [← hw0]
  clear hw0
  have hRw : R < w0.heap.size := by omega
  refine (more_any r d q S R A c l m sz _ t true w0 hr6 HM.out (HT.out.below hb2) (HR.out.below hb2) hsz).mono ?_
  cases hx : okB l m (mostM true (sz + leastT r t)) with
  | none =>
    have HF : Hid (getO (getV r t l) (leastT r t) l m sz = (m, none)) := by show _ = _; simp only [getO, hx]
    clear hx
    rintro e w2 ⟨rfl, ho, hr⟩
    have HR2 := Lib.hid hr
    have hs2 := ho.size
    have hy := (ho.block (w.heap.size + 1) (by omega) (by simp; omega)).trans HX1.out
    have d0 := cell5_0 hy
    have d1 := cell5_1 hy
    have d2 := cell5_2 hy
    have d3 := cell5_3 hy
    have d4 := cell5_4 hy
    have f0 := cell3_f hy 0
    have f1 := cell3_f hy 1
    have f2 := cell3_f hy 2
    have f3 := cell3_f hy 3
    have f4 := cell3_f hy 4
    have hl := cell_lt hy
    clear hr hy
    go_wp2_with (fail)
    refine bodyPost_ret (v := .tuple #[.agg #[.int .i64 8, .int .i64 0, .string ⟨#[]⟩, .complex .f64 0 0, .slice none 0 0], .bool false]) (by simp [results, Tryd.results35, go_sem, d0, d1, d2, d3, d4]) rfl ?_
    rw [HF.out]
    have hOO := (Only.of_below hb2).trans ho
    have hBX := HR2.out.box
    refine out_bad (sz' := sz) ⟨_, _, _, _, _, _, _, _, rfl⟩ ?_ (fun hO => HR.out.moved hO ?_ HR2.out.le)
    · repeat' (first | with_reducible assumption | with_reducible refine Only.more ?_ | with_reducible refine Only.far ?_ ?_ | (show w.heap.size ≤ w.heap.size + 1; omega))
    · repeat' (first | with_reducible assumption | with_reducible refine heap_alloc_some ?_ | with_reducible refine heap_set_some ?_ ?_ | (show R ≠ w.heap.size + 1; omega))
  | some x =>
    by_cases hx1 : x.toNat = 1
    · have HX := Lib.hid hx
      have HX1' := Lib.hid hx1
      have HGO : Hid (getO (getV r t l) (leastT r t) l m sz = optV (getV r t l (m + 1) (sz + leastT r t))) := by show _ = _; simp only [getO, hx, if_pos hx1]
      have hsz2 : sz + leastT r t ≤ 2000 := by
        have := (okB_some hx).2.1
        unfold mostM at this
        split at this
        · rename_i hh; exact hh.2
        · omega
      rintro e w2 hmo
      simp only [MoOut, if_pos hx1] at hmo
      obtain ⟨rfl, ho, hr⟩ := hmo
      have HR2 := Lib.hid hr
      have hs2 := ho.size
      have hy0 := (ho.block w.heap.size (by omega) (by simp; omega)).trans HX0.out
      have HY1 := Lib.hid ((ho.block (w.heap.size + 1) (by omega) (by simp; omega)).trans HX1.out)
      have e0 := cell2_0 hy0
      have e1 := cell2_1 hy0
      have hl0 := cell_lt hy0
      have HT2 := Lib.hid ((HT.out.below hb2).only HS.out ho)
      clear hr hy0 hx hx1
      go_wp2_with (fail)
      clear e0 e1
      refine (HV.out d S q R A c l (m + 1) (sz + leastT r t) _ t w2 hr6 HM.out HT2.out HS.out HR2.out hsz2).mono ?_
      cases hg : getV r t l (m + 1) (sz + leastT r t) with
      | mk m' o =>
      cases o with
      | none =>
        have HF : Hid (getO (getV r t l) (leastT r t) l m sz = (m', none)) := by show _ = _; rw [HGO.out, hg]; rfl
        clear hg
        rintro e w3 ⟨⟨v, ⟨kk, ii, ss, xx, yy, AA, nn, cc, rfl⟩, rfl⟩, ho3, sz', hr⟩
        have HR3 := Lib.hid hr
        have hs3 := ho3.size
        have hy := (ho3.block (w.heap.size + 1) (by omega) (by simp; omega)).trans HY1.out
        have d0 := cell5_0 hy
        have d1 := cell5_1 hy
        have d2 := cell5_2 hy
        have d3 := cell5_3 hy
        have d4 := cell5_4 hy
        have f0 := cell3_f hy 0
        have f1 := cell3_f hy 1
        have f2 := cell3_f hy 2
        have f3 := cell3_f hy 3
        have f4 := cell3_f hy 4
        have hl := cell_lt hy
        have hr3l := hr.le
        have hlz : w.heap.size < w3.heap.size := by omega
        clear hr hy
        go_wp2_with (fail)
        refine bodyPost_ret (v := .tuple #[.agg #[.int .i64 9, .int .i64 0, .string ⟨#[]⟩, .complex .f64 0 0, .slice (some ⟨w3.heap.size + 1, 0, none⟩) 1 1], .bool false]) (by simp [results, Tryd.results35, go_sem, d0, d1, d2, d3, d4, hl, Nat.lt_succ_of_lt hl]) rfl ?_
        rw [HF.out]
        have hOO := ((Only.of_below hb2).trans ho).trans ho3
        have hBX := HR3.out.box
        refine out_bad (sz' := sz') ⟨_, _, _, _, _, _, _, _, rfl⟩ ?_ (fun hO => HR.out.moved hO ?_ hr3l)
        · repeat' (first | with_reducible assumption | with_reducible refine Only.more ?_ | with_reducible refine Only.far ?_ ?_ | (show w.heap.size ≤ w.heap.size + 1; omega))
        · repeat' (first | with_reducible assumption | with_reducible refine heap_alloc_some ?_ | with_reducible refine heap_set_some ?_ ?_ | (show R ≠ w.heap.size + 1; omega))
      | some p =>
        obtain ⟨V0, sz1⟩ := p
        have HF : Hid (getO (getV r t l) (leastT r t) l m sz = (m', some (.mk 9 0 ⟨#[]⟩ 0 0 [V0], sz1))) := by show _ = _; rw [HGO.out, hg]; rfl
        clear hg
        rintro e w3 ⟨⟨v, hv, rfl⟩, ho3, hr, hsz1⟩
        obtain ⟨Aw, cw, xw, yw, rfl, _, _⟩ := hv.form
        have HVB := Lib.hid hv
        have HR3 := Lib.hid hr
        have hs3 := ho3.size
        have hy := (ho3.block (w.heap.size + 1) (by omega) (by simp; omega)).trans HY1.out
        have d0 := cell5_0 hy
        have d1 := cell5_1 hy
        have d2 := cell5_2 hy
        have d3 := cell5_3 hy
        have d4 := cell5_4 hy
        have f0 := cell3_f hy 0
        have f1 := cell3_f hy 1
        have f2 := cell3_f hy 2
        have f3 := cell3_f hy 3
        have f4 := cell3_f hy 4
        have hl := cell_lt hy
        have hr3l := hr.le
        have hlz : w.heap.size < w3.heap.size := by omega
        clear hr hy hv
        go_wp2_with (fail)
        refine bodyPost_ret (v := .tuple #[.agg #[.int .i64 9, .int .i64 0, .string ⟨#[]⟩, .complex .f64 0 0, .slice (some ⟨w3.heap.size + 1, 0, none⟩) 1 1], .bool true]) (by simp [results, Tryd.results35, go_sem, d0, d1, d2, d3, d4, hl, Nat.lt_succ_of_lt hl]) rfl ?_
        rw [HF.out]
        have hOO := ((Only.of_below hb2).trans ho).trans ho3
        have hBX := HR3.out.box
        refine out_good (VAt.of_list 9 (lat_one (g := w3.heap.size + 1) (t := 32) (x0 := .int .i64 V0.kind) (x1 := .int .i64 V0.int) (x2 := .string V0.text) (x3 := .complex .f64 xw yw) (x4 := .slice Aw V0.list.length cw) ?_ ?_ ?_)) ?_ (fun hO => HR.out.moved hO ?_ hr3l) hsz1
        · exact heap_new_at (by simp)
        · show w.heap.size ≤ w3.heap.size + 1; omega
        · refine HVB.out.move fun b hb hl => ?_
          have hb' : w2.heap.size ≤ b := hb
          have hne : b ≠ w.heap.size + 1 := by omega
          refine ⟨by show w.heap.size ≤ b; omega, fun o => World.cell?_of_block ?_⟩
          rw [Below.heap_alloc _ _ _ (by simp; omega), Below.heap_alloc _ _ _ (by simpa using hl), Below.heap_setCell _ _ _ _ hne, Below.heap_setCell _ _ _ _ hne, Below.heap_setCell _ _ _ _ hne, Below.heap_setCell _ _ _ _ hne, Below.heap_setCell _ _ _ _ hne]
        · repeat' (first | with_reducible assumption | with_reducible refine Only.more ?_ | with_reducible refine Only.far ?_ ?_ | (show w.heap.size ≤ w.heap.size + 1; omega))
        · repeat' (first | with_reducible assumption | with_reducible refine heap_alloc_some ?_ | with_reducible refine heap_set_some ?_ ?_ | (show R ≠ w.heap.size + 1; omega))
    · have HF : Hid (getO (getV r t l) (leastT r t) l m sz = (m + 1, some (.mk 8 0 ⟨#[]⟩ 0 0 [], sz))) := by show _ = _; simp only [getO, hx, if_neg hx1]
      rintro e w2 hmo
      simp only [MoOut, if_neg hx1] at hmo
      obtain ⟨rfl, ho, hr⟩ := hmo
      have HR2 := Lib.hid hr
      have hs2 := ho.size
      have hy := (ho.block (w.heap.size + 1) (by omega) (by simp; omega)).trans HX1.out
      have d0 := cell5_0 hy
      have d1 := cell5_1 hy
      have d2 := cell5_2 hy
      have d3 := cell5_3 hy
      have d4 := cell5_4 hy
      have f0 := cell3_f hy 0
      have f1 := cell3_f hy 1
      have f2 := cell3_f hy 2
      have f3 := cell3_f hy 3
      have f4 := cell3_f hy 4
      have hl := cell_lt hy
      have hr3l := hr.le
      clear hr hy hx hx1
      go_wp2_with (fail)
      refine bodyPost_ret (v := .tuple #[.agg #[.int .i64 8, .int .i64 0, .string ⟨#[]⟩, .complex .f64 0 0, .slice none 0 0], .bool true]) (by simp [results, Tryd.results35, go_sem, d0, d1, d2, d3, d4]) rfl ?_
      rw [HF.out]
      have hOO := (Only.of_below hb2).trans ho
      have hBX := HR2.out.box
      refine out_good (VAt.of_leaf float_zero float_zero) ?_ (fun hO => HR.out.moved hO ?_ hr3l) hsz
      · repeat' (first | with_reducible assumption | with_reducible refine Only.more ?_ | with_reducible refine Only.far ?_ ?_ | (show w.heap.size ≤ w.heap.size + 1; omega))
      · repeat' (first | with_reducible assumption | with_reducible refine heap_alloc_some ?_ | with_reducible refine heap_set_some ?_ ?_ | (show R ≠ w.heap.size + 1; omega))
end Go.Proofs.YtbafplnolmdlnaaDoor
