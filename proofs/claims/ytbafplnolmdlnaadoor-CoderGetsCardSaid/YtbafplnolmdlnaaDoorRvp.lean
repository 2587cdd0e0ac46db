/-
readValue: pairs.
-/
import Derived.Test.YtbafplnolmdlnaaDoorRva
namespace Go.Proofs.YtbafplnolmdlnaaDoor
open Go.RowKit

set_option maxRecDepth 100000 in
set_option maxHeartbeats 2000000 in
theorem val_pair (r d q0 q1 : Nat) (S : Nat → Prop) (R : Nat) (A : Option Addr) (c : Nat) (l : List UInt8) (m sz : Nat) (a0 a1 : Ty) (b o c0 k0 k1 : Nat) (A0 A1 : Option Addr) (w : World) (hV : VOk r) (hr6 : r ≤ 6) (h0 : measureT r a0 = some q0) (h1 : measureT r a1 = some q1) (hbl : b < w.heap.size) (hbR : b ≠ R)
    (g0 : w.cell? ⟨b, o, none⟩ = some (.int .i64 a0.kind)) (g1 : w.cell? ⟨b, o + 1, none⟩ = some (.slice A0 a0.args.length k0)) (g2 : w.cell? ⟨b, o + 2, none⟩ = some (.int .i64 a1.kind)) (g3 : w.cell? ⟨b, o + 3, none⟩ = some (.slice A1 a1.args.length k1))
    (T0 : TyAt w S d (.agg #[.int .i64 a0.kind, .slice A0 a0.args.length k0]) a0) (T1 : TyAt w S d (.agg #[.int .i64 a1.kind, .slice A1 a1.args.length k1]) a1) (hS : ∀ b, S b → b ≠ R) (h : Rdr w R A c l m sz) (hsz : sz ≤ 2000) :
    Calls Tryd.prog 19 #[.pointer (some ⟨R, 0, none⟩), .agg #[.int .i64 6, .slice (some ⟨b, o, none⟩) 2 c0]] w fun e w' => ROut R A c l (fun w' S v V => VAt w' S (r + 1) v V) JunkV w e w' (listV 6 (getP (getV r a0 l) (getV r a1 l) m sz)) := by
  have HV := Lib.hid hV
  have HS := Lib.hid hS
  have hRl := h.lt
  have HR := Lib.hid h
  have hb2 := ((Below.refl w.heap.size w).alloc (Nat.le_refl _) (.cells #[.int .i64 6, .slice (some ⟨b, o, none⟩) 2 c0] 38)).alloc (by simp) (.cells #[.int .i64 6, .int .i64 0, .string ⟨#[]⟩, .complex .f64 0 0, .slice none 0 0] 32)
  have hx0 : ((w.alloc (.cells #[.int .i64 6, .slice (some ⟨b, o, none⟩) 2 c0] 38)).alloc (.cells #[.int .i64 6, .int .i64 0, .string ⟨#[]⟩, .complex .f64 0 0, .slice none 0 0] 32)).heap[w.heap.size]? = some (.cells #[.int .i64 6, .slice (some ⟨b, o, none⟩) 2 c0] 38 (0, 0)) := heap_alloc_some (heap_alloc_new w _)
  have hx1 : ((w.alloc (.cells #[.int .i64 6, .slice (some ⟨b, o, none⟩) 2 c0] 38)).alloc (.cells #[.int .i64 6, .int .i64 0, .string ⟨#[]⟩, .complex .f64 0 0, .slice none 0 0] 32)).heap[w.heap.size + 1]? = some (.cells #[.int .i64 6, .int .i64 0, .string ⟨#[]⟩, .complex .f64 0 0, .slice none 0 0] 32 (0, 0)) := heap_new_at (by simp)
  have H0 := Lib.hid h0
  have H1 := Lib.hid h1
  have HX0 := Lib.hid hx0
  have HX1 := Lib.hid hx1
  have HT0 := Lib.hid (T0.below hb2)
  have HT1 := Lib.hid (T1.below hb2)
  have HR0 := Lib.hid (HR.out.below hb2)
  have E0 := Lib.hid ((hb2.cell (p := ⟨b, o, none⟩) hbl).trans g0)
  have E1 := Lib.hid ((hb2.cell (p := ⟨b, o + 1, none⟩) hbl).trans g1)
  have E2 := Lib.hid ((hb2.cell (p := ⟨b, o + 2, none⟩) hbl).trans g2)
  have E3 := Lib.hid ((hb2.cell (p := ⟨b, o + 3, none⟩) hbl).trans g3)
  clear hV h0 h1 hS h hx0 hx1 T0 T1 g0 g1 g2 g3
  go_enter Tryd.func19, Tryd.ntmps19
  go_wp2_with (fail)
  obtain ⟨w0, hw0⟩ : ∃ w0, w0 = (w.alloc (.cells #[.int .i64 6, .slice (some ⟨b, o, none⟩) 2 c0] 38)).alloc (.cells #[.int .i64 6, .int .i64 0, .string ⟨#[]⟩, .complex .f64 0 0, .slice none 0 0] 32) := ⟨_, rfl⟩
  have hsz0 : w0.heap.size = w.heap.size + 2 := by rw [hw0]; simp
  rw [← hw0] at hb2 HX0 HX1 HT0 HT1 HR0 E0 E1 E2 E3
  rw [← hw0]
  clear hw0
  have hRw : R < w0.heap.size := by omega
  have hbw : b < w0.heap.size := by omega
  have e0 := E0.out
  have e1 := E1.out
  have e2 := E2.out
  have e3 := E3.out
  have e5 := cell2_1 HX0.out
  cases hg : getP (getV r a0 l) (getV r a1 l) m sz with
  | mk m' o' =>
  cases o' with
  | none =>
    have HF : Hid (listV 6 (getP (getV r a0 l) (getV r a1 l) m sz) = (m', none)) := by show _ = _; rw [hg]; rfl
    have HG := Lib.hid hg
    clear hg
    go_region_held3 (fun w' => w'.cell? ⟨w.heap.size, 1, none⟩ = some (.slice (some ⟨b, o, none⟩) 2 c0) ∧ w'.cell? ⟨b, o, none⟩ = some (.int .i64 a0.kind) ∧ w'.cell? ⟨b, o + 1, none⟩ = some (.slice A0 a0.args.length k0) ∧ w'.cell? ⟨b, o + 2, none⟩ = some (.int .i64 a1.kind) ∧ w'.cell? ⟨b, o + 3, none⟩ = some (.slice A1 a1.args.length k1))
      (((refine ⟨?_, ?_, ?_, ?_, ?_⟩ <;> (repeat' (first | with_reducible assumption | with_reducible refine cell_drew_some ?_ | with_reducible refine cell_alloc_some ?_ | with_reducible refine cell_set_some ?_ ?_ | (dsimp only; omega))))))
      (first | (go_at_call 33; refine (pair_any r d q0 q1 S R A c l m sz _ _ a0 a1 w0.drew HV.out hr6 H0.out H1.out (HT0.out.below (Below.refl _ _).drew) (HT1.out.below (Below.refl _ _).drew) HS.out (HR0.out.below (Below.refl _ _).drew) hsz).mono ?_; rw [HG.out]; rintro e w2 ⟨⟨v, ⟨AA, nn, cc, rfl⟩, rfl⟩, ho, sz', hr⟩; have hO2 : Only R w0 w2 := (show Only R w0 w0.drew from (Only.refl R w0).drewN 1).trans ho; have HR2 := Lib.hid hr; have hs2 := hO2.size; have hy := (hO2.block (w.heap.size + 1) (by omega) (by simp; omega)).trans HX1.out; have d0 := cell5_0 hy; have d1 := cell5_1 hy; have d2 := cell5_2 hy; have d3 := cell5_3 hy; have d4 := cell5_4 hy; have f0 := cell3_f hy 0; have f1 := cell3_f hy 1; have f2 := cell3_f hy 2; have f3 := cell3_f hy 3; have f4 := cell3_f hy 4; have hl := cell_lt hy; have hrl := hr.le; have p1 := (World.cell?_of_block (w := w0) (a := ⟨w.heap.size, 1, none⟩) (hO2.block w.heap.size (by omega) (by simp; omega))).trans e5; have p2 := (World.cell?_of_block (w := w0) (a := ⟨b, o, none⟩) (hO2.block b hbw (by simpa using hbR))).trans e0; have p3 := (World.cell?_of_block (w := w0) (a := ⟨b, o + 1, none⟩) (hO2.block b hbw (by simpa using hbR))).trans e1; have p4 := (World.cell?_of_block (w := w0) (a := ⟨b, o + 2, none⟩) (hO2.block b hbw (by simpa using hbR))).trans e2; have p5 := (World.cell?_of_block (w := w0) (a := ⟨b, o + 3, none⟩) (hO2.block b hbw (by simpa using hbR))).trans e3; clear hr hy))
    clear p1 p2 p3 p4 p5 e0 e1 e2 e3 e5
    go_wp2_with (fail)
    refine bodyPost_ret (v := .tuple #[.agg #[.int .i64 6, .int .i64 0, .string ⟨#[]⟩, .complex .f64 0 0, .slice AA nn cc], .bool false]) (by simp [results, Tryd.results19, go_sem, d0, d1, d2, d3, d4]) rfl ?_
    rw [HF.out]
    have hOO := (Only.of_below hb2).trans hO2
    have hBX := HR2.out.box
    refine out_bad (sz' := sz') ⟨_, _, _, _, _, _, _, _, rfl⟩ ?_ (fun hO => HR.out.moved hO ?_ hrl)
    · (repeat' (first | with_reducible assumption | with_reducible refine Only.more ?_ | with_reducible refine Only.far ?_ ?_ | (show w.heap.size ≤ w.heap.size + 1; omega)))
    · (repeat' (first | with_reducible assumption | with_reducible refine heap_alloc_some ?_ | with_reducible refine heap_set_some ?_ ?_ | (show R ≠ w.heap.size + 1; omega)))
  | some p =>
    obtain ⟨vs, sz1⟩ := p
    have HF : Hid (listV 6 (getP (getV r a0 l) (getV r a1 l) m sz) = (m', some (.mk 6 0 ⟨#[]⟩ 0 0 vs, sz1))) := by show _ = _; rw [hg]; rfl
    have HG := Lib.hid hg
    clear hg
    go_region_held3 (fun w' => w'.cell? ⟨w.heap.size, 1, none⟩ = some (.slice (some ⟨b, o, none⟩) 2 c0) ∧ w'.cell? ⟨b, o, none⟩ = some (.int .i64 a0.kind) ∧ w'.cell? ⟨b, o + 1, none⟩ = some (.slice A0 a0.args.length k0) ∧ w'.cell? ⟨b, o + 2, none⟩ = some (.int .i64 a1.kind) ∧ w'.cell? ⟨b, o + 3, none⟩ = some (.slice A1 a1.args.length k1))
      (((refine ⟨?_, ?_, ?_, ?_, ?_⟩ <;> (repeat' (first | with_reducible assumption | with_reducible refine cell_drew_some ?_ | with_reducible refine cell_alloc_some ?_ | with_reducible refine cell_set_some ?_ ?_ | (dsimp only; omega))))))
      (first | (go_at_call 33; refine (pair_any r d q0 q1 S R A c l m sz _ _ a0 a1 w0.drew HV.out hr6 H0.out H1.out (HT0.out.below (Below.refl _ _).drew) (HT1.out.below (Below.refl _ _).drew) HS.out (HR0.out.below (Below.refl _ _).drew) hsz).mono ?_; rw [HG.out]; rintro e w2 ⟨⟨v, ⟨AA, cc, rfl, hcc, hLL⟩, rfl⟩, ho, hr, hsz1⟩; have HLA : Hid (LAt w2 (fun b => w0.heap.size ≤ b) r (.slice AA vs.length cc) vs) := Lib.hid ⟨AA, cc, rfl, hcc, hLL⟩; clear hLL; have hO2 : Only R w0 w2 := (show Only R w0 w0.drew from (Only.refl R w0).drewN 1).trans ho; have HR2 := Lib.hid hr; have hs2 := hO2.size; have hy := (hO2.block (w.heap.size + 1) (by omega) (by simp; omega)).trans HX1.out; have d0 := cell5_0 hy; have d1 := cell5_1 hy; have d2 := cell5_2 hy; have d3 := cell5_3 hy; have d4 := cell5_4 hy; have f0 := cell3_f hy 0; have f1 := cell3_f hy 1; have f2 := cell3_f hy 2; have f3 := cell3_f hy 3; have f4 := cell3_f hy 4; have hl := cell_lt hy; have hrl := hr.le; have p1 := (World.cell?_of_block (w := w0) (a := ⟨w.heap.size, 1, none⟩) (hO2.block w.heap.size (by omega) (by simp; omega))).trans e5; have p2 := (World.cell?_of_block (w := w0) (a := ⟨b, o, none⟩) (hO2.block b hbw (by simpa using hbR))).trans e0; have p3 := (World.cell?_of_block (w := w0) (a := ⟨b, o + 1, none⟩) (hO2.block b hbw (by simpa using hbR))).trans e1; have p4 := (World.cell?_of_block (w := w0) (a := ⟨b, o + 2, none⟩) (hO2.block b hbw (by simpa using hbR))).trans e2; have p5 := (World.cell?_of_block (w := w0) (a := ⟨b, o + 3, none⟩) (hO2.block b hbw (by simpa using hbR))).trans e3; clear hr hy))
    clear p1 p2 p3 p4 p5 e0 e1 e2 e3 e5
    go_wp2_with (fail)
    refine bodyPost_ret (v := .tuple #[.agg #[.int .i64 6, .int .i64 0, .string ⟨#[]⟩, .complex .f64 0 0, .slice AA vs.length cc], .bool true]) (by simp [results, Tryd.results19, go_sem, d0, d1, d2, d3, d4]) rfl ?_
    rw [HF.out]
    have hOO := (Only.of_below hb2).trans hO2
    have hBX := HR2.out.box
    refine out_good (VAt.of_list 6 (HLA.out.move fun b hb hl => ⟨by have hb' : w0.heap.size ≤ b := hb; show w.heap.size ≤ b; omega, fun o => World.cell?_of_block ?_⟩)) ?_ (fun hO => HR.out.moved hO ?_ hrl) hsz1
    · have hne : b ≠ w.heap.size + 1 := by have hb' : w0.heap.size ≤ b := hb; omega
      repeat rw [Below.heap_setCell _ _ _ _ hne]
    · (repeat' (first | with_reducible assumption | with_reducible refine Only.more ?_ | with_reducible refine Only.far ?_ ?_ | (show w.heap.size ≤ w.heap.size + 1; omega)))
    · (repeat' (first | with_reducible assumption | with_reducible refine heap_alloc_some ?_ | with_reducible refine heap_set_some ?_ ?_ | (show R ≠ w.heap.size + 1; omega)))
end Go.Proofs.YtbafplnolmdlnaaDoor
