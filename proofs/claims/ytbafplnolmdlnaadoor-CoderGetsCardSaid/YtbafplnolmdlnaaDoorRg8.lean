/-
The document's answer: Get, Next; small.
-/
import Derived.Test.YtbafplnolmdlnaaDoorRg3
import Derived.Test.YtbafplnolmdlnaaDoorRg5
import Derived.Test.YtbafplnolmdlnaaDoorRg6
import Derived.Test.YtbafplnolmdlnaaDoorRg7
namespace Go.Proofs.YtbafplnolmdlnaaDoor
open Go.RowKit

theorem get_any : ∀ r : Nat, GOk r
  | 0 => fun d S SB q Q A c l m sz v t w _ hm => by simp [measureT] at hm
  | r + 1 => fun d S SB q Q A c l m sz v t w hr6 hm hT hS hB hSB hlen hml hsz hQ => by
    obtain ⟨x, hw, hxa, hxw, hall⟩ := measure_right hm
    obtain ⟨_, hxk⟩ := wordK_mem hw
    have IH := get_any r
    cases d with
    | zero => exact hT.elim
    | succ d =>
    obtain ⟨A1, c1, rfl, hlc, hA⟩ := hT
    rcases word_kinds x hxw with ⟨hk, ha⟩ | ⟨hk, ha⟩ | ⟨hk, ha⟩ | ⟨hk, ha⟩ | ⟨hk, ha⟩ | ⟨hk, ha⟩ | ⟨hk, ha⟩ | ⟨hk, ha⟩ <;> rw [hxk] at hk
    · rw [hk, show getV (r + 1) t l m sz = leafV boolV sz (numL l 1 0 m 1) by simp only [getV, hk]; rfl]
      exact get_bool r Q SB A c l m sz A1 _ c1 w hB hlen hml hQ
    · rw [hk, show getV (r + 1) t l m sz = leafV intV sz (numL l 8 0 m 255) by simp only [getV, hk]; rfl]
      exact get_int r Q SB A c l m sz A1 _ c1 w hB hlen hml hQ
    · rw [hk, show getV (r + 1) t l m sz = leafV (textV 3) sz (textL l (l.length + 1 - m) [] false m) by simp only [getV, hk]; rfl]
      exact get_text r Q SB A c l m sz A1 _ c1 w hB hlen hml hQ
    · rw [hk, show getV (r + 1) t l m sz = leafV (textV 4) sz (textL l (l.length + 1 - m) [] false m) by simp only [getV, hk]; rfl]
      exact get_bytes r Q SB A c l m sz A1 _ c1 w hB hlen hml hQ
    · rw [hk, show getV (r + 1) t l m sz = leafV pointV sz (pointL l m) by simp only [getV, hk]; rfl]
      exact get_point r Q SB A c l m sz A1 _ c1 w hB hlen hml hQ
    · have h2 : t.args.length = 2 := by omega
      obtain ⟨a0, a1, hl⟩ := list_two h2
      obtain ⟨b, o, rfl, hSb, hcells⟩ := hA (by omega)
      obtain ⟨q0, hq0⟩ := hall a0 (by rw [hl]; simp)
      obtain ⟨q1, hq1⟩ := hall a1 (by rw [hl]; simp)
      obtain ⟨B0, k0, g0, g1, T0, hbl⟩ := arg_cells hcells (j := 0) (by omega)
      obtain ⟨B1, k1, g2, g3, T1, _⟩ := arg_cells hcells (j := 1) (by omega)
      simp only [hl, List.getElem_cons_zero, List.getElem_cons_succ, Nat.zero_mul, Nat.add_zero, Nat.one_mul] at g0 g1 g2 g3 T0 T1
      rw [hk, h2, show getV (r + 1) t l m sz = listV 6 (getP (getV r a0 l) (getV r a1 l) m sz) by simp only [getV, hk, argT, hl]; rfl]
      exact get_pair r d q0 q1 S SB Q A c l m sz a0 a1 b o c1 k0 k1 B0 B1 w IH (by omega) hq0 hq1 hbl (hS b hSb) g0 g1 g2 g3 T0 T1 hS hB hSB hlen hml hsz hQ
    · have h1 : t.args.length = 1 := by omega
      obtain ⟨a0, hl⟩ := list_one h1
      obtain ⟨b, o, rfl, hSb, hcells⟩ := hA (by omega)
      obtain ⟨q0, hq0⟩ := hall a0 (by rw [hl]; simp)
      obtain ⟨B0, k0, g0, g1, T0, hbl⟩ := arg_cells hcells (j := 0) (by omega)
      simp only [hl, List.getElem_cons_zero, Nat.zero_mul, Nat.add_zero] at g0 g1 T0
      rw [hk, h1, show getV (r + 1) t l m sz = listV 7 (getL (getV r a0 l) (leastT r a0) l 65 [] m sz) by simp only [getV, hk, argT, hl]; rfl]
      exact get_list r d q0 S SB Q A c l m sz a0 b o c1 k0 B0 w IH (by omega) hq0 hbl (hS b hSb) g0 g1 T0 hS hB hSB hlen hml hsz hQ
    · have h1 : t.args.length = 1 := by omega
      obtain ⟨a0, hl⟩ := list_one h1
      obtain ⟨b, o, rfl, hSb, hcells⟩ := hA (by omega)
      obtain ⟨q0, hq0⟩ := hall a0 (by rw [hl]; simp)
      obtain ⟨B0, k0, g0, g1, T0, hbl⟩ := arg_cells hcells (j := 0) (by omega)
      simp only [hl, List.getElem_cons_zero, Nat.zero_mul, Nat.add_zero] at g0 g1 T0
      rw [hk, h1, show getV (r + 1) t l m sz = getO (getV r a0 l) (leastT r a0) l m sz by simp only [getV, hk, argT, hl]; rfl]
      exact get_option r d q0 S SB Q A c l m sz a0 b o c1 k0 B0 w IH (by omega) hq0 hbl (hS b hSb) g0 g1 T0 hS hB hSB hlen hml hsz hQ

/-- What Next answers with, of a right type. -/
def RnOut (w : World) (l : List UInt8) (e : Ending) (w' : World) : Nat × Option (Val × Nat) → Prop
  | (m', none) => e = .returned (.tuple #[.agg #[.int .i64 0, .int .i64 0, .string ⟨#[]⟩, .complex .f64 0 0, .slice none 0 0], .int .i64 (m' : Int), .int .i64 (errA l m')])
  | (m', some (V, _)) => ∃ v, VAt w' (fun b => w.heap.size ≤ b) 6 v V ∧ e = .returned (.tuple #[v, .int .i64 (m' : Int), .int .i64 0])

set_option maxRecDepth 100000 in
set_option maxHeartbeats 1000000 in
theorem rnext_any (d q : Nat) (S SB : Nat → Prop) (v : Value) (t : Ty) (A : Option Addr) (c : Nat) (l : List UInt8) (w : World) (hm : measureT 6 t = some q) (hT : TyAt w S d v t) (hB : BAt w SB A l) (hlen : l.length ≤ 1000000) :
    Calls Tryd.prog 11 #[v, .slice A l.length c] w fun e w' => RnOut w l e w' (getV 6 t l 0 (leastT 6 t)) ∧ Below w.heap.size w w' := by
  have hL := leastT_le 6 t q hm
  have HM := Lib.hid hm
  have HT := Lib.hid (hT.move (w' := w) (S' := fun b => b < w.heap.size) fun b _ hl => ⟨hl, fun _ => rfl⟩)
  have HB := Lib.hid (hB.move (w' := w) (S' := fun b => b < w.heap.size) fun b _ hl => ⟨hl, fun _ => rfl⟩)
  obtain ⟨A0, c0, rfl⟩ := hT.form
  have hb2 := ((Below.refl w.heap.size w).alloc (Nat.le_refl _) (.cells #[.int .i64 t.kind, .slice A0 t.args.length c0] 24)).alloc (by simp) (.cells #[.int .i64 0, .int .i64 0, .string ⟨#[]⟩, .complex .f64 0 0, .slice none 0 0] 32)
  have hx0 : ((w.alloc (.cells #[.int .i64 t.kind, .slice A0 t.args.length c0] 24)).alloc (.cells #[.int .i64 0, .int .i64 0, .string ⟨#[]⟩, .complex .f64 0 0, .slice none 0 0] 32)).heap[w.heap.size]? = some (.cells #[.int .i64 t.kind, .slice A0 t.args.length c0] 24 (0, 0)) := heap_alloc_some (heap_alloc_new w _)
  have hx1 : ((w.alloc (.cells #[.int .i64 t.kind, .slice A0 t.args.length c0] 24)).alloc (.cells #[.int .i64 0, .int .i64 0, .string ⟨#[]⟩, .complex .f64 0 0, .slice none 0 0] 32)).heap[w.heap.size + 1]? = some (.cells #[.int .i64 0, .int .i64 0, .string ⟨#[]⟩, .complex .f64 0 0, .slice none 0 0] 32 (0, 0)) := heap_new_at (by simp)
  have HX0 := Lib.hid hx0
  have HX1 := Lib.hid hx1
  clear hm hT hB hx0 hx1
  obtain ⟨L, hLL⟩ : ∃ L, L = leastT 6 t := ⟨_, rfl⟩
  rw [← hLL] at hL ⊢
  have HLL := Lib.hid hLL
  clear hLL
  go_enter Tryd.func11, Tryd.ntmps11
  go_wp2_with (fail)
  obtain ⟨w0, hw0⟩ : ∃ w0, w0 = (w.alloc (.cells #[.int .i64 t.kind, .slice A0 t.args.length c0] 24)).alloc (.cells #[.int .i64 0, .int .i64 0, .string ⟨#[]⟩, .complex .f64 0 0, .slice none 0 0] 32) := ⟨_, rfl⟩
  have hs0 : w0.heap.size = w.heap.size + 2 := by rw [hw0]; simp
  rw [← hw0] at hb2 HX0 HX1
  rw [← hw0]
  clear hw0
  refine (rleast_any 6 d q _ _ t w0 (Nat.le_refl _) HM.out (HT.out.below hb2)).mono ?_
  rw [← HLL.out]
  rintro e w1 ⟨rfl, hb1⟩
  have hs1 := hb1.size
  have hbw1 := hb2.trans (hb1.mono hb2.size)
  have hbw2 := hbw1.alloc (by omega) (.cells #[.int .i64 (L : Int)] 3)
  have hy0 := (hb1.block w.heap.size (by omega)).trans HX0.out
  have e0 := cell2_0 hy0
  have e1 := cell2_1 hy0
  have hl0 := cell_lt hy0
  have HY1 := Lib.hid ((hb1.block (w.heap.size + 1) (by omega)).trans HX1.out)
  have HCALL := Lib.hid (get_any 6 d _ _ q w1.heap.size A c l 0 L _ t (w1.alloc (.cells #[.int .i64 (L : Int)] 3)) (Nat.le_refl _) HM.out (HT.out.below hbw2) (fun b hb => by have hb' : b < w.heap.size := hb; omega) (HB.out.move fun b hb hl => ⟨hb, fun _ => hbw2.cell (p := ⟨b, _, none⟩) hl⟩) (fun b hb => by have hb' : b < w.heap.size := hb; omega) hlen (Nat.zero_le _) (by omega) (heap_alloc_new w1 _))
  clear hy0
  go_wp2_with (fail)
  refine HCALL.out.mono ?_
  have HSL := Lib.hid HLL.out
  cases hg : getV 6 t l 0 L with
  | mk m' o' =>
  cases o' with
  | none =>
    have HG := Lib.hid hg
    clear hg
    rintro e w2 ⟨he, ho⟩
    obtain rfl : e = .returned (.tuple #[.agg #[.int .i64 0, .int .i64 0, .string ⟨#[]⟩, .complex .f64 0 0, .slice none 0 0], .int .i64 (m' : Int), .int .i64 (errA l m')]) := he
    have hs2 := ho.size
    simp only [World.size_alloc] at hs2
    have hBW : Below w.heap.size w w2 := hbw2.trans (ho.below (by omega) (by simp; omega))
    have hy := ((ho.block (w.heap.size + 1) (by simp; omega) (by simp; omega)).trans (Below.heap_alloc w1 _ (w.heap.size + 1) (by omega))).trans HY1.out
    have d0 := cell5_0 hy
    have d1 := cell5_1 hy
    have d2 := cell5_2 hy
    have d3 := cell5_3 hy
    have d4 := cell5_4 hy
    have f0 := cell3_f hy 0
    have f1 := cell3_f hy 1
    have f2 := cell3_f hy 2
    have f3 := cell3_f hy 3
    have f4 := cell3_f hy 4
    have hlz := cell_lt hy
    clear hy e0 e1
    go_wp2_with (fail)
    refine bodyPost_ret (v := .tuple #[.agg #[.int .i64 0, .int .i64 0, .string ⟨#[]⟩, .complex .f64 0 0, .slice none 0 0], .int .i64 (m' : Int), .int .i64 (errA l m')]) (by simp [results, Tryd.results11, go_sem, d0, d1, d2, d3, d4]) rfl ?_
    rw [HG.out]
    refine ⟨rfl, ?_⟩
    (repeat' (first | with_reducible assumption | with_reducible refine Below.set_own ?_ ?_ | (dsimp only; omega)))
  | some p =>
    obtain ⟨V, sz'⟩ := p
    have HG := Lib.hid hg
    clear hg
    rintro e w2 ⟨⟨v, hv, rfl⟩, ho, _⟩
    obtain ⟨Av, cv, xv, yv, rfl, _, _⟩ := hv.form
    have HV := Lib.hid hv
    have hs2 := ho.size
    simp only [World.size_alloc] at hs2
    have hBW : Below w.heap.size w w2 := hbw2.trans (ho.below (by omega) (by simp; omega))
    have hy := ((ho.block (w.heap.size + 1) (by simp; omega) (by simp; omega)).trans (Below.heap_alloc w1 _ (w.heap.size + 1) (by omega))).trans HY1.out
    have d0 := cell5_0 hy
    have d1 := cell5_1 hy
    have d2 := cell5_2 hy
    have d3 := cell5_3 hy
    have d4 := cell5_4 hy
    have f0 := cell3_f hy 0
    have f1 := cell3_f hy 1
    have f2 := cell3_f hy 2
    have f3 := cell3_f hy 3
    have f4 := cell3_f hy 4
    have hlz := cell_lt hy
    clear hy e0 e1 hv
    go_wp2_with (fail)
    refine bodyPost_ret (v := .tuple #[.agg #[.int .i64 V.kind, .int .i64 V.int, .string V.text, .complex .f64 xv yv, .slice Av V.list.length cv], .int .i64 (m' : Int), .int .i64 0]) (by simp [results, Tryd.results11, go_sem, d0, d1, d2, d3, d4]) rfl ?_
    rw [HG.out]
    refine ⟨⟨_, HV.out.move fun kb hkb _ => ⟨by have hb' : (w1.alloc (.cells #[.int .i64 (L : Int)] 3)).heap.size ≤ kb := hkb; simp at hb'; show w.heap.size ≤ kb; omega, fun _ => World.cell?_of_block (set5_block' (b := kb) (g := w.heap.size + 1) (by have hb' : (w1.alloc (.cells #[.int .i64 (L : Int)] 3)).heap.size ≤ kb := hkb; simp at hb'; omega))⟩, rfl⟩, ?_⟩
    (repeat' (first | with_reducible assumption | with_reducible refine Below.set_own ?_ ?_ | (dsimp only; omega)))

def SqOut (t : Ty) (e : Ending) : Prop := ∃ b : Bool, e = .returned (.bool b) ∧ (b = true → Nar 30 t)

set_option maxRecDepth 100000 in
set_option maxHeartbeats 1000000 in
theorem small4_any (d : Nat) (S : Nat → Prop) (v : Value) (t : Ty) (w : World) (hT : TyAt w S d v t) :
    Calls Tryd.prog 4 #[v, .slice none 0 0] w fun e w' => SqOut t e ∧ Below w.heap.size w w' := by
  have HT := Lib.hid (hT.move (w' := w) (S' := fun b => b < w.heap.size) fun b _ hl => ⟨hl, fun _ => rfl⟩)
  obtain ⟨A0, c0, rfl⟩ := hT.form
  clear hT
  have hb2 := ((Below.refl w.heap.size w).alloc (Nat.le_refl _) (.cells #[.int .i64 t.kind, .slice A0 t.args.length c0] 24)).alloc (by simp) (.cells #[.int .i64 20000] 3)
  go_enter Tryd.func4, Tryd.ntmps4
  go_wp2_with (fail)
  refine wp_loop_rounds 2 ?_
  rw [rounds_succ]
  go_wp2_with (fail)
  refine (small_any 30 d (fun b => b < w.heap.size) (w.heap.size + 1) _ t 20000 _ (by omega) (HT.out.below hb2) (fun b hb => by have hb' : b < w.heap.size := hb; omega) (heap_new_at (by simp)) (by omega) (by omega)).mono ?_
  rintro e w2 ⟨⟨b, l', rfl, _, _, _, hb⟩, ho⟩
  have HB := Lib.hid hb
  clear hb
  go_wp2_with (fail)
  go_ret
  exact ⟨⟨b, rfl, fun h => (HB.out h).2⟩, hb2.trans (ho.below (by omega) (by simp; omega))⟩
end Go.Proofs.YtbafplnolmdlnaaDoor
