/-
The reader of package coder: readMore.
-/
import Derived.Test.YtbafplnolmdlnaaDoorRdt
import Derived.Test.YtbafplnolmdlnaaDoorLst
namespace Go.Proofs.YtbafplnolmdlnaaDoor
open Go.RowKit

/-- The greatest byte that may stand ahead of a value that makes the whole so great. -/
def mostM (room : Bool) (n : Nat) : Nat := if room = true ∧ n ≤ 2000 then 1 else 0

/-- What readMore answers with. -/
def MoOut (R : Nat) (A : Option Addr) (c : Nat) (l : List UInt8) (m sz lst : Nat) (w : World) (e : Ending) (w' : World) : Option UInt8 → Prop
  | none => e = .returned (.tuple #[.bool false, .bool false]) ∧ Only R w w' ∧ Rdr w' R A c l m sz
  | some x => if x.toNat = 1 then e = .returned (.tuple #[.bool true, .bool true]) ∧ Only R w w' ∧ Rdr w' R A c l (m + 1) (sz + lst) else e = .returned (.tuple #[.bool false, .bool true]) ∧ Only R w w' ∧ Rdr w' R A c l (m + 1) sz

set_option maxRecDepth 100000 in
set_option maxHeartbeats 2000000 in
theorem more_any (r d q : Nat) (S : Nat → Prop) (R : Nat) (A : Option Addr) (c : Nat) (l : List UInt8) (m sz : Nat) (v : Value) (t : Ty) (room : Bool) (w : World) (hr6 : r ≤ 6) (hm : measureT r t = some q) (hT : TyAt w S d v t) (h : Rdr w R A c l m sz) (hsz : sz ≤ 2000) :
    Calls Tryd.prog 49 #[.pointer (some ⟨R, 0, none⟩), v, .bool room] w fun e w' => MoOut R A c l m sz (leastT r t) w e w' (okB l m (mostM room (sz + leastT r t))) := by
  have hL := leastT_le r t q hm
  have h64 : 2 ^ r ≤ 64 := Nat.le_trans (Nat.pow_le_pow_right (by omega) hr6) (by decide)
  have HT := Lib.hid hT
  have HM := Lib.hid hm
  have HR := Lib.hid h
  have hRl := h.lt
  obtain ⟨A0, c0, rfl⟩ := hT.form
  have hba := (Below.refl w.heap.size w).alloc (Nat.le_refl _) (.cells #[.int .i64 t.kind, .slice A0 t.args.length c0] 38)
  have hn := heap_alloc_new w (.cells #[.int .i64 t.kind, .slice A0 t.args.length c0] 38)
  have hsa : (w.alloc (.cells #[.int .i64 t.kind, .slice A0 t.args.length c0] 38)).heap.size = w.heap.size + 1 := by simp
  obtain ⟨L, hLL⟩ : ∃ L, L = leastT r t := ⟨_, rfl⟩
  rw [← hLL] at hL ⊢
  have HLL := Lib.hid hLL
  clear hT hm h hLL
  go_enter Tryd.func49, Tryd.ntmps49
  go_wp2_with (fail)
  obtain ⟨w0, hw0⟩ : ∃ w0, w0 = w.alloc (.cells #[.int .i64 t.kind, .slice A0 t.args.length c0] 38) := ⟨_, rfl⟩
  rw [← hw0] at hba hn hsa
  rw [← hw0]
  clear hw0
  have HT0 := Lib.hid (HT.out.below hba)
  have HR0 := Lib.hid (HR.out.below hba)
  have hl0 : w.heap.size < w0.heap.size := by omega
  have hlR : R < w0.heap.size := by omega
  have HE0 := Lib.hid (cell2_0 hn)
  have HE1 := Lib.hid (cell2_1 hn)
  have HE2 := Lib.hid (cell3_2 HR0.out.box)
  have e0 := HE0.out
  have e1 := HE1.out
  have e2 := HE2.out
  have hRR : Below w0.heap.size w0 w0 := Below.refl _ _
  have s1 : IntKind.i64.wrap ((sz : Int) + (L : Int)) = (sz : Int) + (L : Int) := IntWalk.i64_in _ (by omega)
  clear hn
  go_region_held3 (fun w' => w'.cell? ⟨w.heap.size, 0, none⟩ = some (.int .i64 t.kind) ∧ w'.cell? ⟨w.heap.size, 1, none⟩ = some (.slice A0 t.args.length c0) ∧ w'.cell? ⟨R, 2, none⟩ = some (.int .i64 (sz : Int)) ∧ Below w0.heap.size w0 w')
    ((refine ⟨?_, ?_, ?_, ?_⟩ <;> (repeat' (first | with_reducible assumption | with_reducible refine cell_drew_some ?_ | with_reducible refine Below.drew ?_))))
    (first
      | (go_at_call 18; refine (least_any r d q S _ t w0.drew hr6 HM.out (HT0.out.below (Below.refl _ _).drew)).mono ?_; rw [← HLL.out]; rintro e w3 ⟨rfl, hb3⟩; have HB3 : Below w0.heap.size w0 w3 := (Below.refl _ w0).drew.trans hb3; have f0 := (HB3.cell (p := ⟨w.heap.size, 0, none⟩) hl0).trans HE0.out; have f1 := (HB3.cell (p := ⟨w.heap.size, 1, none⟩) hl0).trans HE1.out; have f2 := (HB3.cell (p := ⟨R, 2, none⟩) hlR).trans HE2.out))
  clear s1 e0 e1 e2 hRR f0 f1 f2
  have HR3 := Lib.hid (HR0.out.below HB3)
  have HO3 : Only R w w3 := Only.of_below (hba.trans (HB3.mono (by omega)))
  have hRl3 := HR3.out.lt
  by_cases hrm : room = true ∧ sz + L ≤ 2000
  · obtain ⟨rfl, h2⟩ := hrm
    have hM : mostM true (sz + L) = 1 := by simp [mostM, h2]
    have HM1 := Lib.hid hM
    have hd : decide ((sz : Int) + (L : Int) ≤ 2000) = true := by simp; omega
    clear hM
    go_wp2_with (fail)
    cases hx : okB l m 1 with
    | none =>
      have HX := Lib.hid hx
      clear hx
      refine (rb_no R A c l m sz 1 _ HR3.out HX.out).mono ?_
      rintro e w4 ⟨rfl, ho, hr⟩
      have HR4 := Lib.hid hr
      clear hr
      go_wp2_with (fail)
      go_ret2
      rw [HM1.out, HX.out]
      exact ⟨rfl, HO3.trans ho, HR4.out⟩
    | some x =>
      have HX := Lib.hid hx
      clear hx
      refine (rb_yes R A c l m sz 1 x _ HR3.out HX.out).mono ?_
      rintro e w4 ⟨rfl, ho, hr⟩
      have HR4 := Lib.hid hr
      have c2 := cell3_2 hr.box
      have f2 := cell3_f hr.box 2
      have hle := hr.le
      clear hr
      by_cases hx1 : x.toNat = 1
      · have hb : ((x.toNat : Int) != 1) = false := by simp [hx1]
        have HX1 := Lib.hid hx1
        clear hx1
        go_wp2_with (fail)
        go_ret2
        rw [HM1.out, HX.out]
        show (if x.toNat = 1 then _ else _)
        rw [if_pos HX1.out]
        exact ⟨rfl, (HO3.trans ho).trans (Only.set_ _ _ _ _), HR4.out.go 2 _ (by simp) hle⟩
      · have hb : ((x.toNat : Int) != 1) = true := bne_iff_ne.2 (by omega)
        have HX1 := Lib.hid hx1
        clear hx1
        go_wp2_with (fail)
        go_ret2
        rw [HM1.out, HX.out]
        show (if x.toNat = 1 then _ else _)
        rw [if_neg HX1.out]
        exact ⟨rfl, HO3.trans ho, HR4.out⟩
  · have hM : mostM room (sz + L) = 0 := by simp only [mostM, if_neg hrm]
    have HM1 := Lib.hid hM
    clear hM
    have hways : room = false ∨ (room = true ∧ decide ((sz : Int) + (L : Int) ≤ 2000) = false) := by
      cases room with
      | false => exact .inl rfl
      | true => exact .inr ⟨rfl, by simp at hrm ⊢; omega⟩
    clear hrm
    cases hx : okB l m 0 with
    | none =>
      have HX := Lib.hid hx
      clear hx
      rcases hways with rfl | ⟨rfl, hd⟩ <;>
      · go_wp2_with (fail)
        refine (rb_no R A c l m sz 0 _ HR3.out HX.out).mono ?_
        rintro e w4 ⟨rfl, ho, hr⟩
        have HR4 := Lib.hid hr
        clear hr
        go_wp2_with (fail)
        go_ret2
        rw [HM1.out, HX.out]
        exact ⟨rfl, HO3.trans ho, HR4.out⟩
    | some x =>
      have hx0 := (okB_some hx).2.1
      have hx1 : ¬ x.toNat = 1 := by omega
      have hb : ((x.toNat : Int) != 1) = true := bne_iff_ne.2 (by omega)
      have HX1 := Lib.hid hx1
      have HX := Lib.hid hx
      clear hx hx1
      rcases hways with rfl | ⟨rfl, hd⟩ <;>
      · go_wp2_with (fail)
        refine (rb_yes R A c l m sz 0 x _ HR3.out HX.out).mono ?_
        rintro e w4 ⟨rfl, ho, hr⟩
        have HR4 := Lib.hid hr
        clear hr
        go_wp2_with (fail)
        go_ret2
        rw [HM1.out, HX.out]
        show (if x.toNat = 1 then _ else _)
        rw [if_neg HX1.out]
        exact ⟨rfl, HO3.trans ho, HR4.out⟩
end Go.Proofs.YtbafplnolmdlnaaDoor
