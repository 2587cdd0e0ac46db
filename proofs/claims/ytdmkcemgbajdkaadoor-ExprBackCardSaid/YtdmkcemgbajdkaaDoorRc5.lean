/-
The reader of package expr: readCoded, readLetter.
-/
import Derived.Test.YtdmkcemgbajdkaaDoorRc4
namespace Go.Proofs.YtdmkcemgbajdkaaDoor
open Go.RowKit

theorem hex_some {b : UInt8} {h : Nat} (hx : hexI b = some h) (w : World) : Calls Tryd.prog 49 #[.string ⟨#[48, 49, 50, 51, 52, 53, 54, 55, 56, 57, 97, 98, 99, 100, 101, 102]⟩, .int .u8 (b.toNat : Int)] w fun e w' => e = .returned (.int .i64 (h : Int)) ∧ w = w' := by
  have := hex_any b w
  rw [show hexZ b = (h : Int) by unfold hexZ; rw [hx]] at this
  exact this
theorem hex_none {b : UInt8} (hx : hexI b = none) (w : World) : Calls Tryd.prog 49 #[.string ⟨#[48, 49, 50, 51, 52, 53, 54, 55, 56, 57, 97, 98, 99, 100, 101, 102]⟩, .int .u8 (b.toNat : Int)] w fun e w' => e = .returned (.int .i64 (-1)) ∧ w = w' := by
  have := hex_any b w
  rw [show hexZ b = -1 by unfold hexZ; rw [hx]] at this
  exact this
theorem hexI_lk {l : List UInt8} {m h : Nat} (hx : hexI (lkB l m) = some h) : m < l.length := lkB_lt (by intro e; rw [e, show hexI 0 = none by decide] at hx; cases hx)

/-- What readCoded and readLetter answer with. -/
def CdOut (R : Nat) (s : ByteArray) (w : World) (e : Ending) (w' : World) : Nat × Option UInt8 → Prop
  | (m', none) => e = .returned (.tuple #[.int .u8 0, .bool false]) ∧ Only R w w' ∧ Rdr w' R s m'
  | (m', some b) => e = .returned (.tuple #[.int .u8 (b.toNat : Int), .bool true]) ∧ Only R w w' ∧ Rdr w' R s m'

set_option maxRecDepth 100000 in
set_option maxHeartbeats 1000000 in
theorem coded_any (R : Nat) (s : ByteArray) (m : Nat) (w : World) (h : Rdr w R s m) :
    Calls Tryd.prog 44 #[.pointer (some ⟨R, 0, none⟩)] w fun e w' => CdOut R s w e w' (codS (bl s) m) := by
  have HR := Lib.hid h
  have hlen := h.len
  have hle := h.le
  clear h
  go_enter Tryd.func44, Tryd.ntmps44
  go_wp2_with (fail)
  refine (look_any R s m w HR.out).mono ?_
  rintro e w2 ⟨rfl, hb⟩
  have HR2 := Lib.hid (HR.out.below hb)
  have HO2 := Lib.hid (Only.of_below (R := R) hb)
  have c1 := cell2_1 HR2.out.box
  have f1 := cell3_f HR2.out.box 1
  have hlt := HR2.out.lt
  clear hb
  cases hx : hexI (lkB (bl s) m) with
  | none =>
    have HF : Hid (codS (bl s) m = (m, none)) := by show _ = _; unfold codS; rw [hx]
    have HX := Lib.hid hx
    clear hx
    go_wp2_with (fail)
    refine (hex_none HX.out w2).mono ?_
    rintro e w3 ⟨rfl, rfl⟩
    go_wp2_with (fail)
    go_ret2
    rw [HF.out]
    exact ⟨rfl, HO2.out, HR2.out⟩
  | some h =>
    have hh := hexI_lt hx
    have hms : m < s.size := by have := hexI_lk hx; rwa [bl_length] at this
    have hneg : decide ((h : Int) < 0) = false := by simp
    have HX := Lib.hid hx
    clear hx
    go_wp2_with (fail)
    refine (hex_some HX.out w2).mono ?_
    rintro e w3 ⟨rfl, rfl⟩
    go_wp2_with (fail)
    refine (someCoded_any h hh w2).mono ?_
    rintro e w3 ⟨rfl, rfl⟩
    cases hsm : smC h with
    | false =>
      have HF : Hid (codS (bl s) m = (m, none)) := by show _ = _; unfold codS; rw [HX.out]; simp only [hsm]; rfl
      clear hsm
      go_wp2_with (fail)
      go_ret2
      rw [HF.out]
      exact ⟨rfl, HO2.out, HR2.out⟩
    | true =>
      have HC : Hid (codS (bl s) m = (match hexI (lkB (bl s) (m + 1)) with
          | none => (m + 1, none)
          | some x => if isPl (UInt8.ofNat (16 * h + x)) then (m + 1, none) else (m + 2, some (UInt8.ofNat (16 * h + x))))) := by
        show _ = _; unfold codS; rw [HX.out]; simp only [hsm]; rfl
      clear hsm
      have HR3 := Lib.hid (HR2.out.go (m + 1) (by omega))
      have HO3 := Lib.hid (HO2.out.trans (Only.set_ R 1 w2 (.int .i64 ((m + 1 : Nat) : Int))))
      rw [show ((m + 1 : Nat) : Int) = (m : Int) + 1 by omega] at HR3 HO3
      go_wp2_with (fail)
      obtain ⟨W, hW⟩ : ∃ W, W = w2.setCell ⟨R, 1, none⟩ (.int .i64 ((m : Int) + 1)) := ⟨_, rfl⟩
      rw [← hW] at HR3 HO3
      rw [← hW]
      clear hW c1 f1 hlt
      refine (look_any R s (m + 1) W HR3.out).mono ?_
      rintro e w4 ⟨rfl, hb⟩
      have HR4 := Lib.hid (HR3.out.below hb)
      have HO4 := Lib.hid (HO3.out.trans (Only.of_below (R := R) hb))
      have c1 := cell2_1 HR4.out.box
      have f1 := cell3_f HR4.out.box 1
      have hlt := HR4.out.lt
      clear hb
      cases hx2 : hexI (lkB (bl s) (m + 1)) with
      | none =>
        have HF : Hid (codS (bl s) m = (m + 1, none)) := by show _ = _; rw [HC.out, hx2]
        have HX2 := Lib.hid hx2
        clear hx2
        go_wp2_with (fail)
        refine (hex_none HX2.out w4).mono ?_
        rintro e w3 ⟨rfl, rfl⟩
        go_wp2_with (fail)
        go_ret2
        rw [HF.out]
        exact ⟨rfl, HO4.out, HR4.out⟩
      | some x =>
        have hx16 := hexI_lt hx2
        have hms2 : m + 1 < s.size := by have := hexI_lk hx2; rwa [bl_length] at this
        have hneg2 : decide ((x : Int) < 0) = false := by simp
        have HX2 := Lib.hid hx2
        have HC2 : Hid (codS (bl s) m = (if isPl (UInt8.ofNat (16 * h + x)) then (m + 1, none) else (m + 2, some (UInt8.ofNat (16 * h + x))))) := by show _ = _; rw [HC.out, hx2]
        clear hx2
        obtain ⟨y, hy⟩ : ∃ y, y = 16 * h + x := ⟨_, rfl⟩
        have hor := or_nib h x hh hx16
        rw [← hy] at hor HC2
        have hw : IntKind.u8.wrap (y : Int) = (y : Int) := IntWalk.u8_in _ (by omega)
        have hy256 : y < 256 := by omega
        have HT : Hid (((UInt8.ofNat y).toNat : Int) = (y : Int)) := by show _ = _; rw [UInt8.toNat_ofNat', Nat.mod_eq_of_lt hy256]
        clear hy
        go_wp2_with (fail)
        refine (hex_some HX2.out w4).mono ?_
        rintro e w3 ⟨rfl, rfl⟩
        go_wp2_with (fail)
        refine (isPlain_nat y hy256 w4).mono ?_
        rintro e w3 ⟨rfl, rfl⟩
        cases hp : isPl (UInt8.ofNat y) with
        | true =>
          have HF : Hid (codS (bl s) m = (m + 1, none)) := by show _ = _; rw [HC2.out, if_pos hp]
          clear hp
          go_wp2_with (fail)
          go_ret2
          rw [HF.out]
          exact ⟨rfl, HO4.out, HR4.out⟩
        | false =>
          have HF : Hid (codS (bl s) m = (m + 2, some (UInt8.ofNat y))) := by show _ = _; rw [HC2.out, if_neg (by rw [hp]; decide)]
          clear hp
          go_wp2_with (fail)
          go_ret2
          rw [HF.out]
          refine ⟨by rw [HT.out]; rfl, HO4.out.trans (Only.set_ R 1 w4 _), ?_⟩
          have := HR4.out.go (m + 2) (by omega)
          rwa [show ((m + 2 : Nat) : Int) = (m : Int) + 1 + 1 by omega] at this

set_option maxRecDepth 100000 in
set_option maxHeartbeats 1000000 in
theorem letter_any (R : Nat) (s : ByteArray) (m : Nat) (w : World) (h : Rdr w R s m) :
    Calls Tryd.prog 33 #[.pointer (some ⟨R, 0, none⟩)] w fun e w' => CdOut R s w e w' (letS (bl s) m) := by
  have HR := Lib.hid h
  have hlen := h.len
  have hle := h.le
  clear h
  go_enter Tryd.func33, Tryd.ntmps33
  go_wp2_with (fail)
  refine (readByte_any R s m 92 w (by decide) HR.out).mono ?_
  by_cases h92 : lkB (bl s) m = 92
  · have HF : Hid (letS (bl s) m = codS (bl s) (m + 1)) := by show _ = _; unfold letS; rw [if_pos h92]
    rw [show rdB (bl s) m 92 = true by unfold rdB; rw [decide_eq_true h92]]
    rintro e w2 ⟨rfl, ho, hr⟩
    have HR2 : Hid (Rdr w2 R s (m + 1)) := Lib.hid hr
    have HO2 := Lib.hid ho
    clear ho hr h92
    go_wp2_with (fail)
    refine (coded_any R s (m + 1) w2 HR2.out).mono ?_
    cases hc : codS (bl s) (m + 1) with
    | mk m' o =>
    have HG := Lib.hid (HF.out.trans hc)
    clear hc
    cases o with
    | none =>
      rintro e w3 ⟨rfl, ho, hr⟩
      have HR3 := Lib.hid hr
      clear hr
      go_wp2_with (fail)
      go_ret2
      rw [HG.out]
      exact ⟨rfl, HO2.out.trans ho, HR3.out⟩
    | some b =>
      rintro e w3 ⟨rfl, ho, hr⟩
      have HR3 := Lib.hid hr
      clear hr
      go_wp2_with (fail)
      go_ret2
      rw [HG.out]
      exact ⟨rfl, HO2.out.trans ho, HR3.out⟩
  · have HL : Hid (letS (bl s) m = (if isPl (lkB (bl s) m) then (m + 1, some (lkB (bl s) m)) else (m, none))) := by show _ = _; unfold letS; rw [if_neg h92]
    rw [show rdB (bl s) m 92 = false by unfold rdB; rw [decide_eq_false h92]]
    rintro e w2 ⟨rfl, ho, hr⟩
    have HR2 : Hid (Rdr w2 R s m) := Lib.hid hr
    have HO2 := Lib.hid ho
    clear ho hr h92
    go_wp2_with (fail)
    refine (look_any R s m w2 HR2.out).mono ?_
    rintro e w3 ⟨rfl, hb⟩
    have HR3 := Lib.hid (HR2.out.below hb)
    have HO3 := Lib.hid (HO2.out.trans (Only.of_below (R := R) hb))
    have c1 := cell2_1 HR3.out.box
    have f1 := cell3_f HR3.out.box 1
    have hlt := HR3.out.lt
    clear hb
    go_wp2_with (fail)
    refine (isPlain_any (lkB (bl s) m) w3).mono ?_
    rintro e w4 ⟨rfl, rfl⟩
    cases hp : isPl (lkB (bl s) m) with
    | true =>
      have HF : Hid (letS (bl s) m = (m + 1, some (lkB (bl s) m))) := by show _ = _; rw [HL.out, if_pos hp]
      have hms : m < s.size := by have := lkB_lt (l := bl s) (m := m) (by intro e; rw [e] at hp; exact absurd hp (by decide)); rwa [bl_length] at this
      clear hp
      go_wp2_with (fail)
      go_ret2
      rw [HF.out]
      exact ⟨rfl, HO3.out.trans (Only.set_ R 1 w3 _), by rw [show (m : Int) + 1 = ((m + 1 : Nat) : Int) by omega]; exact HR3.out.go (m + 1) (by omega)⟩
    | false =>
      have HF : Hid (letS (bl s) m = (m, none)) := by show _ = _; rw [HL.out, if_neg (by rw [hp]; decide)]
      clear hp
      go_wp2_with (fail)
      go_ret2
      rw [HF.out]
      exact ⟨rfl, HO3.out, HR3.out⟩
end Go.Proofs.YtdmkcemgbajdkaaDoor
