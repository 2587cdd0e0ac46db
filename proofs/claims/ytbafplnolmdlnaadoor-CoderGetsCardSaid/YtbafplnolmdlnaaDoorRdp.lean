/-
The reader of package coder: readBool, readInt, readPart, readPoint.
-/
import Derived.Test.YtbafplnolmdlnaaDoorRdn
import Derived.Test.YtbafplnolmdlnaaDoorFloat
namespace Go.Proofs.YtbafplnolmdlnaaDoor
open Go.RowKit

theorem numL_lt (l : List UInt8) : ∀ (k acc m M m' n : Nat), numL l k acc m M = (m', some n) → n < (acc + 1) * 256 ^ k
  | 0, acc, m, M, m', n, h => by simp [numL] at h; simp; omega
  | k + 1, acc, m, M, m', n, h => by
    unfold numL at h
    cases hx : okB l m M with
    | none => simp [hx] at h
    | some x =>
      simp only [hx] at h
      have h1 := numL_lt l k _ _ _ _ _ h
      have hx2 := x.toNat_lt
      have h2 : (acc * 256 + x.toNat + 1) * 256 ^ k ≤ ((acc + 1) * 256) * 256 ^ k := Nat.mul_le_mul_right _ (by omega)
      rw [Nat.pow_succ, Nat.mul_comm (256 ^ k) 256, ← Nat.mul_assoc]
      omega

/-- What a part of the reader answers with: the value that ok speaks of, or the fault. -/
def POut {α : Type} (R : Nat) (A : Option Addr) (c : Nat) (l : List UInt8) (sz : Nat) (w : World) (e : Ending) (w' : World) (ok : α → Value → Prop) (junk : Value → Prop) : Nat × Option α → Prop
  | (m', none) => (∃ v, junk v ∧ e = .returned (.tuple #[v, .bool false])) ∧ Only R w w' ∧ Rdr w' R A c l m' sz
  | (m', some n) => (∃ v, ok n v ∧ e = .returned (.tuple #[v, .bool true])) ∧ Only R w w' ∧ Rdr w' R A c l m' sz

def IntV (v : Value) : Prop := ∃ i : Int, v = .int .i64 i

set_option maxRecDepth 100000 in
set_option maxHeartbeats 400000 in
theorem bool_any (R : Nat) (A : Option Addr) (c : Nat) (l : List UInt8) (m sz : Nat) (w : World) (h : Rdr w R A c l m sz) :
    Calls Tryd.prog 29 #[.pointer (some ⟨R, 0, none⟩)] w fun e w' => POut R A c l sz w e w' (fun (n : Nat) v => v = .int .i64 (n : Int)) IntV (numL l 1 0 m 1) := by
  have HR := Lib.hid h
  clear h
  go_enter Tryd.func29, Tryd.ntmps29
  go_wp2_with (fail)
  refine (num_any R A c l m sz 1 1 w HR.out (by omega) (by omega)).mono ?_
  cases hn : numL l 1 0 m 1 with
  | mk m' o =>
  cases o with
  | none =>
    have HN := Lib.hid hn
    clear hn
    rintro e w2 ⟨rfl, ho, hr⟩
    have HR2 := Lib.hid hr
    clear hr
    go_wp2_with (fail)
    go_ret2
    rw [HN.out]
    exact ⟨⟨_, ⟨_, rfl⟩, rfl⟩, ho, HR2.out⟩
  | some n =>
    have hlt := numL_lt _ _ _ _ _ _ _ hn
    have hlt2 : n < 256 := by simpa using hlt
    have HN := Lib.hid hn
    clear hn hlt
    rintro e w2 ⟨rfl, ho, hr⟩
    have HR2 := Lib.hid hr
    clear hr
    go_wp2_with (fail)
    go_ret2
    rw [HN.out]
    exact ⟨⟨_, rfl, rfl⟩, ho, HR2.out⟩

theorem int_back (n : Nat) (h : n < 18446744073709551616) : wrap64 (IntKind.u64.wrap ((n : Int) + 9223372036854775808)) = (n : Int) - 9223372036854775808 := by
  simp only [wrap64, IntKind.wrap, IntKind.bits, IntKind.signed]
  simp
  omega

set_option maxRecDepth 100000 in
set_option maxHeartbeats 400000 in
theorem int_any (R : Nat) (A : Option Addr) (c : Nat) (l : List UInt8) (m sz : Nat) (w : World) (h : Rdr w R A c l m sz) :
    Calls Tryd.prog 30 #[.pointer (some ⟨R, 0, none⟩)] w fun e w' => POut R A c l sz w e w' (fun (n : Nat) v => v = .int .i64 ((n : Int) - 9223372036854775808)) IntV (numL l 8 0 m 255) := by
  have HR := Lib.hid h
  clear h
  go_enter Tryd.func30, Tryd.ntmps30
  go_wp2_with (fail)
  refine (num_any R A c l m sz 8 255 w HR.out (by omega) (by omega)).mono ?_
  cases hn : numL l 8 0 m 255 with
  | mk m' o =>
  cases o with
  | none =>
    have HN := Lib.hid hn
    clear hn
    rintro e w2 ⟨rfl, ho, hr⟩
    have HR2 := Lib.hid hr
    clear hr
    go_wp2_with (fail)
    go_ret2
    rw [HN.out]
    exact ⟨⟨_, ⟨_, rfl⟩, rfl⟩, ho, HR2.out⟩
  | some n =>
    have hlt := numL_lt _ _ _ _ _ _ _ hn
    have HIB := Lib.hid (int_back n (by simpa using hlt))
    have HN := Lib.hid hn
    clear hn hlt
    rintro e w2 ⟨rfl, ho, hr⟩
    have HR2 := Lib.hid hr
    clear hr
    go_wp2_with (fail)
    go_ret2
    rw [HN.out]
    refine ⟨⟨_, ?_, rfl⟩, ho, HR2.out⟩
    simp
    exact HIB.out

def FloatV (v : Value) : Prop := ∃ x : Nat, v = .float .f64 x
def PartV (n : Nat) (v : Value) : Prop := ∃ x, v = .float .f64 x ∧ floatToIntVal .f64 x .i64 = some ((n : Int) - 1048576)

theorem run_float_sub {P : Program} (t : TypeId) {x y r : Nat} (h : floatBits .sub .f64 x y = some r) (w : World) : (binOp .sub t (.float .f64 x) (.float .f64 y)).run P w = .ok (.float .f64 r) w := by
  simp [binOp]
  exact run_floatArith w h

theorem half_rep : Rep 4697254411347427328 1048576 := ⟨false, 4503599627370496, -32, by decide, by decide⟩

set_option maxRecDepth 100000 in
set_option maxHeartbeats 400000 in
theorem part_any (R : Nat) (A : Option Addr) (c : Nat) (l : List UInt8) (m sz : Nat) (w : World) (h : Rdr w R A c l m sz) :
    Calls Tryd.prog 48 #[.pointer (some ⟨R, 0, none⟩)] w fun e w' => POut R A c l sz w e w' PartV FloatV (numL l 3 0 m 31) := by
  have HR := Lib.hid h
  clear h
  go_enter Tryd.func48, Tryd.ntmps48
  go_wp2_with (fail)
  refine (num_any R A c l m sz 3 31 w HR.out (by omega) (by omega)).mono ?_
  cases hn : numL l 3 0 m 31 with
  | mk m' o =>
  cases o with
  | none =>
    have HN := Lib.hid hn
    clear hn
    obtain ⟨r, hr1, _⟩ := rep_sub (rep_ofInt 0 (by decide)) half_rep (by decide)
    have hcv := fun w : World => run_convert_int_float (P := Tryd.prog) w 77 83 .u64 .f64 0 (by kernel_rfl) (by kernel_rfl)
    have hsb := run_float_sub (P := Tryd.prog) 83 hr1
    rintro e w2 ⟨rfl, ho, hr⟩
    have HR2 := Lib.hid hr
    clear hr
    go_wp2_with (fail)
    go_ret2
    rw [HN.out]
    exact ⟨⟨_, ⟨_, rfl⟩, rfl⟩, ho, HR2.out⟩
  | some n =>
    have hlt := numL_lt _ _ _ _ _ _ _ hn
    have hlt2 : n < 16777216 := by simpa using hlt
    have HN := Lib.hid hn
    clear hn hlt
    obtain ⟨r, hr1, hr2⟩ := rep_sub (rep_ofInt (n : Int) (by omega)) half_rep (by omega)
    have hcv := fun w : World => run_convert_int_float (P := Tryd.prog) w 77 83 .u64 .f64 (n : Int) (by kernel_rfl) (by kernel_rfl)
    have hsb := run_float_sub (P := Tryd.prog) 83 hr1
    have HRI := Lib.hid (rep_toInt hr2 (by omega))
    clear hr1 hr2
    rintro e w2 ⟨rfl, ho, hr⟩
    have HR2 := Lib.hid hr
    clear hr
    go_wp2_with (fail)
    go_ret2
    rw [HN.out]
    exact ⟨⟨_, ⟨_, rfl, HRI.out⟩, rfl⟩, ho, HR2.out⟩

def CpxV (v : Value) : Prop := ∃ x y : Nat, v = .complex .f64 x y
def PointV (p : Int × Int) (v : Value) : Prop := ∃ x y, v = .complex .f64 x y ∧ floatToIntVal .f64 x .i64 = some p.1 ∧ floatToIntVal .f64 y .i64 = some p.2

/-- A point: where it ends, and its parts. -/
def pointL (l : List UInt8) (m : Nat) : Nat × Option (Int × Int) := match numL l 3 0 m 31 with
  | (m', none) => (m', none)
  | (m', some a) => match numL l 3 0 m' 31 with
    | (m2, none) => (m2, none)
    | (m2, some b) => (m2, some ((a : Int) - 1048576, (b : Int) - 1048576))

set_option maxRecDepth 100000 in
set_option maxHeartbeats 400000 in
theorem point_any (R : Nat) (A : Option Addr) (c : Nat) (l : List UInt8) (m sz : Nat) (w : World) (h : Rdr w R A c l m sz) :
    Calls Tryd.prog 32 #[.pointer (some ⟨R, 0, none⟩)] w fun e w' => POut R A c l sz w e w' PointV CpxV (pointL l m) := by
  have HR := Lib.hid h
  clear h
  go_enter Tryd.func32, Tryd.ntmps32
  go_wp2_with (fail)
  refine (part_any R A c l m sz w HR.out).mono ?_
  cases hn : numL l 3 0 m 31 with
  | mk m' o =>
  cases o with
  | none =>
    have HN : Hid (pointL l m = (m', none)) := by show _ = _; simp only [pointL, hn]
    clear hn
    rintro e w2 ⟨⟨v, ⟨x, rfl⟩, rfl⟩, ho, hr⟩
    have HR2 := Lib.hid hr
    clear hr
    go_wp2_with (fail)
    go_ret2
    rw [HN.out]
    exact ⟨⟨_, ⟨_, _, rfl⟩, rfl⟩, ho, HR2.out⟩
  | some a =>
    rintro e w2 ⟨⟨v, ⟨x, rfl, hx⟩, rfl⟩, ho, hr⟩
    have HR2 := Lib.hid hr
    have HX := Lib.hid hx
    clear hr hx
    have HP := Lib.hid hn
    clear hn
    go_wp2_with (fail)
    refine (part_any R A c l m' sz w2 HR2.out).mono ?_
    cases hn2 : numL l 3 0 m' 31 with
    | mk m2 o2 =>
    cases o2 with
    | none =>
      have HN : Hid (pointL l m = (m2, none)) := by show _ = _; simp only [pointL, HP.out, hn2]
      clear hn2
      rintro e w3 ⟨⟨v, ⟨y, rfl⟩, rfl⟩, ho3, hr⟩
      have HR3 := Lib.hid hr
      clear hr
      go_wp2_with (fail)
      go_ret2
      rw [HN.out]
      exact ⟨⟨_, ⟨_, _, rfl⟩, rfl⟩, ho.trans ho3, HR3.out⟩
    | some b =>
      have HN : Hid (pointL l m = (m2, some ((a : Int) - 1048576, (b : Int) - 1048576))) := by show _ = _; simp only [pointL, HP.out, hn2]
      clear hn2
      rintro e w3 ⟨⟨v, ⟨y, rfl, hy⟩, rfl⟩, ho3, hr⟩
      have HR3 := Lib.hid hr
      have HY := Lib.hid hy
      clear hr hy
      go_wp2_with (fail)
      go_ret2
      rw [HN.out]
      exact ⟨⟨_, ⟨_, _, rfl, HX.out, HY.out⟩, rfl⟩, ho.trans ho3, HR3.out⟩
end Go.Proofs.YtbafplnolmdlnaaDoor
