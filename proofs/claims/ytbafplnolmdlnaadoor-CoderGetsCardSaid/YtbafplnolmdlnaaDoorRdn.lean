/-
The reader of package coder: readByte, readNumber.
-/
import Derived.Test.YtbafplnolmdlnaaDoorRdc
namespace Go.Proofs.YtbafplnolmdlnaaDoor
open Go.RowKit

/-- The byte at m, if it is at most M. -/
def okB (l : List UInt8) (m M : Nat) : Option UInt8 := match l[m]? with
  | none => none
  | some x => if x.toNat ≤ M then some x else none

theorem okB_some {l : List UInt8} {m M : Nat} {x : UInt8} (h : okB l m M = some x) : l[m]? = some x ∧ x.toNat ≤ M ∧ m < l.length := by
  unfold okB at h
  cases hx : l[m]? with
  | none => simp [hx] at h
  | some y =>
    simp only [hx] at h
    split at h
    · injection h with h; subst h; exact ⟨rfl, by assumption, (List.getElem?_eq_some_iff.1 hx).1⟩
    · simp at h
theorem okB_none {l : List UInt8} {m M : Nat} (h : okB l m M = none) : l[m]? = none ∨ ∃ x, l[m]? = some x ∧ M < x.toNat := by
  unfold okB at h
  cases hx : l[m]? with
  | none => exact .inl rfl
  | some y =>
    simp only [hx] at h
    split at h
    · simp at h
    · exact .inr ⟨y, rfl, by omega⟩

set_option maxHeartbeats 400000 in
theorem rb_yes (R : Nat) (A : Option Addr) (c : Nat) (l : List UInt8) (m sz M : Nat) (x : UInt8) (w : World) (h : Rdr w R A c l m sz) (hx : okB l m M = some x) :
    Calls Tryd.prog 53 #[.pointer (some ⟨R, 0, none⟩), .int .u8 (M : Int)] w fun e w' => e = .returned (.tuple #[.int .u8 (x.toNat : Int), .bool true]) ∧ Only R w w' ∧ Rdr w' R A c l (m + 1) sz := by
  obtain ⟨hx1, hxM, hlt⟩ := okB_some hx
  have HR := Lib.hid h
  have HX := Lib.hid hx1
  have hlen := h.len
  clear h hx hx1
  go_enter Tryd.func53, Tryd.ntmps53
  go_wp2_with (fail)
  refine (look_at R A c l m sz x w HR.out HX.out).mono ?_
  rintro e w2 ⟨rfl, hb⟩
  have HR2 := Lib.hid (HR.out.below hb)
  have c0 := cell3_0 HR2.out.box
  have c1 := cell3_1 HR2.out.box
  have f1 := cell3_f HR2.out.box 1
  have hm : decide ((M : Int) < (x.toNat : Int)) = false := by simp; omega
  go_wp2_with (fail)
  go_ret2
  exact ⟨rfl, (Only.of_below hb).trans (Only.set_ _ _ _ _), HR2.out.go 1 _ (by simp) (by omega)⟩

set_option maxHeartbeats 400000 in
theorem rb_no (R : Nat) (A : Option Addr) (c : Nat) (l : List UInt8) (m sz M : Nat) (w : World) (h : Rdr w R A c l m sz) (hx : okB l m M = none) :
    Calls Tryd.prog 53 #[.pointer (some ⟨R, 0, none⟩), .int .u8 (M : Int)] w fun e w' => e = .returned (.tuple #[.int .u8 0, .bool false]) ∧ Only R w w' ∧ Rdr w' R A c l m sz := by
  have hle := h.le
  rcases okB_none hx with hx1 | ⟨x, hx1, hxM⟩
  · have hm : m = l.length := by have := List.getElem?_eq_none_iff.1 hx1; omega
    subst hm
    have HR := Lib.hid h
    clear h hx hx1
    go_enter Tryd.func53, Tryd.ntmps53
    go_wp2_with (fail)
    refine (look_end R A c l sz w HR.out).mono ?_
    rintro e w2 ⟨rfl, hb⟩
    go_wp2_with (fail)
    go_ret2
    exact ⟨rfl, Only.of_below hb, HR.out.below hb⟩
  · have HR := Lib.hid h
    have HX := Lib.hid hx1
    clear h hx hx1
    go_enter Tryd.func53, Tryd.ntmps53
    go_wp2_with (fail)
    refine (look_at R A c l m sz x w HR.out HX.out).mono ?_
    rintro e w2 ⟨rfl, hb⟩
    have hm : decide ((M : Int) < (x.toNat : Int)) = true := by simp; omega
    go_wp2_with (fail)
    go_ret2
    exact ⟨rfl, Only.of_below hb, HR.out.below hb⟩

/-- A number of k bytes, the highest first; the first one is at most M: where it ends, and the number; none: where the fault is. -/
def numL (l : List UInt8) : Nat → Nat → Nat → Nat → Nat × Option Nat
  | 0, acc, m, _ => (m, some acc)
  | k + 1, acc, m, M => match okB l m M with
    | none => (m, none)
    | some x => numL l k (acc * 256 + x.toNat) (m + 1) 255

theorem or_byte (n : Nat) (x : UInt8) (hn : n < 2 ^ 56) : bits .or .u64 ((n : Int) * 256) (x.toNat : Int) = ((n * 256 + x.toNat : Nat) : Int) := by
  have hx := x.toNat_lt
  change IntKind.u64.wrap ((BitVec.ofInt 64 ((n : Int) * 256) ||| BitVec.ofInt 64 (x.toNat : Int)).toNat : Int) = _
  rw [BitVec.toNat_or, BitVec.toNat_ofInt, BitVec.toNat_ofInt]
  have h2 : ((2 ^ 64 : Nat) : Int) = 18446744073709551616 := by decide
  have h1 : (((n : Int) * 256) % ((2 ^ 64 : Nat) : Int)).toNat = n <<< 8 := by
    rw [h2, Nat.shiftLeft_eq]; omega
  have h3 : ((x.toNat : Int) % ((2 ^ 64 : Nat) : Int)).toNat = x.toNat := by rw [h2]; omega
  rw [h1, h3, ← Nat.shiftLeft_add_eq_or_of_lt (by omega : x.toNat < 2 ^ 8), Nat.shiftLeft_eq]
  simp only [IntKind.wrap, IntKind.bits, IntKind.signed]
  simp
  omega

/-- What readNumber answers with. -/
def NumOut (R : Nat) (A : Option Addr) (c : Nat) (l : List UInt8) (sz : Nat) (w : World) (e : Ending) (w' : World) : Nat × Option Nat → Prop
  | (m', none) => e = .returned (.tuple #[.int .u64 0, .bool false]) ∧ Only R w w' ∧ Rdr w' R A c l m' sz
  | (m', some n) => e = .returned (.tuple #[.int .u64 (n : Int), .bool true]) ∧ Only R w w' ∧ Rdr w' R A c l m' sz

set_option maxRecDepth 100000 in
set_option maxHeartbeats 1000000 in
theorem num_any (R : Nat) (A : Option Addr) (c : Nat) (l : List UInt8) (m sz k M : Nat) (w : World) (h : Rdr w R A c l m sz) (hk : k ≤ 8) (hM : M ≤ 255) :
    Calls Tryd.prog 46 #[.pointer (some ⟨R, 0, none⟩), .int .i64 (k : Int), .int .u8 (M : Int)] w fun e w' => NumOut R A c l sz w e w' (numL l k 0 m M) := by
  have HR := Lib.hid h
  clear h
  go_enter Tryd.func46, Tryd.ntmps46
  go_wp2_with (fail)
  go_loopw [2, 8, 12] (fun mv nv i wr => ∃ j acc m2 M2 : Nat, i = .int .i64 (j : Int) ∧ nv = .int .u64 (acc : Int) ∧ mv = .int .u8 (M2 : Int) ∧ j ≤ k ∧ acc < 256 ^ j ∧ M2 ≤ 255 ∧ Hid (numL l k 0 m M = numL l (k - j) acc m2 M2) ∧ Only R w wr ∧ Hid (Rdr wr R A c l m2 sz)) (fun _ _ i _ => 10 - (intOf i).toNat)
  case atStart => exact ⟨0, 0, m, M, rfl, rfl, rfl, by omega, by simp, hM, rfl, Only.refl _ _, HR⟩
  case round =>
    obtain ⟨j, acc, m2, M2, rfl, rfl, rfl, hj, hacc, hM2, HE, hor, HR2⟩ := hrel
    by_cases hlt : j < k
    · have hp : 256 ^ j ≤ 256 ^ 7 := Nat.pow_le_pow_right (by omega) (by omega)
      have hp2 : (256 : Nat) ^ 7 = 72057594037927936 := by decide
      have hac : acc < 72057594037927936 := by omega
      have hk1 : k - j = (k - (j + 1)) + 1 := by omega
      have HK := Lib.hid hk1
      have hps : 256 ^ (j + 1) = 256 ^ j * 256 := Nat.pow_succ ..
      have HPS := Lib.hid hps
      have HAC := Lib.hid hacc
      clear hp hp2 hk1 hps hacc
      go_wp2_with (fail)
      cases hx : okB l m2 M2 with
      | none =>
        have HF : Hid (numL l k 0 m M = (m2, none)) := by show _ = _; rw [HE.out, HK.out]; simp only [numL, hx]
        have HX := Lib.hid hx
        clear hx
        refine (rb_no R A c l m2 sz M2 wr HR2.out HX.out).mono ?_
        rintro e w3 ⟨rfl, ho3, hr3⟩
        have HR3 := Lib.hid hr3
        clear hr3
        go_wp2_with (fail)
        go_ret2
        rw [HF.out]
        exact ⟨rfl, hor.trans ho3, HR3.out⟩
      | some x =>
        have HF : Hid (numL l k 0 m M = numL l (k - (j + 1)) (acc * 256 + x.toNat) (m2 + 1) 255) := by show _ = _; rw [HE.out, HK.out]; simp only [numL, hx]
        have HX := Lib.hid hx
        have hxl := x.toNat_lt
        have hnew : acc * 256 + x.toNat < 256 ^ (j + 1) := by rw [HPS.out]; have := HAC.out; omega
        have HNEW := Lib.hid hnew
        have HOR := Lib.hid (or_byte acc x (by omega))
        clear hx hnew
        refine (rb_yes R A c l m2 sz M2 x wr HR2.out HX.out).mono ?_
        rintro e w3 ⟨rfl, ho3, hr3⟩
        have HR3 := Lib.hid hr3
        clear hr3
        go_wp2_with (fail)
        go_roundw
        case rel => exact ⟨j + 1, acc * 256 + x.toNat, m2 + 1, 255, by go_num, by rw [← HOR.out], rfl, by omega, HNEW.out, by omega, HF, hor.trans ho3, HR3⟩
        case measure => simp [intOf]; omega
    · obtain rfl : j = k := by omega
      have HF : Hid (numL l j 0 m M = (m2, some acc)) := by show _ = _; rw [HE.out, Nat.sub_self]; rfl
      go_wp2_with (fail)
      go_ret2
      rw [HF.out]
      exact ⟨rfl, hor, HR2.out⟩
end Go.Proofs.YtbafplnolmdlnaaDoor
