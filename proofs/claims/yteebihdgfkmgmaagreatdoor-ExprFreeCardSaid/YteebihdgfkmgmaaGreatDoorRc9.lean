/-
The reader of package expr: has, isName, readName.
-/
import Derived.Test.YteebihdgfkmgmaaGreatDoorRc7
import Derived.Test.YteebihdgfkmgmaaGreatDoorWd4
import Derived.Test.YteebihdgfkmgmaaGreatDoorNd
namespace Go.Proofs.YteebihdgfkmgmaaGreatDoor
open Go.RowKit

theorem str_bl (s : ByteArray) : (⟨(bl s).toArray⟩ : ByteArray) = s := by
  unfold bl
  cases s; simp
theorem wordOf_str (s : ByteArray) (w : World) : Calls Tryz.prog 93 #[.string s] w fun e w' => WdOut e (wdP (bl s)) ∧ Below w.heap.size w w' := by
  have := wordOf_any (bl s) w
  rw [str_bl] at this
  exact this

def hasB (p : List UInt8) (b : UInt8) : Bool := decide (0 ≤ Lib.indexByte p b)
theorem has_any (p : List UInt8) (n : Int) (b : UInt8) (w : World) : Calls Tryz.prog 120 #[.agg #[.string ⟨p.toArray⟩, .int .i64 n], .int .u8 (b.toNat : Int)] w fun e w' => e = .returned (.bool (hasB p b)) ∧ Below w.heap.size w w' := by
  go_enter Tryz.func120, Tryz.ntmps120
  go_wp2_with (fail)
  refine (Tryz.strings_IndexByte ⟨p.toArray⟩ _ _).mono ?_
  rintro e w' ⟨rfl, rfl⟩
  have hc : ((b.toNat : Int)).toNat.toUInt8 = b := by rw [Int.toNat_natCast]; exact of_to b
  rw [hc, show (ByteArray.mk p.toArray).data.toList = p by simp]
  have HF : Hid (hasB p b = decide (0 ≤ Lib.indexByte p b)) := Lib.hid rfl
  clear hc
  generalize Lib.indexByte p b = z at *
  go_wp2_with (fail)
  go_ret
  rw [HF.out]
  exact ⟨rfl, (Below.refl _ _).alloc (Nat.le_refl _) _⟩

/-- Whether all of it is a name. -/
def isNm (l : List UInt8) : Bool := decide (l ≠ []) && decide (nmL l = l.length) && (wdP l).isNone

set_option maxRecDepth 100000 in
set_option maxHeartbeats 1000000 in
theorem isName_any (s : ByteArray) (w : World) (hs : s.size ≤ 1000000) : Calls Tryz.prog 127 #[.string s] w fun e w' => e = .returned (.bool (isNm (bl s))) ∧ Below w.heap.size w w' := by
  by_cases h0 : s.size = 0
  · have hl : bl s = [] := List.eq_nil_of_length_eq_zero (by rw [bl_length]; exact h0)
    have HF : Hid (isNm (bl s) = false) := Lib.hid (by unfold isNm; simp [hl])
    have he : s = ⟨#[]⟩ := by rw [← str_bl s, hl]
    have HW := Lib.hid (wordOf_str s w)
    subst he
    clear h0 hl
    go_enter Tryz.func127, Tryz.ntmps127
    go_wp2_with (fail)
    refine HW.out.mono ?_
    rw [show wdP (bl ⟨#[]⟩) = none by decide +kernel]
    rintro e w2 ⟨he, hb⟩
    obtain rfl : e = .returned (.tuple #[.agg #[.string ⟨#[]⟩, .int .i64 0], .bool false]) := he
    go_wp2_with (fail)
    go_ret
    rw [HF.out]
    exact ⟨rfl, hb.alloc hb.size _⟩
  · have hln : bl s ≠ [] := by
      intro e
      have h2 := bl_length s
      rw [e] at h2
      exact h0 h2.symm
    have hne : s.toList ≠ [] := by rw [Lib.toList_data]; exact hln
    have hne2 : (s.toList == ([] : List UInt8)) = false := by simp [hne]
    have hemp : s.toList.isEmpty = false := by simp [hne]
    have HLN := Lib.hid hln
    have hkk := nmL_le (bl s)
    obtain ⟨k, hk⟩ : ∃ k, k = nmL (bl s) := ⟨_, rfl⟩
    have HK := Lib.hid hk
    clear h0 hln hk hkk
    go_enter Tryz.func127, Tryz.ntmps127
    go_wp2_with (fail)
    refine (wordOf_str s w).mono ?_
    cases hw : wdP (bl s) with
    | none =>
      have HW := Lib.hid hw
      clear hw
      rintro e w2 ⟨he, hb⟩
      obtain rfl : e = .returned (.tuple #[.agg #[.string ⟨#[]⟩, .int .i64 0], .bool false]) := he
      go_wp2_with (fail)
      refine (nameLength_any s _ hs).mono ?_
      rw [← HK.out]
      rintro e w3 ⟨rfl, rfl⟩
      by_cases hke : k = s.size
      · have hk2 : ((k : Int) == (s.size : Int)) = true := by simp [hke]
        have HF : Hid (isNm (bl s) = true) := Lib.hid (by
          unfold isNm
          rw [HW.out, bl_length, ← HK.out]
          simp [HLN.out, hke])
        clear hke
        go_wp2_with (fail)
        go_ret
        rw [HF.out]
        exact ⟨rfl, hb.alloc hb.size _⟩
      · have hk2 : ((k : Int) == (s.size : Int)) = false := beq_eq_false_iff_ne.2 (by omega)
        have HF : Hid (isNm (bl s) = false) := Lib.hid (by
          unfold isNm
          rw [HW.out, bl_length, ← HK.out]
          simp [hke])
        clear hke
        go_wp2_with (fail)
        go_ret
        rw [HF.out]
        exact ⟨rfl, hb.alloc hb.size _⟩
    | some p =>
      obtain ⟨P, n⟩ := p
      have HF : Hid (isNm (bl s) = false) := Lib.hid (by unfold isNm; rw [hw]; simp)
      clear hw
      rintro e w2 ⟨he, hb⟩
      obtain rfl : e = .returned (.tuple #[.agg #[.string ⟨P.toArray⟩, .int .i64 (n : Int)], .bool true]) := he
      go_wp2_with (fail)
      refine (nameLength_any s _ hs).mono ?_
      rw [← HK.out]
      rintro e w3 ⟨rfl, rfl⟩
      by_cases hke : k = s.size
      · have hk2 : ((k : Int) == (s.size : Int)) = true := by simp [hke]
        clear hke
        go_wp2_with (fail)
        go_ret
        rw [HF.out]
        exact ⟨rfl, hb.alloc hb.size _⟩
      · have hk2 : ((k : Int) == (s.size : Int)) = false := beq_eq_false_iff_ne.2 (by omega)
        clear hke
        go_wp2_with (fail)
        go_ret
        rw [HF.out]
        exact ⟨rfl, hb.alloc hb.size _⟩
end Go.Proofs.YteebihdgfkmgmaaGreatDoor

namespace Go.Proofs.YteebihdgfkmgmaaGreatDoor
open Go.RowKit

/-- What a reader of terms answers with. -/
def NOut (d R : Nat) (s : ByteArray) (w : World) (e : Ending) (w' : World) : Nat × Option Nd → Prop
  | (m', none) => (∃ v, JunkN v ∧ e = .returned (.tuple #[v, .bool false])) ∧ Only R w w' ∧ Rdr w' R s m'
  | (m', some n) => (∃ v, NdAt w' (fun b => w.heap.size ≤ b) d v n ∧ e = .returned (.tuple #[v, .bool true])) ∧ Only R w w' ∧ Rdr w' R s m'
theorem nout_bad {d R : Nat} {s : ByteArray} {w W : World} {v : Value} {m' : Nat} (hv : JunkN v) (ho : Only R w W) (hr : Rdr W R s m') : NOut d R s w (.returned (.tuple #[v, .bool false])) W (m', none) := ⟨⟨v, hv, rfl⟩, ho, hr⟩
theorem nout_good {d R : Nat} {s : ByteArray} {w W : World} {v : Value} {n : Nd} {m' : Nat} (hv : NdAt W (fun b => w.heap.size ≤ b) d v n) (ho : Only R w W) (hr : Rdr W R s m') : NOut d R s w (.returned (.tuple #[v, .bool true])) W (m', some n) := ⟨⟨v, hv, rfl⟩, ho, hr⟩
theorem Rdr.far {w : World} {R : Nat} {s : ByteArray} {m : Nat} {p : Addr} {u : Value} (hp : R ≠ p.block) (h : Rdr w R s m) : Rdr (w.setCell p u) R s m := ⟨(Below.heap_setCell w p u R hp).trans h.box, h.le, h.len⟩
theorem Rdr.more {w : World} {R : Nat} {s : ByteArray} {m : Nat} {o : Obj} (h : Rdr w R s m) : Rdr (w.alloc o) R s m := ⟨(Below.heap_alloc w o R h.lt).trans h.box, h.le, h.len⟩

def nameN (t : List UInt8) : Nd := .mk [110, 97, 109, 101] 0 t ty0 []
/-- A name, where no other expression may stand. -/
def nameR (l : List UInt8) (m : Nat) : Nat × Option Nd := (m + (spel l m).length, if isNm (spel l m) then some (nameN (spel l m)) else none)

theorem spel_le (l : List UInt8) (m : Nat) : (spel l m).length ≤ 16 := by
  unfold spel
  have := nmL_le (l.drop m)
  rw [List.length_take]
  omega

set_option maxRecDepth 100000 in
set_option maxHeartbeats 1000000 in
theorem readName_any (d R : Nat) (s : ByteArray) (m : Nat) (w : World) (h : Rdr w R s m) :
    Calls Tryz.prog 185 #[.pointer (some ⟨R, 0, none⟩)] w fun e w' => NOut (d + 1) R s w e w' (nameR (bl s) m) := by
  have hRl := h.lt
  have hb1 := (Below.refl w.heap.size w).alloc (Nat.le_refl _) (.cells #[.string ⟨#[]⟩, .int .i64 0, .string ⟨#[]⟩, .int .i64 0, .slice none 0 0, .slice none 0 0] 27)
  have hn := heap_alloc_new w (.cells #[.string ⟨#[]⟩, .int .i64 0, .string ⟨#[]⟩, .int .i64 0, .slice none 0 0, .slice none 0 0] 27)
  have HN := Lib.hid hn
  have HR1 := Lib.hid (h.below hb1)
  have HR := Lib.hid h
  clear h hn
  go_enter Tryz.func185, Tryz.ntmps185
  go_wp2_with (fail)
  obtain ⟨w1, hw1⟩ : ∃ w1, w1 = w.alloc (.cells #[.string ⟨#[]⟩, .int .i64 0, .string ⟨#[]⟩, .int .i64 0, .slice none 0 0, .slice none 0 0] 27) := ⟨_, rfl⟩
  have hs1 : w1.heap.size = w.heap.size + 1 := by rw [hw1]; simp
  rw [← hw1] at hb1 HN HR1
  rw [← hw1]
  clear hw1
  refine (spelt_any R s m w1 HR1.out).mono ?_
  rintro e w2 ⟨⟨t, ht, rfl⟩, ho, hr⟩
  have HT := Lib.hid ht
  have hts : t.size ≤ 1000000 := by have := spel_le (bl s) m; rw [← ht, bl_length] at this; omega
  have HO2 := Lib.hid ho
  have HR2 := Lib.hid hr
  have HN2 := Lib.hid ((ho.block w.heap.size (by omega) (by simp; omega)).trans HN.out)
  have hs2 := ho.size
  clear ht ho hr
  go_wp2_with (fail)
  refine (isName_any t w2 hts).mono ?_
  rintro e w3 ⟨rfl, hb3⟩
  have HO3 := Lib.hid (((Only.of_below hb1).trans HO2.out).trans (Only.of_below (R := R) hb3))
  have HR3 := Lib.hid (HR2.out.below hb3)
  have HN3 := Lib.hid ((hb3.block w.heap.size (by omega)).trans HN2.out)
  have hs3 := hb3.size
  have HF : Hid (nameR (bl s) m = (m + (spel (bl s) m).length, if isNm (bl t) then some (nameN (bl t)) else none)) := by show _ = _; unfold nameR; rw [HT.out]
  have d0 := cell6_0 HN3.out
  have d1 := cell6_1 HN3.out
  have d2 := cell6_2 HN3.out
  have d3 := cell6_3 HN3.out
  have d4 := cell6_4 HN3.out
  have d5 := cell6_5 HN3.out
  have f0 := cell3_f HN3.out 0
  have f1 := cell3_f HN3.out 1
  have f2 := cell3_f HN3.out 2
  have f3 := cell3_f HN3.out 3
  have f4 := cell3_f HN3.out 4
  have f5 := cell3_f HN3.out 5
  have hl := cell_lt HN3.out
  clear hb3
  cases hnm : isNm (bl t) with
  | true =>
    have HG : Hid (nameR (bl s) m = (m + (spel (bl s) m).length, some (nameN (bl t)))) := by show _ = _; rw [HF.out, if_pos hnm]
    clear hnm
    go_wp2_with (fail)
    refine bodyPost_ret (v := .tuple #[.agg #[.string ⟨#[110, 97, 109, 101]⟩, .int .i64 0, .string t, .int .i64 0, .slice none 0 0, .slice none 0 0], .bool true]) (by simp [results, Tryz.results185, go_sem, d0, d1, d2, d3, d4, d5]) rfl ?_
    rw [HG.out]
    have hOO := HO3.out
    have hRR := HR3.out
    refine nout_good ?_ ?_ ?_
    · have := NdAt.leaf (((((((w3.setCell ⟨w.heap.size, 0, none⟩ (.string ⟨#[110, 97, 109, 101]⟩)).setCell ⟨w.heap.size, 1, none⟩ (.int .i64 0)).setCell ⟨w.heap.size, 2, none⟩ (.string t)).setCell ⟨w.heap.size, 3, none⟩ (.int .i64 0)).setCell ⟨w.heap.size, 4, none⟩ (.slice none 0 0)).setCell ⟨w.heap.size, 5, none⟩ (.slice none 0 0))) (fun b => w.heap.size ≤ b) d [110, 97, 109, 101] 0 (bl t)
      rw [str_bl] at this
      exact this
    · (repeat' (first | with_reducible assumption | with_reducible refine Only.far ?_ ?_ | (dsimp only; omega)))
    · (repeat' (first | with_reducible assumption | with_reducible refine Rdr.far ?_ ?_ | (dsimp only; omega)))
  | false =>
    have HG : Hid (nameR (bl s) m = (m + (spel (bl s) m).length, none)) := by show _ = _; rw [HF.out, if_neg (by rw [hnm]; decide)]
    clear hnm
    go_wp2_with (fail)
    refine bodyPost_ret (v := .tuple #[.agg #[.string ⟨#[110, 97, 109, 101]⟩, .int .i64 0, .string t, .int .i64 0, .slice none 0 0, .slice none 0 0], .bool false]) (by simp [results, Tryz.results185, go_sem, d0, d1, d2, d3, d4, d5]) rfl ?_
    rw [HG.out]
    have hOO := HO3.out
    have hRR := HR3.out
    refine nout_bad ⟨_, _, _, _, _, _, _, _, _, _, rfl⟩ ?_ ?_
    · (repeat' (first | with_reducible assumption | with_reducible refine Only.far ?_ ?_ | (dsimp only; omega)))
    · (repeat' (first | with_reducible assumption | with_reducible refine Rdr.far ?_ ?_ | (dsimp only; omega)))
end Go.Proofs.YteebihdgfkmgmaaGreatDoor
