import Derived.Test.YtaecndmncpfpfaaGreatDoorRc1
import Derived.Test.YtaecndmncpfpfaaGreatDoorRc7
import Derived.Test.YtaecndmncpfpfaaGreatDoorWd4
namespace Go.Proofs.YtaecndmncpfpfaaGreatDoor
open Go.RowKit
inductive Nd where
 | mk (op : List UInt8) (int : Int) (text : List UInt8) (ty : Ty) (kids : List Nd)
def Nd.op : Nd → List UInt8 | .mk o _ _ _ _ => o
def Nd.int : Nd → Int | .mk _ i _ _ _ => i
def Nd.text : Nd → List UInt8 | .mk _ _ t _ _ => t
def Nd.ty : Nd → Ty | .mk _ _ _ t _ => t
def Nd.kids : Nd → List Nd | .mk _ _ _ _ l => l
def ty0 : Ty := .mk 0 []
def NdAt (w : World) (S : Nat → Prop) : Nat → Value → Nd → Prop
 | 0, _, _ => False
 | d + 1, v, n => ∃ A c K k, v = .agg #[.string ⟨n.op.toArray⟩, .int .i64 n.int, .string ⟨n.text.toArray⟩, .int .i64 n.ty.kind, .slice A n.ty.args.length c, .slice K n.kids.length k] ∧
     (∃ dt, TyAt w S dt (.agg #[.int .i64 n.ty.kind, .slice A n.ty.args.length c]) n.ty) ∧ n.kids.length ≤ k ∧
     (0 < n.kids.length → ∃ b o, K = some ⟨b, o, none⟩ ∧ S b ∧ ∀ (j : Nat) (a : Nd), n.kids[j]? = some a → ∃ u0 u1 u2 u3 u4 u5, w.cell? ⟨b, o + j * 6, none⟩ = some u0 ∧ w.cell? ⟨b, o + j * 6 + 1, none⟩ = some u1 ∧ w.cell? ⟨b, o + j * 6 + 2, none⟩ = some u2 ∧ w.cell? ⟨b, o + j * 6 + 3, none⟩ = some u3 ∧ w.cell? ⟨b, o + j * 6 + 4, none⟩ = some u4 ∧ w.cell? ⟨b, o + j * 6 + 5, none⟩ = some u5 ∧ NdAt w S d (.agg #[u0, u1, u2, u3, u4, u5]) a)
theorem NdAt.form {w : World} {S : Nat → Prop} {d : Nat} {v : Value} {n : Nd} (h : NdAt w S d v n) : ∃ A c K k, v = .agg #[.string ⟨n.op.toArray⟩, .int .i64 n.int, .string ⟨n.text.toArray⟩, .int .i64 n.ty.kind, .slice A n.ty.args.length c, .slice K n.kids.length k] := by
 cases d with
 | zero => exact h.elim
 | succ d => obtain ⟨A, c, K, k, hv, _⟩ := h; exact ⟨A, c, K, k, hv⟩
theorem NdAt.move {w w' : World} {S S' : Nat → Prop} (hk : ∀ b, S b → b < w.heap.size → S' b ∧ ∀ o, w'.cell? ⟨b, o, none⟩ = w.cell? ⟨b, o, none⟩) : ∀ (d : Nat) (v : Value) (n : Nd), NdAt w S d v n → NdAt w' S' d v n
 | 0, _, _, h => h
 | d + 1, v, n, ⟨A, c, K, k, hv, ⟨dt, ht⟩, hlk, h⟩ => ⟨A, c, K, k, hv, ⟨dt, TyAt.move hk dt _ _ ht⟩, hlk, fun hl => by
     obtain ⟨b, o, hK, hS, hj⟩ := h hl
     have hlt : b < w.heap.size := by
      obtain ⟨u0, u1, u2, u3, u4, u5, h0, _⟩ := hj 0 _ (List.getElem?_eq_getElem hl)
      exact World.block_lt_of_cell? w _ h0
     obtain ⟨hS', hcell⟩ := hk b hS hlt
     refine ⟨b, o, hK, hS', fun j a ha => ?_⟩
     obtain ⟨u0, u1, u2, u3, u4, u5, h0, h1, h2, h3, h4, h5, h6⟩ := hj j a ha
     exact ⟨u0, u1, u2, u3, u4, u5, (hcell _).trans h0, (hcell _).trans h1, (hcell _).trans h2, (hcell _).trans h3, (hcell _).trans h4, (hcell _).trans h5, NdAt.move hk d _ _ h6⟩⟩
theorem NdAt.below {w w' : World} {S : Nat → Prop} {d : Nat} {v : Value} {n : Nd} (h : NdAt w S d v n) (hb : Below w.heap.size w w') : NdAt w' S d v n :=
 NdAt.move (fun b hS hl => ⟨hS, fun o => hb.cell (p := ⟨b, o, none⟩) hl⟩) d v n h
theorem NdAt.wider {w : World} {S S' : Nat → Prop} {d : Nat} {v : Value} {n : Nd} (h : NdAt w S d v n) (hS : ∀ b, S b → S' b) : NdAt w S' d v n :=
 NdAt.move (fun b hb _ => ⟨hS b hb, fun _ => rfl⟩) d v n h
theorem NdAt.only {w w' : World} {R d : Nat} {S : Nat → Prop} {v : Value} {n : Nd} (h : NdAt w S d v n) (hS : ∀ b, S b → b ≠ R) (ho : Only R w w') : NdAt w' S d v n :=
 NdAt.move (fun b hb hl => ⟨hb, fun _ => World.cell?_of_block (ho.block b hl (by simpa using hS b hb))⟩) d v n h
theorem ty_zero (w : World) (S : Nat → Prop) : TyAt w S 1 (.agg #[.int .i64 0, .slice none 0 0]) ty0 := ⟨none, 0, rfl, Nat.le_refl _, fun h => absurd h (by simp [ty0, Ty.args])⟩
theorem NdAt.leaf (w : World) (S : Nat → Prop) (d : Nat) (o : List UInt8) (i : Int) (t : List UInt8) : NdAt w S (d + 1) (.agg #[.string ⟨o.toArray⟩, .int .i64 i, .string ⟨t.toArray⟩, .int .i64 0, .slice none 0 0, .slice none 0 0]) (.mk o i t ty0 []) :=
 ⟨none, 0, none, 0, rfl, ⟨1, ty_zero w S⟩, Nat.le_refl _, fun h => absurd h (by simp [Nd.kids])⟩
theorem zN {w : World} {g : Nat} {a0 a1 a2 a3 a4 a5 : Value} {t : TypeId} (h : w.heap[g]? = some (.cells #[a0, a1, a2, a3, a4, a5] t (0, 0))) : w.cell? ⟨g, 0, none⟩ = some a0 := by simp [World.cell?, h]
theorem zR {w : World} {g : Nat} {a0 a1 a2 a3 a4 a5 : Value} {t : TypeId} (h : w.heap[g]? = some (.cells #[a0, a1, a2, a3, a4, a5] t (0, 0))) : w.cell? ⟨g, 1, none⟩ = some a1 := by simp [World.cell?, h]
theorem zQ {w : World} {g : Nat} {a0 a1 a2 a3 a4 a5 : Value} {t : TypeId} (h : w.heap[g]? = some (.cells #[a0, a1, a2, a3, a4, a5] t (0, 0))) : w.cell? ⟨g, 2, none⟩ = some a2 := by simp [World.cell?, h]
theorem zP {w : World} {g : Nat} {a0 a1 a2 a3 a4 a5 : Value} {t : TypeId} (h : w.heap[g]? = some (.cells #[a0, a1, a2, a3, a4, a5] t (0, 0))) : w.cell? ⟨g, 3, none⟩ = some a3 := by simp [World.cell?, h]
theorem zO {w : World} {g : Nat} {a0 a1 a2 a3 a4 a5 : Value} {t : TypeId} (h : w.heap[g]? = some (.cells #[a0, a1, a2, a3, a4, a5] t (0, 0))) : w.cell? ⟨g, 4, none⟩ = some a4 := by simp [World.cell?, h]
theorem zL {w : World} {g : Nat} {a0 a1 a2 a3 a4 a5 : Value} {t : TypeId} (h : w.heap[g]? = some (.cells #[a0, a1, a2, a3, a4, a5] t (0, 0))) : w.cell? ⟨g, 5, none⟩ = some a5 := by simp [World.cell?, h]
theorem put6_heap {w : World} {g : Nat} {a0 a1 a2 a3 a4 a5 b0 b1 b2 b3 b4 b5 : Value} {t : TypeId} (h : w.heap[g]? = some (.cells #[a0, a1, a2, a3, a4, a5] t (0, 0))) : ((((((w.setCell ⟨g, 0, none⟩ b0).setCell ⟨g, 1, none⟩ b1).setCell ⟨g, 2, none⟩ b2).setCell ⟨g, 3, none⟩ b3).setCell ⟨g, 4, none⟩ b4).setCell ⟨g, 5, none⟩ b5).heap[g]? = some (.cells #[b0, b1, b2, b3, b4, b5] t (0, 0)) := by
 simp [World.setCell, Array.getElem?_modify, h]
theorem set6_block {w : World} {g b : Nat} {b0 b1 b2 b3 b4 b5 : Value} (hne : b ≠ g) : ((((((w.setCell ⟨g, 0, none⟩ b0).setCell ⟨g, 1, none⟩ b1).setCell ⟨g, 2, none⟩ b2).setCell ⟨g, 3, none⟩ b3).setCell ⟨g, 4, none⟩ b4).setCell ⟨g, 5, none⟩ b5).heap[b]? = w.heap[b]? := by
 rw [Below.heap_setCell _ _ _ _ hne, Below.heap_setCell _ _ _ _ hne, Below.heap_setCell _ _ _ _ hne, Below.heap_setCell _ _ _ _ hne, Below.heap_setCell _ _ _ _ hne, Below.heap_setCell _ _ _ _ hne]
def JunkN (v : Value) : Prop := ∃ (o : ByteArray) (i : Int) (t : ByteArray) (k : Int) (A : Option Addr) (n c : Nat) (K : Option Addr) (m e : Nat), v = .agg #[.string o, .int .i64 i, .string t, .int .i64 k, .slice A n c, .slice K m e]
theorem cells28 : Tryz.prog.cellsOf 41 = 6 := by kernel_rfl
theorem info28 : (Tryz.prog.info? 41).map (fun i => (i.zero, i.size, i.bytes)) = some (some (.agg #[.string ⟨#[]⟩, .int .i64 0, .string ⟨#[]⟩, .int .i64 0, .slice none 0 0, .slice none 0 0]), 6, 96) := by kernel_rfl
end Go.Proofs.YtaecndmncpfpfaaGreatDoor
namespace Go.Proofs.YtaecndmncpfpfaaGreatDoor
open Go.RowKit
theorem str_bl (s : ByteArray) : (⟨(bl s).toArray⟩ : ByteArray) = s := by
 unfold bl
 cases s; simp
theorem wordOf_str (s : ByteArray) (w : World) : Calls Tryz.prog 75 #[.string s] w fun e w' => WdOut e (wdP (bl s)) ∧ Below w.heap.size w w' := by
 have := wordOf_any (bl s) w
 rw [str_bl] at this
 exact this
def hasB (p : List UInt8) (b : UInt8) : Bool := decide (0 ≤ Lib.indexByte p b)
theorem has_any (p : List UInt8) (n : Int) (b : UInt8) (w : World) : Calls Tryz.prog 132 #[.agg #[.string ⟨p.toArray⟩, .int .i64 n], .int .u8 (b.toNat : Int)] w fun e w' => e = .returned (.bool (hasB p b)) ∧ Below w.heap.size w w' := by
 go_enter Tryz.func132, Tryz.ntmps132
 go_wp2_with (fail)
 refine (Tryz.strings_IndexByte ⟨p.toArray⟩ _ _).mono ?_
 rintro e w' ⟨rfl, rfl⟩
 have hc : ((b.toNat : Int)).toNat.toUInt8 = b := by rw [Int.toNat_natCast]; exact of_to b
 rw [hc, show (ByteArray.mk p.toArray).data.toList = p by simp]
 have HF : Hid (hasB p b = decide (0 ≤ Lib.indexByte p b)) := Lib.hid rfl
 clear hc
 generalize Lib.indexByte p b = z at *
 go_wp2_with (fail)
 go_ret
 rw [HF.out]
 exact ⟨rfl, (Below.refl _ _).alloc (Nat.le_refl _) _⟩
def isNm (l : List UInt8) : Bool := decide (l ≠ []) && decide (nmL l = l.length) && (wdP l).isNone
set_option maxRecDepth 100000 in
set_option maxHeartbeats 1000000 in
theorem isName_any (s : ByteArray) (w : World) (hs : s.size ≤ 1000000) : Calls Tryz.prog 126 #[.string s] w fun e w' => e = .returned (.bool (isNm (bl s))) ∧ Below w.heap.size w w' := by
 by_cases h0 : s.size = 0
 · have hl : bl s = [] := List.eq_nil_of_length_eq_zero (by rw [zT]; exact h0)
   have HF : Hid (isNm (bl s) = false) := Lib.hid (by unfold isNm; simp [hl])
   have he : s = ⟨#[]⟩ := by rw [← str_bl s, hl]
   have HW := Lib.hid (wordOf_str s w)
   subst he
   clear h0 hl
   go_enter Tryz.func126, Tryz.ntmps126
   go_wp2_with (fail)
   refine HW.out.mono ?_
   rw [show wdP (bl ⟨#[]⟩) = none by decide +kernel]
   rintro e w2 ⟨he, hb⟩
   obtain rfl : e = .returned (.tuple #[.agg #[.string ⟨#[]⟩, .int .i64 0], .bool false]) := he
   go_wp2_with (fail)
   go_ret
   rw [HF.out]
   exact ⟨rfl, hb.alloc hb.size _⟩
 · have hln : bl s ≠ [] := by
     intro e
     have h2 := zT s
     rw [e] at h2
     exact h0 h2.symm
   have hne : s.toList ≠ [] := by rw [Lib.toList_data]; exact hln
   have hne2 : (s.toList == ([] : List UInt8)) = false := by simp [hne]
   have hemp : s.toList.isEmpty = false := by simp [hne]
   have HLN := Lib.hid hln
   have hkk := nmL_le (bl s)
   obtain ⟨k, hk⟩ : ∃ k, k = nmL (bl s) := ⟨_, rfl⟩
   have HK := Lib.hid hk
   clear h0 hln hk hkk
   go_enter Tryz.func126, Tryz.ntmps126
   go_wp2_with (fail)
   refine (wordOf_str s w).mono ?_
   cases hw : wdP (bl s) with
   | none =>
     have HW := Lib.hid hw
     clear hw
     rintro e w2 ⟨he, hb⟩
     obtain rfl : e = .returned (.tuple #[.agg #[.string ⟨#[]⟩, .int .i64 0], .bool false]) := he
     go_wp2_with (fail)
     refine (nameLength_any s _ hs).mono ?_
     rw [← HK.out]
     rintro e w3 ⟨rfl, rfl⟩
     by_cases hke : k = s.size
     · have hk2 : ((k : Int) == (s.size : Int)) = true := by simp [hke]
       have HF : Hid (isNm (bl s) = true) := Lib.hid (by
        unfold isNm
        rw [HW.out, zT, ← HK.out]
        simp [HLN.out, hke])
       clear hke
       go_wp2_with (fail)
       go_ret
       rw [HF.out]
       exact ⟨rfl, hb.alloc hb.size _⟩
     · have hk2 : ((k : Int) == (s.size : Int)) = false := beq_eq_false_iff_ne.2 (by omega)
       have HF : Hid (isNm (bl s) = false) := Lib.hid (by
        unfold isNm
        rw [HW.out, zT, ← HK.out]
        simp [hke])
       clear hke
       go_wp2_with (fail)
       go_ret
       rw [HF.out]
       exact ⟨rfl, hb.alloc hb.size _⟩
   | some p =>
     obtain ⟨P, n⟩ := p
     have HF : Hid (isNm (bl s) = false) := Lib.hid (by unfold isNm; rw [hw]; simp)
     clear hw
     rintro e w2 ⟨he, hb⟩
     obtain rfl : e = .returned (.tuple #[.agg #[.string ⟨P.toArray⟩, .int .i64 (n : Int)], .bool true]) := he
     go_wp2_with (fail)
     refine (nameLength_any s _ hs).mono ?_
     rw [← HK.out]
     rintro e w3 ⟨rfl, rfl⟩
     by_cases hke : k = s.size
     · have hk2 : ((k : Int) == (s.size : Int)) = true := by simp [hke]
       clear hke
       go_wp2_with (fail)
       go_ret
       rw [HF.out]
       exact ⟨rfl, hb.alloc hb.size _⟩
     · have hk2 : ((k : Int) == (s.size : Int)) = false := beq_eq_false_iff_ne.2 (by omega)
       clear hke
       go_wp2_with (fail)
       go_ret
       rw [HF.out]
       exact ⟨rfl, hb.alloc hb.size _⟩
end Go.Proofs.YtaecndmncpfpfaaGreatDoor
namespace Go.Proofs.YtaecndmncpfpfaaGreatDoor
open Go.RowKit
def NOut (d R : Nat) (s : ByteArray) (w : World) (e : Ending) (w' : World) : Nat × Option Nd → Prop
 | (m', none) => (∃ v, JunkN v ∧ e = .returned (.tuple #[v, .bool false])) ∧ Only R w w' ∧ Rdr w' R s m'
 | (m', some n) => (∃ v, NdAt w' (fun b => w.heap.size ≤ b) d v n ∧ e = .returned (.tuple #[v, .bool true])) ∧ Only R w w' ∧ Rdr w' R s m'
theorem nout_bad {d R : Nat} {s : ByteArray} {w W : World} {v : Value} {m' : Nat} (hv : JunkN v) (ho : Only R w W) (hr : Rdr W R s m') : NOut d R s w (.returned (.tuple #[v, .bool false])) W (m', none) := ⟨⟨v, hv, rfl⟩, ho, hr⟩
theorem nout_good {d R : Nat} {s : ByteArray} {w W : World} {v : Value} {n : Nd} {m' : Nat} (hv : NdAt W (fun b => w.heap.size ≤ b) d v n) (ho : Only R w W) (hr : Rdr W R s m') : NOut d R s w (.returned (.tuple #[v, .bool true])) W (m', some n) := ⟨⟨v, hv, rfl⟩, ho, hr⟩
theorem Rdr.far {w : World} {R : Nat} {s : ByteArray} {m : Nat} {p : Addr} {u : Value} (hp : R ≠ p.block) (h : Rdr w R s m) : Rdr (w.setCell p u) R s m := ⟨(Below.heap_setCell w p u R hp).trans h.box, h.le, h.len⟩
theorem Rdr.more {w : World} {R : Nat} {s : ByteArray} {m : Nat} {o : Obj} (h : Rdr w R s m) : Rdr (w.alloc o) R s m := ⟨(Below.heap_alloc w o R h.lt).trans h.box, h.le, h.len⟩
def nameN (t : List UInt8) : Nd := .mk [110, 97, 109, 101] 0 t ty0 []
def nameR (l : List UInt8) (m : Nat) : Nat × Option Nd := (m + (spel l m).length, if isNm (spel l m) then some (nameN (spel l m)) else none)
theorem spel_le (l : List UInt8) (m : Nat) : (spel l m).length ≤ 16 := by
 unfold spel
 have := nmL_le (l.drop m)
 rw [List.length_take]
 omega
set_option maxRecDepth 100000 in
set_option maxHeartbeats 1000000 in
theorem readName_any (d R : Nat) (s : ByteArray) (m : Nat) (w : World) (h : Rdr w R s m) :
    Calls Tryz.prog 178 #[.pointer (some ⟨R, 0, none⟩)] w fun e w' => NOut (d + 1) R s w e w' (nameR (bl s) m) := by
 have hRl := h.lt
 have hb1 := (Below.refl w.heap.size w).alloc (Nat.le_refl _) (.cells #[.string ⟨#[]⟩, .int .i64 0, .string ⟨#[]⟩, .int .i64 0, .slice none 0 0, .slice none 0 0] 41)
 have hn := heap_alloc_new w (.cells #[.string ⟨#[]⟩, .int .i64 0, .string ⟨#[]⟩, .int .i64 0, .slice none 0 0, .slice none 0 0] 41)
 have HN := Lib.hid hn
 have HR1 := Lib.hid (h.below hb1)
 have HR := Lib.hid h
 clear h hn
 go_enter Tryz.func178, Tryz.ntmps178
 go_wp2_with (fail)
 obtain ⟨w1, hw1⟩ : ∃ w1, w1 = w.alloc (.cells #[.string ⟨#[]⟩, .int .i64 0, .string ⟨#[]⟩, .int .i64 0, .slice none 0 0, .slice none 0 0] 41) := ⟨_, rfl⟩
 have hs1 : w1.heap.size = w.heap.size + 1 := by rw [hw1]; simp
 rw [← hw1] at hb1 HN HR1
 rw [← hw1]
 clear hw1
 refine (spelt_any R s m w1 HR1.out).mono ?_
 rintro e w2 ⟨⟨t, ht, rfl⟩, ho, hr⟩
 have HT := Lib.hid ht
 have hts : t.size ≤ 1000000 := by have := spel_le (bl s) m; rw [← ht, zT] at this; omega
 have HO2 := Lib.hid ho
 have HR2 := Lib.hid hr
 have HN2 := Lib.hid ((ho.block w.heap.size (by omega) (by simp; omega)).trans HN.out)
 have hs2 := ho.size
 clear ht ho hr
 go_wp2_with (fail)
 refine (isName_any t w2 hts).mono ?_
 rintro e w3 ⟨rfl, hb3⟩
 have HO3 := Lib.hid (((Only.of_below hb1).trans HO2.out).trans (Only.of_below (R := R) hb3))
 have HR3 := Lib.hid (HR2.out.below hb3)
 have HN3 := Lib.hid ((hb3.block w.heap.size (by omega)).trans HN2.out)
 have hs3 := hb3.size
 have HF : Hid (nameR (bl s) m = (m + (spel (bl s) m).length, if isNm (bl t) then some (nameN (bl t)) else none)) := by show _ = _; unfold nameR; rw [HT.out]
 have d0 := zN HN3.out
 have d1 := zR HN3.out
 have d2 := zQ HN3.out
 have d3 := zP HN3.out
 have d4 := zO HN3.out
 have d5 := zL HN3.out
 have f0 := zB HN3.out 0
 have f1 := zB HN3.out 1
 have f2 := zB HN3.out 2
 have f3 := zB HN3.out 3
 have f4 := zB HN3.out 4
 have f5 := zB HN3.out 5
 have hl := zC HN3.out
 clear hb3
 cases hnm : isNm (bl t) with
 | true =>
   have HG : Hid (nameR (bl s) m = (m + (spel (bl s) m).length, some (nameN (bl t)))) := by show _ = _; rw [HF.out, if_pos hnm]
   clear hnm
   go_wp2_with (fail)
   refine bodyPost_ret (v := .tuple #[.agg #[.string ⟨#[110, 97, 109, 101]⟩, .int .i64 0, .string t, .int .i64 0, .slice none 0 0, .slice none 0 0], .bool true]) (by simp [results, Tryz.results178, go_sem, d0, d1, d2, d3, d4, d5]) rfl ?_
   rw [HG.out]
   have hOO := HO3.out
   have hRR := HR3.out
   refine nout_good ?_ ?_ ?_
   · have := NdAt.leaf (((((((w3.setCell ⟨w.heap.size, 0, none⟩ (.string ⟨#[110, 97, 109, 101]⟩)).setCell ⟨w.heap.size, 1, none⟩ (.int .i64 0)).setCell ⟨w.heap.size, 2, none⟩ (.string t)).setCell ⟨w.heap.size, 3, none⟩ (.int .i64 0)).setCell ⟨w.heap.size, 4, none⟩ (.slice none 0 0)).setCell ⟨w.heap.size, 5, none⟩ (.slice none 0 0))) (fun b => w.heap.size ≤ b) d [110, 97, 109, 101] 0 (bl t)
     rw [str_bl] at this
     exact this
   · (repeat' (first | with_reducible assumption | with_reducible refine Only.far ?_ ?_ | (dsimp only; omega)))
   · (repeat' (first | with_reducible assumption | with_reducible refine Rdr.far ?_ ?_ | (dsimp only; omega)))
 | false =>
   have HG : Hid (nameR (bl s) m = (m + (spel (bl s) m).length, none)) := by show _ = _; rw [HF.out, if_neg (by rw [hnm]; decide)]
   clear hnm
   go_wp2_with (fail)
   refine bodyPost_ret (v := .tuple #[.agg #[.string ⟨#[110, 97, 109, 101]⟩, .int .i64 0, .string t, .int .i64 0, .slice none 0 0, .slice none 0 0], .bool false]) (by simp [results, Tryz.results178, go_sem, d0, d1, d2, d3, d4, d5]) rfl ?_
   rw [HG.out]
   have hOO := HO3.out
   have hRR := HR3.out
   refine nout_bad ⟨_, _, _, _, _, _, _, _, _, _, rfl⟩ ?_ ?_
   · (repeat' (first | with_reducible assumption | with_reducible refine Only.far ?_ ?_ | (dsimp only; omega)))
   · (repeat' (first | with_reducible assumption | with_reducible refine Rdr.far ?_ ?_ | (dsimp only; omega)))
end Go.Proofs.YtaecndmncpfpfaaGreatDoor
namespace Go.Proofs.YtaecndmncpfpfaaGreatDoor
open Go.RowKit
theorem wp_scope_enter5 {P : Program} {a : Act} {w : World} {Q : Exit → Act → World → Prop} {p1 p2 p3 p4 p5 rest : Code} {l : Nat} (J : Act → World → Prop) (μ : Act → World → Nat)
    (hf : findLabel (p1.seq (p2.seq (p3.seq (p4.seq (p5.seq ((Code.label l).seq rest)))))) l = some (Code.skip.seq rest))
    (first : p1.wp P (Exit.then (fun a w => p2.wp P (Exit.then (fun a w => p3.wp P (Exit.then (fun a w => p4.wp P (Exit.then (fun a w => p5.wp P (Exit.then J fun _ _ _ => False) a w) fun _ _ _ => False) a w) fun _ _ _ => False) a w) fun _ _ _ => False) a w) fun _ _ _ => False) a w)
    (pass : ∀ a w, J a w → rest.wp P (Exit.jump l (fun a' w' => J a' w' ∧ μ a' w' < μ a w) Q) a w) : (Code.scope (p1.seq (p2.seq (p3.seq (p4.seq (p5.seq ((Code.label l).seq rest))))))).wp P Q a w := by
 refine wp_scope_jumps l J μ hf ?_ (fun a w hJ => wp_seq (wp_skip (pass a w hJ)))
 refine wp_seq (wp_mono first fun e a1 w1 h => ?_)
 cases e with
 | normal =>
   refine wp_seq (wp_mono h fun e a1 w1 h => ?_)
   cases e with
   | normal =>
     refine wp_seq (wp_mono h fun e a1 w1 h => ?_)
     cases e with
     | normal =>
       refine wp_seq (wp_mono h fun e a1 w1 h => ?_)
       cases e with
       | normal =>
         refine wp_seq (wp_mono h fun e a1 w1 h => ?_)
         cases e with
         | normal =>
           refine wp_seq (wp_label ?_)
           refine wp_mono (pass a1 w1 h) fun e a2 w2 h2 => ?_
           cases e with
           | goto l' => exact ⟨h2.1, h2.2.1⟩
           | _ => exact h2
         | _ => exact h.elim
       | _ => exact h.elim
     | _ => exact h.elim
   | _ => exact h.elim
 | _ => exact h.elim
theorem nm_on {l : List UInt8} {neg : Bool} {m n : Nat} {begun : Bool} : nmF l neg (l.length - m) m n begun = (if isDig (lkB l m) && !barN neg n begun (lkB l m - 48).toNat then nmF l neg (l.length - (m + 1)) (m + 1) (10 * n + (lkB l m - 48).toNat) true else (m, n, begun)) := by
 rcases Nat.lt_or_ge m l.length with h | h
 · rw [show l.length - m = (l.length - (m + 1)) + 1 by omega]
   rfl
 · have h0 : isDig (lkB l m) = false := by rw [lkB_end h]; decide
   rw [show l.length - m = 0 by omega, h0]
   rfl
theorem sub48 (b : UInt8) : IntKind.u8.wrap ((b.toNat : Int) - 48) = ((b - 48).toNat : Int) := by
 have hb := b.toNat_lt
 have h : (b - 48).toNat = (b.toNat + 208) % 256 := by
  rw [UInt8.toNat_sub]
  simp
  omega
 rw [h]
 simp only [IntKind.wrap, IntKind.bits, IntKind.signed]
 simp
 omega
def numV (neg : Bool) (n : Nat) : Int := if neg then -(n : Int) else (n : Int)
theorem neg_back (n : Nat) (h : n ≤ 9223372036854775808) : wrap64 (IntKind.u64.wrap (-(n : Int))) = -(n : Int) := by
 simp only [wrap64, IntKind.wrap, IntKind.bits, IntKind.signed]
 simp
 omega
theorem pos_back (n : Nat) (h : n ≤ 9223372036854775807) : wrap64 (n : Int) = (n : Int) := by
 simp only [wrap64]
 omega
def RnOut (R : Nat) (s : ByteArray) (neg : Bool) (w : World) (e : Ending) (w' : World) : Nat × Nat × Bool → Prop
 | (m', n, begun) => e = .returned (.tuple #[.int .i64 (numV neg n), .bool begun]) ∧ Only R w w' ∧ Rdr w' R s m'
def numS (l : List UInt8) (m : Nat) : Nat × Nat × Bool := nmF l (rdB l m 45) (l.length - nx (rdB l m 45) m) (nx (rdB l m 45) m) 0 false
set_option maxRecDepth 100000 in
set_option maxHeartbeats 2000000 in
theorem number_any (R : Nat) (s : ByteArray) (m0 : Nat) (w : World) (h : Rdr w R s m0) :
    Calls Tryz.prog 86 #[.pointer (some ⟨R, 0, none⟩)] w fun e w' => RnOut R s (rdB (bl s) m0 45) w e w' (numS (bl s) m0) := by
 have HR := Lib.hid h
 have hRl := h.lt
 have hlen := h.len
 clear h
 obtain ⟨neg, hneg⟩ : ∃ neg, neg = rdB (bl s) m0 45 := ⟨_, rfl⟩
 obtain ⟨M, hM⟩ : ∃ M, M = mostN neg := ⟨_, rfl⟩
 have HNEG := Lib.hid hneg
 have HM := Lib.hid hM
 have hM1 : 9223372036854775807 ≤ M ∧ M ≤ 9223372036854775808 := by rw [hM]; unfold mostN; split <;> omega
 rw [← hneg]
 clear hneg hM
 go_enter Tryz.func86, Tryz.ntmps86
 go_wp2
 refine wp_scope_enter5 (fun a' w' => ∃ (m n : Nat) (nv : Int) (begun : Bool) (u8 u9 u10 u11 u12 u13 u14 u15 u16 u17 u18 u19 u20 u21 u22 u23 u24 u25 u26 u27 u28 u29 u30 u31 u32 u33 u34 u35 u36 u37 u38 u39 u40 u41 u42 u43 u44 u45 u46 u47 u48 u49 u50 u51 u52 u53 u54 u55 u56 u57 u58 u59 u60 u61 u62 u63 : Value), a' = { tmps := #[.pointer (some ⟨R, 0, none⟩), undef, .int .i64 0, .bool false, .int .u64 (M : Int), .bool neg, .int .u64 nv, .bool begun, u8, u9, u10, u11, u12, u13, u14, u15, u16, u17, u18, u19, u20, u21, u22, u23, u24, u25, u26, u27, u28, u29, u30, u31, u32, u33, u34, u35, u36, u37, u38, u39, u40, u41, u42, u43, u44, u45, u46, u47, u48, u49, u50, u51, u52, u53, u54, u55, u56, u57, u58, u59, u60, u61, u62, u63], defers := [] } ∧ nv = (n : Int) ∧ m ≤ s.size ∧ n ≤ M ∧ Hid (numS (bl s) m0 = nmF (bl s) neg ((bl s).length - m) m n begun) ∧ Hid (Rdr w' R s m) ∧ Hid (Only R w w')) (fun _ w' => s.size - atOf R w') ?hf ?first ?pass
 case hf => rfl
 case first =>
  go_wp2_with (fail)
  refine (readByte_any R s m0 45 w (by decide) HR.out).mono ?_
  rw [← HNEG.out]
  rintro e w2 ⟨rfl, ho, hr⟩
  have HO2 := Lib.hid ho
  have HR2 := Lib.hid hr
  have HS : Hid (numS (bl s) m0 = nmF (bl s) neg ((bl s).length - nx neg m0) (nx neg m0) 0 false) := by show _ = _; unfold numS; rw [← HNEG.out]
  have hle2 := hr.le
  clear ho hr
  cases neg with
  | true =>
    have hMe : M = 9223372036854775808 := HM.out
    subst hMe
    go_wp2_with (fail)
    exact ⟨_, 0, _, false, _, _, _, _, _, _, _, _, _, _, _, _, _, _, _, _, _, _, _, _, _, _, _, _, _, _, _, _, _, _, _, _, _, _, _, _, _, _, _, _, _, _, _, _, _, _, _, _, _, _, _, _, _, _, _, _, rfl, rfl, hle2, Nat.zero_le _, HS, HR2, HO2⟩
  | false =>
    have hMe : M = 9223372036854775807 := HM.out
    subst hMe
    go_wp2_with (fail)
    exact ⟨_, 0, _, false, _, _, _, _, _, _, _, _, _, _, _, _, _, _, _, _, _, _, _, _, _, _, _, _, _, _, _, _, _, _, _, _, _, _, _, _, _, _, _, _, _, _, _, _, _, _, _, _, _, _, _, _, _, _, _, _, rfl, rfl, hle2, Nat.zero_le _, HS, HR2, HO2⟩
 case pass =>
  rintro a' wr ⟨m, n, nv, begun, u8, u9, u10, u11, u12, u13, u14, u15, u16, u17, u18, u19, u20, u21, u22, u23, u24, u25, u26, u27, u28, u29, u30, u31, u32, u33, u34, u35, u36, u37, u38, u39, u40, u41, u42, u43, u44, u45, u46, u47, u48, u49, u50, u51, u52, u53, u54, u55, u56, u57, u58, u59, u60, u61, u62, u63, rfl, rfl, hm, hn, HS, HR1, HO1⟩
  go_wp2_with (fail)
  refine (look_any R s m wr HR1.out).mono ?_
  rintro e w2 ⟨rfl, hb⟩
  have HR2 := Lib.hid (HR1.out.below hb)
  have c1 := zF HR2.out.box
  have f1 := zB HR2.out.box 1
  have hlt := HR2.out.lt
  have HO2 := Lib.hid (HO1.out.trans (Only.of_below hb))
  have HAT := Lib.hid (at_of HR1.out)
  have HST : Hid (numS (bl s) m0 = (if isDig (lkB (bl s) m) && !barN neg n begun (lkB (bl s) m - 48).toNat then nmF (bl s) neg ((bl s).length - (m + 1)) (m + 1) (10 * n + (lkB (bl s) m - 48).toNat) true else (m, n, begun))) := by show _ = _; rw [HS.out]; exact nm_on
  have hlk : lkB (bl s) m ≠ 0 → m < s.size := fun h => by have := lkB_lt h; rwa [zT] at this
  clear hb
  generalize lkB (bl s) m = b at *
  have hsub := sub48 b
  obtain ⟨d, hd⟩ : ∃ d, d = (b - 48).toNat := ⟨_, rfl⟩
  have hd255 : d < 256 := by rw [hd]; exact (b - 48).toNat_lt
  rw [← hd] at hsub
  have HD := Lib.hid hd
  clear hd
  rw [← HD.out] at HST
  have hMd : IntKind.u64.wrap ((M : Int) - (d : Int)) = (M : Int) - (d : Int) := IntWalk.u64_in _ (by omega)
  have hMd0 : 0 ≤ (M : Int) - (d : Int) := by omega
  go_upto_region 9 with (fail)
  clear c1 f1 hlt hsub
  go_cut [10] (fun s10 wx => s10 = .bool (barN neg n begun d) ∧ wx = w2)
  case first => as_aux_lemma =>
   clear HST HO2 HR2 HAT HD hlk
   by_cases hn0 : n = 0
   · have g1 : ((n : Int) == 0) = true := by simp [hn0]
     have g2 : decide (((M : Int) - (d : Int)) / 10 < (n : Int)) = false := by simp; omega
     have g3 : ¬ (M - d) / 10 < n := by omega
     cases begun with
     | true =>
       have HF : Hid (barN neg n true d = true) := Lib.hid (by simp [barN, hn0])
       clear hn0
       go_wp2_with (fail)
       go_meet
       exact ⟨by rw [HF.out], rfl⟩
     | false =>
       cases neg with
       | true =>
         by_cases hd0 : d = 0
         · have g4 : ((d : Int) == 0) = true := by simp [hd0]
           have HF : Hid (barN true n false d = true) := Lib.hid (by simp [barN, hn0, hd0])
           clear hn0 hd0
           go_wp2_with (fail)
           go_meet
           exact ⟨by rw [HF.out], rfl⟩
         · have g4 : ((d : Int) == 0) = false := beq_eq_false_iff_ne.2 (by omega)
           have HF : Hid (barN true n false d = false) := Lib.hid (by rw [HM.out] at g3; simp [barN, hd0, g3])
           clear hn0 hd0
           go_wp2_with (fail)
           go_meet
           exact ⟨by rw [HF.out], rfl⟩
       | false =>
         have HF : Hid (barN false n false d = false) := Lib.hid (by rw [HM.out] at g3; simp [barN, g3])
         clear hn0
         go_wp2_with (fail)
         go_meet
         exact ⟨by rw [HF.out], rfl⟩
   · have g1 : ((n : Int) == 0) = false := beq_eq_false_iff_ne.2 (by omega)
     have HF : Hid (barN neg n begun d = decide (((M : Int) - (d : Int)) / 10 < (n : Int))) := Lib.hid (by
      rw [Bool.eq_iff_iff]
      simp only [barN, hn0, ← HM.out, decide_eq_true_eq, Bool.or_eq_true, decide_false, Bool.false_and, Bool.false_eq_true, false_or]
      omega)
     clear hn0
     go_wp2_with (fail)
     go_meet
     exact ⟨by rw [HF.out], rfl⟩
  case rest =>
   obtain ⟨rfl, hwc⟩ := hcut
   subst hwc
   have HBR : Hid (barN neg n begun d = true ∨ 10 * n + d ≤ M) := Lib.hid (by
    cases hb : barN neg n begun d with
    | true => exact .inl rfl
    | false =>
      right
      have : ¬ (M - d) / 10 < n := by
       intro hc
       rw [HM.out] at hc
       simp [barN, hc] at hb
      omega)
   obtain ⟨bar, hbar⟩ : ∃ bar, bar = barN neg n begun d := ⟨_, rfl⟩
   rw [← hbar]
   rw [← hbar] at HST HBR
   clear hbar hMd hMd0
   have c1 := zF HR2.out.box
   have f1 := zB HR2.out.box 1
   have hlt := HR2.out.lt
   go_wp2_with (fail)
   refine (isDigit_any b _).mono ?_
   rintro e w3 ⟨rfl, rfl⟩
   cases hdg : isDig b with
   | false =>
     have HF : Hid (numS (bl s) m0 = (m, n, begun)) := by
      show _ = _; rw [HST.out, if_neg (by simp [hdg])]
     clear HST hdg
     cases neg with
     | true =>
       have hback := neg_back n (by omega)
       go_wp2_with (fail)
       simp only [Exit.jump]
       go_ret2
       rw [HF.out]
       exact ⟨rfl, HO2.out, HR2.out⟩
     | false =>
       have hM7 : M ≤ 9223372036854775807 := Nat.le_of_eq HM.out
       have hback := pos_back n (by omega)
       go_wp2_with (fail)
       simp only [Exit.jump]
       go_ret2
       rw [HF.out]
       exact ⟨rfl, HO2.out, HR2.out⟩
   | true =>
     cases bar with
     | true =>
       have HF : Hid (numS (bl s) m0 = (m, n, begun)) := by
        show _ = _; rw [HST.out, if_neg (by simp [hdg])]
       clear HST hdg
       cases neg with
       | true =>
         have hback := neg_back n (by omega)
         go_wp2_with (fail)
         simp only [Exit.jump]
         go_ret2
         rw [HF.out]
         exact ⟨rfl, HO2.out, HR2.out⟩
       | false =>
         have hM7 : M ≤ 9223372036854775807 := Nat.le_of_eq HM.out
         have hback := pos_back n (by omega)
         go_wp2_with (fail)
         simp only [Exit.jump]
         go_ret2
         rw [HF.out]
         exact ⟨rfl, HO2.out, HR2.out⟩
     | false =>
       have hfit : 10 * n + d ≤ M := HBR.out.resolve_left (by decide)
       have HF : Hid (numS (bl s) m0 = nmF (bl s) neg ((bl s).length - (m + 1)) (m + 1) (10 * n + d) true) := by
        show _ = _; rw [HST.out, if_pos (by simp [hdg])]
       have hlm := hlk (by intro e; rw [e] at hdg; exact absurd hdg (by decide))
       have s3 : IntKind.u64.wrap (10 * (n : Int)) = 10 * (n : Int) := IntWalk.u64_in _ (by omega)
       have s4 : IntKind.u64.wrap (10 * (n : Int) + (d : Int)) = 10 * (n : Int) + (d : Int) := IntWalk.u64_in _ (by omega)
       clear HST hdg
       go_wp2_with (fail)
       go_step3
       refine ⟨rfl, ⟨m + 1, 10 * n + d, _, true, _, _, _, _, _, _, _, _, _, _, _, _, _, _, _, _, _, _, _, _, _, _, _, _, _, _, _, _, _, _, _, _, _, _, _, _, _, _, _, _, _, _, _, _, _, _, _, _, _, _, _, _, _, _, _, _, rfl, by omega, by omega, hfit, HF, Lib.hid (by rw [show (m : Int) + 1 = ((m + 1 : Nat) : Int) by omega]; exact HR2.out.go (m + 1) (by omega)), Lib.hid (HO2.out.trans (Only.set_ R 1 _ _))⟩, ?_⟩
       have hat2 := at_of (HR2.out.go (m + 1) (by omega))
       rw [show ((m + 1 : Nat) : Int) = (m : Int) + 1 by omega] at hat2
       rw [HAT.out, hat2]
       omega
