/-
The reader of package expr: readSpelt.
-/
import Derived.Test.YtdmkcemgbajdkaaDoorRc7
namespace Go.Proofs.YtdmkcemgbajdkaaDoor
open Go.RowKit

theorem clone_any (s : ByteArray) (w : World) (hs : s.size ≤ 1000000) : Calls Tryd.prog 47 #[.string s] w fun e w' => e = .returned (.string s) ∧ Below w.heap.size w w' := by
  go_enter Tryd.func47, Tryd.ntmps47
  go_wp2_with (fail)
  refine (Tryd.stringslite_Clone s w (by omega)).mono ?_
  rintro e w2 ⟨rfl, hb⟩
  go_wp2_with (fail)
  go_ret
  exact ⟨rfl, hb⟩

theorem bl_extract (s : ByteArray) (a b : Nat) (_hb : b ≤ s.size) : bl (s.extract a b) = ((bl s).take b).drop a := by
  unfold bl
  rw [Lib.extract_data]
  rw [List.drop_take]

set_option maxRecDepth 100000 in
set_option maxHeartbeats 6000000 in
theorem spelt_any (R : Nat) (s : ByteArray) (m : Nat) (w : World) (h : Rdr w R s m) :
    Calls Tryd.prog 34 #[.pointer (some ⟨R, 0, none⟩)] w fun e w' => (∃ t, bl t = spel (bl s) m ∧ e = .returned (.string t)) ∧ Only R w w' ∧ Rdr w' R s (m + (spel (bl s) m).length) := by
  have HR := Lib.hid h
  have hlen := h.len
  have hle := h.le
  have hRl := h.lt
  have c0 := cell2_0 h.box
  have c1 := cell2_1 h.box
  have f1 := cell3_f h.box 1
  clear h
  go_enter Tryd.func34, Tryd.ntmps34
  go_upto_region 2 with (fail)
  obtain ⟨t, ht⟩ : ∃ t, t = s.extract m s.size := ⟨_, rfl⟩
  have htl : bl t = (bl s).drop m := by rw [ht, bl_extract s m s.size (Nat.le_refl _), List.take_of_length_le (by rw [bl_length]; exact Nat.le_refl _)]
  have hts : t.size ≤ 1000000 := by have := congrArg List.length htl; rw [bl_length, List.length_drop, bl_length] at this; omega
  have hsl : ∀ W : World, (Instr.slice 9 (.string s) (some (.int .i64 (m : Int))) none none).run Tryd.prog W = .ok (.string t) W := by
    intro W; rw [ht]; go_simp
  obtain ⟨k, hk⟩ : ∃ k, k = nmL (bl t) := ⟨_, rfl⟩
  have hkl := nmL_le (bl t)
  rw [← hk, htl, List.length_drop, bl_length] at hkl
  have s1 : IntKind.i64.wrap ((m : Int) + (k : Int)) = (m : Int) + (k : Int) := IntWalk.i64_in _ (by omega)
  have HT := Lib.hid htl
  have HK := Lib.hid hk
  clear ht htl hk
  go_cut [] (fun wx => Only R w wx ∧ Rdr wx R s (m + k))
  case first => as_aux_lemma =>
    go_region_with (go_at_call 46; refine (nameLength_any t _ hts).mono ?_; rw [← HK.out]; rintro e w' ⟨rfl, rfl⟩)
    all_goals (go_wp2_with (fail); go_meet; exact ⟨(Only.set_ R 1 w _).drewN 1, by have := HR.out.go (m + k) (by omega); rw [Int.natCast_add] at this; exact ⟨this.box, this.le, this.len⟩⟩)
  case rest =>
    obtain ⟨hO, hR⟩ := hcut
    obtain ⟨w2, hw2⟩ : ∃ w2 : World, w2 = wc := ⟨_, rfl⟩
    subst hw2
    have HO2 := Lib.hid hO
    have HR2 := Lib.hid hR
    obtain ⟨u, hu⟩ : ∃ u, u = s.extract m (m + k) := ⟨_, rfl⟩
    have hul : bl u = ((bl s).drop m).take k := by rw [hu, bl_extract s m (m + k) (by omega), List.drop_take, show m + k - m = k by omega]
    have hus : u.size ≤ 1000000 := by have := congrArg List.length hul; rw [bl_length, List.length_take, List.length_drop, bl_length] at this; omega
    have hsl2 : ∀ W : World, (Instr.slice 9 (.string s) (some (.int .i64 (m : Int))) (some (.int .i64 ((m : Int) + (k : Int)))) none).run Tryd.prog W = .ok (.string u) W := by
      intro W; rw [hu]; go_simp
      rw [if_pos ⟨by omega, by omega⟩, if_pos (by omega), show ((m : Int) + (k : Int)).toNat = m + k by omega]
    have HU := Lib.hid hul
    have hr0 := cell2_0 HR2.out.box
    have hr1 := cell2_1 HR2.out.box
    rw [Int.natCast_add] at hr1
    have hRl2 := HR2.out.lt
    have HR0 := Lib.hid hr0
    have HR1 := Lib.hid hr1
    have hBB : Below w2.heap.size w2 w2 := Below.refl _ _
    clear hu hul hO hR hsl s1 c0 c1 f1
    go_wp2_with (fail)
    go_region_held3 (fun w' => w'.cell? ⟨R, 0, none⟩ = some (.string s) ∧ w'.cell? ⟨R, 1, none⟩ = some (.int .i64 ((m : Int) + (k : Int))) ∧ Below w2.heap.size w2 w')
      ((refine ⟨?_, ?_, ?_⟩ <;> (repeat' (first | with_reducible assumption | with_reducible refine cell_drew_some ?_ | with_reducible refine Below.drew ?_))))
      (first
        | (go_at_call 47; refine (clone_any u w2.drew hus).mono ?_; rintro e w3 ⟨rfl, hb3⟩; have HB3 : Below w2.heap.size w2 w3 := (Below.refl _ w2).drew.trans hb3; have x0 := (HB3.cell (p := ⟨R, 0, none⟩) hRl2).trans HR0.out; have x1 := (HB3.cell (p := ⟨R, 1, none⟩) hRl2).trans HR1.out))
    go_wp2_with (fail)
    go_ret
    have hsp : spel (bl s) m = bl u := by unfold spel; rw [HU.out, ← HT.out, ← HK.out]
    have hln : (spel (bl s) m).length = k := by rw [hsp, HU.out, List.length_take, List.length_drop, bl_length]; omega
    refine ⟨⟨u, hsp.symm, rfl⟩, HO2.out.trans (Only.of_below HB3), ?_⟩
    rw [hln]
    exact HR2.out.below HB3
end Go.Proofs.YtdmkcemgbajdkaaDoor
