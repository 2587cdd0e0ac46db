/-
The document's answer for package expr: has.
-/
import Derived.Test.YtadbnlnifacblaaGreatDoorShb
namespace Go.Proofs.YtadbnlnifacblaaGreatDoor
open Go.RowKit
theorem bdK_true (op name : List UInt8) : ∀ (l : List Nd) (i : Nat), bdK op name l i true = true
  | [], _ => rfl
  | k :: l, i => by rw [bdK, Bool.true_or, bdK_true op name l]
set_option maxRecDepth 100000 in
set_option maxHeartbeats 4000000 in
theorem has_d : ∀ (r d : Nat) (S : Nat → Prop) (v : Value) (n : Nd) (name : List UInt8) (w : World), (∃ s s', termW r n s = some s') → NdAt w S d v n →
    Calls Tryz.prog 56 #[v, .string ⟨name.toArray⟩] w fun e w' => e = .returned (.bool (hasD name r n)) ∧ Below w.heap.size w w'
  | 0, _, _, _, _, _, _, h, _ => by
    obtain ⟨s, s', h⟩ := h
    simp [termW] at h
  | _ + 1, 0, _, _, _, _, _, _, h => h.elim
  | r + 1, d + 1, S, v, n, name, w, hq, hT => by
    have IH := has_d r d S
    have HIH := Lib.hid IH
    obtain ⟨A, c, K, k, rfl, ⟨dt, hty⟩, hlk, hA⟩ := hT
    have HA := Lib.hid hA
    have hb1 := (Below.refl w.heap.size w).alloc (Nat.le_refl _) (.cells #[.string ⟨n.op.toArray⟩, .int .i64 n.int, .string ⟨n.text.toArray⟩, .int .i64 n.ty.kind, .slice A n.ty.args.length c, .slice K n.kids.length k] 37)
    have hs1 : (w.alloc (.cells #[.string ⟨n.op.toArray⟩, .int .i64 n.int, .string ⟨n.text.toArray⟩, .int .i64 n.ty.kind, .slice A n.ty.args.length c, .slice K n.kids.length k] 37)).heap.size = w.heap.size + 1 := by simp
    have HC1 := Lib.hid (heap_alloc_new w (.cells #[.string ⟨n.op.toArray⟩, .int .i64 n.int, .string ⟨n.text.toArray⟩, .int .i64 n.ty.kind, .slice A n.ty.args.length c, .slice K n.kids.length k] 37))
    have HB1 := Lib.hid hb1
    clear hA IH hty hb1
    by_cases hn : n.op = nameW
    · have g1 : (n.op == [110, 97, 109, 101]) = true := by rw [hn]; rfl
      by_cases ht : n.text = name
      · have g2 : (n.text == name) = true := by simp [ht]
        have HR : Hid (hasD name (r + 1) n = true) := by show _ = _; rw [hasD, if_pos hn]; simp [ht]
        clear hn ht hq
        go_enter Tryz.func56, Tryz.ntmps56
        go_wp2_with (fail)
        go_ret
        rw [HR.out]
        exact ⟨rfl, HB1.out⟩
      · have g2 : (n.text == name) = false := by simp [ht]
        have HR : Hid (hasD name (r + 1) n = false) := by show _ = _; rw [hasD, if_pos hn]; simp [ht]
        clear hn ht hq
        go_enter Tryz.func56, Tryz.ntmps56
        go_wp2_with (fail)
        go_ret
        rw [HR.out]
        exact ⟨rfl, HB1.out⟩
    · have g1 : (n.op == [110, 97, 109, 101]) = false := beq_eq_false_iff_ne.2 hn
      obtain ⟨s0, s0', hq0⟩ := hq
      obtain ⟨hkl, hkk⟩ := termW_kids hq0 hn
      have hk64 : n.kids.length ≤ 64 := Nat.le_trans hkl (parts_short _)
      have HKK := Lib.hid hkk
      have HSD : Hid (hasD name (r + 1) n = hasK (hasD name r) n.op (bdK n.op name n.kids 0 false) n.kids 0) := by show _ = _; rw [hasD, if_neg hn]
      obtain ⟨w1, hw1⟩ : ∃ w1, w1 = w.alloc (.cells #[.string ⟨n.op.toArray⟩, .int .i64 n.int, .string ⟨n.text.toArray⟩, .int .i64 n.ty.kind, .slice A n.ty.args.length c, .slice K n.kids.length k] 37) := ⟨_, rfl⟩
      rw [← hw1] at HC1 HB1 hs1
      have HW1 := Lib.hid hw1
      have HBI := Lib.hid (fun (i : Nat) (W : World) => binds_d n.op i W)
      have HBO := Lib.hid (fun (i : Nat) (W : World) => bound_d n.op i W)
      clear hn hq0 hkl hkk hw1
      go_enter Tryz.func56, Tryz.ntmps56
      go_wp2_with (fail)
      rw [← HW1.out]
      have x0 := cell6_0 HC1.out
      have x5 := cell6_5 HC1.out
      have xl := cell_lt HC1.out
      go_loopw [5, 6] (fun bv iv wr => ∃ (j : Nat) (b : Bool), iv = .int .i64 (j : Int) ∧ bv = .bool b ∧ j ≤ n.kids.length ∧ Hid (bdK n.op name n.kids 0 false = bdK n.op name (n.kids.drop j) j b) ∧ wr = w1) (fun _ iv _ => 100 - (intOf iv).toNat)
      case atStart => exact ⟨0, false, rfl, rfl, Nat.zero_le _, Lib.hid rfl, rfl⟩
      case round =>
        obtain ⟨j, b, rfl, rfl, hj, HE, hw⟩ := hrel
        have hww := hw.symm
        subst hww
        by_cases hlt : j < n.kids.length
        · have hjl : ((j : Int) < (n.kids.length : Int)) := by omega
          obtain ⟨b1, o, rfl, hSb, hcells⟩ := HA.out (by omega)
          obtain ⟨x, hx⟩ : ∃ x, n.kids[j]? = some x := ⟨_, List.getElem?_eq_getElem hlt⟩
          obtain ⟨A1, c1, K1, k1, h0, h1, h2, h3, h4, h5, h6, hbl⟩ := kid_cells hcells hx
          have g2 := (HB1.out.cell (p := ⟨b1, o + j * 6 + 2, none⟩) hbl).trans h2
          have HD : Hid (n.kids.drop j = x :: n.kids.drop (j + 1)) := by
            show _ = _
            rw [List.drop_eq_getElem_cons hlt]
            rw [List.getElem?_eq_getElem hlt] at hx
            injection hx with hx
            rw [hx]
          clear h0 h1 h2 h3 h4 h5 h6 hx hcells
          cases b with
          | true =>
            have HE2 : Hid (bdK n.op name n.kids 0 false = bdK n.op name (n.kids.drop (j + 1)) (j + 1) true) := by
              show _ = _
              rw [HE.out, bdK_true, bdK_true]
            go_wp2_with (fail)
            go_roundw
            case rel => exact ⟨j + 1, true, by go_num, rfl, by omega, HE2, trivial⟩
            case measure => simp [intOf]; omega
          | false =>
            have HBJ := Lib.hid (HBI.out j w1)
            have HE2 : Hid (bdK n.op name n.kids 0 false = bdK n.op name (n.kids.drop (j + 1)) (j + 1) (bindsB n.op j && decide (x.text = name))) := by
              show _ = _
              rw [HE.out, HD.out, bdK, Bool.false_or]
            cases hbj : bindsB n.op j with
            | false =>
              rw [hbj] at HBJ HE2
              clear hbj
              go_wp2_with (fail)
              refine HBJ.out.mono ?_
              rintro e w2 ⟨rfl, rfl⟩
              go_wp2_with (fail)
              go_roundw
              case rel => exact ⟨j + 1, false, by go_num, rfl, by omega, HE2, trivial⟩
              case measure => simp [intOf]; omega
            | true =>
              rw [hbj] at HBJ HE2
              clear hbj
              by_cases ht : x.text = name
              · have g3 : (x.text == name) = true := by simp [ht]
                have HE3 : Hid (bdK n.op name n.kids 0 false = bdK n.op name (n.kids.drop (j + 1)) (j + 1) true) := by
                  show _ = _
                  rw [HE2.out, decide_eq_true ht]
                  rfl
                clear ht
                go_wp2_with (fail)
                refine HBJ.out.mono ?_
                rintro e w2 ⟨rfl, rfl⟩
                go_wp2_with (fail)
                go_roundw
                case rel => exact ⟨j + 1, true, by go_num, rfl, by omega, HE3, trivial⟩
                case measure => simp [intOf]; omega
              · have g3 : (x.text == name) = false := by simp [ht]
                have HE3 : Hid (bdK n.op name n.kids 0 false = bdK n.op name (n.kids.drop (j + 1)) (j + 1) false) := by
                  show _ = _
                  rw [HE2.out, decide_eq_false ht]
                  rfl
                clear ht
                go_wp2_with (fail)
                refine HBJ.out.mono ?_
                rintro e w2 ⟨rfl, rfl⟩
                go_wp2_with (fail)
                go_roundw
                case rel => exact ⟨j + 1, false, by go_num, rfl, by omega, HE3, trivial⟩
                case measure => simp [intOf]; omega
        · have hjl : ¬ ((j : Int) < (n.kids.length : Int)) := by omega
          have HSB : Hid (hasD name (r + 1) n = hasK (hasD name r) n.op b n.kids 0) := by
            show _ = _
            rw [HSD.out, HE.out, List.drop_of_length_le (by omega)]
            rfl
          clear HE hlt hj
          go_wp2_with (fail)
          clear x0 x5 xl hjl
          go_loopw [7] (fun iv wq => ∃ (j : Nat), iv = .int .i64 (j : Int) ∧ j ≤ n.kids.length ∧ Hid (hasD name (r + 1) n = hasK (hasD name r) n.op b (n.kids.drop j) j) ∧ Hid (Below w1.heap.size w1 wq)) (fun iv _ => 100 - (intOf iv).toNat)
          case atStart => exact ⟨0, rfl, Nat.zero_le _, HSB, Below.refl _ _⟩
          case round =>
            obtain ⟨j, rfl, hj, HE, HBR⟩ := hrel
            have hsr := HBR.out.size
            have HCR := Lib.hid (below_at HBR.out HC1.out)
            have x0 := cell6_0 HCR.out
            have x5 := cell6_5 HCR.out
            have xl := cell_lt HCR.out
            by_cases hlt : j < n.kids.length
            · have hjl : ((j : Int) < (n.kids.length : Int)) := by omega
              have HBW := Lib.hid (HB1.out.trans (HBR.out.mono (by omega)))
              obtain ⟨b1, o, rfl, hSb, hcells⟩ := HA.out (by omega)
              obtain ⟨x, hx⟩ : ∃ x, n.kids[j]? = some x := ⟨_, List.getElem?_eq_getElem hlt⟩
              have HXK := Lib.hid (HKK.out x (List.mem_of_getElem? hx))
              obtain ⟨A1, c1, K1, k1, h0, h1, h2, h3, h4, h5, h6, hbl⟩ := kid_cells hcells hx
              have g0 := (HBW.out.cell (p := ⟨b1, o + j * 6, none⟩) hbl).trans h0
              have gg1 := (HBW.out.cell (p := ⟨b1, o + j * 6 + 1, none⟩) hbl).trans h1
              have g2 := (HBW.out.cell (p := ⟨b1, o + j * 6 + 2, none⟩) hbl).trans h2
              have g3 := (HBW.out.cell (p := ⟨b1, o + j * 6 + 3, none⟩) hbl).trans h3
              have g4 := (HBW.out.cell (p := ⟨b1, o + j * 6 + 4, none⟩) hbl).trans h4
              have g5 := (HBW.out.cell (p := ⟨b1, o + j * 6 + 5, none⟩) hbl).trans h5
              have H2 := Lib.hid (h6.below HBW.out)
              have HD : Hid (n.kids.drop j = x :: n.kids.drop (j + 1)) := by
                show _ = _
                rw [List.drop_eq_getElem_cons hlt]
                rw [List.getElem?_eq_getElem hlt] at hx
                injection hx with hx
                rw [hx]
              have HHX := Lib.hid (HIH.out (.agg #[.string ⟨x.op.toArray⟩, .int .i64 x.int, .string ⟨x.text.toArray⟩, .int .i64 x.ty.kind, .slice A1 x.ty.args.length c1, .slice K1 x.kids.length k1]) x name wr HXK.out H2.out)
              have HE2 : Hid (hasD name (r + 1) n = ((!bindsB n.op j && (!(b && boundB n.op j) && hasD name r x)) || hasK (hasD name r) n.op b (n.kids.drop (j + 1)) (j + 1))) := by
                show _ = _
                rw [HE.out, HD.out, hasK]
              have HBJ := Lib.hid (HBI.out j wr)
              have HBK := Lib.hid (HBO.out j wr)
              clear h0 h1 h2 h3 h4 h5 h6 hx hcells HE
              cases hbj : bindsB n.op j with
              | true =>
                rw [hbj] at HBJ HE2
                have HE3 : Hid (hasD name (r + 1) n = hasK (hasD name r) n.op b (n.kids.drop (j + 1)) (j + 1)) := HE2.out
                clear hbj HE2
                go_wp2_with (fail)
                refine HBJ.out.mono ?_
                rintro e w2 ⟨rfl, rfl⟩
                go_wp2_with (fail)
                go_roundw
                case rel => exact ⟨j + 1, by go_num, by omega, HE3, HBR⟩
                case measure => simp [intOf]; omega
              | false =>
                rw [hbj] at HBJ HE2
                clear hbj
                cases hbb : (b && boundB n.op j) with
                | true =>
                  rw [hbb] at HE2
                  obtain ⟨hb0, hb2⟩ := (Bool.and_eq_true_iff).1 hbb
                  subst hb0
                  rw [hb2] at HBK
                  have HE3 : Hid (hasD name (r + 1) n = hasK (hasD name r) n.op true (n.kids.drop (j + 1)) (j + 1)) := HE2.out
                  clear hbb hb2 HE2
                  go_wp2_with (fail)
                  refine HBJ.out.mono ?_
                  rintro e w2 ⟨rfl, rfl⟩
                  go_wp2_with (fail)
                  refine HBK.out.mono ?_
                  rintro e w2 ⟨rfl, rfl⟩
                  go_wp2_with (fail)
                  go_roundw
                  case rel => exact ⟨j + 1, by go_num, by omega, HE3, HBR⟩
                  case measure => simp [intOf]; omega
                | false =>
                  rw [hbb] at HE2
                  have HE3 : Hid (hasD name (r + 1) n = (hasD name r x || hasK (hasD name r) n.op b (n.kids.drop (j + 1)) (j + 1))) := HE2.out
                  clear HE2
                  cases b with
                  | false =>
                    clear hbb
                    go_wp2_with (fail)
                    refine HBJ.out.mono ?_
                    rintro e w2 ⟨rfl, rfl⟩
                    go_wp2_with (fail)
                    refine HHX.out.mono ?_
                    rintro e w3 ⟨rfl, hb3⟩
                    have HB3 := Lib.hid (HBR.out.trans (hb3.mono hsr))
                    clear hb3
                    cases hhx : hasD name r x with
                    | true =>
                      rw [hhx] at HE3
                      have HR : Hid (hasD name (r + 1) n = true) := HE3.out
                      clear hhx
                      go_wp2_with (fail)
                      go_ret
                      rw [HR.out]
                      exact ⟨rfl, HB1.out.trans (HB3.out.mono (by omega))⟩
                    | false =>
                      rw [hhx, Bool.false_or] at HE3
                      clear hhx
                      go_wp2_with (fail)
                      go_roundw
                      case rel => exact ⟨j + 1, by go_num, by omega, HE3, HB3⟩
                      case measure => simp [intOf]; omega
                  | true =>
                    have hb2 : boundB n.op j = false := by simpa using hbb
                    rw [hb2] at HBK
                    clear hbb hb2
                    go_wp2_with (fail)
                    refine HBJ.out.mono ?_
                    rintro e w2 ⟨rfl, rfl⟩
                    go_wp2_with (fail)
                    refine HBK.out.mono ?_
                    rintro e w2 ⟨rfl, rfl⟩
                    go_wp2_with (fail)
                    refine HHX.out.mono ?_
                    rintro e w3 ⟨rfl, hb3⟩
                    have HB3 := Lib.hid (HBR.out.trans (hb3.mono hsr))
                    clear hb3
                    cases hhx : hasD name r x with
                    | true =>
                      rw [hhx] at HE3
                      have HR : Hid (hasD name (r + 1) n = true) := HE3.out
                      clear hhx
                      go_wp2_with (fail)
                      go_ret
                      rw [HR.out]
                      exact ⟨rfl, HB1.out.trans (HB3.out.mono (by omega))⟩
                    | false =>
                      rw [hhx, Bool.false_or] at HE3
                      clear hhx
                      go_wp2_with (fail)
                      go_roundw
                      case rel => exact ⟨j + 1, by go_num, by omega, HE3, HB3⟩
                      case measure => simp [intOf]; omega
            · have hjl : ¬ ((j : Int) < (n.kids.length : Int)) := by omega
              have HR : Hid (hasD name (r + 1) n = false) := by
                show _ = _
                rw [HE.out, List.drop_of_length_le (by omega)]
                rfl
              go_wp2_with (fail)
              go_ret
              rw [HR.out]
              exact ⟨rfl, HB1.out.trans (HBR.out.mono (by omega))⟩
end Go.Proofs.YtadbnlnifacblaaGreatDoor
