import Derived.Test.YtaecndmncpfpfaaGreatDoorFc
import Derived.Test.YtaecndmncpfpfaaGreatDoorCh
import Derived.Test.YtaecndmncpfpfaaGreatDoorOfn
import Derived.Deep.RegionHeld3
import Derived.Deep.QuietTactic
import Derived.BigQuiet
set_option linter.unusedVariables false
set_option linter.unusedSimpArgs false
namespace Go.Proofs.YtaecndmncpfpfaaGreatDoor.Knd
open Go.RowKit
def wordStr (k : Int) : ByteArray := ((wordK k).map (·.name)).getD ⟨#[]⟩
def countK (k : Int) : Int := if k = 6 then 2 else if k = 7 then 1 else if k = 9 then 1 else 0
theorem word_cases (k : Int) : (k = 1 ∨ k = 2 ∨ k = 3 ∨ k = 4 ∨ k = 5 ∨ k = 6 ∨ k = 7 ∨ k = 9) ∨ (k ≠ 1 ∧ k ≠ 2 ∧ k ≠ 3 ∧ k ≠ 4 ∧ k ≠ 5 ∧ k ≠ 6 ∧ k ≠ 7 ∧ k ≠ 9) := by omega
theorem wordStr_other {k : Int} (h : k ≠ 1 ∧ k ≠ 2 ∧ k ≠ 3 ∧ k ≠ 4 ∧ k ≠ 5 ∧ k ≠ 6 ∧ k ≠ 7 ∧ k ≠ 9) : wordK k = none := by
 unfold wordK
 rw [List.find?_eq_none]
 intro x hx
 simp only [words, List.mem_cons, List.not_mem_nil, or_false] at hx
 rcases hx with rfl | rfl | rfl | rfl | rfl | rfl | rfl | rfl <;> simp [w1, w2, w3, w4, w5, w6, w7, w9] <;> omega
set_option maxRecDepth 100000 in
set_option maxHeartbeats 400000 in
theorem word_any (k : Int) (w : World) : Calls Tryz.prog 46 #[.int .i64 k] w fun e w' => e = .returned (.string (wordStr k)) ∧ w = w' := by
 rcases word_cases k with (rfl | rfl | rfl | rfl | rfl | rfl | rfl | rfl) | h
 · go_enter Tryz.func46, Tryz.ntmps46; go_wp2_with (fail); go_ret; exact ⟨rfl, rfl⟩
 · go_enter Tryz.func46, Tryz.ntmps46; go_wp2_with (fail); go_ret; exact ⟨rfl, rfl⟩
 · go_enter Tryz.func46, Tryz.ntmps46; go_wp2_with (fail); go_ret; exact ⟨rfl, rfl⟩
 · go_enter Tryz.func46, Tryz.ntmps46; go_wp2_with (fail); go_ret; exact ⟨rfl, rfl⟩
 · go_enter Tryz.func46, Tryz.ntmps46; go_wp2_with (fail); go_ret; exact ⟨rfl, rfl⟩
 · go_enter Tryz.func46, Tryz.ntmps46; go_wp2_with (fail); go_ret; exact ⟨rfl, rfl⟩
 · go_enter Tryz.func46, Tryz.ntmps46; go_wp2_with (fail); go_ret; exact ⟨rfl, rfl⟩
 · go_enter Tryz.func46, Tryz.ntmps46; go_wp2_with (fail); go_ret; exact ⟨rfl, rfl⟩
 · have HW : Hid (wordStr k = ⟨#[]⟩) := by show _ = _; simp only [wordStr, wordStr_other h]; rfl
   obtain ⟨h1, h2, h3, h4, h5, h6, h7, h9⟩ := h
   have g1 : (k == 1) = false := by simp [h1]
   have g2 : (k == 2) = false := by simp [h2]
   have g3 : (k == 3) = false := by simp [h3]
   have g4 : (k == 4) = false := by simp [h4]
   have g5 : (k == 5) = false := by simp [h5]
   have g6 : (k == 6) = false := by simp [h6]
   have g7 : (k == 7) = false := by simp [h7]
   have g9 : (k == 9) = false := by simp [h9]
   clear h1 h2 h3 h4 h5 h6 h7 h9
   go_enter Tryz.func46, Tryz.ntmps46
   go_wp2_with (fail)
   go_ret
   rw [HW.out]
   exact ⟨rfl, rfl⟩
set_option maxRecDepth 100000 in
theorem count_any (k : Int) (w : World) : Calls Tryz.prog 47 #[.int .i64 k] w fun e w' => e = .returned (.int .i64 (countK k)) ∧ w = w' := by
 by_cases h6 : k = 6
 · subst h6
   go_enter Tryz.func47, Tryz.ntmps47; go_wp2_with (fail); go_ret; exact ⟨rfl, rfl⟩
 · by_cases h7 : k = 7
   · subst h7
     go_enter Tryz.func47, Tryz.ntmps47; go_wp2_with (fail); go_ret; exact ⟨rfl, rfl⟩
   · by_cases h9 : k = 9
     · subst h9
       go_enter Tryz.func47, Tryz.ntmps47; go_wp2_with (fail); go_ret; exact ⟨rfl, rfl⟩
     · have HC : Hid (countK k = 0) := by show _ = _; simp only [countK, if_neg h6, if_neg h7, if_neg h9]
       have g6 : (k == 6) = false := by simp [h6]
       have g7 : (k == 7) = false := by simp [h7]
       have g9 : (k == 9) = false := by simp [h9]
       clear h6 h7 h9
       go_enter Tryz.func47, Tryz.ntmps47
       go_wp2_with (fail)
       go_ret
       rw [HC.out]
       exact ⟨rfl, rfl⟩
theorem words_names : ∀ x ∈ words, x.name.toList ≠ [] := by
 intro x hx h
 have h2 := (words_small x hx).1
 have h3 : x.name.toList.length = x.name.size := by rw [Lib.toList_data]; simp
 rw [h] at h3
 simp at h3
 omega
theorem words_count : ∀ x ∈ words, x.args = countK x.kind := by decide
def okT (r : Nat) (t : Ty) : Bool := (measureT r t).isSome
theorem measureL_ok (f : Ty → Option Nat) : ∀ (l : List Ty) (m : Nat), (measureL f l m).isSome = l.all (fun a => (f a).isSome)
 | [], m => rfl
 | a :: l, m => by
   simp only [measureL, List.all_cons]
   cases f a with
   | none => rfl
   | some q => simpa using measureL_ok f l _
theorem okT_zero (t : Ty) : okT 0 t = false := rfl
theorem okT_none {r : Nat} {t : Ty} (h : wordK t.kind = none) : okT (r + 1) t = false := by simp [okT, measureT, h]
theorem okT_some {r : Nat} {t : Ty} {x : Wd} (h : wordK t.kind = some x) : okT (r + 1) t = (decide ((t.args.length : Int) = x.args) && t.args.all (okT r)) := by
 simp only [okT, measureT, h]
 by_cases hl : (t.args.length : Int) = x.args
 · have := measureL_ok (measureT r) t.args 0
   simp [hl, this]
   rfl
 · simp [hl]
theorem word_q {k : Int} {s : ByteArray} (h : wordStr k = s) (w : World) (n : Nat) : Calls Tryz.prog 46 #[.int .i64 k] (w.drewN n) fun e w'' => e = .returned (.string s) ∧ ∃ m, w'' = w.drewN m := by
 subst h
 exact (word_any k _).mono fun _ _ ⟨he, hm⟩ => ⟨he, n, hm.symm⟩
theorem count_q {k : Int} {s : Int} (h : countK k = s) (w : World) (n : Nat) : Calls Tryz.prog 47 #[.int .i64 k] (w.drewN n) fun e w'' => e = .returned (.int .i64 s) ∧ ∃ m, w'' = w.drewN m := by
 subst h
 exact (count_any k _).mono fun _ _ ⟨he, hm⟩ => ⟨he, n, hm.symm⟩
set_option maxRecDepth 100000 in
set_option maxHeartbeats 1000000 in
theorem rright_any : ∀ (r d n : Nat) (S : Nat → Prop) (v : Value) (t : Ty) (w : World), r ≤ 6 → Nar n t → TyAt w S d v t →
    Calls Tryz.prog 23 #[v, .int .i64 r] w fun e w' => e = .returned (.bool (okT r t)) ∧ Below w.heap.size w w'
 | r, 0, n, S, v, t, w, _, _, hT => hT.elim
 | r, d + 1, 0, S, v, t, w, _, hN, _ => hN.elim
 | 0, d + 1, n + 1, S, v, t, w, _, hN, hT => by
   obtain ⟨A, c, rfl⟩ := hT.form
   rw [okT_zero]
   have hb1 := (Below.refl w.heap.size w).alloc (Nat.le_refl _) (.cells #[.int .i64 t.kind, .slice A t.args.length c] 24)
   clear hN hT
   go_enter Tryz.func23, Tryz.ntmps23
   go_wp2_with (fail)
   go_quiet (fail)
   go_wp2_with (fail)
   go_ret
   exact ⟨rfl, below_drewN hb1 _⟩
 | r + 1, d + 1, n + 1, S, v, t, w, hr6, hN, hT => by
   obtain ⟨hlen, hall⟩ := hN
   have IH := rright_any r d n S
   have HIH := Lib.hid IH
   have HALL := Lib.hid hall
   obtain ⟨A, c, rfl, hlc, hA⟩ := hT
   have HA := Lib.hid hA
   have hb1 := (Below.refl w.heap.size w).alloc (Nat.le_refl _) (.cells #[.int .i64 t.kind, .slice A t.args.length c] 24)
   have hn1 := heap_alloc_new w (.cells #[.int .i64 t.kind, .slice A t.args.length c] 24)
   have hb0 : (((r : Int) + 1) == 0) = false := by simp; omega
   clear hA IH hall
   rw [show ((r + 1 : Nat) : Int) = (r : Int) + 1 by omega]
   cases hw : wordK t.kind with
   | none =>
     have HO : Hid (okT (r + 1) t = false) := okT_none hw
     have HWS : Hid (wordStr t.kind = ⟨#[]⟩) := by show _ = _; simp only [wordStr, hw]; rfl
     clear hw
     go_enter Tryz.func23, Tryz.ntmps23
     go_wp2_with (fail)
     go_quiet ((go_at_call 46; exact word_q HWS.out _ _))
     go_wp2_with (fail)
     go_ret
     rw [HO.out]
     exact ⟨rfl, below_drewN hb1 _⟩
   | some x =>
     have hxw := wordK_mem hw
     have HO : Hid (okT (r + 1) t = (decide ((t.args.length : Int) = x.args) && t.args.all (okT r))) := okT_some hw
     have HWS : Hid (wordStr t.kind = x.name) := by show _ = _; simp only [wordStr, hw]; rfl
     have HXC : Hid (countK t.kind = x.args) := by show _ = _; rw [words_count x hxw.1, hxw.2]
     have hne1 := words_names x hxw.1
     have hne2 : x.name.toList.isEmpty = false := by simpa using hne1
     have hxa := words_args x hxw.1
     clear hw hxw
     by_cases hl : (t.args.length : Int) = x.args
     · have hlb : ((t.args.length : Int) != x.args) = false := by simp [hl]
       go_enter Tryz.func23, Tryz.ntmps23
       go_wp2_with (fail)
       go_quiet ((first | (go_at_call 46; exact word_q HWS.out _ _) | (go_at_call 47; exact count_q HXC.out _ _)))
       go_wp2_with (fail)
       generalize hwN : (w.alloc (.cells #[.int .i64 t.kind, .slice A t.args.length c] 24)).drewN _ = wN
       obtain ⟨hbN, hnN⟩ : Below w.heap.size w wN ∧ wN.heap[w.heap.size]? = some (.cells #[.int .i64 t.kind, .slice A t.args.length c] 24 (0, 0)) := by
        subst hwN
        exact ⟨below_drewN hb1 _, hn1⟩
       have hzN := cell_lt hnN
       have HL := Lib.hid hl
       clear hb1 hn1 hwN hl
       go_loopw [5] (fun i wr => ∃ j : Nat, i = .int .i64 j ∧ j ≤ t.args.length ∧ Hid (t.args.all (okT r) = (t.args.drop j).all (okT r)) ∧ Below w.heap.size w wr ∧ w.heap.size < wr.heap.size ∧ wr.heap[w.heap.size]? = some (.cells #[.int .i64 t.kind, .slice A t.args.length c] 24 (0, 0))) (fun i _ => 6000 - (intOf i).toNat)
       case atStart => exact ⟨0, rfl, by omega, by show _ = _; rw [List.drop_zero], hbN, hzN, hnN⟩
       case round =>
        obtain ⟨j, rfl, hj, HE, hbr, hsz, hy0⟩ := hrel
        have c0 := cell2_0 hy0
        have c1 := cell2_1 hy0
        by_cases hlt : j < t.args.length
        · obtain ⟨b1, o, rfl, hSb, hcells⟩ := HA.out (by omega)
          obtain ⟨B1, k1, h0, h1, h2, hbl⟩ := arg_cells hcells hlt
          have g0 := (hbr.cell (p := ⟨b1, o + j * 2, none⟩) hbl).trans h0
          have g1 := (hbr.cell (p := ⟨b1, o + j * 2 + 1, none⟩) hbl).trans h1
          have hna := HALL.out _ (List.getElem_mem hlt)
          have hd : t.args.drop j = t.args[j] :: t.args.drop (j + 1) := List.drop_eq_getElem_cons hlt
          generalize t.args[j] = x at *
          have HD := Lib.hid hd
          have H2 := Lib.hid (h2.below hbr)
          have HNA := Lib.hid hna
          clear h0 h1 h2 hd hna hcells
          go_wp2_with (fail)
          refine (HIH.out _ x wr (by omega) HNA.out H2.out).mono ?_
          rintro e w3 ⟨rfl, hb3⟩
          have hb4 := hbr.trans (hb3.mono hbr.size)
          have hs3 := hb3.size
          have hy0' := (hb3.block w.heap.size (by omega)).trans hy0
          cases hxy : okT r x with
          | false =>
            have HF2 : Hid (t.args.all (okT r) = false) := by show _ = _; rw [HE.out, HD.out]; simp only [List.all_cons, hxy, Bool.false_and]
            clear hxy
            go_wp2_with (fail)
            go_ret
            rw [HO.out, HF2.out, Bool.and_false]
            exact ⟨rfl, hb4⟩
          | true =>
            have HF2 : Hid (t.args.all (okT r) = (t.args.drop (j + 1)).all (okT r)) := by show _ = _; rw [HE.out, HD.out]; simp only [List.all_cons, hxy, Bool.true_and]
            clear hxy
            go_wp2_with (fail)
            go_roundw
            case rel => exact ⟨j + 1, by go_num, by omega, HF2, hb4, by omega, hy0'⟩
            case measure => simp [intOf]; omega
        · go_wp2_with (fail)
          have HF2 : Hid (t.args.all (okT r) = true) := by
           show _ = _
           rw [HE.out, List.drop_of_length_le (by omega)]
           rfl
          go_ret
          rw [HO.out, HF2.out, Bool.and_true, show decide ((t.args.length : Int) = x.args) = true by simp [HL.out]]
          exact ⟨rfl, hbr⟩
     · have hlb : ((t.args.length : Int) != x.args) = true := by simp [hl]
       go_enter Tryz.func23, Tryz.ntmps23
       go_wp2_with (fail)
       go_quiet ((first | (go_at_call 46; exact word_q HWS.out _ _) | (go_at_call 47; exact count_q HXC.out _ _)))
       go_wp2_with (fail)
       go_ret
       rw [HO.out]
       rw [show decide ((t.args.length : Int) = x.args) = false by simp [hl]]
       exact ⟨rfl, below_drewN hb1 _⟩
end Go.Proofs.YtaecndmncpfpfaaGreatDoor.Knd
namespace Go.Proofs.YtaecndmncpfpfaaGreatDoor.L5
open Go.RowKit
theorem ixW_ok : ∀ (l : List Ty) (j : Nat), (∀ a ∈ l, Knd.okT 6 a = true) → ixW j l = -1
 | [], _, _ => rfl
 | a :: l, j, h => by
   unfold ixW
   rw [if_pos (show (Knd.measureT 6 a).isSome = true from h a (List.mem_cons_self ..))]
   exact ixW_ok l (j + 1) fun b hb => h b (List.mem_cons_of_mem _ hb)
theorem ixW_bad : ∀ (l : List Ty) (j : Nat) (a : Ty), a ∈ l → Knd.okT 6 a = false → 0 ≤ ixW j l
 | b :: l, j, a, ha, h => by
   unfold ixW
   cases hb : (Knd.measureT 6 b).isSome with
   | false => rw [if_neg (by simp)]; omega
   | true =>
     rw [if_pos rfl]
     rcases List.mem_cons.1 ha with rfl | ha
     · have : (Knd.measureT 6 a).isSome = false := h
       rw [hb] at this
       cases this
     · exact ixW_bad l (j + 1) a ha h
theorem rightE_bad {it a : Ty} {sides : List Ty} (ha : a ∈ sides) (h : Knd.okT 6 a = false) : rightE it sides = false := by
 unfold rightE
 have := ixW_bad sides 0 a ha h
 simp [this]
theorem rightE_ok {it : Ty} {sides : List Ty} (h : ∀ a ∈ sides, Knd.okT 6 a = true) : rightE it sides = (Knd.okT 6 it && decide (sides.length ≤ 10)) := by
 unfold rightE
 rw [ixW_ok sides 0 h]
 show ((Knd.measureT 6 it).isSome && (decide (sides.length ≤ 10) && !decide ((0 : Int) ≤ -1))) = _
 simp [Knd.okT]
set_option maxRecDepth 100000 in
set_option maxHeartbeats 1000000 in
theorem right5_any (d : Nat) (it : Ty) (sides : List Ty) (A SA : Option Addr) (k sk : Nat) (w : World) (hT : TyAt w (fun k => k < w.heap.size) d (.agg #[.int .i64 it.kind, .slice A it.args.length k]) it)
    (hA : Knd.ArgsAt w (fun k => k < w.heap.size) d SA sides) (hS : SmE it sides) :
    Calls Tryz.prog 16 #[.agg #[.int .i64 it.kind, .slice A it.args.length k, .slice SA sides.length sk]] w fun e w' => e = .returned (.bool (rightE it sides)) ∧ Below w.heap.size w w' := by
 obtain ⟨W0, hW0⟩ : ∃ W0, w.alloc (.cells #[.int .i64 it.kind, .slice A it.args.length k, .slice SA sides.length sk] 29) = W0 := ⟨_, rfl⟩
 have hB0 : Below w.heap.size w W0 := by
  rw [← hW0]
  exact (Below.refl _ w).alloc (Nat.le_refl _) _
 have hs0 : W0.heap.size = w.heap.size + 1 := by rw [← hW0]; simp
 have b0 : W0.heap[w.heap.size]? = some (.cells #[.int .i64 it.kind, .slice A it.args.length k, .slice SA sides.length sk] 29 (0, 0)) := by
  rw [← hW0]
  exact heap_alloc_new w _
 have hlen := hS.2.1
 have HS := Lib.hid hS
 have HT := Lib.hid hT
 have HA := Lib.hid hA
 have HW0 := Lib.hid hW0
 have HB0 := Lib.hid hB0
 have HX0 := Lib.hid b0
 have HS0 := Lib.hid hs0
 clear hS hT hA hW0 b0 hB0 hs0
 go_enter Tryz.func16, Tryz.ntmps16
 go_upto_region 1 with (fail)
 rw [HW0.out]
 clear HW0
 go_wp2_with (fail)
 go_loopw [3] (fun iv wr => ∃ j : Nat, iv = .int .i64 (j : Int) ∧ j ≤ sides.length ∧ Hid (Below W0.heap.size W0 wr) ∧ Hid (∀ a ∈ sides.take j, Knd.okT 6 a = true)) (fun iv _ => 6000 - (intOf iv).toNat)
 case atStart => exact ⟨0, rfl, Nat.zero_le _, Lib.hid (Below.refl _ _), Lib.hid (fun a ha => by simp at ha)⟩
 case round =>
  obtain ⟨j, rfl, hj, HB, HO⟩ := hrel
  have hbx := (HB.out.block _ (cell_lt HX0.out)).trans HX0.out
  have x0 := cell3_0 hbx
  have x1 := cell3_1 hbx
  have x2 := cell3_2 hbx
  have lx := cell_lt hbx
  have hsr := HB.out.size
  have HBW : Hid (Below w.heap.size w wr) := HB0.out.trans (HB.out.mono (by have := HS0.out; omega))
  clear hbx
  by_cases hlt : j < sides.length
  · have hjl : ((j : Int) < (sides.length : Int)) := by omega
    obtain ⟨b, o, rfl, hSb, hcells⟩ := HA.out (by omega)
    obtain ⟨B1, k1, h0, h1, h2, hbl⟩ := arg_cells hcells hlt
    have g0 := (HBW.out.cell (p := ⟨b, o + j * 2, none⟩) hbl).trans h0
    have g1 := (HBW.out.cell (p := ⟨b, o + j * 2 + 1, none⟩) hbl).trans h1
    have hn := HS.out.2.2 _ (List.getElem_mem hlt)
    have HTS : Hid (sides.take (j + 1) = sides.take j ++ [sides[j]]) := by show _ = _; rw [List.take_add_one, List.getElem?_eq_getElem hlt]; rfl
    have HM := Lib.hid (List.getElem_mem hlt)
    generalize sides[j] = a at *
    have HC := Lib.hid (Knd.rright_any 6 d 30 (fun k => k < w.heap.size) (.agg #[.int .i64 a.kind, .slice B1 a.args.length k1]) a wr (by omega) hn (h2.move fun b hb _ => ⟨hb, fun _ => World.cell?_of_block (HBW.out.block b hb)⟩))
    clear h0 h1 h2 hcells hn
    go_wp2_with (fail)
    refine HC.out.mono ?_
    rintro e w3 ⟨rfl, hb3⟩
    have HB3 := Lib.hid hb3
    have hs3 := hb3.size
    clear hb3
    cases hok : Knd.okT 6 a with
    | false =>
      go_wp2_with (fail)
      go_ret
      exact ⟨by rw [rightE_bad HM.out hok]; rfl, HBW.out.trans (HB3.out.mono HBW.out.size)⟩
    | true =>
      have HOK := Lib.hid hok
      clear hok
      go_wp2_with (fail)
      go_roundw
      case rel => exact ⟨j + 1, by go_num, by omega, Lib.hid (HB.out.trans (HB3.out.mono (by omega))), Lib.hid (by
       rw [HTS.out]
       intro x hx
       rcases List.mem_append.1 hx with hx | hx
       · exact HO.out x hx
       · simp at hx; subst hx; exact HOK.out)⟩
      case measure => simp [intOf]; omega
  · obtain rfl : j = sides.length := by omega
    have hjl : ¬ ((sides.length : Int) < (sides.length : Int)) := by omega
    have hall : ∀ a ∈ sides, Knd.okT 6 a = true := by have := HO.out; rwa [List.take_length] at this
    have HR := Lib.hid (rightE_ok (it := it) hall)
    have HC := Lib.hid (Knd.rright_any 6 d 30 (fun k => k < w.heap.size) _ it wr (by omega) HS.out.1 (HT.out.move fun b hb _ => ⟨hb, fun _ => World.cell?_of_block (HBW.out.block b hb)⟩))
    clear hall
    go_upto_region 6 with (fail)
    cases hok : Knd.okT 6 it with
    | false =>
      have hr := HR.out
      rw [hok] at hr
      have HR2 := Lib.hid hr
      have HC2 : Hid (Calls Tryz.prog 23 _ wr fun e w' => e = .returned (.bool false) ∧ Below wr.heap.size wr w') := hok ▸ HC.out
      clear hok hr
      go_wp2_with (go_at_call 23; refine HC2.out.mono ?_; rintro e w3 ⟨rfl, hb3⟩; have HB3 := Lib.hid (HBW.out.trans (hb3.mono HBW.out.size)); clear hb3 x0 x1 x2)
      go_ret
      exact ⟨by rw [HR2.out]; rfl, HB3.out⟩
    | true =>
      have hr := HR.out
      rw [hok] at hr
      have HR2 := Lib.hid hr
      have HC2 : Hid (Calls Tryz.prog 23 _ wr fun e w' => e = .returned (.bool true) ∧ Below wr.heap.size wr w') := hok ▸ HC.out
      clear hok hr
      go_wp2_with (go_at_call 23; refine HC2.out.mono ?_; rintro e w3 ⟨rfl, hb3⟩; have HB3 := Lib.hid (HBW.out.trans (hb3.mono HBW.out.size)); have hd2 := (hb3.cell (p := ⟨w.heap.size, 2, none⟩) lx).trans x2; have ld := hb3.size; have lz : w.heap.size < w3.heap.size := (by omega); clear hb3 x0 x1 x2)
      go_ret
      exact ⟨by rw [HR2.out]; simp; omega, HB3.out⟩
