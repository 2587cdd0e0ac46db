/-
The walk of KindMakes.
-/
import Derived.Test.YtdoadedglpjldaaDoorMkt
import Derived.Test.YtdoadedglpjldaaDoorAwk
import Derived.Lib.Strings
namespace Go.Proofs.YtdoadedglpjldaaDoor
open Go.RowKit

theorem bytes_back' {l : List UInt8} {s : ByteArray} (h : l = s.data.toList) : (⟨l.toArray⟩ : ByteArray) = s := by
  subst h
  simp

theorem ArgsAt.below {w w' : World} {S : Nat → Prop} {d : Nat} {A : Option Addr} {l : List Ty} (h : ArgsAt w S d A l) (hb : Below w.heap.size w w') : ArgsAt w' S d A l := fun hl => by
  obtain ⟨b, o, hA, hS, hj⟩ := h hl
  have hlt : b < w.heap.size := by
    obtain ⟨u0, u1, h0, _⟩ := hj 0 _ (List.getElem?_eq_getElem hl)
    exact World.block_lt_of_cell? w _ h0
  refine ⟨b, o, hA, hS, fun j a ha => ?_⟩
  obtain ⟨u0, u1, h0, h1, h2⟩ := hj j a ha
  exact ⟨u0, u1, (hb.cell (p := ⟨b, o + j * 2, none⟩) hlt).trans h0, (hb.cell (p := ⟨b, o + j * 2 + 1, none⟩) hlt).trans h1, h2.below hb⟩

theorem words_named : ∀ x ∈ words, x.name.toList ≠ [] := by
  intro x hx h
  have h2 := (words_small x hx).1
  have h3 : x.name.toList.length = x.name.size := by rw [Lib.toList_data]; simp
  rw [h] at h3
  simp at h3
  omega

set_option maxRecDepth 100000 in
set_option maxHeartbeats 4000000 in
theorem makes_walk (d : Nat) (S : Nat → Prop) (k : Int) (A : Option Addr) (c : Nat) (l : List Ty) (w : World) (hA : ArgsAt w S d A l) (hc : l.length ≤ c) (hG : Glob w) :
    Calls Tryd.prog 7 #[.int .i64 k, .slice A l.length c] w fun e w' => e = .returned (.bool true) ∧ Below w.heap.size w w' := by
  have hGl := hG.lt
  have hawk := fun (W : World) (h : Below w.heap.size w W) => awake_any W (hG.kept (h.block 0 hGl))
  have HAWK := Lib.hid hawk
  have HA := Lib.hid hA
  clear hawk hA
  by_cases h4 : 4 < l.length
  · go_enter Tryd.func7, Tryd.ntmps7
    go_wp2_with (fail)
    refine (HAWK.out _ (Below.refl _ _)).mono ?_
    rintro e wq ⟨rfl, hbq⟩
    go_wp2_with (fail)
    go_ret
    exact ⟨rfl, hbq⟩
  · have h4d : decide ((4 : Int) < (l.length : Int)) = false := by simp; omega
    go_enter Tryd.func7, Tryd.ntmps7
    go_wp2_with (fail)
    go_loopw [5, 29] (fun dm i wr => ∃ (j m : Nat), i = .int .i64 j ∧ dm = .int .i64 m ∧ j ≤ l.length ∧ m ≤ 6 ∧ Hid (measureL (measureT 6) (l.take j) 0 = some m) ∧ Below w.heap.size w wr) (fun _ i _ => 10 - (intOf i).toNat)
    case atStart => exact ⟨0, 0, rfl, rfl, by omega, by omega, rfl, Below.refl _ _⟩
    case round =>
      obtain ⟨j, m, rfl, rfl, hj, hm, HM, hbr⟩ := hrel
      have hsr := hbr.size
      by_cases hlt : j < l.length
      · obtain ⟨b, o, rfl, hSb, hcells⟩ := HA.out (by omega)
        obtain ⟨B1, k1, h0, h1, h2, hbl⟩ := arg_cells hcells hlt
        have g0 := (hbr.cell (p := ⟨b, o + j * 2, none⟩) hbl).trans h0
        have g1 := (hbr.cell (p := ⟨b, o + j * 2 + 1, none⟩) hbl).trans h1
        have hmem := List.getElem_mem hlt
        have hts : l.take (j + 1) = l.take j ++ [l[j]] := by rw [List.take_add_one, List.getElem?_eq_getElem hlt]; rfl
        generalize l[j] = a at *
        have HMEM := Lib.hid hmem
        have HTS := Lib.hid hts
        have hba := (Below.refl wr.heap.size wr).alloc (Nat.le_refl _) (.cells #[.int .i64 a.kind, .slice B1 a.args.length k1] 24)
        have H2 := Lib.hid ((h2.below hbr).below hba)
        have hn1 := heap_alloc_new wr (.cells #[.int .i64 a.kind, .slice B1 a.args.length k1] 24)
        have hbra := hbr.trans (hba.mono hsr)
        clear h0 h1 h2 hmem hts hcells
        go_wp2_with (fail)
        refine (fits_any d S _ a _ H2.out).mono ?_
        rintro e w3 ⟨⟨bb, rfl, _⟩, hb3⟩
        have hb33 := hbra.trans (hb3.mono hbra.size)
        have hn3 := (hb3.block wr.heap.size (by simp)).trans hn1
        have n0 := cell2_0 hn3
        have n1 := cell2_1 hn3
        have hl3 := cell_lt hn3
        cases bb with
        | false =>
          go_wp2_with (fail)
          refine (HAWK.out _ hb33).mono ?_
          rintro e wq ⟨rfl, hbq⟩
          go_wp2_with (fail)
          go_ret
          exact ⟨rfl, hb33.trans (hbq.mono hb33.size)⟩
        | true =>
          go_wp2_with (fail)
          refine (depth_any d S _ a _ (H2.out.below hb3) (hG.kept (hb33.block 0 hGl))).mono ?_
          rintro e w4 ⟨he, hb4⟩
          have hb44 := hb33.trans (hb4.mono hb33.size)
          cases hme : measureT 6 a with
          | none =>
            rw [hme] at he
            obtain rfl : e = .returned (.tuple #[.int .i64 ((0 : Nat) : Int), .int .i64 20]) := he
            have HBAD := Lib.hid (mk_bad (k := k) HMEM.out hme)
            clear hme
            go_wp2_with (fail)
            refine (make_any d S k (some ⟨b, o, none⟩) c l _ (HA.out.below hb44) hc (hG.kept (hb44.block 0 hGl))).mono ?_
            rw [HBAD.out]
            rintro e w5 ⟨he, hb5⟩
            obtain rfl : e = .returned (.tuple #[.agg #[.int .i64 0, .slice none 0 0], .int .i64 20]) := he
            have hb55 := (hb44.trans (hb5.mono hb44.size)).alloc (hb44.trans (hb5.mono hb44.size)).size (.cells #[.int .i64 0, .slice none 0 0] 24)
            go_wp2_with (fail)
            refine (HAWK.out _ hb55).mono ?_
            rintro e wq ⟨rfl, hbq⟩
            go_wp2_with (fail)
            go_ret
            exact ⟨rfl, hb55.trans (hbq.mono hb55.size)⟩
          | some q =>
            rw [hme] at he
            obtain rfl : e = .returned (.tuple #[.int .i64 (q : Int), .int .i64 0]) := he
            have hq6 := measureT_le 6 a q hme
            have HF : Hid (measureL (measureT 6) (l.take (j + 1)) 0 = some (max m q)) := by show _ = _; rw [HTS.out]; exact measureL_snoc _ _ _ _ _ _ HM.out hme
            have hmx : ((max m q : Nat) : Int) = max (m : Int) (q : Int) := by omega
            have HMX := Lib.hid hmx
            clear hmx hme
            go_wp2_with (fail)
            go_roundw
            case rel => exact ⟨j + 1, max m q, by go_num, by rw [HMX.out], by omega, by omega, HF, hb44⟩
            case measure => simp [intOf]; omega
      · obtain rfl : j = l.length := by omega
        obtain ⟨wo, rfl⟩ : ∃ wo : World, wo = wr := ⟨_, rfl⟩
        have hM : measureL (measureT 6) l 0 = some m := by have := HM.out; rwa [List.take_length] at this
        have HMM := Lib.hid hM
        clear hM
        go_wp2_with (fail)
        refine (make_any d S k A c l _ (HA.out.below hbr) hc (hG.kept (hbr.block 0 hGl))).mono ?_
        cases hw : wordK k with
        | none =>
          have HNO := Lib.hid (mk_no HMM.out (.inl hw))
          have HW : Hid (wordStr k = ⟨#[]⟩) := by show _ = _; simp only [wordStr, hw]; rfl
          clear hw
          rw [HNO.out]
          rintro e w5 ⟨he, hb5⟩
          obtain rfl : e = .returned (.tuple #[.agg #[.int .i64 0, .slice none 0 0], .int .i64 20]) := he
          have hb55 := (hbr.trans (hb5.mono hsr)).alloc (hbr.trans (hb5.mono hsr)).size (.cells #[.int .i64 0, .slice none 0 0] 24)
          go_wp2_with (fail)
          refine (word_any k _).mono ?_
          rw [HW.out]
          rintro e w6 ⟨rfl, rfl⟩
          go_wp2_with (fail)
          refine (HAWK.out _ hb55).mono ?_
          rintro e wq ⟨rfl, hbq⟩
          go_wp2_with (fail)
          go_ret
          exact ⟨rfl, hb55.trans (hbq.mono hb55.size)⟩
        | some x =>
          have hxw := wordK_mem hw
          have HW : Hid (wordStr k = x.name) := by show _ = _; simp only [wordStr, hw]; rfl
          have HC : Hid (countK k = x.args) := by show _ = _; rw [words_count x hxw.1, hxw.2]
          have hx6 := words_small x hxw.1
          have hx2 := words_args x hxw.1
          have hne1 := words_named x hxw.1
          have hne2 : x.name.toList.isEmpty = false := by simpa using hne1
          by_cases hxl : (l.length : Int) = x.args
          · have hxe : ((l.length : Int) != x.args) = false := by simp [hxl]
            by_cases h6 : 6 < m + 1
            · have HNO := Lib.hid (mk_no (k := k) HMM.out (.inr (.inr h6)))
              have h6' : decide ((6 : Int) < (m : Int) + 1) = true := by simp; omega
              clear hw hxl
              rw [HNO.out]
              rintro e w5 ⟨he, hb5⟩
              obtain rfl : e = .returned (.tuple #[.agg #[.int .i64 0, .slice none 0 0], .int .i64 20]) := he
              have hb55 := (hbr.trans (hb5.mono hsr)).alloc (hbr.trans (hb5.mono hsr)).size (.cells #[.int .i64 0, .slice none 0 0] 24)
              go_wp2_with (fail)
              refine (word_any k _).mono ?_
              rw [HW.out]
              rintro e w6 ⟨rfl, rfl⟩
              go_wp2_with (fail)
              refine (count_any k _).mono ?_
              rw [HC.out]
              rintro e w6 ⟨rfl, rfl⟩
              go_wp2_with (fail)
              refine (HAWK.out _ hb55).mono ?_
              rintro e wq ⟨rfl, hbq⟩
              go_wp2_with (fail)
              go_ret
              exact ⟨rfl, hb55.trans (hbq.mono hb55.size)⟩
            · obtain ⟨hgood, hm5⟩ := mk_good HMM.out hw hxl (by omega)
              have HGOOD := Lib.hid hgood
              have HM5 := Lib.hid hm5
              have HXL := Lib.hid hxl
              have hl2 : l.length ≤ 2 := by omega
              have h6' : decide ((6 : Int) < (m : Int) + 1) = false := by simp; omega
              have HTEXT : Hid (textT 6 (.mk k l) = x.name.data.toList ++ textL (textT 5) l 0 ++ (if 0 < l.length then [41] else [])) := by
                show ((wordK k).getD zeroWd).name.data.toList ++ textL (textT 5) l 0 ++ (if 0 < l.length then [41] else []) = _
                rw [hw]; rfl
              clear hw hxl hgood hm5
              rw [HGOOD.out]
              rintro e w5 ⟨⟨v5, rfl, hT5⟩, hb5⟩
              obtain ⟨A5, c5, hv5⟩ := hT5.form
              obtain rfl : v5 = .agg #[.int .i64 k, .slice A5 l.length c5] := hv5
              have hb55 := (hbr.trans (hb5.mono hsr)).alloc (hbr.trans (hb5.mono hsr)).size (.cells #[.int .i64 k, .slice A5 l.length c5] 24)
              have hal := (Below.refl w5.heap.size w5).alloc (Nat.le_refl _) (.cells #[.int .i64 k, .slice A5 l.length c5] 24)
              have hT5' : TyAt w5 (fun b => wo.heap.size ≤ b) 6 (.agg #[.int .i64 k, .slice A5 l.length c5]) (.mk k l) := hT5
              have HT5 := Lib.hid (hT5'.below hal)
              have hn5 := heap_alloc_new w5 (.cells #[.int .i64 k, .slice A5 l.length c5] 24)
              have n0 := cell2_0 hn5
              clear hT5 hT5'
              go_wp2_with (fail)
              refine (word_any k _).mono ?_
              rw [HW.out]
              rintro e w6 ⟨rfl, rfl⟩
              go_wp2_with (fail)
              refine (count_any k _).mono ?_
              rw [HC.out]
              rintro e w6 ⟨rfl, rfl⟩
              go_wp2_with (fail)
              refine (depth_any 6 _ _ (.mk k l) _ HT5.out (hG.kept (hb55.block 0 hGl))).mono ?_
              rw [HGOOD.out]
              rintro e w7 ⟨he, hb7⟩
              obtain rfl : e = .returned (.tuple #[.int .i64 ((m + 1 : Nat) : Int), .int .i64 0]) := he
              have hb77 := hb55.trans (hb7.mono hb55.size)
              have hn7 := (hb7.block w5.heap.size (by simp)).trans hn5
              have HT7 := Lib.hid (HT5.out.below hb7)
              have hbr7 := (hb5.trans (hal.mono hb5.size)).trans (hb7.mono (by have := hb5.size; simp; omega))
              clear n0
              go_wp2_with (fail)
              have hnx : x.name.data.toList.length = x.name.size := by simp
              go_loopw [14, 98] (fun sv i wr => ∃ (j : Nat) (G : ByteArray), i = .int .i64 j ∧ j ≤ l.length ∧ sv = .string G ∧ Hid (G.data.toList = x.name.data.toList ++ textL (textT 5) (l.take j) 0) ∧ Below w.heap.size w wr ∧ Below wo.heap.size wo wr ∧ Below w7.heap.size w7 wr) (fun _ i _ => 10 - (intOf i).toNat)
              case atStart => exact ⟨0, x.name, rfl, by omega, rfl, by show _ = _; simp [textL], hb77, hbr7, Below.refl _ _⟩
              case round =>
                obtain ⟨j, G, rfl, hj, rfl, HGt, hbz, hbrz, hb7z⟩ := hrel
                have hGsz : G.size ≤ 5000 := by
                  have h1 := congrArg List.length HGt.out
                  have h2 := textL_small (textT 5) (9 * (2 ^ 5 - 1)) (l.take j) 0 (fun a ha => by
                    obtain ⟨q, hq⟩ := measureL_all _ _ _ _ HM5.out a (List.mem_of_mem_take ha)
                    exact textT_small 5 a q hq)
                  have h3 : (l.take j).length ≤ 2 := by rw [List.length_take]; omega
                  have h4 : (l.take j).length * (9 * (2 ^ 5 - 1) + 1) ≤ 2 * (9 * (2 ^ 5 - 1) + 1) := Nat.mul_le_mul_right _ h3
                  simp only [List.length_append, Array.length_toList, ByteArray.size_data] at h1
                  omega
                have hszz := hbz.size
                have hszr := hbrz.size
                by_cases hlj : j < l.length
                · obtain ⟨b, o, rfl, hSb, hcells⟩ := HA.out (by omega)
                  obtain ⟨B1, k1, h0, h1, h2, hbl⟩ := arg_cells hcells hlj
                  have g0 := (hbz.cell (p := ⟨b, o + j * 2, none⟩) hbl).trans h0
                  have g1 := (hbz.cell (p := ⟨b, o + j * 2 + 1, none⟩) hbl).trans h1
                  have hmem := List.getElem_mem hlj
                  have hts : l.take (j + 1) = l.take j ++ [l[j]] := by rw [List.take_add_one, List.getElem?_eq_getElem hlj]; rfl
                  generalize l[j] = a at *
                  obtain ⟨q, hq5⟩ := measureL_all _ _ _ _ HM5.out a hmem
                  have hq6 := measure_up 5 a q hq5
                  have htu := text_up 5 a q hq5
                  have hsm := textT_small 6 a q hq6
                  have HTU := Lib.hid htu
                  have HQ6 := Lib.hid hq6
                  have HNX : Hid (textL (textT 5) (l.take (j + 1)) 0 = textL (textT 5) (l.take j) 0 ++ aheadB j :: textT 6 a) := by
                    show _ = _
                    rw [hts, textL_snoc, List.length_take, Nat.min_eq_left (by omega), Nat.zero_add, htu]
                  have hba := (Below.refl wr.heap.size wr).alloc (Nat.le_refl _) (.cells #[.int .i64 a.kind, .slice B1 a.args.length k1] 24)
                  have H2 := Lib.hid ((h2.below hbz).below hba)
                  have hbza := hbz.trans (hba.mono hszz)
                  have hmin : min (j : Int) 1 = (j : Int) := by omega
                  have hix : (#[Value.string ⟨#[40]⟩, .string ⟨#[44]⟩] : Array Value)[j]? = some (.string ⟨#[aheadB j]⟩) := by
                    have : j = 0 ∨ j = 1 := by omega
                    rcases this with rfl | rfl <;> rfl
                  clear h0 h1 h2 hmem hts hcells hq5 hq6 htu
                  go_wp2_with (fail)
                  refine (show_any d S _ a _ H2.out (hG.kept (hbza.block 0 hGl))).mono ?_
                  rw [HQ6.out]
                  rintro e w8 ⟨he, hb8⟩
                  obtain rfl : e = .returned (.tuple #[.string ⟨(textT 6 a).toArray⟩, .int .i64 0]) := he
                  have hb8a := hba.trans (hb8.mono hba.size)
                  have hb8s := hb8a.size
                  go_wp2_with (fail)
                  go_roundw
                  case rel =>
                    refine ⟨j + 1, _, by go_num, by omega, rfl, ?_, ?_, ?_, ?_⟩
                    · show _ = _
                      rw [HNX.out, ← List.append_assoc, ← HGt.out]
                      simp
                    · exact (hbz.trans (hb8a.mono hszz)).alloc (by omega) _
                    · exact (hbrz.trans (hb8a.mono hszr)).alloc (by omega) _
                    · exact (hb7z.trans (hb8a.mono hb7z.size)).alloc (by have := hb7z.size; omega) _
                  case measure => simp [intOf]; omega
                · obtain rfl : j = l.length := by omega
                  have hn9 := (hb7z.block w5.heap.size (cell_lt hn7)).trans hn7
                  have n0 := cell2_0 hn9
                  have n1 := cell2_1 hn9
                  have HGG : Hid (G.data.toList = x.name.data.toList ++ textL (textT 5) l 0) := by have := HGt.out; rwa [List.take_length] at this
                  by_cases hpos : 0 < l.length
                  · have HFIN : Hid (G ++ ⟨#[41]⟩ = ⟨(textT 6 (.mk k l)).toArray⟩) := by
                      show _ = _
                      refine (bytes_back' ?_).symm
                      rw [HTEXT.out, if_pos hpos, ← HGG.out]
                      simp
                    go_wp2_with (fail)
                    refine (show_any 6 _ _ (.mk k l) _ (HT7.out.below hb7z) (hG.kept (hbz.block 0 hGl))).mono ?_
                    rw [HGOOD.out]
                    rw [HFIN.out]
                    rintro e w9 ⟨he, hb9⟩
                    obtain rfl : e = .returned (.tuple #[.string ⟨(textT 6 (.mk k l)).toArray⟩, .int .i64 0]) := he
                    have hb99 := hbz.trans (hb9.mono hszz)
                    go_wp2_with (fail)
                    refine (HAWK.out _ hb99).mono ?_
                    rintro e wq ⟨rfl, hbq⟩
                    go_wp2_with (fail)
                    go_ret
                    exact ⟨rfl, hb99.trans (hbq.mono hb99.size)⟩
                  · have HFIN : Hid (G = ⟨(textT 6 (.mk k l)).toArray⟩) := by
                      show _ = _
                      refine (bytes_back' ?_).symm
                      rw [HTEXT.out, if_neg hpos, ← HGG.out]
                      simp
                    go_wp2_with (fail)
                    refine (show_any 6 _ _ (.mk k l) _ (HT7.out.below hb7z) (hG.kept (hbz.block 0 hGl))).mono ?_
                    rw [HGOOD.out]
                    rw [HFIN.out]
                    rintro e w9 ⟨he, hb9⟩
                    obtain rfl : e = .returned (.tuple #[.string ⟨(textT 6 (.mk k l)).toArray⟩, .int .i64 0]) := he
                    have hb99 := hbz.trans (hb9.mono hszz)
                    go_wp2_with (fail)
                    refine (HAWK.out _ hb99).mono ?_
                    rintro e wq ⟨rfl, hbq⟩
                    go_wp2_with (fail)
                    go_ret
                    exact ⟨rfl, hb99.trans (hbq.mono hb99.size)⟩
          · have HNO := Lib.hid (mk_no HMM.out (.inr (.inl ⟨x, hw, hxl⟩)))
            have hxe : ((l.length : Int) != x.args) = true := by simp [hxl]
            clear hw hxl
            rw [HNO.out]
            rintro e w5 ⟨he, hb5⟩
            obtain rfl : e = .returned (.tuple #[.agg #[.int .i64 0, .slice none 0 0], .int .i64 20]) := he
            have hb55 := (hbr.trans (hb5.mono hsr)).alloc (hbr.trans (hb5.mono hsr)).size (.cells #[.int .i64 0, .slice none 0 0] 24)
            go_wp2_with (fail)
            refine (word_any k _).mono ?_
            rw [HW.out]
            rintro e w6 ⟨rfl, rfl⟩
            go_wp2_with (fail)
            refine (count_any k _).mono ?_
            rw [HC.out]
            rintro e w6 ⟨rfl, rfl⟩
            go_wp2_with (fail)
            refine (HAWK.out _ hb55).mono ?_
            rintro e wq ⟨rfl, hbq⟩
            go_wp2_with (fail)
            go_ret
            exact ⟨rfl, hb55.trans (hbq.mono hb55.size)⟩
end Go.Proofs.YtdoadedglpjldaaDoor
