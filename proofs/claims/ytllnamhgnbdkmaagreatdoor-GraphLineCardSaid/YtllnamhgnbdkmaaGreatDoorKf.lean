/-
The document's answer for package kind: scan, where Args may come.
-/
import Derived.Test.YtllnamhgnbdkmaaGreatDoorKe
namespace Go.Proofs.YtllnamhgnbdkmaaGreatDoor.Knd
open Go.RowKit
theorem str_index (s : ByteArray) (p : Nat) (h : p < s.size) (_hs : s.size ≤ 1000000) (W : World) : (Instr.index 9 (.string s) (.int .i64 (p : Int))).run Tryz.prog W = .ok (.int .u8 ((s[p].toNat : Nat) : Int)) W := by
  go_simp
set_option maxRecDepth 100000 in
set_option maxHeartbeats 8000000 in
theorem scan_step (r : Nat) (hr1 : 1 ≤ r) (hr6 : r + 1 ≤ 6) (IH : ScOk r) : ScOk (r + 1) := by
  intro s n w hn hs
  obtain ⟨i0, hi, hq0, hq1, hq2⟩ := info_parts infoRT
  have HIH := Lib.hid IH
  clear IH
  have hlast : (s.extract n s.size).data.toList = s.data.toList.drop n := by rw [Lib.extract_data, List.take_of_length_le (by simp)]
  have HLAST := Lib.hid hlast
  clear hlast
  have hb1 : (((r : Int) + 1) == 1) = false := by simp; omega
  rw [show ((r + 1 : Nat) : Int) = (r : Int) + 1 by omega]
  go_enter Tryz.func88, Tryz.ntmps88
  go_wp2_with (fail)
  go_loopw [1, 9] (fun a i wr => ∃ kk : Nat, i = .int .i64 kk ∧ a = .int .i64 (n : Int) ∧ 1 ≤ kk ∧ kk ≤ 10 ∧ ScInv s n r kk w wr) (fun _ i _ => 20 - (intOf i).toNat)
  case atStart =>
    exact ⟨1, rfl, rfl, by omega, by omega, (Below.refl _ _).alloc (Nat.le_refl _) _, by simp, heap_alloc_new w _, fun y hy h => by have := words_kinds y (List.mem_filter.1 hy).1; omega⟩
  case round =>
    obtain ⟨kk, rfl, rfl, hk1, hk10, hI⟩ := hrel
    obtain ⟨wo, rfl⟩ : ∃ wo : World, wo = wr := ⟨_, rfl⟩
    have HI := Lib.hid hI
    have r0 := cell2_0 hI.res
    have r1 := cell2_1 hI.res
    have f0 := cell3_f hI.res 0
    have f1 := cell3_f hI.res 1
    have hbr := hI.below
    have hsz := hI.size
    clear hI
    by_cases hk9 : kk ≤ 9
    · go_wp2_with (fail)
      refine (word_any (kk : Int) _).mono ?_
      rintro e w1 ⟨rfl, rfl⟩
      cases hw : wordK (kk : Int) with
      | none =>
        have hws : wordStr (kk : Int) = ⟨#[]⟩ := by simp only [wordStr, hw]; rfl
        rw [hws]
        have hnext : ScInv s n r (kk + 1) w wo := ⟨HI.out.below, HI.out.size, HI.out.res, fun y hy h => HI.out.miss y hy (by have := wordK_none_or hw (List.mem_filter.1 hy).1; omega)⟩
        have HN := Lib.hid hnext
        clear hws hw hnext
        go_wp2_with (fail)
        go_roundw
        case rel => exact ⟨kk + 1, by go_num, rfl, by omega, by omega, HN.out⟩
        case measure => simp [intOf]; omega
      | some x =>
        have hws : wordStr (kk : Int) = x.name := by simp only [wordStr, hw]; rfl
        rw [hws]
        have hxw := wordK_mem hw
        have hne1 := words_names x hxw.1
        have hne2 : x.name.toList.isEmpty = false := by simpa using hne1
        have hxc : countK (kk : Int) = x.args := by rw [words_count x hxw.1, hxw.2]
        have hxa := words_args x hxw.1
        have hx6 := words_small x hxw.1
        have hfit : x ∈ fitW ((r : Int) + 1) words := List.mem_filter.2 ⟨hxw.1, by simp; omega⟩
        have HXC := Lib.hid hxc
        have HXC2 : Hid (countK x.kind = x.args) := (words_count x hxw.1).symm
        have HW := Lib.hid hw
        have HXK := Lib.hid hxw.2
        clear hws hw hxc
        go_wp2_with (fail)
        refine (begins_any x.name _ _).mono ?_
        rw [HLAST.out]
        rintro e w2 ⟨rfl, rfl⟩
        cases hp : pfx x.name (s.data.toList.drop n) with
        | false =>
          have hnext : ScInv s n r (kk + 1) w wo := ⟨HI.out.below, HI.out.size, HI.out.res, fun y hy h => by
            by_cases hyk : y.kind = kk
            · rw [wordK_unique HW.out (List.mem_filter.1 hy).1 hyk]; exact hp
            · exact HI.out.miss y hy (by omega)⟩
          have HN := Lib.hid hnext
          clear hp hnext
          go_wp2_with (fail)
          go_roundw
          case rel => exact ⟨kk + 1, by go_num, rfl, by omega, by omega, HN.out⟩
          case measure => simp [intOf]; omega
        | true =>
          have hrw := readW_hit hfit hp
          have HT := Lib.hid (readT_some hrw)
          have hnsz : n + x.name.size ≤ s.size := by
            have := readW_le (s.data.toList.drop n) (fitW ((r : Int) + 1) words) 0
            rw [hrw] at this
            simp at this
            omega
          clear hp hrw hxw
          obtain ⟨p0, hp0⟩ : ∃ p0, p0 = n + x.name.size := ⟨_, rfl⟩
          have hp1 : p0 ≤ s.size := by omega
          have HP0 := Lib.hid hp0
          clear hp0
          go_wp2_with (fail)
          obtain ⟨TB, hTB⟩ : ∃ TB, TB = wo.heap.size := ⟨_, rfl⟩
          have hTBs : w.heap.size < TB := by omega
          have hIs := HI.out
          have hstart : SaInv w TB x r n x.name.size s 0 [] (.slice none 0 0) x.name.size (wo.alloc (.cells #[.int .i64 x.kind, .slice none 0 0] 45)) := by
            subst hTB
            exact ⟨hIs.below.alloc hIs.below.size _, hIs.size, by simp, (Below.heap_alloc wo _ _ hIs.size).trans hIs.res, heap_alloc_new wo _, rfl, ⟨[], World.ownsRow_nil _ _ _ _, fun j a h => by simp at h⟩, hnsz, by simp⟩
          have HSTART := Lib.hid hstart
          rw [← hTB, show ((kk : Nat) : Int) = x.kind from HXK.out.symm]
          clear hIs hstart hTB r0 r1 f0 f1
          go_loopw [1, 12] (fun a i wr => ∃ (ii p m : Nat) (acc : List Ty) (vs : Value), i = .int .i64 ii ∧ a = .int .i64 (p : Int) ∧ Hid (p = n + m) ∧ p ≤ s.size ∧ (ii : Int) ≤ x.args ∧ SaInv w TB x r n x.name.size s ii acc vs m wr) (fun _ i _ => 20 - (intOf i).toNat)
          case atStart => exact ⟨0, n + x.name.size, x.name.size, [], .slice none 0 0, rfl, by rw [Int.natCast_add], rfl, hnsz, by omega, HSTART.out⟩
          case round =>
            obtain ⟨i, p, m, acc, vs, rfl, rfl, HPM, hps, hix, hS⟩ := hrel
            have HS := Lib.hid hS
            have r0 := cell2_0 hS.res
            have r1 := cell2_1 hS.res
            have f0 := cell3_f hS.res 0
            have f1 := cell3_f hS.res 1
            have t0 := cell2_0 hS.tcell
            have t1 := cell2_1 hS.tcell
            have t2 := cell3_f hS.tcell 0
            have t3 := cell3_f hS.tcell 1
            have hbs := hS.below
            have hzs := hS.size
            clear hS
            by_cases hlt : (i : Int) < x.args
            · go_wp2_with (fail)
              refine (count_any x.kind _).mono ?_
              rw [HXC2.out]
              rintro e w4 ⟨rfl, rfl⟩
              have hi01 : i = 0 ∨ 0 < i := by omega
              rcases hi01 with hiz | hip
              · subst hiz
                by_cases hh : (s.data.toList.drop p).head? = some (aheadB 0)
                · obtain ⟨hpl, hpb⟩ := head_get hh
                  have HH := Lib.hid hh
                  clear hh
                  have hge : decide ((s.size : Int) ≤ (p : Int)) = false := by simp; omega
                  have hbn : ((s[p].toNat : Int) != 40) = false := byte_ne_true (by rfl) hpb
                  clear hpb
                  go_wp2_with (fail)
                  have hIHr := HIH.out s (p + 1) wr (by omega) hs
                  rw [show ((p + 1 : Nat) : Int) = (p : Int) + 1 by omega] at hIHr
                  cases hq : readT r (s.data.toList.drop (p + 1)) with
                  | mk q o =>
                  rw [hq] at hIHr
                  have hdd : (s.data.toList.drop n).drop (m + 1) = s.data.toList.drop (p + 1) := by rw [List.drop_drop, HPM.out, Nat.add_assoc]
                  have hHd : ((s.data.toList.drop n).drop m).head? = some (aheadB 0) := by rw [List.drop_drop, ← HPM.out]; exact HH.out
                  cases o with
                  | none =>
                    have HE := Lib.hid (readT_bad HT.out HS.out.eq (by omega) hHd (by rw [hdd]; exact hq))
                    clear hq hdd hHd
                    refine hIHr.mono ?_
                    rintro e w5 ⟨he, hb5⟩
                    obtain rfl : e = .returned (.tuple #[.agg #[.int .i64 0, .slice none 0 0], .int .i64 ((p + 1 + q : Nat) : Int), .bool false]) := he
                    have hf5 := (hb5.block _ (cell_lt HS.out.res)).trans HS.out.res
                    have hl5 := cell_lt hf5
                    clear r0 r1 f0 f1
                    have r0 := cell2_0 hf5
                    have r1 := cell2_1 hf5
                    have f0 := cell3_f hf5 0
                    have f1 := cell3_f hf5 1
                    go_wp2_with (fail)
                    refine bodyPost_ret (v := .tuple #[.agg #[.int .i64 0, .slice none 0 0], .int .i64 ((p : Int) + 1 + (q : Int)), .bool false]) (by simp [results, Tryz.results88, go_sem, r0, r1, hl5]) rfl ?_
                    rw [HE.out]
                    exact ⟨sc_bad (by have := HPM.out; omega), (((hbs.trans (hb5.mono hbs.size)).setCell (p := ⟨w.heap.size, 0, none⟩) (Nat.le_refl _) _).setCell (p := ⟨w.heap.size, 1, none⟩) (Nat.le_refl _) _).alloc (by have := hb5.size; simp [World.setCell]; omega) _⟩
                  | some a =>
                    refine hIHr.mono ?_
                    rintro e w5 ⟨⟨v5, rfl, hv5⟩, hb5⟩
                    obtain ⟨A5, c5, rfl⟩ := TyAt.form hv5
                    have hs5 := hb5.size
                    have hf5 := (hb5.block _ HS.out.size).trans HS.out.tcell
                    obtain ⟨cs, hcs, hargs⟩ := HS.out.own
                    have hcs5 := hcs.kept (row := none) ⟨hb5.os, hb5.tape, hb5.output, hb5.size, fun k hk _ => hb5.block k hk⟩ (by cases hv : vs.ownBlock <;> simp)
                    have htb5 := cell_lt hf5
                    have hqle := readT_le r (s.data.toList.drop (p + 1))
                    rw [hq] at hqle
                    simp only [List.length_drop, Array.length_toList, ByteArray.size_data] at hqle
                    have HQ := Lib.hid hq
                    have HDD := Lib.hid hdd
                    have HHD := Lib.hid hHd
                    have HV5 := Lib.hid hv5
                    have HARGS := Lib.hid hargs
                    clear hq hdd hHd hv5 t0 t1 t2 t3 hargs
                    have t0 := cell2_0 hf5
                    have t1 := cell2_1 hf5
                    have t2 := cell3_f hf5 0
                    have t3 := cell3_f hf5 1
                    go_wp2_with (at_builtin; refine wpList_append_own_at _ rfl (.tmp 88) (.tmp 90) 43 rfl (TB + 1) 45 i0 (.agg #[.int .i64 0, .slice none 0 0]) 2 32 Tryz.underlying43 hi hq0 hq1 hq2 rfl (by decide) vs 0 cs rfl ((hcs5.alloc _).alloc _) ⟨w5.heap.size + 1, 0, none⟩ 1 1 [.int .i64 a.kind, .slice A5 a.args.length c5] rfl rfl (cell_two_new _ _ _ _ _ (by simp)) (two_one _ _ _ _) (by unfold maxLen; omega) (by omega) (by simp; omega) ?_; intro v' w7 hown7 hgrow7 _ hat7; obtain ⟨g7, cap7, rfl, hg7⟩ := own_form hown7 (by omega); have ht7 := tb_kept hf5 hgrow7 (fun e => by have := (hcs.lt _ e).1; omega); have y0 := cell2_0 ht7; have y1 := cell2_1 ht7; have y2 := cell3_f ht7 0; have y3 := cell3_f ht7 1)
                    go_roundw
                    case rel =>
                      exact ⟨0 + 1, p + 1 + q, m + 1 + q, acc ++ [a], _, by go_num, by go_num, by have := HPM.out; show _ = _; omega, by omega, by omega, SaInv.next HS.out hcs HARGS.out (by omega) HHD.out (by rw [HDD.out]; exact HQ.out) (by have := HPM.out; omega) hb5 HV5.out hgrow7 hown7 hat7⟩
                    case measure => simp [intOf] <;> omega
                · have HH := Lib.hid hh
                  clear hh
                  have hHd : ((s.data.toList.drop n).drop m).head? ≠ some (aheadB 0) := by rw [List.drop_drop, ← HPM.out]; exact HH.out
                  have HE := Lib.hid (readT_no HT.out HS.out.eq (by omega) hHd)
                  clear hHd
                  by_cases hpl : p < s.size
                  · have hge : decide ((s.size : Int) ≤ (p : Int)) = false := by simp; omega
                    have hbn : ((s[p].toNat : Int) != 40) = true := byte_ne_false (c := aheadB 0) (by rfl) (fun e => HH.out (by rw [List.head?_drop, List.getElem?_eq_getElem (by simpa using hpl)]; exact congrArg some e))
                    go_wp2_with (fail)
                    refine bodyPost_ret (v := .tuple #[.agg #[.int .i64 0, .slice none 0 0], .int .i64 (p : Int), .bool false]) (by simp [results, Tryz.results88, go_sem, r0, r1]) rfl ?_
                    rw [HE.out]
                    exact ⟨sc_bad (by have := HPM.out; omega), (hbs.setCell (p := ⟨w.heap.size, 0, none⟩) (Nat.le_refl _) _).setCell (p := ⟨w.heap.size, 1, none⟩) (Nat.le_refl _) _⟩
                  · have hge : decide ((s.size : Int) ≤ (p : Int)) = true := by simp; omega
                    go_wp2_with (fail)
                    refine bodyPost_ret (v := .tuple #[.agg #[.int .i64 0, .slice none 0 0], .int .i64 (p : Int), .bool false]) (by simp [results, Tryz.results88, go_sem, r0, r1]) rfl ?_
                    rw [HE.out]
                    exact ⟨sc_bad (by have := HPM.out; omega), (hbs.setCell (p := ⟨w.heap.size, 0, none⟩) (Nat.le_refl _) _).setCell (p := ⟨w.heap.size, 1, none⟩) (Nat.le_refl _) _⟩
              · have hi1 : i = 1 := by omega
                have HI1 := Lib.hid hi1
                have hab : aheadB i = 44 := by rw [hi1]; rfl
                have HAB := Lib.hid hab
                have hid0 : decide ((0 : Int) < (i : Int)) = true := by simp; omega
                clear hi1 hab
                by_cases hh : (s.data.toList.drop p).head? = some (aheadB i)
                · obtain ⟨hpl, hpb⟩ := head_get hh
                  rw [HAB.out] at hpb
                  have HH := Lib.hid hh
                  clear hh
                  have hge : decide ((s.size : Int) ≤ (p : Int)) = false := by simp; omega
                  have hbn : ((s[p].toNat : Int) != 44) = false := byte_ne_true (by rfl) hpb
                  clear hpb
                  go_wp2_with (fail)
                  have hIHr := HIH.out s (p + 1) wr (by omega) hs
                  rw [show ((p + 1 : Nat) : Int) = (p : Int) + 1 by omega] at hIHr
                  cases hq : readT r (s.data.toList.drop (p + 1)) with
                  | mk q o =>
                  rw [hq] at hIHr
                  have hdd : (s.data.toList.drop n).drop (m + 1) = s.data.toList.drop (p + 1) := by rw [List.drop_drop, HPM.out, Nat.add_assoc]
                  have hHd : ((s.data.toList.drop n).drop m).head? = some (aheadB i) := by rw [List.drop_drop, ← HPM.out]; exact HH.out
                  cases o with
                  | none =>
                    have HE := Lib.hid (readT_bad HT.out HS.out.eq (by omega) hHd (by rw [hdd]; exact hq))
                    clear hq hdd hHd
                    refine hIHr.mono ?_
                    rintro e w5 ⟨he, hb5⟩
                    obtain rfl : e = .returned (.tuple #[.agg #[.int .i64 0, .slice none 0 0], .int .i64 ((p + 1 + q : Nat) : Int), .bool false]) := he
                    have hf5 := (hb5.block _ (cell_lt HS.out.res)).trans HS.out.res
                    have hl5 := cell_lt hf5
                    clear r0 r1 f0 f1
                    have r0 := cell2_0 hf5
                    have r1 := cell2_1 hf5
                    have f0 := cell3_f hf5 0
                    have f1 := cell3_f hf5 1
                    go_wp2_with (fail)
                    refine bodyPost_ret (v := .tuple #[.agg #[.int .i64 0, .slice none 0 0], .int .i64 ((p : Int) + 1 + (q : Int)), .bool false]) (by simp [results, Tryz.results88, go_sem, r0, r1, hl5]) rfl ?_
                    rw [HE.out]
                    exact ⟨sc_bad (by have := HPM.out; omega), (((hbs.trans (hb5.mono hbs.size)).setCell (p := ⟨w.heap.size, 0, none⟩) (Nat.le_refl _) _).setCell (p := ⟨w.heap.size, 1, none⟩) (Nat.le_refl _) _).alloc (by have := hb5.size; simp [World.setCell]; omega) _⟩
                  | some a =>
                    refine hIHr.mono ?_
                    rintro e w5 ⟨⟨v5, rfl, hv5⟩, hb5⟩
                    obtain ⟨A5, c5, rfl⟩ := TyAt.form hv5
                    have hs5 := hb5.size
                    have hf5 := (hb5.block _ HS.out.size).trans HS.out.tcell
                    obtain ⟨cs, hcs, hargs⟩ := HS.out.own
                    have hcs5 := hcs.kept (row := none) ⟨hb5.os, hb5.tape, hb5.output, hb5.size, fun k hk _ => hb5.block k hk⟩ (by cases hv : vs.ownBlock <;> simp)
                    have htb5 := cell_lt hf5
                    have hqle := readT_le r (s.data.toList.drop (p + 1))
                    rw [hq] at hqle
                    simp only [List.length_drop, Array.length_toList, ByteArray.size_data] at hqle
                    have HQ := Lib.hid hq
                    have HDD := Lib.hid hdd
                    have HHD := Lib.hid hHd
                    have HV5 := Lib.hid hv5
                    have HARGS := Lib.hid hargs
                    clear hq hdd hHd hv5 t0 t1 t2 t3 hargs
                    have t0 := cell2_0 hf5
                    have t1 := cell2_1 hf5
                    have t2 := cell3_f hf5 0
                    have t3 := cell3_f hf5 1
                    go_wp2_with (at_builtin; refine wpList_append_own_at _ rfl (.tmp 88) (.tmp 90) 43 rfl (TB + 1) 45 i0 (.agg #[.int .i64 0, .slice none 0 0]) 2 32 Tryz.underlying43 hi hq0 hq1 hq2 rfl (by decide) vs i cs rfl ((hcs5.alloc _).alloc _) ⟨w5.heap.size + 1, 0, none⟩ 1 1 [.int .i64 a.kind, .slice A5 a.args.length c5] rfl rfl (cell_two_new _ _ _ _ _ (by simp)) (two_one _ _ _ _) (by unfold maxLen; omega) (by omega) (by simp; omega) ?_; intro v' w7 hown7 hgrow7 _ hat7; obtain ⟨g7, cap7, rfl, hg7⟩ := own_form hown7 (by omega); have ht7 := tb_kept hf5 hgrow7 (fun e => by have := (hcs.lt _ e).1; omega); have y0 := cell2_0 ht7; have y1 := cell2_1 ht7; have y2 := cell3_f ht7 0; have y3 := cell3_f ht7 1)
                    go_roundw
                    case rel =>
                      exact ⟨i + 1, p + 1 + q, m + 1 + q, acc ++ [a], _, by go_num, by go_num, by have := HPM.out; show _ = _; omega, by omega, by omega, SaInv.next HS.out hcs HARGS.out (by omega) HHD.out (by rw [HDD.out]; exact HQ.out) (by have := HPM.out; omega) hb5 HV5.out hgrow7 hown7 hat7⟩
                    case measure => simp [intOf] <;> omega
                · have HH := Lib.hid hh
                  clear hh
                  have hHd : ((s.data.toList.drop n).drop m).head? ≠ some (aheadB i) := by rw [List.drop_drop, ← HPM.out]; exact HH.out
                  have HE := Lib.hid (readT_no HT.out HS.out.eq (by omega) hHd)
                  clear hHd
                  by_cases hpl : p < s.size
                  · have hge : decide ((s.size : Int) ≤ (p : Int)) = false := by simp; omega
                    have hbn : ((s[p].toNat : Int) != 44) = true := byte_ne_false (c := aheadB i) (by rw [HAB.out]; rfl) (fun e => HH.out (by rw [List.head?_drop, List.getElem?_eq_getElem (by simpa using hpl)]; exact congrArg some e))
                    go_wp2_with (fail)
                    refine bodyPost_ret (v := .tuple #[.agg #[.int .i64 0, .slice none 0 0], .int .i64 (p : Int), .bool false]) (by simp [results, Tryz.results88, go_sem, r0, r1]) rfl ?_
                    rw [HE.out]
                    exact ⟨sc_bad (by have := HPM.out; omega), (hbs.setCell (p := ⟨w.heap.size, 0, none⟩) (Nat.le_refl _) _).setCell (p := ⟨w.heap.size, 1, none⟩) (Nat.le_refl _) _⟩
                  · have hge : decide ((s.size : Int) ≤ (p : Int)) = true := by simp; omega
                    go_wp2_with (fail)
                    refine bodyPost_ret (v := .tuple #[.agg #[.int .i64 0, .slice none 0 0], .int .i64 (p : Int), .bool false]) (by simp [results, Tryz.results88, go_sem, r0, r1]) rfl ?_
                    rw [HE.out]
                    exact ⟨sc_bad (by have := HPM.out; omega), (hbs.setCell (p := ⟨w.heap.size, 0, none⟩) (Nat.le_refl _) _).setCell (p := ⟨w.heap.size, 1, none⟩) (Nat.le_refl _) _⟩
            · go_wp2_with (fail)
              refine (count_any x.kind _).mono ?_
              rw [HXC2.out]
              rintro e w4 ⟨rfl, rfl⟩
              go_wp2_with (fail)
              refine (count_any x.kind _).mono ?_
              rw [HXC2.out]
              rintro e w4 ⟨rfl, rfl⟩
              have hM := readT_end HT.out HS.out.eq (by omega : i = x.args.toNat)
              have HM := Lib.hid hM
              have hdd : (s.data.toList.drop n).drop m = s.data.toList.drop p := by rw [List.drop_drop, ← HPM.out]
              have HDD := Lib.hid hdd
              obtain ⟨cs, hcs, hargs⟩ := HS.out.own
              have HARGS := Lib.hid hargs
              obtain ⟨Av, cv, rfl⟩ := own_slice hcs
              have hlo := HS.out.lo
              clear hM hdd hargs
              by_cases hpos : 0 < x.args
              · have hgt : decide (0 < x.args) = true := by simp [hpos]
                by_cases hh : (s.data.toList.drop p).head? = some 41
                · have HE := Lib.hid (readT_yes HM.out hpos (by rw [HDD.out]; exact hh))
                  obtain ⟨hpl, hpb⟩ := head_get hh
                  have hge : decide ((s.size : Int) ≤ (p : Int)) = false := by simp; omega
                  have hbn : ((s[p].toNat : Int) != 41) = false := byte_ne_true (by rfl) hpb
                  clear hh hpb
                  go_wp2_with (fail)
                  refine bodyPost_ret (v := .tuple #[.agg #[.int .i64 x.kind, .slice Av i cv], .int .i64 ((p : Int) + 1), .bool true]) (by simp [results, Tryz.results88, go_sem, r0, r1]) rfl ?_
                  rw [HE.out]
                  exact ⟨sc_good (by have := HPM.out; omega) (ty_made_e hcs HS.out.len HARGS.out (fun b h => h.1) (by omega) (fun b hb hl => by
                    rw [Below.heap_setCell _ _ _ _ (by show b ≠ w.heap.size; omega), Below.heap_setCell _ _ _ _ (by show b ≠ w.heap.size; omega)])), (hbs.setCell (p := ⟨w.heap.size, 0, none⟩) (Nat.le_refl _) _).setCell (p := ⟨w.heap.size, 1, none⟩) (Nat.le_refl _) _⟩
                · have HE := Lib.hid (readT_not HM.out hpos (by rw [HDD.out]; exact hh))
                  by_cases hpl : p < s.size
                  · have hge : decide ((s.size : Int) ≤ (p : Int)) = false := by simp; omega
                    have hbn : ((s[p].toNat : Int) != 41) = true := byte_ne_false (c := 41) (by rfl) (fun e => hh (by rw [List.head?_drop, List.getElem?_eq_getElem (by simpa using hpl)]; exact congrArg some e))
                    clear hh
                    go_wp2_with (fail)
                    refine bodyPost_ret (v := .tuple #[.agg #[.int .i64 0, .slice none 0 0], .int .i64 (p : Int), .bool false]) (by simp [results, Tryz.results88, go_sem, r0, r1]) rfl ?_
                    rw [HE.out]
                    exact ⟨sc_bad (by have := HPM.out; omega), (hbs.setCell (p := ⟨w.heap.size, 0, none⟩) (Nat.le_refl _) _).setCell (p := ⟨w.heap.size, 1, none⟩) (Nat.le_refl _) _⟩
                  · have hge : decide ((s.size : Int) ≤ (p : Int)) = true := by simp; omega
                    clear hh
                    go_wp2_with (fail)
                    refine bodyPost_ret (v := .tuple #[.agg #[.int .i64 0, .slice none 0 0], .int .i64 (p : Int), .bool false]) (by simp [results, Tryz.results88, go_sem, r0, r1]) rfl ?_
                    rw [HE.out]
                    exact ⟨sc_bad (by have := HPM.out; omega), (hbs.setCell (p := ⟨w.heap.size, 0, none⟩) (Nat.le_refl _) _).setCell (p := ⟨w.heap.size, 1, none⟩) (Nat.le_refl _) _⟩
              · have hgt : decide (0 < x.args) = false := by simp [hpos]
                have HE := Lib.hid (readT_plain HM.out hpos)
                go_wp2_with (fail)
                refine bodyPost_ret (v := .tuple #[.agg #[.int .i64 x.kind, .slice Av i cv], .int .i64 (p : Int), .bool true]) (by simp [results, Tryz.results88, go_sem, r0, r1]) rfl ?_
                rw [HE.out]
                exact ⟨sc_good (by have := HPM.out; omega) (ty_made_e hcs HS.out.len HARGS.out (fun b h => h.1) (by omega) (fun b hb hl => by
                  rw [Below.heap_setCell _ _ _ _ (by show b ≠ w.heap.size; omega), Below.heap_setCell _ _ _ _ (by show b ≠ w.heap.size; omega)])), (hbs.setCell (p := ⟨w.heap.size, 0, none⟩) (Nat.le_refl _) _).setCell (p := ⟨w.heap.size, 1, none⟩) (Nat.le_refl _) _⟩
    · have hkk : kk = 10 := by omega
      have hmiss := readW_miss (room := (r : Int) + 1) (l := s.data.toList.drop n) (fun y hy => HI.out.miss y hy (by have := words_kinds y (List.mem_filter.1 hy).1; omega))
      have HMISS := Lib.hid hmiss
      have HIs := Lib.hid (And.intro HI.out.below (And.intro HI.out.size HI.out.res))
      clear hmiss hkk r0 r1 f0 f1
      go_wp2_with (fail)
      go_loopw [17, 18] (fun bv i wr => ∃ kj bb : Nat, i = .int .i64 kj ∧ bv = .int .i64 bb ∧ 1 ≤ kj ∧ kj ≤ 10 ∧ bb ≤ 6 ∧ Hid (bb = bestW ((r : Int) + 1) (s.data.toList.drop n) (kj : Int)) ∧ Below w.heap.size w wr ∧ w.heap.size < wr.heap.size ∧ wr.heap[w.heap.size]? = some (.cells #[.int .i64 0, .slice none 0 0] 45 (0, 0))) (fun _ i _ => 20 - (intOf i).toNat)
      case atStart => exact ⟨1, 0, rfl, rfl, by omega, by omega, by omega, (best_first _ _).symm, HIs.out.1, HIs.out.2.1, HIs.out.2.2⟩
      case round =>
        obtain ⟨kj, bb, rfl, rfl, hj1, hj10, hb6, HB, hbj, hzj, hrj⟩ := hrel
        have r0 := cell2_0 hrj
        have r1 := cell2_1 hrj
        have f0 := cell3_f hrj 0
        have f1 := cell3_f hrj 1
        by_cases hj9 : kj ≤ 9
        · go_wp2_with (fail)
          refine (word_any (kj : Int) _).mono ?_
          rintro e w1 ⟨rfl, rfl⟩
          cases hw : wordK (kj : Int) with
          | none =>
            have hws : wordStr (kj : Int) = ⟨#[]⟩ := by simp only [wordStr, hw]; rfl
            rw [hws]
            have HBN : Hid (bb = bestW ((r : Int) + 1) (s.data.toList.drop n) ((kj + 1 : Nat) : Int)) := by show _ = _; rw [best_none hj1 hj9 hw]; exact HB.out
            clear hws hw
            go_wp2_with (fail)
            go_roundw
            case rel => exact ⟨kj + 1, bb, by go_num, rfl, by omega, by omega, hb6, HBN, hbj, hzj, hrj⟩
            case measure => simp [intOf] <;> omega
          | some x =>
            have hws : wordStr (kj : Int) = x.name := by simp only [wordStr, hw]; rfl
            rw [hws]
            have hxw := wordK_mem hw
            have hne1 := words_names x hxw.1
            have hne2 : x.name.toList.isEmpty = false := by simpa using hne1
            have hx6 := words_small x hxw.1
            have hfit : x ∈ fitW ((r : Int) + 1) words := List.mem_filter.2 ⟨hxw.1, by simp; omega⟩
            have HBI := Lib.hid (best_in (l := s.data.toList.drop n) hj1 hj9 hw hfit)
            clear hws hw hxw hfit
            obtain ⟨wi, rfl⟩ : ∃ wi : World, wi = wr := ⟨_, rfl⟩
            go_wp2_with (fail)
            go_loopw [20] (fun nv wr => ∃ nn : Nat, nv = .int .i64 nn ∧ nn ≤ x.name.size ∧ n + nn ≤ s.size ∧ Hid (lcp x.name.data.toList (s.data.toList.drop n) = nn + lcp (x.name.data.toList.drop nn) ((s.data.toList.drop n).drop nn)) ∧ ∃ nq, wr = wi.drewN nq) (fun nv _ => 20 - (intOf nv).toNat)
            case atStart => exact ⟨0, rfl, by omega, by omega, by show _ = _; simp, 0, rfl⟩
            case round =>
              obtain ⟨nn, rfl, hn1, hn2, HL, nq, rfl⟩ := hrel
              by_cases c1 : nn < x.name.size
              · by_cases c2 : n + nn < s.size
                · have d1 : decide ((nn : Int) < (x.name.size : Int)) = true := by simp; omega
                  have d2 : decide ((n : Int) + (nn : Int) < (s.size : Int)) = true := by simp; omega
                  by_cases c3 : s[n + nn] = x.name[nn]
                  · have d3 : ((s[n + nn].toNat : Int) == (x.name[nn].toNat : Int)) = true := u8_beq_true c3
                    have HLN : Hid (lcp x.name.data.toList (s.data.toList.drop n) = (nn + 1) + lcp (x.name.data.toList.drop (nn + 1)) ((s.data.toList.drop n).drop (nn + 1))) := by
                      show _ = _
                      rw [HL.out, lcp_more (by simpa using c1) (by simp; omega) (by rw [List.getElem_drop]; exact c3)]
                      omega
                    clear c3
                    go_wp2_with (fail)
                    have hix1 := str_index s (n + nn) c2 hs
                    have hix2 := str_index x.name nn c1 (by omega)
                    rw [Int.natCast_add] at hix1
                    have q1 : IntKind.i64.wrap ((n : Int) + (nn : Int)) = (n : Int) + (nn : Int) := IntWalk.i64_in _ (by omega)
                    have q2 : 0 ≤ (n : Int) + (nn : Int) := by omega
                    have q3 : ((n : Int) + (nn : Int)).toNat = n + nn := by omega
                    go_quiet (fail)
                    clear q1 q3 hix1 hix2
                    go_wp2_with (fail)
                    go_roundw
                    case rel => exact ⟨nn + 1, by go_num, by omega, by omega, HLN, _, rfl⟩
                    case measure => simp [intOf] <;> omega
                  · have d1 : decide ((nn : Int) < (x.name.size : Int)) = true := by simp; omega
                    have d2 : decide ((n : Int) + (nn : Int) < (s.size : Int)) = true := by simp; omega
                    have d3 : ((s[n + nn].toNat : Int) == (x.name[nn].toNat : Int)) = false := u8_beq_false c3
                    have HS : Hid (lcp x.name.data.toList (s.data.toList.drop n) = nn) := by
                      show _ = _
                      rw [HL.out, lcp_stop]
                      · rfl
                      · intro ha hl
                        rw [List.getElem_drop]
                        exact c3
                    clear c3
                    go_wp2_with (fail)
                    have hix1 := str_index s (n + nn) c2 hs
                    have hix2 := str_index x.name nn c1 (by omega)
                    rw [Int.natCast_add] at hix1
                    have q1 : IntKind.i64.wrap ((n : Int) + (nn : Int)) = (n : Int) + (nn : Int) := IntWalk.i64_in _ (by omega)
                    have q2 : 0 ≤ (n : Int) + (nn : Int) := by omega
                    have q3 : ((n : Int) + (nn : Int)).toNat = n + nn := by omega
                    go_quiet (fail)
                    clear q1 q3 hix1 hix2
                    by_cases c4 : bb < nn
                    · have HBN : Hid (nn = bestW ((r : Int) + 1) (s.data.toList.drop n) ((kj + 1 : Nat) : Int)) := by show _ = _; rw [HBI.out, HS.out, ← HB.out]; omega
                      have d4 : decide ((bb : Int) < (nn : Int)) = true := by simp; omega
                      go_wp2_with (fail)
                      go_roundw
                      case rel => exact ⟨kj + 1, nn, by go_num, rfl, by omega, by omega, by omega, HBN, below_drewN hbj _, hzj, hrj⟩
                      case measure => simp [intOf] <;> omega
                    · have HBN : Hid (bb = bestW ((r : Int) + 1) (s.data.toList.drop n) ((kj + 1 : Nat) : Int)) := by show _ = _; rw [HBI.out, HS.out, ← HB.out]; omega
                      have d4 : decide ((bb : Int) < (nn : Int)) = false := by simp; omega
                      go_wp2_with (fail)
                      go_roundw
                      case rel => exact ⟨kj + 1, bb, by go_num, rfl, by omega, by omega, by omega, HBN, below_drewN hbj _, hzj, hrj⟩
                      case measure => simp [intOf] <;> omega
                · have d1 : decide ((nn : Int) < (x.name.size : Int)) = true := by simp; omega
                  have d2 : decide ((n : Int) + (nn : Int) < (s.size : Int)) = false := by simp; omega
                  have HS : Hid (lcp x.name.data.toList (s.data.toList.drop n) = nn) := by
                    show _ = _
                    rw [HL.out, lcp_stop]
                    · rfl
                    · intro ha hl
                      simp at hl
                      omega
                  have q1 : IntKind.i64.wrap ((n : Int) + (nn : Int)) = (n : Int) + (nn : Int) := IntWalk.i64_in _ (by omega)
                  have q2 : 0 ≤ (n : Int) + (nn : Int) := by omega
                  go_wp2_with (fail)
                  go_quiet (fail)
                  clear q1
                  by_cases c4 : bb < nn
                  · have HBN : Hid (nn = bestW ((r : Int) + 1) (s.data.toList.drop n) ((kj + 1 : Nat) : Int)) := by show _ = _; rw [HBI.out, HS.out, ← HB.out]; omega
                    have d4 : decide ((bb : Int) < (nn : Int)) = true := by simp; omega
                    go_wp2_with (fail)
                    go_roundw
                    case rel => exact ⟨kj + 1, nn, by go_num, rfl, by omega, by omega, by omega, HBN, below_drewN hbj _, hzj, hrj⟩
                    case measure => simp [intOf] <;> omega
                  · have HBN : Hid (bb = bestW ((r : Int) + 1) (s.data.toList.drop n) ((kj + 1 : Nat) : Int)) := by show _ = _; rw [HBI.out, HS.out, ← HB.out]; omega
                    have d4 : decide ((bb : Int) < (nn : Int)) = false := by simp; omega
                    go_wp2_with (fail)
                    go_roundw
                    case rel => exact ⟨kj + 1, bb, by go_num, rfl, by omega, by omega, by omega, HBN, below_drewN hbj _, hzj, hrj⟩
                    case measure => simp [intOf] <;> omega
              · have d1 : decide ((nn : Int) < (x.name.size : Int)) = false := by simp; omega
                have HS : Hid (lcp x.name.data.toList (s.data.toList.drop n) = nn) := by
                  show _ = _
                  rw [HL.out, lcp_stop]
                  · rfl
                  · intro ha hl
                    simp at ha
                    omega
                go_wp2_with (fail)
                go_quiet (fail)
                by_cases c4 : bb < nn
                · have HBN : Hid (nn = bestW ((r : Int) + 1) (s.data.toList.drop n) ((kj + 1 : Nat) : Int)) := by show _ = _; rw [HBI.out, HS.out, ← HB.out]; omega
                  have d4 : decide ((bb : Int) < (nn : Int)) = true := by simp; omega
                  go_wp2_with (fail)
                  go_roundw
                  case rel => exact ⟨kj + 1, nn, by go_num, rfl, by omega, by omega, by omega, HBN, below_drewN hbj _, hzj, hrj⟩
                  case measure => simp [intOf] <;> omega
                · have HBN : Hid (bb = bestW ((r : Int) + 1) (s.data.toList.drop n) ((kj + 1 : Nat) : Int)) := by show _ = _; rw [HBI.out, HS.out, ← HB.out]; omega
                  have d4 : decide ((bb : Int) < (nn : Int)) = false := by simp; omega
                  go_wp2_with (fail)
                  go_roundw
                  case rel => exact ⟨kj + 1, bb, by go_num, rfl, by omega, by omega, by omega, HBN, below_drewN hbj _, hzj, hrj⟩
                  case measure => simp [intOf] <;> omega
        · have hkk : kj = 10 := by omega
          go_wp2_with (fail)
          obtain ⟨k, hk⟩ := HMISS.out
          have hkb := best_all hk
          have hB := HB.out
          rw [hkk] at hB
          have hB2 : bb = k := hB.trans hkb
          refine bodyPost_ret (v := .tuple #[.agg #[.int .i64 0, .slice none 0 0], .int .i64 ((n : Int) + (bb : Int)), .bool false]) (by simp [results, Tryz.results88, go_sem, r0, r1]) rfl ?_
          rw [readT_none hk]
          exact ⟨sc_bad (by omega), (hbj.setCell (p := ⟨w.heap.size, 0, none⟩) (Nat.le_refl _) _).setCell (p := ⟨w.heap.size, 1, none⟩) (Nat.le_refl _) _⟩
end Go.Proofs.YtllnamhgnbdkmaaGreatDoor.Knd
