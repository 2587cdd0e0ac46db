/-
The document's answer for package kind: scan, where no Args may come; Parse.
-/
import Derived.Test.YtllnamhgnbdkmaaGreatDoorKf
import Derived.Test.YtllnamhgnbdkmaaGreatDoorKe
import Derived.Test.YtllnamhgnbdkmaaGreatDoorKt
import Derived.Test.YtllnamhgnbdkmaaGreatDoorOf
import Derived.Deep.RegionHeld3
import Derived.Deep.QuietTactic
import Derived.BigQuiet
namespace Go.Proofs.YtllnamhgnbdkmaaGreatDoor.Knd
open Go.RowKit
theorem fit_one {y : Wd} (h : y ∈ fitW (((0 : Nat) : Int) + 1) words) : y.args = 0 := by
  have := (List.mem_filter.1 h).2
  simpa using this
set_option maxRecDepth 100000 in
set_option maxHeartbeats 8000000 in
theorem scan_one : ScOk 1 := by
  intro s n w hn hs
  obtain ⟨i0, hi, hq0, hq1, hq2⟩ := info_parts infoRT
  have hlast : (s.extract n s.size).data.toList = s.data.toList.drop n := by rw [Lib.extract_data, List.take_of_length_le (by simp)]
  have HLAST := Lib.hid hlast
  clear hlast
  rw [show ((1 : Nat) : Int) = 1 from rfl]
  go_enter Tryz.func88, Tryz.ntmps88
  go_wp2_with (fail)
  go_loopw [1, 9] (fun a i wr => ∃ kk : Nat, i = .int .i64 kk ∧ a = .int .i64 (n : Int) ∧ 1 ≤ kk ∧ kk ≤ 10 ∧ ScInv s n 0 kk w wr) (fun _ i _ => 20 - (intOf i).toNat)
  case atStart =>
    exact ⟨1, rfl, rfl, by omega, by omega, (Below.refl _ _).alloc (Nat.le_refl _) _, by simp, heap_alloc_new w _, fun y hy h => by have := words_kinds y (List.mem_filter.1 hy).1; omega⟩
  case round =>
    obtain ⟨kk, rfl, rfl, hk1, hk10, hI⟩ := hrel
    obtain ⟨wo, rfl⟩ : ∃ wo : World, wo = wr := ⟨_, rfl⟩
    have HI := Lib.hid hI
    have r0 := cell2_0 hI.res
    have r1 := cell2_1 hI.res
    have f0 := cell3_f hI.res 0
    have f1 := cell3_f hI.res 1
    have hbr := hI.below
    have hsz := hI.size
    clear hI
    by_cases hk9 : kk ≤ 9
    · go_wp2_with (fail)
      refine (word_any (kk : Int) _).mono ?_
      rintro e w1 ⟨rfl, rfl⟩
      cases hw : wordK (kk : Int) with
      | none =>
        have hws : wordStr (kk : Int) = ⟨#[]⟩ := by simp only [wordStr, hw]; rfl
        rw [hws]
        have hnext : ScInv s n 0 (kk + 1) w wo := ⟨HI.out.below, HI.out.size, HI.out.res, fun y hy h => HI.out.miss y hy (by have := wordK_none_or hw (List.mem_filter.1 hy).1; omega)⟩
        have HN := Lib.hid hnext
        clear hws hw hnext
        go_wp2_with (fail)
        go_roundw
        case rel => exact ⟨kk + 1, by go_num, rfl, by omega, by omega, HN.out⟩
        case measure => simp [intOf]; omega
      | some x =>
        have hws : wordStr (kk : Int) = x.name := by simp only [wordStr, hw]; rfl
        rw [hws]
        have hxw := wordK_mem hw
        have hne1 := words_names x hxw.1
        have hne2 : x.name.toList.isEmpty = false := by simpa using hne1
        have hxc : countK (kk : Int) = x.args := by rw [words_count x hxw.1, hxw.2]
        have hxa := words_args x hxw.1
        have hx6 := words_small x hxw.1
        have HXC := Lib.hid hxc
        have HXC2 : Hid (countK x.kind = x.args) := (words_count x hxw.1).symm
        have HXW := Lib.hid hxw.1
        have HW := Lib.hid hw
        have HXK := Lib.hid hxw.2
        by_cases hx0 : x.args = 0
        · have hfit : x ∈ fitW (((0 : Nat) : Int) + 1) words := List.mem_filter.2 ⟨hxw.1, by simp [hx0]⟩
          have HFIT := Lib.hid hfit
          have HX0 := Lib.hid hx0
          clear hws hw hxc hxw hfit
          go_wp2_with (fail)
          refine (count_any (kk : Int) _).mono ?_
          rw [HXC.out, HX0.out]
          rintro e w2 ⟨rfl, rfl⟩
          go_wp2_with (fail)
          refine (begins_any x.name _ _).mono ?_
          rw [HLAST.out]
          rintro e w3 ⟨rfl, rfl⟩
          cases hp : pfx x.name (s.data.toList.drop n) with
          | false =>
            have hnext : ScInv s n 0 (kk + 1) w wo := ⟨HI.out.below, HI.out.size, HI.out.res, fun y hy h => by
              by_cases hyk : y.kind = kk
              · rw [wordK_unique HW.out (List.mem_filter.1 hy).1 hyk]; exact hp
              · exact HI.out.miss y hy (by omega)⟩
            have HN := Lib.hid hnext
            clear hp hnext
            go_wp2_with (fail)
            go_roundw
            case rel => exact ⟨kk + 1, by go_num, rfl, by omega, by omega, HN.out⟩
            case measure => simp [intOf]; omega
          | true =>
            have hrw := readW_hit HFIT.out hp
            have HT := Lib.hid (readT_some hrw)
            have hnsz : n + x.name.size ≤ s.size := by
              have := readW_le (s.data.toList.drop n) (fitW (((0 : Nat) : Int) + 1) words) 0
              rw [hrw] at this
              simp at this
              omega
            clear hp hrw
            obtain ⟨p0, hp0⟩ : ∃ p0, p0 = n + x.name.size := ⟨_, rfl⟩
            have hp1 : p0 ≤ s.size := by omega
            have HP0 := Lib.hid hp0
            clear hp0
            go_wp2_with (fail)
            obtain ⟨TB, hTB⟩ : ∃ TB, TB = wo.heap.size := ⟨_, rfl⟩
            have hTBs : w.heap.size < TB := by omega
            have hIs := HI.out
            have hstart : SaInv w TB x 0 n x.name.size s 0 [] (.slice none 0 0) x.name.size (wo.alloc (.cells #[.int .i64 x.kind, .slice none 0 0] 45)) := by
              subst hTB
              exact ⟨hIs.below.alloc hIs.below.size _, hIs.size, by simp, (Below.heap_alloc wo _ _ hIs.size).trans hIs.res, heap_alloc_new wo _, rfl, ⟨[], World.ownsRow_nil _ _ _ _, fun j a h => by simp at h⟩, hnsz, by simp⟩
            have HSTART := Lib.hid hstart
            rw [← hTB, show ((kk : Nat) : Int) = x.kind from HXK.out.symm]
            clear hIs hstart hTB r0 r1 f0 f1
            go_loopw [1, 12] (fun a i wr => i = .int .i64 0 ∧ a = .int .i64 ((n : Int) + (x.name.size : Int)) ∧ SaInv w TB x 0 n x.name.size s 0 [] (.slice none 0 0) x.name.size wr) (fun _ i _ => 20 - (intOf i).toNat)
            case atStart => exact ⟨rfl, rfl, HSTART.out⟩
            case round =>
              obtain ⟨rfl, rfl, hS⟩ := hrel
              have HS := Lib.hid hS
              have r0 := cell2_0 hS.res
              have r1 := cell2_1 hS.res
              have f0 := cell3_f hS.res 0
              have f1 := cell3_f hS.res 1
              have t0 := cell2_0 hS.tcell
              have t1 := cell2_1 hS.tcell
              have t2 := cell3_f hS.tcell 0
              have t3 := cell3_f hS.tcell 1
              have hbs := hS.below
              have hzs := hS.size
              clear hS
              go_wp2_with (fail)
              refine (count_any x.kind _).mono ?_
              rw [HXC2.out, HX0.out]
              rintro e w4 ⟨rfl, rfl⟩
              go_wp2_with (fail)
              refine (count_any x.kind _).mono ?_
              rw [HXC2.out, HX0.out]
              rintro e w4 ⟨rfl, rfl⟩
              have hM := readT_end HT.out HS.out.eq (by have := HX0.out; omega : 0 = x.args.toNat)
              have HM := Lib.hid hM
              obtain ⟨cs, hcs, hargs⟩ := HS.out.own
              have HARGS := Lib.hid hargs
              have hlo := HS.out.lo
              clear hM hargs
              have HE := Lib.hid (readT_plain HM.out (by have := HX0.out; omega))
              go_wp2_with (fail)
              refine bodyPost_ret (v := .tuple #[.agg #[.int .i64 x.kind, .slice none 0 0], .int .i64 ((n : Int) + (x.name.size : Int)), .bool true]) (by simp [results, Tryz.results88, go_sem, r0, r1]) rfl ?_
              rw [HE.out]
              exact ⟨sc_good (by omega) (ty_made_e hcs HS.out.len HARGS.out (fun b h => h.1) (by omega) (fun b hb hl => by
                rw [Below.heap_setCell _ _ _ _ (by show b ≠ w.heap.size; omega), Below.heap_setCell _ _ _ _ (by show b ≠ w.heap.size; omega)])), (hbs.setCell (p := ⟨w.heap.size, 0, none⟩) (Nat.le_refl _) _).setCell (p := ⟨w.heap.size, 1, none⟩) (Nat.le_refl _) _⟩
        · have hpos : 0 < x.args := by omega
          have hnext : ScInv s n 0 (kk + 1) w wo := ⟨HI.out.below, HI.out.size, HI.out.res, fun y hy h => by
            by_cases hyk : y.kind = kk
            · have := wordK_unique HW.out (List.mem_filter.1 hy).1 hyk
              exact absurd (fit_one hy) (by rw [this]; exact hx0)
            · exact HI.out.miss y hy (by omega)⟩
          have HN := Lib.hid hnext
          have dpos : decide (0 < x.args) = true := by simp; omega
          clear hws hw hxc hxw hnext
          go_wp2_with (fail)
          refine (count_any (kk : Int) _).mono ?_
          rw [HXC.out]
          rintro e w2 ⟨rfl, rfl⟩
          go_wp2_with (fail)
          go_roundw
          case rel => exact ⟨kk + 1, by go_num, rfl, by omega, by omega, HN.out⟩
          case measure => simp [intOf]; omega
    · have hkk : kk = 10 := by omega
      have hmiss := readW_miss (room := ((0 : Nat) : Int) + 1) (l := s.data.toList.drop n) (fun y hy => HI.out.miss y hy (by have := words_kinds y (List.mem_filter.1 hy).1; omega))
      have HMISS := Lib.hid hmiss
      have HIs := Lib.hid (And.intro HI.out.below (And.intro HI.out.size HI.out.res))
      clear hmiss hkk r0 r1 f0 f1
      go_wp2_with (fail)
      go_loopw [17, 18] (fun bv i wr => ∃ kj bb : Nat, i = .int .i64 kj ∧ bv = .int .i64 bb ∧ 1 ≤ kj ∧ kj ≤ 10 ∧ bb ≤ 6 ∧ Hid (bb = bestW (((0 : Nat) : Int) + 1) (s.data.toList.drop n) (kj : Int)) ∧ Below w.heap.size w wr ∧ w.heap.size < wr.heap.size ∧ wr.heap[w.heap.size]? = some (.cells #[.int .i64 0, .slice none 0 0] 45 (0, 0))) (fun _ i _ => 20 - (intOf i).toNat)
      case atStart => exact ⟨1, 0, rfl, rfl, by omega, by omega, by omega, (best_first _ _).symm, HIs.out.1, HIs.out.2.1, HIs.out.2.2⟩
      case round =>
        obtain ⟨kj, bb, rfl, rfl, hj1, hj10, hb6, HB, hbj, hzj, hrj⟩ := hrel
        have r0 := cell2_0 hrj
        have r1 := cell2_1 hrj
        have f0 := cell3_f hrj 0
        have f1 := cell3_f hrj 1
        by_cases hj9 : kj ≤ 9
        · go_wp2_with (fail)
          refine (word_any (kj : Int) _).mono ?_
          rintro e w1 ⟨rfl, rfl⟩
          cases hw : wordK (kj : Int) with
          | none =>
            have hws : wordStr (kj : Int) = ⟨#[]⟩ := by simp only [wordStr, hw]; rfl
            rw [hws]
            have HBN : Hid (bb = bestW (((0 : Nat) : Int) + 1) (s.data.toList.drop n) ((kj + 1 : Nat) : Int)) := by show _ = _; rw [best_none hj1 hj9 hw]; exact HB.out
            clear hws hw
            go_wp2_with (fail)
            go_roundw
            case rel => exact ⟨kj + 1, bb, by go_num, rfl, by omega, by omega, hb6, HBN, hbj, hzj, hrj⟩
            case measure => simp [intOf] <;> omega
          | some x =>
            have hws : wordStr (kj : Int) = x.name := by simp only [wordStr, hw]; rfl
            rw [hws]
            have hxw := wordK_mem hw
            have hne1 := words_names x hxw.1
            have hne2 : x.name.toList.isEmpty = false := by simpa using hne1
            have hx6 := words_small x hxw.1
            have hxc : countK (kj : Int) = x.args := by rw [words_count x hxw.1, hxw.2]
            have hxa := words_args x hxw.1
            have HXC := Lib.hid hxc
            by_cases hx0 : x.args = 0
            · have hfit : x ∈ fitW (((0 : Nat) : Int) + 1) words := List.mem_filter.2 ⟨hxw.1, by simp [hx0]⟩
              have HX0 := Lib.hid hx0
              have HBI := Lib.hid (best_in (l := s.data.toList.drop n) hj1 hj9 hw hfit)
              clear hws hw hxw hfit
              obtain ⟨wi, rfl⟩ : ∃ wi : World, wi = wr := ⟨_, rfl⟩
              clear hxc
              go_wp2_with (fail)
              refine (count_any (kj : Int) _).mono ?_
              rw [HXC.out, HX0.out]
              rintro e w2 ⟨rfl, rfl⟩
              go_wp2_with (fail)
              go_loopw [20] (fun nv wr => ∃ nn : Nat, nv = .int .i64 nn ∧ nn ≤ x.name.size ∧ n + nn ≤ s.size ∧ Hid (lcp x.name.data.toList (s.data.toList.drop n) = nn + lcp (x.name.data.toList.drop nn) ((s.data.toList.drop n).drop nn)) ∧ ∃ nq, wr = wi.drewN nq) (fun nv _ => 20 - (intOf nv).toNat)
              case atStart => exact ⟨0, rfl, by omega, by omega, by show _ = _; simp, 0, rfl⟩
              case round =>
                obtain ⟨nn, rfl, hn1, hn2, HL, nq, rfl⟩ := hrel
                by_cases c1 : nn < x.name.size
                · by_cases c2 : n + nn < s.size
                  · have d1 : decide ((nn : Int) < (x.name.size : Int)) = true := by simp; omega
                    have d2 : decide ((n : Int) + (nn : Int) < (s.size : Int)) = true := by simp; omega
                    by_cases c3 : s[n + nn] = x.name[nn]
                    · have d3 : ((s[n + nn].toNat : Int) == (x.name[nn].toNat : Int)) = true := u8_beq_true c3
                      have HLN : Hid (lcp x.name.data.toList (s.data.toList.drop n) = (nn + 1) + lcp (x.name.data.toList.drop (nn + 1)) ((s.data.toList.drop n).drop (nn + 1))) := by
                        show _ = _
                        rw [HL.out, lcp_more (by simpa using c1) (by simp; omega) (by rw [List.getElem_drop]; exact c3)]
                        omega
                      clear c3
                      go_wp2_with (fail)
                      have hix1 := str_index s (n + nn) c2 hs
                      have hix2 := str_index x.name nn c1 (by omega)
                      rw [Int.natCast_add] at hix1
                      have q1 : IntKind.i64.wrap ((n : Int) + (nn : Int)) = (n : Int) + (nn : Int) := IntWalk.i64_in _ (by omega)
                      have q2 : 0 ≤ (n : Int) + (nn : Int) := by omega
                      have q3 : ((n : Int) + (nn : Int)).toNat = n + nn := by omega
                      go_quiet (fail)
                      clear q1 q3 hix1 hix2
                      go_wp2_with (fail)
                      go_roundw
                      case rel => exact ⟨nn + 1, by go_num, by omega, by omega, HLN, _, rfl⟩
                      case measure => simp [intOf] <;> omega
                    · have d1 : decide ((nn : Int) < (x.name.size : Int)) = true := by simp; omega
                      have d2 : decide ((n : Int) + (nn : Int) < (s.size : Int)) = true := by simp; omega
                      have d3 : ((s[n + nn].toNat : Int) == (x.name[nn].toNat : Int)) = false := u8_beq_false c3
                      have HS : Hid (lcp x.name.data.toList (s.data.toList.drop n) = nn) := by
                        show _ = _
                        rw [HL.out, lcp_stop]
                        · rfl
                        · intro ha hl
                          rw [List.getElem_drop]
                          exact c3
                      clear c3
                      go_wp2_with (fail)
                      have hix1 := str_index s (n + nn) c2 hs
                      have hix2 := str_index x.name nn c1 (by omega)
                      rw [Int.natCast_add] at hix1
                      have q1 : IntKind.i64.wrap ((n : Int) + (nn : Int)) = (n : Int) + (nn : Int) := IntWalk.i64_in _ (by omega)
                      have q2 : 0 ≤ (n : Int) + (nn : Int) := by omega
                      have q3 : ((n : Int) + (nn : Int)).toNat = n + nn := by omega
                      go_quiet (fail)
                      clear q1 q3 hix1 hix2
                      by_cases c4 : bb < nn
                      · have HBN : Hid (nn = bestW (((0 : Nat) : Int) + 1) (s.data.toList.drop n) ((kj + 1 : Nat) : Int)) := by show _ = _; rw [HBI.out, HS.out, ← HB.out]; omega
                        have d4 : decide ((bb : Int) < (nn : Int)) = true := by simp; omega
                        go_wp2_with (fail)
                        go_roundw
                        case rel => exact ⟨kj + 1, nn, by go_num, rfl, by omega, by omega, by omega, HBN, below_drewN hbj _, hzj, hrj⟩
                        case measure => simp [intOf] <;> omega
                      · have HBN : Hid (bb = bestW (((0 : Nat) : Int) + 1) (s.data.toList.drop n) ((kj + 1 : Nat) : Int)) := by show _ = _; rw [HBI.out, HS.out, ← HB.out]; omega
                        have d4 : decide ((bb : Int) < (nn : Int)) = false := by simp; omega
                        go_wp2_with (fail)
                        go_roundw
                        case rel => exact ⟨kj + 1, bb, by go_num, rfl, by omega, by omega, by omega, HBN, below_drewN hbj _, hzj, hrj⟩
                        case measure => simp [intOf] <;> omega
                  · have d1 : decide ((nn : Int) < (x.name.size : Int)) = true := by simp; omega
                    have d2 : decide ((n : Int) + (nn : Int) < (s.size : Int)) = false := by simp; omega
                    have HS : Hid (lcp x.name.data.toList (s.data.toList.drop n) = nn) := by
                      show _ = _
                      rw [HL.out, lcp_stop]
                      · rfl
                      · intro ha hl
                        simp at hl
                        omega
                    have q1 : IntKind.i64.wrap ((n : Int) + (nn : Int)) = (n : Int) + (nn : Int) := IntWalk.i64_in _ (by omega)
                    have q2 : 0 ≤ (n : Int) + (nn : Int) := by omega
                    go_wp2_with (fail)
                    go_quiet (fail)
                    clear q1
                    by_cases c4 : bb < nn
                    · have HBN : Hid (nn = bestW (((0 : Nat) : Int) + 1) (s.data.toList.drop n) ((kj + 1 : Nat) : Int)) := by show _ = _; rw [HBI.out, HS.out, ← HB.out]; omega
                      have d4 : decide ((bb : Int) < (nn : Int)) = true := by simp; omega
                      go_wp2_with (fail)
                      go_roundw
                      case rel => exact ⟨kj + 1, nn, by go_num, rfl, by omega, by omega, by omega, HBN, below_drewN hbj _, hzj, hrj⟩
                      case measure => simp [intOf] <;> omega
                    · have HBN : Hid (bb = bestW (((0 : Nat) : Int) + 1) (s.data.toList.drop n) ((kj + 1 : Nat) : Int)) := by show _ = _; rw [HBI.out, HS.out, ← HB.out]; omega
                      have d4 : decide ((bb : Int) < (nn : Int)) = false := by simp; omega
                      go_wp2_with (fail)
                      go_roundw
                      case rel => exact ⟨kj + 1, bb, by go_num, rfl, by omega, by omega, by omega, HBN, below_drewN hbj _, hzj, hrj⟩
                      case measure => simp [intOf] <;> omega
                · have d1 : decide ((nn : Int) < (x.name.size : Int)) = false := by simp; omega
                  have HS : Hid (lcp x.name.data.toList (s.data.toList.drop n) = nn) := by
                    show _ = _
                    rw [HL.out, lcp_stop]
                    · rfl
                    · intro ha hl
                      simp at ha
                      omega
                  go_wp2_with (fail)
                  go_quiet (fail)
                  by_cases c4 : bb < nn
                  · have HBN : Hid (nn = bestW (((0 : Nat) : Int) + 1) (s.data.toList.drop n) ((kj + 1 : Nat) : Int)) := by show _ = _; rw [HBI.out, HS.out, ← HB.out]; omega
                    have d4 : decide ((bb : Int) < (nn : Int)) = true := by simp; omega
                    go_wp2_with (fail)
                    go_roundw
                    case rel => exact ⟨kj + 1, nn, by go_num, rfl, by omega, by omega, by omega, HBN, below_drewN hbj _, hzj, hrj⟩
                    case measure => simp [intOf] <;> omega
                  · have HBN : Hid (bb = bestW (((0 : Nat) : Int) + 1) (s.data.toList.drop n) ((kj + 1 : Nat) : Int)) := by show _ = _; rw [HBI.out, HS.out, ← HB.out]; omega
                    have d4 : decide ((bb : Int) < (nn : Int)) = false := by simp; omega
                    go_wp2_with (fail)
                    go_roundw
                    case rel => exact ⟨kj + 1, bb, by go_num, rfl, by omega, by omega, by omega, HBN, below_drewN hbj _, hzj, hrj⟩
                    case measure => simp [intOf] <;> omega
            · have hnf : x ∉ fitW (((0 : Nat) : Int) + 1) words := fun h => hx0 (fit_one h)
              have hpos : 0 < x.args := by omega
              have dpos : decide (0 < x.args) = true := by simp; omega
              have HBN : Hid (bb = bestW (((0 : Nat) : Int) + 1) (s.data.toList.drop n) ((kj + 1 : Nat) : Int)) := by show _ = _; rw [best_out hj1 hj9 hw hnf]; exact HB.out
              clear hws hw hxc hxw hnf
              go_wp2_with (fail)
              refine (count_any (kj : Int) _).mono ?_
              rw [HXC.out]
              rintro e w2 ⟨rfl, rfl⟩
              go_wp2_with (fail)
              go_roundw
              case rel => exact ⟨kj + 1, bb, by go_num, rfl, by omega, by omega, hb6, HBN, hbj, hzj, hrj⟩
              case measure => simp [intOf] <;> omega
        · have hkk : kj = 10 := by omega
          go_wp2_with (fail)
          obtain ⟨k, hk⟩ := HMISS.out
          have hkb := best_all hk
          have hB := HB.out
          rw [hkk] at hB
          have hB2 : bb = k := hB.trans hkb
          refine bodyPost_ret (v := .tuple #[.agg #[.int .i64 0, .slice none 0 0], .int .i64 ((n : Int) + (bb : Int)), .bool false]) (by simp [results, Tryz.results88, go_sem, r0, r1]) rfl ?_
          rw [readT_none hk]
          exact ⟨sc_bad (by omega), (hbj.setCell (p := ⟨w.heap.size, 0, none⟩) (Nat.le_refl _) _).setCell (p := ⟨w.heap.size, 1, none⟩) (Nat.le_refl _) _⟩
def RpOut (w w' : World) (e : Ending) : Nat × Option Ty → Prop
  | (k, none) => e = .returned (.tuple #[.agg #[.int .i64 0, .slice none 0 0], .int .i64 (k : Int), .bool false])
  | (_, some t) => ∃ v, e = .returned (.tuple #[v, .int .i64 0, .bool true]) ∧ TyAt w' (fun b => w.heap.size ≤ b) 6 v t
theorem scan_six : ScOk 6 :=
  scan_step 5 (by omega) (by omega) (scan_step 4 (by omega) (by omega) (scan_step 3 (by omega) (by omega) (scan_step 2 (by omega) (by omega) (scan_step 1 (by omega) (by omega) scan_one))))
set_option maxRecDepth 100000 in
set_option maxHeartbeats 1000000 in
theorem rparse_any (s : ByteArray) (w : World) (hs : s.size ≤ 1000000) :
    Calls Tryz.prog 61 #[.string s] w fun e w' => RpOut w w' e (parseT s.data.toList) ∧ Below w.heap.size w w' := by
  have H6 := scan_six
  go_enter Tryz.func61, Tryz.ntmps61
  go_wp2_with (fail)
  refine (show Calls _ _ _ _ _ from H6 s 0 _ (Nat.zero_le _) hs).mono ?_
  rw [List.drop_zero]
  have hrt := readT_le 6 s.data.toList
  simp only [Array.length_toList, ByteArray.size_data] at hrt
  have hsl : s.data.toList.length = s.size := by simp
  have hb1 := (Below.refl w.heap.size w).alloc (Nat.le_refl _) (.cells #[.int .i64 0, .slice none 0 0] 45)
  have hn1 := heap_alloc_new w (.cells #[.int .i64 0, .slice none 0 0] 45)
  cases hq : readT 6 s.data.toList with
  | mk k o =>
  rw [hq] at hrt
  cases o with
  | none =>
    have HP : Hid (parseT s.data.toList = (k, none)) := by show _ = _; rw [parseT, hq]
    clear hq
    rintro e w2 ⟨he, hb2⟩
    obtain rfl : e = .returned (.tuple #[.agg #[.int .i64 0, .slice none 0 0], .int .i64 ((0 + k : Nat) : Int), .bool false]) := he
    rw [Nat.zero_add]
    have hb := hb1.trans (hb2.mono hb1.size)
    have hc := (hb2.block w.heap.size (by simp)).trans hn1
    have hl2 := cell_lt hc
    have f0 := cell2_0 hc
    have f1 := cell2_1 hc
    have f2 := cell3_f hc 0
    have f3 := cell3_f hc 1
    go_wp2_with (fail)
    refine bodyPost_ret (v := .tuple #[.agg #[.int .i64 0, .slice none 0 0], .int .i64 (k : Int), .bool false]) (by simp [results, Tryz.results61, go_sem, f0, f1, hl2]) rfl ?_
    rw [HP.out]
    exact ⟨rfl, ((((hb.setCell (p := ⟨w.heap.size, 0, none⟩) (Nat.le_refl _) _).setCell (p := ⟨w.heap.size, 1, none⟩) (Nat.le_refl _) _).alloc (by simp [World.setCell]; omega) _))⟩
  | some t =>
    have HP : Hid (parseT s.data.toList = if k < s.size then (k, none) else (0, some t)) := by show _ = _; rw [parseT, hq, hsl]
    clear hq
    rintro e w2 ⟨⟨v, he, hv⟩, hb2⟩
    rw [Nat.zero_add] at he
    subst he
    obtain ⟨A, c, rfl⟩ := TyAt.form hv
    have HV := Lib.hid hv
    have hb := hb1.trans (hb2.mono hb1.size)
    have hc := (hb2.block w.heap.size (by simp)).trans hn1
    have hl2 := cell_lt hc
    have f0 := cell2_0 hc
    have f1 := cell2_1 hc
    have f2 := cell3_f hc 0
    have f3 := cell3_f hc 1
    clear hv
    by_cases hk : k < s.size
    · have hd : decide ((k : Int) < (s.size : Int)) = true := by simp; omega
      go_wp2_with (fail)
      refine bodyPost_ret (v := .tuple #[.agg #[.int .i64 0, .slice none 0 0], .int .i64 (k : Int), .bool false]) (by simp [results, Tryz.results61, go_sem, f0, f1, hl2]) rfl ?_
      rw [HP.out, if_pos hk]
      exact ⟨rfl, ((((hb.setCell (p := ⟨w.heap.size, 0, none⟩) (Nat.le_refl _) _).setCell (p := ⟨w.heap.size, 1, none⟩) (Nat.le_refl _) _).alloc (by simp [World.setCell]; omega) _))⟩
    · have hd : decide ((k : Int) < (s.size : Int)) = false := by simp; omega
      go_wp2_with (fail)
      refine bodyPost_ret (v := .tuple #[.agg #[.int .i64 t.kind, .slice A t.args.length c], .int .i64 0, .bool true]) (by simp [results, Tryz.results61, go_sem, f0, f1, hl2]) rfl ?_
      rw [HP.out, if_neg hk]
      refine ⟨⟨_, rfl, TyAt.move (fun b hS hl => ?_) _ _ _ HV.out⟩, ((((hb.setCell (p := ⟨w.heap.size, 0, none⟩) (Nat.le_refl _) _).setCell (p := ⟨w.heap.size, 1, none⟩) (Nat.le_refl _) _).alloc (by simp [World.setCell]; omega) _))⟩
      have hS' : w.heap.size + 1 ≤ b := by simpa using hS
      exact ⟨by omega, fun o => World.cell?_of_block (by rw [Below.heap_alloc _ _ _ (by simp [World.setCell]; omega), Below.heap_setCell _ _ _ _ (by show b ≠ w.heap.size; omega), Below.heap_setCell _ _ _ _ (by show b ≠ w.heap.size; omega)])⟩
end Go.Proofs.YtllnamhgnbdkmaaGreatDoor.Knd
namespace Go.Proofs.YtllnamhgnbdkmaaGreatDoor.Knd
open Go.RowKit
def okT (r : Nat) (t : Ty) : Bool := (measureT r t).isSome
theorem measureL_ok (f : Ty → Option Nat) : ∀ (l : List Ty) (m : Nat), (measureL f l m).isSome = l.all (fun a => (f a).isSome)
  | [], m => rfl
  | a :: l, m => by
    simp only [measureL, List.all_cons]
    cases f a with
    | none => rfl
    | some q => simpa using measureL_ok f l _
theorem okT_zero (t : Ty) : okT 0 t = false := rfl
theorem okT_none {r : Nat} {t : Ty} (h : wordK t.kind = none) : okT (r + 1) t = false := by simp [okT, measureT, h]
theorem okT_some {r : Nat} {t : Ty} {x : Wd} (h : wordK t.kind = some x) : okT (r + 1) t = (decide ((t.args.length : Int) = x.args) && t.args.all (okT r)) := by
  simp only [okT, measureT, h]
  by_cases hl : (t.args.length : Int) = x.args
  · have := measureL_ok (measureT r) t.args 0
    simp [hl, this]
    rfl
  · simp [hl]
theorem word_q {k : Int} {s : ByteArray} (h : wordStr k = s) (w : World) (n : Nat) : Calls Tryz.prog 94 #[.int .i64 k] (w.drewN n) fun e w'' => e = .returned (.string s) ∧ ∃ m, w'' = w.drewN m := by
  subst h
  exact (word_any k _).mono fun _ _ ⟨he, hm⟩ => ⟨he, n, hm.symm⟩
theorem count_q {k : Int} {s : Int} (h : countK k = s) (w : World) (n : Nat) : Calls Tryz.prog 95 #[.int .i64 k] (w.drewN n) fun e w'' => e = .returned (.int .i64 s) ∧ ∃ m, w'' = w.drewN m := by
  subst h
  exact (count_any k _).mono fun _ _ ⟨he, hm⟩ => ⟨he, n, hm.symm⟩
set_option maxRecDepth 100000 in
set_option maxHeartbeats 1000000 in
theorem rright_any : ∀ (r d n : Nat) (S : Nat → Prop) (v : Value) (t : Ty) (w : World), r ≤ 6 → Nar n t → TyAt w S d v t →
    Calls Tryz.prog 71 #[v, .int .i64 r] w fun e w' => e = .returned (.bool (okT r t)) ∧ Below w.heap.size w w'
  | r, 0, n, S, v, t, w, _, _, hT => hT.elim
  | r, d + 1, 0, S, v, t, w, _, hN, _ => hN.elim
  | 0, d + 1, n + 1, S, v, t, w, _, hN, hT => by
    obtain ⟨A, c, rfl⟩ := hT.form
    rw [okT_zero]
    have hb1 := (Below.refl w.heap.size w).alloc (Nat.le_refl _) (.cells #[.int .i64 t.kind, .slice A t.args.length c] 45)
    clear hN hT
    go_enter Tryz.func71, Tryz.ntmps71
    go_wp2_with (fail)
    go_quiet (fail)
    go_wp2_with (fail)
    go_ret
    exact ⟨rfl, below_drewN hb1 _⟩
  | r + 1, d + 1, n + 1, S, v, t, w, hr6, hN, hT => by
    obtain ⟨hlen, hall⟩ := hN
    have IH := rright_any r d n S
    have HIH := Lib.hid IH
    have HALL := Lib.hid hall
    obtain ⟨A, c, rfl, hlc, hA⟩ := hT
    have HA := Lib.hid hA
    have hb1 := (Below.refl w.heap.size w).alloc (Nat.le_refl _) (.cells #[.int .i64 t.kind, .slice A t.args.length c] 45)
    have hn1 := heap_alloc_new w (.cells #[.int .i64 t.kind, .slice A t.args.length c] 45)
    have hb0 : (((r : Int) + 1) == 0) = false := by simp; omega
    clear hA IH hall
    rw [show ((r + 1 : Nat) : Int) = (r : Int) + 1 by omega]
    cases hw : wordK t.kind with
    | none =>
      have HO : Hid (okT (r + 1) t = false) := okT_none hw
      have HWS : Hid (wordStr t.kind = ⟨#[]⟩) := by show _ = _; simp only [wordStr, hw]; rfl
      clear hw
      go_enter Tryz.func71, Tryz.ntmps71
      go_wp2_with (fail)
      go_quiet ((go_at_call 94; exact word_q HWS.out _ _))
      go_wp2_with (fail)
      go_ret
      rw [HO.out]
      exact ⟨rfl, below_drewN hb1 _⟩
    | some x =>
      have hxw := wordK_mem hw
      have HO : Hid (okT (r + 1) t = (decide ((t.args.length : Int) = x.args) && t.args.all (okT r))) := okT_some hw
      have HWS : Hid (wordStr t.kind = x.name) := by show _ = _; simp only [wordStr, hw]; rfl
      have HXC : Hid (countK t.kind = x.args) := by show _ = _; rw [words_count x hxw.1, hxw.2]
      have hne1 := words_names x hxw.1
      have hne2 : x.name.toList.isEmpty = false := by simpa using hne1
      have hxa := words_args x hxw.1
      clear hw hxw
      by_cases hl : (t.args.length : Int) = x.args
      · have hlb : ((t.args.length : Int) != x.args) = false := by simp [hl]
        go_enter Tryz.func71, Tryz.ntmps71
        go_wp2_with (fail)
        go_quiet ((first | (go_at_call 94; exact word_q HWS.out _ _) | (go_at_call 95; exact count_q HXC.out _ _)))
        go_wp2_with (fail)
        generalize hwN : (w.alloc (.cells #[.int .i64 t.kind, .slice A t.args.length c] 45)).drewN _ = wN
        obtain ⟨hbN, hnN⟩ : Below w.heap.size w wN ∧ wN.heap[w.heap.size]? = some (.cells #[.int .i64 t.kind, .slice A t.args.length c] 45 (0, 0)) := by
          subst hwN
          exact ⟨below_drewN hb1 _, hn1⟩
        have hzN := cell_lt hnN
        have HL := Lib.hid hl
        clear hb1 hn1 hwN hl
        go_loopw [5] (fun i wr => ∃ j : Nat, i = .int .i64 j ∧ j ≤ t.args.length ∧ Hid (t.args.all (okT r) = (t.args.drop j).all (okT r)) ∧ Below w.heap.size w wr ∧ w.heap.size < wr.heap.size ∧ wr.heap[w.heap.size]? = some (.cells #[.int .i64 t.kind, .slice A t.args.length c] 45 (0, 0))) (fun i _ => 6000 - (intOf i).toNat)
        case atStart => exact ⟨0, rfl, by omega, by show _ = _; rw [List.drop_zero], hbN, hzN, hnN⟩
        case round =>
          obtain ⟨j, rfl, hj, HE, hbr, hsz, hy0⟩ := hrel
          have c0 := cell2_0 hy0
          have c1 := cell2_1 hy0
          by_cases hlt : j < t.args.length
          · obtain ⟨b1, o, rfl, hSb, hcells⟩ := HA.out (by omega)
            obtain ⟨B1, k1, h0, h1, h2, hbl⟩ := arg_cells hcells hlt
            have g0 := (hbr.cell (p := ⟨b1, o + j * 2, none⟩) hbl).trans h0
            have g1 := (hbr.cell (p := ⟨b1, o + j * 2 + 1, none⟩) hbl).trans h1
            have hna := HALL.out _ (List.getElem_mem hlt)
            have hd : t.args.drop j = t.args[j] :: t.args.drop (j + 1) := List.drop_eq_getElem_cons hlt
            generalize t.args[j] = x at *
            have HD := Lib.hid hd
            have H2 := Lib.hid (h2.below hbr)
            have HNA := Lib.hid hna
            clear h0 h1 h2 hd hna hcells
            go_wp2_with (fail)
            refine (HIH.out _ x wr (by omega) HNA.out H2.out).mono ?_
            rintro e w3 ⟨rfl, hb3⟩
            have hb4 := hbr.trans (hb3.mono hbr.size)
            have hs3 := hb3.size
            have hy0' := (hb3.block w.heap.size (by omega)).trans hy0
            cases hxy : okT r x with
            | false =>
              have HF2 : Hid (t.args.all (okT r) = false) := by show _ = _; rw [HE.out, HD.out]; simp only [List.all_cons, hxy, Bool.false_and]
              clear hxy
              go_wp2_with (fail)
              go_ret
              rw [HO.out, HF2.out, Bool.and_false]
              exact ⟨rfl, hb4⟩
            | true =>
              have HF2 : Hid (t.args.all (okT r) = (t.args.drop (j + 1)).all (okT r)) := by show _ = _; rw [HE.out, HD.out]; simp only [List.all_cons, hxy, Bool.true_and]
              clear hxy
              go_wp2_with (fail)
              go_roundw
              case rel => exact ⟨j + 1, by go_num, by omega, HF2, hb4, by omega, hy0'⟩
              case measure => simp [intOf]; omega
          · go_wp2_with (fail)
            have HF2 : Hid (t.args.all (okT r) = true) := by
              show _ = _
              rw [HE.out, List.drop_of_length_le (by omega)]
              rfl
            go_ret
            rw [HO.out, HF2.out, Bool.and_true, show decide ((t.args.length : Int) = x.args) = true by simp [HL.out]]
            exact ⟨rfl, hbr⟩
      · have hlb : ((t.args.length : Int) != x.args) = true := by simp [hl]
        go_enter Tryz.func71, Tryz.ntmps71
        go_wp2_with (fail)
        go_quiet ((first | (go_at_call 94; exact word_q HWS.out _ _) | (go_at_call 95; exact count_q HXC.out _ _)))
        go_wp2_with (fail)
        go_ret
        rw [HO.out]
        rw [show decide ((t.args.length : Int) = x.args) = false by simp [hl]]
        exact ⟨rfl, below_drewN hb1 _⟩
def preT (f : Ty → List UInt8) (x : Wd) (l : List Ty) (j : Nat) : List UInt8 := x.name.data.toList ++ (if j = 0 then [40] else textL f (l.take j) 0)
theorem preT_first {f : Ty → List UInt8} {x : Wd} {l : List Ty} {a : Ty} {u : List UInt8} (hd : l.take (0 + 1) = l.take 0 ++ [a]) (hE : u = preT f x l 0) : u ++ f a = preT f x l (0 + 1) := by
  subst hE
  simp at hd
  simp [preT, hd, textL, aheadB]
theorem preT_more {f : Ty → List UInt8} {x : Wd} {l : List Ty} {a : Ty} {j : Nat} {u : List UInt8} (hj : 0 < j) (hl : j ≤ l.length) (hd : l.take (j + 1) = l.take j ++ [a]) (hE : u = preT f x l j) : (u ++ [44]) ++ f a = preT f x l (j + 1) := by
  subst hE
  have h1 : j ≠ 0 := by omega
  have h2 : (l.take j).length = j := by rw [List.length_take]; omega
  simp only [preT, if_neg h1, if_neg (Nat.succ_ne_zero j), hd, textL_snoc, h2, Nat.zero_add, aheadB, List.append_assoc, List.singleton_append]
theorem preT_end {f : Ty → List UInt8} {x : Wd} {l : List Ty} {j : Nat} {u : List UInt8} (hj : 0 < j) (hl : j = l.length) (hE : u = preT f x l j) : u ++ [41] = x.name.data.toList ++ textL f l 0 ++ [41] := by
  subst hE
  have h1 : j ≠ 0 := by omega
  rw [preT, if_neg h1, hl, List.take_length]
set_option maxRecDepth 100000 in
set_option maxHeartbeats 1000000 in
theorem rshow_any : ∀ (r d q : Nat) (S : Nat → Prop) (v : Value) (t : Ty) (w : World), r ≤ 6 → measureT r t = some q → TyAt w S d v t →
    Calls Tryz.prog 80 #[v] w fun e w' => e = .returned (.string ⟨(textT r t).toArray⟩) ∧ Below w.heap.size w w'
  | r, 0, q, S, v, t, w, _, _, hT => hT.elim
  | 0, d + 1, q, S, v, t, w, _, hm, hT => by simp [measureT] at hm
  | r + 1, d + 1, q, S, v, t, w, hr6, hm, hT => by
    obtain ⟨x, hw, hxa, hxw, hall⟩ := measure_right hm
    have hx2 := words_args x hxw
    have hx6 := (words_small x hxw).2
    have hlen : t.args.length ≤ 2 := by omega
    have hws : wordStr t.kind = x.name := by simp only [wordStr, hw]; rfl
    have HWS := Lib.hid hws
    have HTX : Hid (textT (r + 1) t = x.name.data.toList ++ textL (textT r) t.args 0 ++ (if 0 < t.args.length then [41] else [])) := by show _ = _; simp only [textT, hw]; rfl
    have IH := rshow_any r d
    have HIH := Lib.hid IH
    have HALL := Lib.hid hall
    obtain ⟨A, c, rfl, hlc, hA⟩ := hT
    have HA := Lib.hid hA
    have hb1 := (Below.refl w.heap.size w).alloc (Nat.le_refl _) (.cells #[.int .i64 t.kind, .slice A t.args.length c] 45)
    have hn1 := heap_alloc_new w (.cells #[.int .i64 t.kind, .slice A t.args.length c] 45)
    have hz1 := cell_lt hn1
    clear hA IH hall hm hxa hx2 hxw hw hws
    by_cases hl0 : t.args.length = 0
    · go_enter Tryz.func80, Tryz.ntmps80
      go_wp2_with (fail)
      refine (word_any t.kind _).mono ?_
      rw [HWS.out]
      rintro e w2 ⟨rfl, rfl⟩
      go_wp2_with (fail)
      refine bodyPost_ret (v := .string x.name) (by simp [results, Tryz.results80, go_sem]) rfl ?_
      rw [HTX.out, if_neg (by omega), List.length_eq_zero_iff.1 hl0]
      exact ⟨by simp [textL], by rw [hl0] at hb1; exact hb1⟩
    · have hns : ¬ 9223372036854775807 < x.name.size + 1 := by omega
      have hl0b : ((t.args.length : Int) == 0) = false := beq_eq_false_iff_ne.2 (by omega)
      go_enter Tryz.func80, Tryz.ntmps80
      go_wp2_with (fail)
      refine (word_any t.kind _).mono ?_
      rw [HWS.out]
      rintro e w2 ⟨rfl, rfl⟩
      go_wp2_with (fail)
      go_loopw [3, 4] (fun sv i wr => ∃ (j : Nat) (u : ByteArray), i = .int .i64 j ∧ sv = .string u ∧ j ≤ t.args.length ∧ Hid (u.data.toList = preT (textT r) x t.args j) ∧ u.size ≤ 10 + 600 * j ∧ Below w.heap.size w wr ∧ w.heap.size < wr.heap.size ∧ wr.heap[w.heap.size]? = some (.cells #[.int .i64 t.kind, .slice A t.args.length c] 45 (0, 0))) (fun _ i _ => 6000 - (intOf i).toNat)
      case atStart => exact ⟨0, _, rfl, rfl, by omega, by show _ = _; simp [preT], by rw [ByteArray.size_append]; have : (ByteArray.mk #[40]).size = 1 := rfl; omega, hb1, hz1, hn1⟩
      case round =>
        obtain ⟨j, u, rfl, rfl, hj, HE, hub, hbr, hsz, hy0⟩ := hrel
        have c0 := cell2_0 hy0
        have c1 := cell2_1 hy0
        have hn1 : ¬ 9223372036854775807 < u.size + 1 := by omega
        by_cases hlt : j < t.args.length
        · obtain ⟨b1, o, rfl, hSb, hcells⟩ := HA.out (by omega)
          obtain ⟨B1, k1, h0, h1, h2, hbl⟩ := arg_cells hcells hlt
          have g0 := (hbr.cell (p := ⟨b1, o + j * 2, none⟩) hbl).trans h0
          have g1 := (hbr.cell (p := ⟨b1, o + j * 2 + 1, none⟩) hbl).trans h1
          have hd : t.args.take (j + 1) = t.args.take j ++ [t.args[j]] := by rw [List.take_succ_eq_append_getElem hlt]
          have hq := HALL.out _ (List.getElem_mem hlt)
          generalize t.args[j] = x1 at *
          obtain ⟨qx, hqx⟩ := hq
          have hsm := textT_small _ _ _ hqx
          have HQ := Lib.hid hqx
          have HD := Lib.hid hd
          have H2 := Lib.hid (h2.below hbr)
          clear h0 h1 h2 hd hcells hqx
          by_cases hj0 : 0 < j
          · have hdj : decide ((0 : Int) < (j : Int)) = true := by simp; omega
            go_wp2_with (fail)
            have hu2z : (u ++ (⟨#[44]⟩ : ByteArray)).size = u.size + 1 := by rw [ByteArray.size_append]; rfl
            have HU2 : Hid ((u ++ (⟨#[44]⟩ : ByteArray)).data.toList = u.data.toList ++ [44]) := by show _ = _; simp
            generalize u ++ (⟨#[44]⟩ : ByteArray) = u2 at *
            refine (HIH.out _ _ _ x1 wr (by omega) HQ.out H2.out).mono ?_
            obtain ⟨s2, hs2⟩ : ∃ s2 : ByteArray, s2 = ⟨(textT r x1).toArray⟩ := ⟨_, rfl⟩
            have HS2 : Hid (s2.data.toList = textT r x1) := by show _ = _; rw [hs2]
            have hz2 : s2.size ≤ 279 := by
              have h3 : s2.size = (textT r x1).length := by rw [hs2]; rfl
              have h4 : 2 ^ r ≤ 2 ^ 5 := Nat.pow_le_pow_right (by omega) (by omega)
              omega
            rw [← hs2]
            clear hs2
            rintro e w3 ⟨rfl, hb3⟩
            have hb4 := hbr.trans (hb3.mono hbr.size)
            have hs3 := hb3.size
            have hy0' := (hb3.block w.heap.size (by omega)).trans hy0
            have hn3 : ¬ 9223372036854775807 < u2.size + s2.size := by omega
            go_wp2_with (fail)
            go_roundw
            case rel => exact ⟨j + 1, _, by go_num, rfl, by omega, by show _ = _; rw [← preT_more hj0 hj HD.out HE.out, ← HU2.out, ← HS2.out]; simp, by rw [ByteArray.size_append]; omega, hb4, by omega, hy0'⟩
            case measure => simp [intOf]; omega
          · have hdj : decide ((0 : Int) < (j : Int)) = false := by simp; omega
            go_wp2_with (fail)
            refine (HIH.out _ _ _ x1 wr (by omega) HQ.out H2.out).mono ?_
            obtain ⟨s2, hs2⟩ : ∃ s2 : ByteArray, s2 = ⟨(textT r x1).toArray⟩ := ⟨_, rfl⟩
            have HS2 : Hid (s2.data.toList = textT r x1) := by show _ = _; rw [hs2]
            have hz2 : s2.size ≤ 279 := by
              have h3 : s2.size = (textT r x1).length := by rw [hs2]; rfl
              have h4 : 2 ^ r ≤ 2 ^ 5 := Nat.pow_le_pow_right (by omega) (by omega)
              omega
            rw [← hs2]
            clear hs2
            rintro e w3 ⟨rfl, hb3⟩
            have hb4 := hbr.trans (hb3.mono hbr.size)
            have hs3 := hb3.size
            have hy0' := (hb3.block w.heap.size (by omega)).trans hy0
            have hn3 : ¬ 9223372036854775807 < u.size + s2.size := by omega
            go_wp2_with (fail)
            go_roundw
            case rel => exact ⟨j + 1, _, by go_num, rfl, by omega, by
              show _ = _
              have hjz : j = 0 := by omega
              have hD := HD.out
              have hE := HE.out
              rw [hjz] at hD hE ⊢
              rw [← preT_first hD hE, ← HS2.out]; simp, by rw [ByteArray.size_append]; omega, hb4, by omega, hy0'⟩
            case measure => simp [intOf]; omega
        · go_wp2_with (fail)
          refine bodyPost_ret (v := .string (u ++ (⟨#[41]⟩ : ByteArray))) (by simp [results, Tryz.results80, go_sem]) rfl ?_
          have hU : u ++ (⟨#[41]⟩ : ByteArray) = ⟨(textT (r + 1) t).toArray⟩ := by
            rw [HTX.out, if_pos (by omega), ← preT_end (by omega) (by omega) HE.out]
            apply ByteArray.ext
            apply Array.ext'
            simp
          rw [hU]
          exact ⟨rfl, hbr⟩
end Go.Proofs.YtllnamhgnbdkmaaGreatDoor.Knd
