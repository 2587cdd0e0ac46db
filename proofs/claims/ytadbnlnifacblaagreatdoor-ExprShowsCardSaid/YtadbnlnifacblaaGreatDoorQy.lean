/-
The document's answer for package kind: scan, where no Args may come; Parse.
-/
import Derived.Test.YtadbnlnifacblaaGreatDoorKf
import Derived.Test.YtadbnlnifacblaaGreatDoorQp
import Derived.Test.YtadbnlnifacblaaGreatDoorOf
namespace Go.Proofs.YtadbnlnifacblaaGreatDoor.Knd
open Go.RowKit
theorem fit_one {y : Wd} (h : y ∈ fitW (((0 : Nat) : Int) + 1) words) : y.args = 0 := by
  have := (List.mem_filter.1 h).2
  simpa using this
set_option maxRecDepth 100000 in
set_option maxHeartbeats 8000000 in
theorem scan_one : ScOk 1 := by
  intro s n w hn hs
  obtain ⟨i0, hi, hq0, hq1, hq2⟩ := info_parts infoRT
  have hlast : (s.extract n s.size).data.toList = s.data.toList.drop n := by rw [Lib.extract_data, List.take_of_length_le (by simp)]
  have HLAST := Lib.hid hlast
  clear hlast
  rw [show ((1 : Nat) : Int) = 1 from rfl]
  go_enter Tryz.func159, Tryz.ntmps159
  go_wp2_with (fail)
  go_loopw [1, 9] (fun a i wr => ∃ kk : Nat, i = .int .i64 kk ∧ a = .int .i64 (n : Int) ∧ 1 ≤ kk ∧ kk ≤ 10 ∧ ScInv s n 0 kk w wr) (fun _ i _ => 20 - (intOf i).toNat)
  case atStart =>
    exact ⟨1, rfl, rfl, by omega, by omega, (Below.refl _ _).alloc (Nat.le_refl _) _, by simp, heap_alloc_new w _, fun y hy h => by have := words_kinds y (List.mem_filter.1 hy).1; omega⟩
  case round =>
    obtain ⟨kk, rfl, rfl, hk1, hk10, hI⟩ := hrel
    obtain ⟨wo, rfl⟩ : ∃ wo : World, wo = wr := ⟨_, rfl⟩
    have HI := Lib.hid hI
    have r0 := cell2_0 hI.res
    have r1 := cell2_1 hI.res
    have f0 := cell3_f hI.res 0
    have f1 := cell3_f hI.res 1
    have hbr := hI.below
    have hsz := hI.size
    clear hI
    by_cases hk9 : kk ≤ 9
    · go_wp2_with (fail)
      refine (word_any (kk : Int) _).mono ?_
      rintro e w1 ⟨rfl, rfl⟩
      cases hw : wordK (kk : Int) with
      | none =>
        have hws : wordStr (kk : Int) = ⟨#[]⟩ := by simp only [wordStr, hw]; rfl
        rw [hws]
        have hnext : ScInv s n 0 (kk + 1) w wo := ⟨HI.out.below, HI.out.size, HI.out.res, fun y hy h => HI.out.miss y hy (by have := wordK_none_or hw (List.mem_filter.1 hy).1; omega)⟩
        have HN := Lib.hid hnext
        clear hws hw hnext
        go_wp2_with (fail)
        go_roundw
        case rel => exact ⟨kk + 1, by go_num, rfl, by omega, by omega, HN.out⟩
        case measure => simp [intOf]; omega
      | some x =>
        have hws : wordStr (kk : Int) = x.name := by simp only [wordStr, hw]; rfl
        rw [hws]
        have hxw := wordK_mem hw
        have hne1 := words_names x hxw.1
        have hne2 : x.name.toList.isEmpty = false := by simpa using hne1
        have hxc : countK (kk : Int) = x.args := by rw [words_count x hxw.1, hxw.2]
        have hxa := words_args x hxw.1
        have hx6 := words_small x hxw.1
        have HXC := Lib.hid hxc
        have HXC2 : Hid (countK x.kind = x.args) := (words_count x hxw.1).symm
        have HXW := Lib.hid hxw.1
        have HW := Lib.hid hw
        have HXK := Lib.hid hxw.2
        by_cases hx0 : x.args = 0
        · have hfit : x ∈ fitW (((0 : Nat) : Int) + 1) words := List.mem_filter.2 ⟨hxw.1, by simp [hx0]⟩
          have HFIT := Lib.hid hfit
          have HX0 := Lib.hid hx0
          clear hws hw hxc hxw hfit
          go_wp2_with (fail)
          refine (count_any (kk : Int) _).mono ?_
          rw [HXC.out, HX0.out]
          rintro e w2 ⟨rfl, rfl⟩
          go_wp2_with (fail)
          refine (begins_any x.name _ _).mono ?_
          rw [HLAST.out]
          rintro e w3 ⟨rfl, rfl⟩
          cases hp : pfx x.name (s.data.toList.drop n) with
          | false =>
            have hnext : ScInv s n 0 (kk + 1) w wo := ⟨HI.out.below, HI.out.size, HI.out.res, fun y hy h => by
              by_cases hyk : y.kind = kk
              · rw [wordK_unique HW.out (List.mem_filter.1 hy).1 hyk]; exact hp
              · exact HI.out.miss y hy (by omega)⟩
            have HN := Lib.hid hnext
            clear hp hnext
            go_wp2_with (fail)
            go_roundw
            case rel => exact ⟨kk + 1, by go_num, rfl, by omega, by omega, HN.out⟩
            case measure => simp [intOf]; omega
          | true =>
            have hrw := readW_hit HFIT.out hp
            have HT := Lib.hid (readT_some hrw)
            have hnsz : n + x.name.size ≤ s.size := by
              have := readW_le (s.data.toList.drop n) (fitW (((0 : Nat) : Int) + 1) words) 0
              rw [hrw] at this
              simp at this
              omega
            clear hp hrw
            obtain ⟨p0, hp0⟩ : ∃ p0, p0 = n + x.name.size := ⟨_, rfl⟩
            have hp1 : p0 ≤ s.size := by omega
            have HP0 := Lib.hid hp0
            clear hp0
            go_wp2_with (fail)
            obtain ⟨TB, hTB⟩ : ∃ TB, TB = wo.heap.size := ⟨_, rfl⟩
            have hTBs : w.heap.size < TB := by omega
            have hIs := HI.out
            have hstart : SaInv w TB x 0 n x.name.size s 0 [] (.slice none 0 0) x.name.size (wo.alloc (.cells #[.int .i64 x.kind, .slice none 0 0] 34)) := by
              subst hTB
              exact ⟨hIs.below.alloc hIs.below.size _, hIs.size, by simp, (Below.heap_alloc wo _ _ hIs.size).trans hIs.res, heap_alloc_new wo _, rfl, ⟨[], World.ownsRow_nil _ _ _ _, fun j a h => by simp at h⟩, hnsz, by simp⟩
            have HSTART := Lib.hid hstart
            rw [← hTB, show ((kk : Nat) : Int) = x.kind from HXK.out.symm]
            clear hIs hstart hTB r0 r1 f0 f1
            go_loopw [1, 12] (fun a i wr => i = .int .i64 0 ∧ a = .int .i64 ((n : Int) + (x.name.size : Int)) ∧ SaInv w TB x 0 n x.name.size s 0 [] (.slice none 0 0) x.name.size wr) (fun _ i _ => 20 - (intOf i).toNat)
            case atStart => exact ⟨rfl, rfl, HSTART.out⟩
            case round =>
              obtain ⟨rfl, rfl, hS⟩ := hrel
              have HS := Lib.hid hS
              have r0 := cell2_0 hS.res
              have r1 := cell2_1 hS.res
              have f0 := cell3_f hS.res 0
              have f1 := cell3_f hS.res 1
              have t0 := cell2_0 hS.tcell
              have t1 := cell2_1 hS.tcell
              have t2 := cell3_f hS.tcell 0
              have t3 := cell3_f hS.tcell 1
              have hbs := hS.below
              have hzs := hS.size
              clear hS
              go_wp2_with (fail)
              refine (count_any x.kind _).mono ?_
              rw [HXC2.out, HX0.out]
              rintro e w4 ⟨rfl, rfl⟩
              go_wp2_with (fail)
              refine (count_any x.kind _).mono ?_
              rw [HXC2.out, HX0.out]
              rintro e w4 ⟨rfl, rfl⟩
              have hM := readT_end HT.out HS.out.eq (by have := HX0.out; omega : 0 = x.args.toNat)
              have HM := Lib.hid hM
              obtain ⟨cs, hcs, hargs⟩ := HS.out.own
              have HARGS := Lib.hid hargs
              have hlo := HS.out.lo
              clear hM hargs
              have HE := Lib.hid (readT_plain HM.out (by have := HX0.out; omega))
              go_wp2_with (fail)
              refine bodyPost_ret (v := .tuple #[.agg #[.int .i64 x.kind, .slice none 0 0], .int .i64 ((n : Int) + (x.name.size : Int)), .bool true]) (by simp [results, Tryz.results159, go_sem, r0, r1]) rfl ?_
              rw [HE.out]
              exact ⟨sc_good (by omega) (ty_made_e hcs HS.out.len HARGS.out (fun b h => h.1) (by omega) (fun b hb hl => by
                rw [Below.heap_setCell _ _ _ _ (by show b ≠ w.heap.size; omega), Below.heap_setCell _ _ _ _ (by show b ≠ w.heap.size; omega)])), (hbs.setCell (p := ⟨w.heap.size, 0, none⟩) (Nat.le_refl _) _).setCell (p := ⟨w.heap.size, 1, none⟩) (Nat.le_refl _) _⟩
        · have hpos : 0 < x.args := by omega
          have hnext : ScInv s n 0 (kk + 1) w wo := ⟨HI.out.below, HI.out.size, HI.out.res, fun y hy h => by
            by_cases hyk : y.kind = kk
            · have := wordK_unique HW.out (List.mem_filter.1 hy).1 hyk
              exact absurd (fit_one hy) (by rw [this]; exact hx0)
            · exact HI.out.miss y hy (by omega)⟩
          have HN := Lib.hid hnext
          have dpos : decide (0 < x.args) = true := by simp; omega
          clear hws hw hxc hxw hnext
          go_wp2_with (fail)
          refine (count_any (kk : Int) _).mono ?_
          rw [HXC.out]
          rintro e w2 ⟨rfl, rfl⟩
          go_wp2_with (fail)
          go_roundw
          case rel => exact ⟨kk + 1, by go_num, rfl, by omega, by omega, HN.out⟩
          case measure => simp [intOf]; omega
    · have hkk : kk = 10 := by omega
      have hmiss := readW_miss (room := ((0 : Nat) : Int) + 1) (l := s.data.toList.drop n) (fun y hy => HI.out.miss y hy (by have := words_kinds y (List.mem_filter.1 hy).1; omega))
      have HMISS := Lib.hid hmiss
      have HIs := Lib.hid (And.intro HI.out.below (And.intro HI.out.size HI.out.res))
      clear hmiss hkk r0 r1 f0 f1
      go_wp2_with (fail)
      go_loopw [17, 18] (fun bv i wr => ∃ kj bb : Nat, i = .int .i64 kj ∧ bv = .int .i64 bb ∧ 1 ≤ kj ∧ kj ≤ 10 ∧ bb ≤ 6 ∧ Hid (bb = bestW (((0 : Nat) : Int) + 1) (s.data.toList.drop n) (kj : Int)) ∧ Below w.heap.size w wr ∧ w.heap.size < wr.heap.size ∧ wr.heap[w.heap.size]? = some (.cells #[.int .i64 0, .slice none 0 0] 34 (0, 0))) (fun _ i _ => 20 - (intOf i).toNat)
      case atStart => exact ⟨1, 0, rfl, rfl, by omega, by omega, by omega, (best_first _ _).symm, HIs.out.1, HIs.out.2.1, HIs.out.2.2⟩
      case round =>
        obtain ⟨kj, bb, rfl, rfl, hj1, hj10, hb6, HB, hbj, hzj, hrj⟩ := hrel
        have r0 := cell2_0 hrj
        have r1 := cell2_1 hrj
        have f0 := cell3_f hrj 0
        have f1 := cell3_f hrj 1
        by_cases hj9 : kj ≤ 9
        · go_wp2_with (fail)
          refine (word_any (kj : Int) _).mono ?_
          rintro e w1 ⟨rfl, rfl⟩
          cases hw : wordK (kj : Int) with
          | none =>
            have hws : wordStr (kj : Int) = ⟨#[]⟩ := by simp only [wordStr, hw]; rfl
            rw [hws]
            have HBN : Hid (bb = bestW (((0 : Nat) : Int) + 1) (s.data.toList.drop n) ((kj + 1 : Nat) : Int)) := by show _ = _; rw [best_none hj1 hj9 hw]; exact HB.out
            clear hws hw
            go_wp2_with (fail)
            go_roundw
            case rel => exact ⟨kj + 1, bb, by go_num, rfl, by omega, by omega, hb6, HBN, hbj, hzj, hrj⟩
            case measure => simp [intOf] <;> omega
          | some x =>
            have hws : wordStr (kj : Int) = x.name := by simp only [wordStr, hw]; rfl
            rw [hws]
            have hxw := wordK_mem hw
            have hne1 := words_names x hxw.1
            have hne2 : x.name.toList.isEmpty = false := by simpa using hne1
            have hx6 := words_small x hxw.1
            have hxc : countK (kj : Int) = x.args := by rw [words_count x hxw.1, hxw.2]
            have hxa := words_args x hxw.1
            have HXC := Lib.hid hxc
            by_cases hx0 : x.args = 0
            · have hfit : x ∈ fitW (((0 : Nat) : Int) + 1) words := List.mem_filter.2 ⟨hxw.1, by simp [hx0]⟩
              have HX0 := Lib.hid hx0
              have HBI := Lib.hid (best_in (l := s.data.toList.drop n) hj1 hj9 hw hfit)
              clear hws hw hxw hfit
              obtain ⟨wi, rfl⟩ : ∃ wi : World, wi = wr := ⟨_, rfl⟩
              clear hxc
              go_wp2_with (fail)
              refine (count_any (kj : Int) _).mono ?_
              rw [HXC.out, HX0.out]
              rintro e w2 ⟨rfl, rfl⟩
              go_wp2_with (fail)
              go_loopw [20] (fun nv wr => ∃ nn : Nat, nv = .int .i64 nn ∧ nn ≤ x.name.size ∧ n + nn ≤ s.size ∧ Hid (lcp x.name.data.toList (s.data.toList.drop n) = nn + lcp (x.name.data.toList.drop nn) ((s.data.toList.drop n).drop nn)) ∧ ∃ nq, wr = wi.drewN nq) (fun nv _ => 20 - (intOf nv).toNat)
              case atStart => exact ⟨0, rfl, by omega, by omega, by show _ = _; simp, 0, rfl⟩
              case round =>
                obtain ⟨nn, rfl, hn1, hn2, HL, nq, rfl⟩ := hrel
                by_cases c1 : nn < x.name.size
                · by_cases c2 : n + nn < s.size
                  · have d1 : decide ((nn : Int) < (x.name.size : Int)) = true := by simp; omega
                    have d2 : decide ((n : Int) + (nn : Int) < (s.size : Int)) = true := by simp; omega
                    by_cases c3 : s[n + nn] = x.name[nn]
                    · have d3 : ((s[n + nn].toNat : Int) == (x.name[nn].toNat : Int)) = true := u8_beq_true c3
                      have HLN : Hid (lcp x.name.data.toList (s.data.toList.drop n) = (nn + 1) + lcp (x.name.data.toList.drop (nn + 1)) ((s.data.toList.drop n).drop (nn + 1))) := by
                        show _ = _
                        rw [HL.out, lcp_more (by simpa using c1) (by simp; omega) (by rw [List.getElem_drop]; exact c3)]
                        omega
                      clear c3
                      go_wp2_with (fail)
                      have hix1 := str_index s (n + nn) c2 hs
                      have hix2 := str_index x.name nn c1 (by omega)
                      rw [Int.natCast_add] at hix1
                      have q1 : IntKind.i64.wrap ((n : Int) + (nn : Int)) = (n : Int) + (nn : Int) := IntWalk.i64_in _ (by omega)
                      have q2 : 0 ≤ (n : Int) + (nn : Int) := by omega
                      have q3 : ((n : Int) + (nn : Int)).toNat = n + nn := by omega
                      go_quiet (fail)
                      clear q1 q3 hix1 hix2
                      go_wp2_with (fail)
                      go_roundw
                      case rel => exact ⟨nn + 1, by go_num, by omega, by omega, HLN, _, rfl⟩
                      case measure => simp [intOf] <;> omega
                    · have d1 : decide ((nn : Int) < (x.name.size : Int)) = true := by simp; omega
                      have d2 : decide ((n : Int) + (nn : Int) < (s.size : Int)) = true := by simp; omega
                      have d3 : ((s[n + nn].toNat : Int) == (x.name[nn].toNat : Int)) = false := u8_beq_false c3
                      have HS : Hid (lcp x.name.data.toList (s.data.toList.drop n) = nn) := by
                        show _ = _
                        rw [HL.out, lcp_stop]
                        · rfl
                        · intro ha hl
                          rw [List.getElem_drop]
                          exact c3
                      clear c3
                      go_wp2_with (fail)
                      have hix1 := str_index s (n + nn) c2 hs
                      have hix2 := str_index x.name nn c1 (by omega)
                      rw [Int.natCast_add] at hix1
                      have q1 : IntKind.i64.wrap ((n : Int) + (nn : Int)) = (n : Int) + (nn : Int) := IntWalk.i64_in _ (by omega)
                      have q2 : 0 ≤ (n : Int) + (nn : Int) := by omega
                      have q3 : ((n : Int) + (nn : Int)).toNat = n + nn := by omega
                      go_quiet (fail)
                      clear q1 q3 hix1 hix2
                      by_cases c4 : bb < nn
                      · have HBN : Hid (nn = bestW (((0 : Nat) : Int) + 1) (s.data.toList.drop n) ((kj + 1 : Nat) : Int)) := by show _ = _; rw [HBI.out, HS.out, ← HB.out]; omega
                        have d4 : decide ((bb : Int) < (nn : Int)) = true := by simp; omega
                        go_wp2_with (fail)
                        go_roundw
                        case rel => exact ⟨kj + 1, nn, by go_num, rfl, by omega, by omega, by omega, HBN, below_drewN hbj _, hzj, hrj⟩
                        case measure => simp [intOf] <;> omega
                      · have HBN : Hid (bb = bestW (((0 : Nat) : Int) + 1) (s.data.toList.drop n) ((kj + 1 : Nat) : Int)) := by show _ = _; rw [HBI.out, HS.out, ← HB.out]; omega
                        have d4 : decide ((bb : Int) < (nn : Int)) = false := by simp; omega
                        go_wp2_with (fail)
                        go_roundw
                        case rel => exact ⟨kj + 1, bb, by go_num, rfl, by omega, by omega, by omega, HBN, below_drewN hbj _, hzj, hrj⟩
                        case measure => simp [intOf] <;> omega
                  · have d1 : decide ((nn : Int) < (x.name.size : Int)) = true := by simp; omega
                    have d2 : decide ((n : Int) + (nn : Int) < (s.size : Int)) = false := by simp; omega
                    have HS : Hid (lcp x.name.data.toList (s.data.toList.drop n) = nn) := by
                      show _ = _
                      rw [HL.out, lcp_stop]
                      · rfl
                      · intro ha hl
                        simp at hl
                        omega
                    have q1 : IntKind.i64.wrap ((n : Int) + (nn : Int)) = (n : Int) + (nn : Int) := IntWalk.i64_in _ (by omega)
                    have q2 : 0 ≤ (n : Int) + (nn : Int) := by omega
                    go_wp2_with (fail)
                    go_quiet (fail)
                    clear q1
                    by_cases c4 : bb < nn
                    · have HBN : Hid (nn = bestW (((0 : Nat) : Int) + 1) (s.data.toList.drop n) ((kj + 1 : Nat) : Int)) := by show _ = _; rw [HBI.out, HS.out, ← HB.out]; omega
                      have d4 : decide ((bb : Int) < (nn : Int)) = true := by simp; omega
                      go_wp2_with (fail)
                      go_roundw
                      case rel => exact ⟨kj + 1, nn, by go_num, rfl, by omega, by omega, by omega, HBN, below_drewN hbj _, hzj, hrj⟩
                      case measure => simp [intOf] <;> omega
                    · have HBN : Hid (bb = bestW (((0 : Nat) : Int) + 1) (s.data.toList.drop n) ((kj + 1 : Nat) : Int)) := by show _ = _; rw [HBI.out, HS.out, ← HB.out]; omega
                      have d4 : decide ((bb : Int) < (nn : Int)) = false := by simp; omega
                      go_wp2_with (fail)
                      go_roundw
                      case rel => exact ⟨kj + 1, bb, by go_num, rfl, by omega, by omega, by omega, HBN, below_drewN hbj _, hzj, hrj⟩
                      case measure => simp [intOf] <;> omega
                · have d1 : decide ((nn : Int) < (x.name.size : Int)) = false := by simp; omega
                  have HS : Hid (lcp x.name.data.toList (s.data.toList.drop n) = nn) := by
                    show _ = _
                    rw [HL.out, lcp_stop]
                    · rfl
                    · intro ha hl
                      simp at ha
                      omega
                  go_wp2_with (fail)
                  go_quiet (fail)
                  by_cases c4 : bb < nn
                  · have HBN : Hid (nn = bestW (((0 : Nat) : Int) + 1) (s.data.toList.drop n) ((kj + 1 : Nat) : Int)) := by show _ = _; rw [HBI.out, HS.out, ← HB.out]; omega
                    have d4 : decide ((bb : Int) < (nn : Int)) = true := by simp; omega
                    go_wp2_with (fail)
                    go_roundw
                    case rel => exact ⟨kj + 1, nn, by go_num, rfl, by omega, by omega, by omega, HBN, below_drewN hbj _, hzj, hrj⟩
                    case measure => simp [intOf] <;> omega
                  · have HBN : Hid (bb = bestW (((0 : Nat) : Int) + 1) (s.data.toList.drop n) ((kj + 1 : Nat) : Int)) := by show _ = _; rw [HBI.out, HS.out, ← HB.out]; omega
                    have d4 : decide ((bb : Int) < (nn : Int)) = false := by simp; omega
                    go_wp2_with (fail)
                    go_roundw
                    case rel => exact ⟨kj + 1, bb, by go_num, rfl, by omega, by omega, by omega, HBN, below_drewN hbj _, hzj, hrj⟩
                    case measure => simp [intOf] <;> omega
            · have hnf : x ∉ fitW (((0 : Nat) : Int) + 1) words := fun h => hx0 (fit_one h)
              have hpos : 0 < x.args := by omega
              have dpos : decide (0 < x.args) = true := by simp; omega
              have HBN : Hid (bb = bestW (((0 : Nat) : Int) + 1) (s.data.toList.drop n) ((kj + 1 : Nat) : Int)) := by show _ = _; rw [best_out hj1 hj9 hw hnf]; exact HB.out
              clear hws hw hxc hxw hnf
              go_wp2_with (fail)
              refine (count_any (kj : Int) _).mono ?_
              rw [HXC.out]
              rintro e w2 ⟨rfl, rfl⟩
              go_wp2_with (fail)
              go_roundw
              case rel => exact ⟨kj + 1, bb, by go_num, rfl, by omega, by omega, hb6, HBN, hbj, hzj, hrj⟩
              case measure => simp [intOf] <;> omega
        · have hkk : kj = 10 := by omega
          go_wp2_with (fail)
          obtain ⟨k, hk⟩ := HMISS.out
          have hkb := best_all hk
          have hB := HB.out
          rw [hkk] at hB
          have hB2 : bb = k := hB.trans hkb
          refine bodyPost_ret (v := .tuple #[.agg #[.int .i64 0, .slice none 0 0], .int .i64 ((n : Int) + (bb : Int)), .bool false]) (by simp [results, Tryz.results159, go_sem, r0, r1]) rfl ?_
          rw [readT_none hk]
          exact ⟨sc_bad (by omega), (hbj.setCell (p := ⟨w.heap.size, 0, none⟩) (Nat.le_refl _) _).setCell (p := ⟨w.heap.size, 1, none⟩) (Nat.le_refl _) _⟩
def RpOut (w w' : World) (e : Ending) : Nat × Option Ty → Prop
  | (k, none) => e = .returned (.tuple #[.agg #[.int .i64 0, .slice none 0 0], .int .i64 (k : Int), .bool false])
  | (_, some t) => ∃ v, e = .returned (.tuple #[v, .int .i64 0, .bool true]) ∧ TyAt w' (fun b => w.heap.size ≤ b) 6 v t
theorem scan_six : ScOk 6 :=
  scan_step 5 (by omega) (by omega) (scan_step 4 (by omega) (by omega) (scan_step 3 (by omega) (by omega) (scan_step 2 (by omega) (by omega) (scan_step 1 (by omega) (by omega) scan_one))))
set_option maxRecDepth 100000 in
set_option maxHeartbeats 1000000 in
theorem rparse_any (s : ByteArray) (w : World) (hs : s.size ≤ 1000000) :
    Calls Tryz.prog 121 #[.string s] w fun e w' => RpOut w w' e (parseT s.data.toList) ∧ Below w.heap.size w w' := by
  have H6 := scan_six
  go_enter Tryz.func121, Tryz.ntmps121
  go_wp2_with (fail)
  refine (show Calls _ _ _ _ _ from H6 s 0 _ (Nat.zero_le _) hs).mono ?_
  rw [List.drop_zero]
  have hrt := readT_le 6 s.data.toList
  simp only [Array.length_toList, ByteArray.size_data] at hrt
  have hsl : s.data.toList.length = s.size := by simp
  have hb1 := (Below.refl w.heap.size w).alloc (Nat.le_refl _) (.cells #[.int .i64 0, .slice none 0 0] 34)
  have hn1 := heap_alloc_new w (.cells #[.int .i64 0, .slice none 0 0] 34)
  cases hq : readT 6 s.data.toList with
  | mk k o =>
  rw [hq] at hrt
  cases o with
  | none =>
    have HP : Hid (parseT s.data.toList = (k, none)) := by show _ = _; rw [parseT, hq]
    clear hq
    rintro e w2 ⟨he, hb2⟩
    obtain rfl : e = .returned (.tuple #[.agg #[.int .i64 0, .slice none 0 0], .int .i64 ((0 + k : Nat) : Int), .bool false]) := he
    rw [Nat.zero_add]
    have hb := hb1.trans (hb2.mono hb1.size)
    have hc := (hb2.block w.heap.size (by simp)).trans hn1
    have hl2 := cell_lt hc
    have f0 := cell2_0 hc
    have f1 := cell2_1 hc
    have f2 := cell3_f hc 0
    have f3 := cell3_f hc 1
    go_wp2_with (fail)
    refine bodyPost_ret (v := .tuple #[.agg #[.int .i64 0, .slice none 0 0], .int .i64 (k : Int), .bool false]) (by simp [results, Tryz.results121, go_sem, f0, f1, hl2]) rfl ?_
    rw [HP.out]
    exact ⟨rfl, ((((hb.setCell (p := ⟨w.heap.size, 0, none⟩) (Nat.le_refl _) _).setCell (p := ⟨w.heap.size, 1, none⟩) (Nat.le_refl _) _).alloc (by simp [World.setCell]; omega) _))⟩
  | some t =>
    have HP : Hid (parseT s.data.toList = if k < s.size then (k, none) else (0, some t)) := by show _ = _; rw [parseT, hq, hsl]
    clear hq
    rintro e w2 ⟨⟨v, he, hv⟩, hb2⟩
    rw [Nat.zero_add] at he
    subst he
    obtain ⟨A, c, rfl⟩ := TyAt.form hv
    have HV := Lib.hid hv
    have hb := hb1.trans (hb2.mono hb1.size)
    have hc := (hb2.block w.heap.size (by simp)).trans hn1
    have hl2 := cell_lt hc
    have f0 := cell2_0 hc
    have f1 := cell2_1 hc
    have f2 := cell3_f hc 0
    have f3 := cell3_f hc 1
    clear hv
    by_cases hk : k < s.size
    · have hd : decide ((k : Int) < (s.size : Int)) = true := by simp; omega
      go_wp2_with (fail)
      refine bodyPost_ret (v := .tuple #[.agg #[.int .i64 0, .slice none 0 0], .int .i64 (k : Int), .bool false]) (by simp [results, Tryz.results121, go_sem, f0, f1, hl2]) rfl ?_
      rw [HP.out, if_pos hk]
      exact ⟨rfl, ((((hb.setCell (p := ⟨w.heap.size, 0, none⟩) (Nat.le_refl _) _).setCell (p := ⟨w.heap.size, 1, none⟩) (Nat.le_refl _) _).alloc (by simp [World.setCell]; omega) _))⟩
    · have hd : decide ((k : Int) < (s.size : Int)) = false := by simp; omega
      go_wp2_with (fail)
      refine bodyPost_ret (v := .tuple #[.agg #[.int .i64 t.kind, .slice A t.args.length c], .int .i64 0, .bool true]) (by simp [results, Tryz.results121, go_sem, f0, f1, hl2]) rfl ?_
      rw [HP.out, if_neg hk]
      refine ⟨⟨_, rfl, TyAt.move (fun b hS hl => ?_) _ _ _ HV.out⟩, ((((hb.setCell (p := ⟨w.heap.size, 0, none⟩) (Nat.le_refl _) _).setCell (p := ⟨w.heap.size, 1, none⟩) (Nat.le_refl _) _).alloc (by simp [World.setCell]; omega) _))⟩
      have hS' : w.heap.size + 1 ≤ b := by simpa using hS
      exact ⟨by omega, fun o => World.cell?_of_block (by rw [Below.heap_alloc _ _ _ (by simp [World.setCell]; omega), Below.heap_setCell _ _ _ _ (by show b ≠ w.heap.size; omega), Below.heap_setCell _ _ _ _ (by show b ≠ w.heap.size; omega)])⟩
end Go.Proofs.YtadbnlnifacblaaGreatDoor.Knd
namespace Go.Proofs.YtadbnlnifacblaaGreatDoor
open Go.RowKit
def TyO (w w' : World) (q : Nat × Option Ty) (e : Ending) : Prop := match q with
  | (p, some t) => ∃ v, e = .returned (.tuple #[v, .int .i64 (p : Int), .bool true]) ∧ TyAt w' (fun b => w.heap.size ≤ b) 6 v t
  | (p, none) => ∃ (k : Int) (A : Option Addr) (n c : Nat), e = .returned (.tuple #[.agg #[.int .i64 k, .slice A n c], .int .i64 (p : Int), .bool false])
set_option maxRecDepth 100000 in
set_option maxHeartbeats 4000000 in
theorem typ_d (s : ByteArray) (m : Nat) (w : World) (hs : s.size ≤ 1000000) (hm : m ≤ s.size) :
    Calls Tryz.prog 84 #[.string s, .int .i64 (m : Int)] w fun e w' => TyO w w' (typR Knd.parseT (bl s) m) e ∧ Below w.heap.size w w' := by
  obtain ⟨rs, hrs⟩ : ∃ rs, rs = s.extract m s.size := ⟨_, rfl⟩
  have hrz : rs.size = s.size - m := by rw [hrs]; simp
  have HRB : Hid (rs.data.toList = (bl s).drop m) := by show _ = _; rw [hrs, bl_from]
  have hsl : ∀ W : World, (Instr.slice 9 (.string s) (some (.int .i64 (m : Int))) none none).run Tryz.prog W = .ok (.string rs) W := by
    intro W; rw [hrs]; go_simp
  clear hrs
  have hP := fun W => Knd.rparse_any rs W (by omega)
  rw [HRB.out] at hP
  have HP := Lib.hid hP
  clear hP
  cases hp : Knd.parseT ((bl s).drop m) with
  | mk k o =>
  rw [hp] at HP
  cases o with
  | some t =>
    have HF : Hid (typR Knd.parseT (bl s) m = (s.size, some t)) := by show _ = _; unfold typR; rw [hp, bl_length]
    clear hp
    have hb0 := (Below.refl w.heap.size w).alloc (Nat.le_refl _) (.cells #[.int .i64 0, .slice none 0 0] 34)
    have hc0 := heap_alloc_new w (.cells #[.int .i64 0, .slice none 0 0] 34)
    have hs0 : (w.alloc (.cells #[.int .i64 0, .slice none 0 0] 34)).heap.size = w.heap.size + 1 := by simp
    have HB0 := Lib.hid hb0
    have HC0 := Lib.hid hc0
    clear hb0 hc0
    go_enter Tryz.func84, Tryz.ntmps84
    go_wp2_with (fail)
    generalize w.alloc (.cells #[.int .i64 0, .slice none 0 0] 34) = w0 at *
    refine (HP.out w0).mono ?_
    rintro e w1 ⟨⟨v1, rfl, hT1⟩, hb1⟩
    obtain ⟨A1, c1, rfl⟩ := hT1.form
    have HB1 := Lib.hid (HB0.out.trans (hb1.mono (by omega)))
    have HC1 := Lib.hid (below_at hb1 HC0.out)
    have hs1 := hb1.size
    clear hT1 hb1
    go_wp2_with (fail)
    have hb2 := (Below.refl w1.heap.size w1).alloc (Nat.le_refl _) (.cells #[.int .i64 t.kind, .slice A1 t.args.length c1] 34)
    have hs2 : (w1.alloc (.cells #[.int .i64 t.kind, .slice A1 t.args.length c1] 34)).heap.size = w1.heap.size + 1 := by simp
    have HB2 := Lib.hid (HB1.out.trans (hb2.mono (by omega)))
    have HC2 := Lib.hid (below_at hb2 HC1.out)
    clear hb2 HC1 HB1
    generalize w1.alloc (.cells #[.int .i64 t.kind, .slice A1 t.args.length c1] 34) = w2 at *
    refine (HP.out w2).mono ?_
    rintro e w3 ⟨⟨v2, rfl, hT2⟩, hb3⟩
    obtain ⟨A2, c2, rfl⟩ := hT2.form
    have HT := Lib.hid hT2
    have HB3 := Lib.hid (HB2.out.trans (hb3.mono (by omega)))
    have HC3 := Lib.hid (below_at hb3 HC2.out)
    have hs3 := hb3.size
    have y0 := cell2_0 HC3.out
    have y1 := cell2_1 HC3.out
    have yf0 := cell3_f HC3.out 0
    have yf1 := cell3_f HC3.out 1
    have hl := cell_lt HC3.out
    clear hT2 hb3
    go_wp2_with (fail)
    refine bodyPost_ret (v := .tuple #[.agg #[.int .i64 t.kind, .slice A2 t.args.length c2], .int .i64 (s.size : Int), .bool true]) (by simp [results, Tryz.results84, go_sem, y0, y1, hl]) rfl ?_
    rw [HF.out]
    have hF := HB3.out
    refine ⟨⟨_, rfl, TyAt.move (fun b hb hl' => ⟨by have hb' : w2.heap.size ≤ b := hb; show w.heap.size ≤ b; omega, fun o => World.cell?_of_block ?_⟩) _ _ _ HT.out⟩, by repeat' (first | with_reducible assumption | with_reducible refine Below.alloc ?_ ?_ _ | with_reducible refine Below.set_own ?_ ?_ | (simp only [setCell_heap_size]; omega) | (dsimp only; omega))⟩
    have hb' : w2.heap.size ≤ b := hb
    rw [Below.heap_alloc _ _ _ (by simp only [setCell_heap_size]; exact hl'), Below.heap_setCell _ _ _ _ (by show b ≠ w.heap.size; omega), Below.heap_setCell _ _ _ _ (by show b ≠ w.heap.size; omega)]
  | none =>
    have hk := (Knd.parseT_bad hp).1
    rw [List.length_drop, bl_length] at hk
    obtain ⟨u, hu⟩ : ∃ u, u = s.extract m (m + k) := ⟨_, rfl⟩
    have huz : u.size ≤ 1000000 := by rw [hu]; simp; omega
    have hul : bl u = ((bl s).drop m).take k := by rw [hu, bl_extract s m (m + k) (by omega), List.drop_take, show m + k - m = k by omega]
    have hsl2 : ∀ W : World, (Instr.slice 9 (.string s) (some (.int .i64 (m : Int))) (some (.int .i64 ((m : Int) + (k : Int)))) none).run Tryz.prog W = .ok (.string u) W := by
      intro W; rw [hu]; go_simp
      rw [if_pos ⟨by omega, by omega⟩, if_pos (by omega), show ((m : Int) + (k : Int)).toNat = m + k by omega]
    have HF0 : Hid (typR Knd.parseT (bl s) m = (m + k, (Knd.parseT (bl u)).2)) := by show _ = _; unfold typR; rw [hp, hul]
    have hP2 := fun W => Knd.rparse_any u W huz
    rw [show u.data.toList = bl u from rfl] at hP2
    have HP2 := Lib.hid hP2
    have hb0 := (Below.refl w.heap.size w).alloc (Nat.le_refl _) (.cells #[.int .i64 0, .slice none 0 0] 34)
    have hc0 := heap_alloc_new w (.cells #[.int .i64 0, .slice none 0 0] 34)
    have hs0 : (w.alloc (.cells #[.int .i64 0, .slice none 0 0] 34)).heap.size = w.heap.size + 1 := by simp
    have HB0 := Lib.hid hb0
    have HC0 := Lib.hid hc0
    have hmk : m + k ≤ s.size := by omega
    clear hb0 hc0 hP2 hu hul hp
    go_enter Tryz.func84, Tryz.ntmps84
    go_wp2_with (fail)
    generalize w.alloc (.cells #[.int .i64 0, .slice none 0 0] 34) = w0 at *
    refine (HP.out w0).mono ?_
    rintro e w1 ⟨he, hb1⟩
    obtain rfl : e = .returned (.tuple #[.agg #[.int .i64 0, .slice none 0 0], .int .i64 (k : Int), .bool false]) := he
    have HB1 := Lib.hid (HB0.out.trans (hb1.mono (by omega)))
    have HC1 := Lib.hid (below_at hb1 HC0.out)
    have hs1 := hb1.size
    clear hb1
    go_wp2_with (fail)
    have hb2 := (Below.refl w1.heap.size w1).alloc (Nat.le_refl _) (.cells #[.int .i64 0, .slice none 0 0] 34)
    have hs2 : (w1.alloc (.cells #[.int .i64 0, .slice none 0 0] 34)).heap.size = w1.heap.size + 1 := by simp
    have HB2 := Lib.hid (HB1.out.trans (hb2.mono (by omega)))
    have HC2 := Lib.hid (below_at hb2 HC1.out)
    clear hb2 HC1 HB1
    generalize w1.alloc (.cells #[.int .i64 0, .slice none 0 0] 34) = w2 at *
    refine (HP2.out w2).mono ?_
    cases hq : Knd.parseT (bl u) with
    | mk k2 o2 =>
    rw [hq] at HF0
    clear hq
    cases o2 with
    | none =>
      rintro e w3 ⟨he, hb3⟩
      obtain rfl : e = .returned (.tuple #[.agg #[.int .i64 0, .slice none 0 0], .int .i64 (k2 : Int), .bool false]) := he
      have HF : Hid (typR Knd.parseT (bl s) m = (m + k, none)) := HF0
      have HB3 := Lib.hid (HB2.out.trans (hb3.mono (by omega)))
      have HC3 := Lib.hid (below_at hb3 HC2.out)
      have hs3 := hb3.size
      have y0 := cell2_0 HC3.out
      have y1 := cell2_1 HC3.out
      have yf0 := cell3_f HC3.out 0
      have yf1 := cell3_f HC3.out 1
      have hl := cell_lt HC3.out
      clear hb3
      have hF := HB3.out
      go_wp2_with (fail)
      refine bodyPost_ret (v := .tuple #[.agg #[.int .i64 0, .slice none 0 0], .int .i64 ((m + k : Nat) : Int), .bool false]) (by simp [results, Tryz.results84, go_sem, y0, y1, hl]) rfl ?_
      rw [HF.out]
      exact ⟨⟨_, _, _, _, rfl⟩, by repeat' (first | with_reducible assumption | with_reducible refine Below.alloc ?_ ?_ _ | with_reducible refine Below.set_own ?_ ?_ | (simp only [setCell_heap_size]; omega) | (dsimp only; omega))⟩
    | some t =>
      rintro e w3 ⟨⟨v2, rfl, hT2⟩, hb3⟩
      obtain ⟨A2, c2, rfl⟩ := hT2.form
      have HT := Lib.hid hT2
      have HF : Hid (typR Knd.parseT (bl s) m = (m + k, some t)) := HF0
      have HB3 := Lib.hid (HB2.out.trans (hb3.mono (by omega)))
      have HC3 := Lib.hid (below_at hb3 HC2.out)
      have hs3 := hb3.size
      have y0 := cell2_0 HC3.out
      have y1 := cell2_1 HC3.out
      have yf0 := cell3_f HC3.out 0
      have yf1 := cell3_f HC3.out 1
      have hl := cell_lt HC3.out
      clear hT2 hb3
      have hF := HB3.out
      go_wp2_with (fail)
      refine bodyPost_ret (v := .tuple #[.agg #[.int .i64 t.kind, .slice A2 t.args.length c2], .int .i64 ((m + k : Nat) : Int), .bool true]) (by simp [results, Tryz.results84, go_sem, y0, y1, hl]) rfl ?_
      rw [HF.out]
      refine ⟨⟨_, rfl, TyAt.move (fun b hb hl' => ⟨by have hb' : w2.heap.size ≤ b := hb; show w.heap.size ≤ b; omega, fun o => World.cell?_of_block ?_⟩) _ _ _ HT.out⟩, by repeat' (first | with_reducible assumption | with_reducible refine Below.alloc ?_ ?_ _ | with_reducible refine Below.set_own ?_ ?_ | (simp only [setCell_heap_size]; omega) | (dsimp only; omega))⟩
      have hb' : w2.heap.size ≤ b := hb
      rw [Below.heap_alloc _ _ _ (by simp only [setCell_heap_size]; exact hl'), Below.heap_setCell _ _ _ _ (by show b ≠ w.heap.size; omega), Below.heap_setCell _ _ _ _ (by show b ≠ w.heap.size; omega)]
end Go.Proofs.YtadbnlnifacblaaGreatDoor
