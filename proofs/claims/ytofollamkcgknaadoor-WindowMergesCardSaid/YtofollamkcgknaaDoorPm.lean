/-
Merge of the document's reading.
-/
import Derived.Test.YtofollamkcgknaaDoorPs
import Derived.Deep.RegionLaw
set_option linter.unusedVariables false
namespace Go.Proofs.YtofollamkcgknaaDoor
open Go.RowKit

/-- Two windows that lie over each other. -/
def ovr (a b : Wn) : Prop := a.1 < b.2 ∧ b.1 < a.2

/-- Two fresh windows' blocks, in which a and b lie. -/
def Two (wr : World) (a b : Wn) (s5 s6 : Value) (wx : World) : Prop :=
  ∃ p q, s5 = .pointer (some ⟨p, 0, none⟩) ∧ s6 = .pointer (some ⟨q, 0, none⟩) ∧ p ≠ q ∧ wr.heap.size ≤ p ∧ wr.heap.size ≤ q ∧
    wx.heap[p]? = some (.cells #[.int .i64 a.1, .int .i64 a.2] 43 (0, 0)) ∧ wx.heap[q]? = some (.cells #[.int .i64 b.1, .int .i64 b.2] 43 (0, 0)) ∧ Below wr.heap.size wr wx

theorem two_ab (w : World) (a b : Wn) : Two w a b (.pointer (some ⟨w.heap.size, 0, none⟩)) (.pointer (some ⟨w.heap.size + 1, 0, none⟩)) ((w.alloc (.cells #[.int .i64 a.1, .int .i64 a.2] 43)).alloc (.cells #[.int .i64 b.1, .int .i64 b.2] 43)).drew :=
  ⟨_, _, rfl, rfl, by omega, by omega, by omega, heap_alloc_some (heap_alloc_new w _), heap_new_at (by simp), below_drew_some (((Below.refl _ w).alloc (Nat.le_refl _) _).alloc (by simp) _)⟩

theorem two_ba (w : World) (a b : Wn) : Two w a b (.pointer (some ⟨w.heap.size + 1, 0, none⟩)) (.pointer (some ⟨w.heap.size, 0, none⟩)) ((w.alloc (.cells #[.int .i64 b.1, .int .i64 b.2] 43)).alloc (.cells #[.int .i64 a.1, .int .i64 a.2] 43)).drew :=
  ⟨_, _, rfl, rfl, by omega, by omega, by omega, heap_new_at (by simp), heap_alloc_some (heap_alloc_new w _), below_drew_some (((Below.refl _ w).alloc (Nat.le_refl _) _).alloc (by simp) _)⟩

theorem step_at {l s : List Wn} (hs : s = srt l) (hg : ∀ x ∈ l, GdW x) (i k : Nat) (hi : i < s.length) (hk : k < i) {a1 a2 b1 b2 : Int} (ha : (a1, a2) = s[k]) (hb : (b1, b2) = s[i]) (h1 : a1 < b2) (h2 : b1 < a2) :
    mrg (rst s i k s.length ++ [(if b1 < a1 then b1 else a1, if a2 < b2 then b2 else a2)]) = mrg l ∧ ∀ x ∈ rst s i k s.length ++ [(if b1 < a1 then b1 else a1, if a2 < b2 then b2 else a2)], GdW x := by
  subst hs
  exact mrg_step l hg i k hi hk _ _ (by rw [← ha, ← hb]; exact h1) (by rw [← ha, ← hb]; exact h2) (by rw [← ha, ← hb]) (by rw [← ha, ← hb])

theorem done_at {l s : List Wn} (hs : s = srt l) (hg : ∀ x ∈ l, GdW x) (hno : ∀ i k (hi : i < s.length) (hk : k < i), i < s.length → ¬ ovr (s[k]) (s[i])) : s = mrg l := by
  subst hs
  exact mrg_done hg fun i k hi hk => hno i k hi hk hi

theorem set_at {w : World} {X : Nat} {a b : Value} {t : TypeId} (h : w.heap[X]? = some (.cells #[a, b] t (0, 0))) (c : Value) : (w.setCell ⟨X, 0, none⟩ c).heap[X]? = some (.cells #[c, b] t (0, 0)) ∧ (w.setCell ⟨X, 1, none⟩ c).heap[X]? = some (.cells #[a, c] t (0, 0)) := by
  constructor <;> simp [World.setCell, Array.getElem?_modify, h]

set_option maxRecDepth 100000 in
set_option maxHeartbeats 4000000 in
theorem rmerge_n (n : Nat) : ∀ (B : Nat) (v : Value) (l : List Wn) (w : World), l.length = n → WsAt w B v l → l.length ≤ 2000000 → (∀ x ∈ l, GdW x) →
    Calls Tryd.prog 29 #[v] w fun e w' => WOut w.heap.size (mrg l) e w' ∧ Below w.heap.size w w' := by
  induction n using Nat.strongRecOn with
  | _ n ih =>
  intro B v l w hn h hl hg
  subst hn
  have IH := Lib.hid ih
  have HG := Lib.hid hg
  have H := Lib.hid (rsort_any B v l w h hl)
  clear ih hg h
  obtain ⟨i0, hi, hq0, hq1, hq2⟩ := info_parts Tryd.infoR
  go_enter Tryd.func29, Tryd.ntmps29
  go_wp2_with (go_at_call 30; refine H.out.mono ?_; rintro e w2 ⟨⟨sv, rfl, hsv⟩, hb2⟩)
  have hsn : (srt l).length = l.length := (srt_perm l).length_eq
  obtain ⟨s, hs⟩ : ∃ s, s = srt l := ⟨_, rfl⟩
  rw [← hs] at hsv hsn
  have HS := Lib.hid hs
  have HB2 := Lib.hid hb2
  have hwz := hb2.size
  obtain ⟨sa, sc, rfl, hsc, hA⟩ := hsv
  have HA := Lib.hid hA
  have HSN := Lib.hid hsn
  clear hs hb2 hA
  rw [← hsn] at hl
  clear hsn H
  go_loopw [3] (fun iv wr => ∃ i : Nat, iv = .int .i64 (i : Int) ∧ i ≤ s.length ∧ Hid (∀ i' k (hi : i' < s.length) (hk : k < i'), i' < i → ¬ ovr (s[k]) (s[i'])) ∧ Hid (Below w2.heap.size w2 wr)) (fun i _ => s.length - (intOf i).toNat)
  case atStart => exact ⟨0, rfl, Nat.zero_le _, Lib.hid (fun _ _ _ _ h => absurd h (Nat.not_lt_zero _)), Lib.hid (Below.refl _ _)⟩
  case round =>
    obtain ⟨i, rfl, hile, HNO, HB⟩ := hrel
    by_cases hlt : i < s.length
    · obtain ⟨b, o, rfl, hb1, hb2, hcells⟩ := HA.out (by omega)
      have HC := Lib.hid hcells
      clear hcells
      have hi0 : (0 : Int) ≤ (i : Int) := by omega
      have hi1 : (i : Int) < (s.length : Int) := by omega
      go_wp2
      obtain ⟨wo, hwo⟩ : ∃ wo : World, wo = wr := ⟨_, rfl⟩
      subst hwo
      go_loopw [4] (fun kv wq => ∃ k : Nat, kv = .int .i64 (k : Int) ∧ k ≤ i ∧ Hid (∀ k' (hk : k' < i), k' < k → ¬ ovr (s[k']) (s[i])) ∧ Hid (Below w2.heap.size w2 wq)) (fun k _ => i - (intOf k).toNat)
      case atStart => exact ⟨0, rfl, Nat.zero_le _, Lib.hid (fun _ _ h => absurd h (Nat.not_lt_zero _)), HB⟩
      case round =>
        obtain ⟨k, rfl, hkle, HNK, HBQ⟩ := hrel
        have hsr := HBQ.out.size
        by_cases hk : k < i
        · obtain ⟨c0, c1⟩ := ws_cells HC.out hlt
          obtain ⟨d0, d1⟩ := ws_cells HC.out (show k < s.length by omega)
          have c0 := (HBQ.out.cell (p := ⟨b, o + i * 2, none⟩) hb2).trans c0
          have c1 := (HBQ.out.cell (p := ⟨b, o + i * 2 + 1, none⟩) hb2).trans c1
          have d0 := (HBQ.out.cell (p := ⟨b, o + k * 2, none⟩) hb2).trans d0
          have d1 := (HBQ.out.cell (p := ⟨b, o + k * 2 + 1, none⟩) hb2).trans d1
          obtain ⟨xa, hxa⟩ : ∃ xa, xa = s[k] := ⟨_, rfl⟩
          obtain ⟨xb, hxb⟩ : ∃ xb, xb = s[i] := ⟨_, rfl⟩
          rw [← hxa] at d0 d1
          rw [← hxb] at c0 c1
          have HXA := Lib.hid hxa
          have HXB := Lib.hid hxb
          clear hxa hxb
          obtain ⟨a1, a2⟩ := xa
          obtain ⟨b1, b2⟩ := xb
          dsimp only at c0 c1 d0 d1
          have hk0 : (0 : Int) ≤ (k : Int) := by omega
          have hk1 : (k : Int) < (s.length : Int) := by omega
          have hk2 : (k : Int) < (i : Int) := by omega
          have hbr : b < wr.heap.size := by omega
          obtain ⟨wp, hwp⟩ : ∃ wp : World, wp = wr := ⟨_, rfl⟩
          subst hwp
          go_upto_region 8 with (fail)
          go_cut [5, 6] (fun s5 s6 wx => Two wp (a1, a2) (b1, b2) s5 s6 wx)
          case first =>
            go_region_law (fail)
            all_goals (
              go_wp2_with (fail)
              go_meet
              first | exact two_ab wp (a1, a2) (b1, b2) | exact two_ba wp (a1, a2) (b1, b2))
          obtain ⟨p, q, rfl, rfl, hpq, hp, hq, hxp, hxq, hbx⟩ := hcut
          obtain ⟨wy, hwy⟩ : ∃ wy : World, wy = wc := ⟨_, rfl⟩
          subst hwy
          have p0 := cell2_0 hxp
          have p1 := cell2_1 hxp
          have q0 := cell2_0 hxq
          have q1 := cell2_1 hxq
          have HXP := Lib.hid hxp
          have HXQ := Lib.hid hxq
          have hpz := cell_lt hxp
          have hqz := cell_lt hxq
          have HBY := Lib.hid (HBQ.out.trans (hbx.mono hsr))
          have hyz := HBY.out.size
          clear c0 c1 d0 d1 hxp hxq hbx
          dsimp only at p0 p1 q0 q1 HXP HXQ
          by_cases h1 : a1 < b2
          · by_cases h2 : b1 < a2
            · have HO1 := Lib.hid h1
              have HO2 := Lib.hid h2
              have e1 : decide (b2 ≤ a1) = false := decide_eq_false (by omega)
              have e2 : decide (a2 ≤ b1) = false := decide_eq_false (by omega)
              have e3 : ¬ b2 ≤ a1 := by omega
              have e4 : ¬ a2 ≤ b1 := by omega
              clear h1 h2
              go_wp2
              clear e1 e2 e3 e4
              go_loopw [7, 8] (fun rv jv wq => ∃ j : Nat, jv = .int .i64 (j : Int) ∧ j ≤ s.length ∧ Hid (wq.ownsRow wy.heap.size 43 2 rv (rst s i k j).length (flat (rst s i k j))) ∧ Hid (Below wy.heap.size wy wq)) (fun _ j _ => s.length - (intOf j).toNat)
              case atStart => exact ⟨0, rfl, Nat.zero_le _, Lib.hid (World.ownsRow_nil _ _ _ _), Lib.hid (Below.refl _ _)⟩
              case round =>
                obtain ⟨j, rfl, hj, HO, HBR⟩ := hrel
                have hrz := HBR.out.size
                have hrl := rst_len s i k hk j hj
                have hrl2 : (rst s i k j).length ≤ 2000000 := by omega
                by_cases hjl : j < s.length
                · have hj0 : (0 : Int) ≤ (j : Int) := by omega
                  have hj1 : (j : Int) < (s.length : Int) := by omega
                  clear p0 p1 q0 q1
                  by_cases hji : j = i
                  · have HN := Lib.hid (rst_skip s i k j (.inl hji))
                    have n1 : ((j : Int) == (i : Int)) = true := by simp [hji]
                    have n2 : ((j : Int) != (i : Int)) = false := by simp [hji]
                    have n3 : (j : Int) = (i : Int) := by omega
                    clear hrl
                    go_wp2
                    go_roundw
                    case rel => exact ⟨j + 1, by go_num, by omega, by rw [HN.out]; exact HO, HBR⟩
                    case measure => simp [intOf]; omega
                  by_cases hjk : j = k
                  · have HN := Lib.hid (rst_skip s i k j (.inr hjk))
                    have n1 : ((j : Int) == (i : Int)) = false := by simp; omega
                    have n2 : ((j : Int) != (i : Int)) = true := by simp; omega
                    have n3 : ¬ (j : Int) = (i : Int) := by omega
                    have n4 : ((j : Int) == (k : Int)) = true := by simp [hjk]
                    have n5 : ((j : Int) != (k : Int)) = false := by simp [hjk]
                    have n6 : (j : Int) = (k : Int) := by omega
                    clear hrl
                    go_wp2
                    go_roundw
                    case rel => exact ⟨j + 1, by go_num, by omega, by rw [HN.out]; exact HO, HBR⟩
                    case measure => simp [intOf]; omega
                  have HN := Lib.hid (rst_take s i k j (by omega) hjl)
                  have n1 : ((j : Int) == (i : Int)) = false := by simp; omega
                  have n2 : ((j : Int) != (i : Int)) = true := by simp; omega
                  have n3 : ¬ (j : Int) = (i : Int) := by omega
                  have n4 : ((j : Int) == (k : Int)) = false := by simp; omega
                  have n5 : ((j : Int) != (k : Int)) = true := by simp; omega
                  have n6 : ¬ (j : Int) = (k : Int) := by omega
                  have n7 : ¬ j = i := hji
                  have n8 : ¬ j = k := hjk
                  obtain ⟨c0, c1⟩ := ws_cells HC.out hjl
                  have c0 := (HBR.out.cell (p := ⟨b, o + j * 2, none⟩) (show b < wy.heap.size by omega)).trans ((HBY.out.cell (p := ⟨b, o + j * 2, none⟩) hb2).trans c0)
                  have c1 := (HBR.out.cell (p := ⟨b, o + j * 2 + 1, none⟩) (show b < wy.heap.size by omega)).trans ((HBY.out.cell (p := ⟨b, o + j * 2 + 1, none⟩) hb2).trans c1)
                  obtain ⟨xc, hxc⟩ : ∃ xc, xc = s[j] := ⟨_, rfl⟩
                  rw [← hxc] at c0 c1 HN
                  clear hxc hrl
                  obtain ⟨x1, x2⟩ := xc
                  dsimp only at c0 c1
                  obtain ⟨Ac, Ax, rfl⟩ := own_slice HO.out
                  obtain ⟨A, hA⟩ : ∃ A, A = rst s i k j := ⟨_, rfl⟩
                  rw [← hA] at HO HN hrl2 ⊢
                  clear hA
                  go_wp2_with (at_builtin; refine wpList_append_own _ rfl _ _ 35 rfl wy.heap.size 43 i0 (.agg #[.int .i64 0, .int .i64 0]) 2 16 Tryd.underlying35 hi hq0 hq1 hq2 rfl (by decide) _ _ (flat A) rfl (HO.out.alloc _) ⟨_, 0, none⟩ 1 1 [.int .i64 x1, .int .i64 x2] rfl rfl (cell_two_new _ _ _ _ _ rfl) (two_one _ _) (by unfold maxLen; omega) (by omega) (by simp <;> omega) ?_; intro v7 w7 hown7 hg7 _)
                  have HB7 : Below wy.heap.size wy w7 := (HBR.out.alloc (by omega) _).grown hg7 (by simp <;> omega) fun k hk => (HO.out.lt k hk).1
                  have HO7 : Hid (w7.ownsRow wy.heap.size 43 2 v7 (rst s i k (j + 1)).length (flat (rst s i k (j + 1)))) := Lib.hid (by
                    rw [HN.out, flat_snoc, List.length_append]
                    exact hown7)
                  clear hown7 hg7
                  go_roundw
                  case rel => exact ⟨j + 1, by go_num, by omega, HO7, Lib.hid HB7⟩
                  case measure => simp [intOf]; omega
                · obtain rfl : j = s.length := by omega
                  rw [if_pos hlt, if_pos (show k < s.length by omega)] at hrl
                  have hyp := (HBR.out.block _ hpz).trans HXP.out
                  have hyq := (HBR.out.block _ hqz).trans HXQ.out
                  have p0 := cell2_0 hyp
                  have p1 := cell2_1 hyp
                  have q0 := cell2_0 hyq
                  have q1 := cell2_1 hyq
                  have pz := cell_lt hyp
                  have qz := cell_lt hyq
                  have HYQ := Lib.hid hyq
                  have HMG := Lib.hid (step_at HS.out HG.out i k hlt hk HXA.out HXB.out HO1.out HO2.out)
                  clear hyp hyq
                  obtain ⟨A, hA⟩ : ∃ A, A = rst s i k s.length := ⟨_, rfl⟩
                  rw [← hA] at HO HMG hrl hrl2
                  clear hA
                  obtain ⟨wz, hwz2⟩ : ∃ wz : World, wz = wr := ⟨_, rfl⟩
                  subst hwz2
                  obtain ⟨Ac, Ax, rfl⟩ := own_slice HO.out
                  obtain ⟨f, hf⟩ : ∃ f, f = (if b1 < a1 then b1 else a1) := ⟨_, rfl⟩
                  obtain ⟨u, hu⟩ : ∃ u, u = (if a2 < b2 then b2 else a2) := ⟨_, rfl⟩
                  rw [← hf, ← hu] at HMG
                  have HF := Lib.hid hf
                  have HU := Lib.hid hu
                  clear hf hu
                  go_upto_if 73 with (fail)
                  have HM := Lib.hid (heap_alloc_new wz (.cells #[.int .i64 a1, .int .i64 a2] 43))
                  have HMB : Hid (Below wz.heap.size wz (wz.alloc (.cells #[.int .i64 a1, .int .i64 a2] 43))) := Lib.hid ((Below.refl _ _).alloc (Nat.le_refl _) _)
                  have HMQ := Lib.hid (heap_alloc_some (o := (.cells #[.int .i64 a1, .int .i64 a2] 43)) HYQ.out)
                  have hRle : wz.heap.size ≤ wz.heap.size := Nat.le_refl _
                  generalize wz.alloc (.cells #[.int .i64 a1, .int .i64 a2] 43) = W8 at *
                  clear p0 p1 q0 q1
                  go_cut [] from 18 to 89 (fun wx => wx.heap[wz.heap.size]? = some (.cells #[.int .i64 f, .int .i64 a2] 43 (0, 0)) ∧ wx.heap[q]? = some (.cells #[.int .i64 b1, .int .i64 b2] 43 (0, 0)) ∧ Below wz.heap.size wz wx)
                  case first =>
                    have q0 := cell2_0 HMQ.out
                    have r0 := cell2_0 HM.out
                    have rf := cells_f HM.out 0
                    have hqR : q ≠ wz.heap.size := by omega
                    by_cases h : b1 < a1
                    · have e1 : decide (b1 < a1) = true := decide_eq_true h
                      go_wp2_with (fail)
                      go_meet
                      exact ⟨by rw [HF.out, if_pos h]; exact (set_at HM.out _).1, (Below.heap_setCell _ _ _ _ (by show q ≠ wz.heap.size; exact hqR)).trans HMQ.out, HMB.out.setCell hRle _⟩
                    · have e1 : decide (b1 < a1) = false := decide_eq_false h
                      go_wp2_with (fail)
                      go_meet
                      exact ⟨by rw [HF.out, if_neg (by omega)]; exact HM.out, HMQ.out, HMB.out⟩
                  obtain ⟨hm2, hq2', hb2'⟩ := hcut
                  obtain ⟨w9, hw9⟩ : ∃ w9 : World, w9 = wc := ⟨_, rfl⟩
                  subst hw9
                  have HM2 := Lib.hid hm2
                  have HMQ2 := Lib.hid hq2'
                  have HMB2 := Lib.hid hb2'
                  have q1 := cell2_1 hq2'
                  have r1 := cell2_1 hm2
                  clear hm2 hq2' hb2' HM HMQ HMB
                  go_upto_if 81 with (fail)
                  go_cut [] from 18 to 89 (fun wx => wx.heap[wz.heap.size]? = some (.cells #[.int .i64 f, .int .i64 u] 43 (0, 0)) ∧ Below wz.heap.size wz wx)
                  case first =>
                    have rf := cells_f HM2.out 1
                    by_cases h : a2 < b2
                    · have e1 : decide (a2 < b2) = true := decide_eq_true h
                      go_wp2_with (fail)
                      go_meet
                      exact ⟨by rw [HU.out, if_pos h]; exact (set_at HM2.out _).2, HMB2.out.setCell hRle _⟩
                    · have e1 : decide (a2 < b2) = false := decide_eq_false h
                      go_wp2_with (fail)
                      go_meet
                      exact ⟨by rw [HU.out, if_neg (by omega)]; exact HM2.out, HMB2.out⟩
                  obtain ⟨hm3, hb3⟩ := hcut
                  obtain ⟨wt, hwt⟩ : ∃ wt : World, wt = wc := ⟨_, rfl⟩
                  subst hwt
                  have r0 := cell2_0 hm3
                  have r1 := cell2_1 hm3
                  have HB3 : Hid (Below wy.heap.size wy wt) := Lib.hid (HBR.out.trans (hb3.mono hrz))
                  have HO3 := Lib.hid (own_low HO.out hb3)
                  have htz := HB3.out.size
                  have hRt := cell_lt hm3
                  clear q1 hm3 hb3 HM2 HMQ2 HMB2
                  go_wp2_with (first
                    | (go_at_call 29; refine (IH.out (A.length + 1) (by have := HSN.out; omega) wy.heap.size _ (A ++ [(f, u)]) _ (by simp) (WsAt.own (e := 43) (by rw [flat_snoc, List.length_append]; exact HO7.out)) (by simp; omega) HMG.out.2).mono ?_; rintro e w8 ⟨⟨v8, rfl, hv8⟩, hb8⟩)
                    | (at_builtin; refine wpList_append_own _ rfl _ _ 35 rfl wy.heap.size 43 i0 (.agg #[.int .i64 0, .int .i64 0]) 2 16 Tryd.underlying35 hi hq0 hq1 hq2 rfl (by decide) _ _ (flat A) rfl (HO3.out.alloc _) ⟨_, 0, none⟩ 1 1 [.int .i64 f, .int .i64 u] rfl rfl (cell_two_new _ _ _ _ _ rfl) (two_one _ _) (by unfold maxLen; omega) (by omega) (by simp <;> omega) ?_; intro v7 w7 hown7 hg7 _; have HO7 := Lib.hid hown7; have HB7 : Hid (Below wy.heap.size wy w7) := Lib.hid ((HB3.out.alloc (by omega) _).grown hg7 (by simp <;> omega) fun k hk => (HO3.out.lt k hk).1); clear hown7 hg7))
                  go_ret
                  have h7 := HB7.out.size
                  refine ⟨⟨_, rfl, ?_⟩, HB2.out.trans ((HBY.out.trans ((HB7.out.trans (hb8.mono (by omega))).mono hyz)).mono hwz)⟩
                  rw [← HMG.out.1]
                  exact hv8.low (by omega)
            · have e2 : decide (a2 ≤ b1) = true := decide_eq_true (by omega)
              have e4 : a2 ≤ b1 := by omega
              have e1 : decide (b2 ≤ a1) = false := decide_eq_false (by omega)
              have e3 : ¬ b2 ≤ a1 := by omega
              have HNV := Lib.hid h2
              clear h1 h2
              go_wp2
              go_roundw
              case rel => exact ⟨k + 1, by go_num, by omega, Lib.hid (fun k' hk' hlk => by
                rcases Nat.lt_or_ge k' k with h | h
                · exact HNK.out k' hk' h
                · obtain rfl : k' = k := by omega
                  rw [← HXA.out, ← HXB.out]
                  exact fun hov => HNV.out hov.2), HBY⟩
              case measure => simp [intOf]; omega
          · have e1 : decide (b2 ≤ a1) = true := decide_eq_true (by omega)
            have e3 : b2 ≤ a1 := by omega
            have HNV := Lib.hid h1
            clear h1
            go_wp2
            go_roundw
            case rel => exact ⟨k + 1, by go_num, by omega, Lib.hid (fun k' hk' hlk => by
              rcases Nat.lt_or_ge k' k with h | h
              · exact HNK.out k' hk' h
              · obtain rfl : k' = k := by omega
                rw [← HXA.out, ← HXB.out]
                exact fun hov => HNV.out hov.1), HBY⟩
            case measure => simp [intOf]; omega
        · obtain rfl : k = i := by omega
          go_wp2
          go_roundw
          case rel => exact ⟨k + 1, by go_num, by omega, Lib.hid (fun i' k' hi' hk' hlk => by
            rcases Nat.lt_or_ge i' k with h | h
            · exact HNO.out i' k' hi' hk' h
            · obtain rfl : i' = k := by omega
              exact HNK.out k' hk' hk'), HBQ⟩
          case measure => simp [intOf]; omega
    · obtain rfl : i = s.length := by omega
      have HE := Lib.hid (done_at HS.out HG.out HNO.out)
      have HW : Hid (WsAt wr w.heap.size (.slice sa s.length sc) (mrg l)) := Lib.hid (by
        have h1 : WsAt w2 w.heap.size (.slice sa s.length sc) s := ⟨sa, sc, rfl, hsc, HA.out⟩
        have h2 := h1.below HB.out
        rw [← HE.out]
        exact h2)
      go_wp2
      go_ret
      exact ⟨⟨_, rfl, HW.out⟩, HB2.out.trans (HB.out.mono hwz)⟩

theorem rmerge_any (B : Nat) (v : Value) (l : List Wn) (w : World) (h : WsAt w B v l) (hl : l.length ≤ 2000000) (hg : ∀ x ∈ l, GdW x) :
    Calls Tryd.prog 29 #[v] w fun e w' => WOut w.heap.size (mrg l) e w' ∧ Below w.heap.size w w' :=
  rmerge_n l.length B v l w rfl h hl hg

end Go.Proofs.YtofollamkcgknaaDoor
