/-
A slice of tries; the walk of PaneFires.
-/
import Derived.Test.YtkgomnegeacceaaPs
import Derived.Laws.AppendOwnNone
set_option linter.unusedVariables false
namespace Go.Proofs.Ytkgomnegeacceaa
open Go.RowKit

/-- A try: Timing, Last. -/
abbrev Tr := Int × Bool

/-- The value v is a slice that reads as the tries l. -/
def TsAt (w : World) (v : Value) (l : List Tr) : Prop :=
  ∃ a c, v = .slice a l.length c ∧ l.length ≤ c ∧ (0 < l.length → ∃ b o, a = some ⟨b, o, none⟩ ∧ b < w.heap.size ∧
    ∀ j x, l[j]? = some x → w.cell? ⟨b, o + j * 2, none⟩ = some (.int .i64 x.1) ∧ w.cell? ⟨b, o + j * 2 + 1, none⟩ = some (.bool x.2))

theorem isAt_own {w : World} {B : Nat} {e : TypeId} {v : Value} {l : List Inf} (h : w.ownsRow B e 3 v l.length (flat l)) : IsAt w (fun b => B ≤ b) v l := IsAt.own h

theorem grown_at {w w' : World} {row : Option Nat} {g : Nat} {o : Obj} (hg : w.grownBy w' row) (h : w.heap[g]? = some o) (hne : ∀ k, row = some k → k ≠ g) : w'.heap[g]? = some o :=
  (hg.block g (cell_lt h) (fun e => hne g e.symm rfl)).trans h

theorem list_one_new (w : World) (a b c : Value) (t : TypeId) (B : Nat) (hB : B = w.heap.size) : ∀ j u, [a, b, c][j]? = some u → (w.alloc (.cells #[a, b, c] t)).cell? ((⟨B, 0, none⟩ : Addr).add j) = some u := by
  subst hB
  intro j u hj
  match j, hj with
  | 0, hj => simp at hj; subst hj; simp [Addr.add]
  | 1, hj => simp at hj; subst hj; simp [Addr.add]
  | 2, hj => simp at hj; subst hj; simp [Addr.add]
  | j + 3, hj => simp at hj

theorem three_one (a b : Int) (c : Bool) : ∀ u ∈ [Value.int .i64 a, Value.int .i64 b, Value.bool c], u.oneCell' = true := by
  intro u hu
  simp at hu
  rcases hu with rfl | rfl | rfl <;> rfl

theorem Try.infoR : (Try.prog.info? 30).map (fun i => (i.zero, i.size, i.bytes)) = some (some (.agg #[.int .i64 0, .int .i64 0, .bool false]), 3, 24) := by kernel_rfl


theorem follows_yes (S : Nat → Prop) (v : Value) (l : List Inf) (n t : Int) (b : Bool) (w : World) (h : IsAt w S v l) (hl : l.length ≤ 4611686018427387900) (hf : FolR l (n, t, b)) :
    Calls Try.prog 10 #[v, .agg #[.int .i64 n, .int .i64 t, .bool b]] w fun e w' => e = .returned (.bool true) ∧ Below w.heap.size w w' :=
  (follows_any S v l n t b w h hl).mono fun e w' ⟨⟨q, he, hq⟩, hb⟩ => ⟨by rw [he, hq.2 hf], hb⟩

theorem follows_no (S : Nat → Prop) (v : Value) (l : List Inf) (n t : Int) (b : Bool) (w : World) (h : IsAt w S v l) (hl : l.length ≤ 4611686018427387900) (hf : ¬ FolR l (n, t, b)) :
    Calls Try.prog 10 #[v, .agg #[.int .i64 n, .int .i64 t, .bool b]] w fun e w' => e = .returned (.bool false) ∧ Below w.heap.size w w' :=
  (follows_any S v l n t b w h hl).mono fun e w' ⟨⟨q, he, hq⟩, hb⟩ => ⟨by rw [he]; cases q with | false => rfl | true => exact absurd (hq.1 rfl) hf, hb⟩

set_option maxRecDepth 100000 in
set_option maxHeartbeats 2000000 in
theorem fires_long (v : Value) (l : List Tr) (w : World) (h : TsAt w v l) (hl : 500 < l.length) (hl2 : l.length ≤ 9223372036854775807) :
    Calls Try.prog 3 #[v] w fun e w' => e = .returned (.bool true) ∧ Below w.heap.size w w' := by
  obtain ⟨a, c, rfl, hlc, _⟩ := h
  have hd : decide ((500 : Int) < (l.length : Int)) = true := decide_eq_true (by omega)
  go_enter Try.func3, Try.ntmps3
  go_wp2_with (first
    | (go_at_call 7; refine (new_any _).mono ?_; rintro e w1 ⟨rfl, rfl⟩)
    | (go_at_call 8; refine (awake_any _).mono ?_; rintro e wc ⟨rfl, hbc⟩))
  go_ret
  exact ⟨rfl, ((Below.refl _ w).alloc (Nat.le_refl _) _).trans (hbc.mono (by simp))⟩

set_option maxRecDepth 100000 in
set_option maxHeartbeats 4000000 in
theorem fires_short (v : Value) (l : List Tr) (w : World) (h : TsAt w v l) (hl : l.length ≤ 500) :
    Calls Try.prog 3 #[v] w fun e w' => e = .returned (.bool true) ∧ Below w.heap.size w w' := by
  obtain ⟨i0, hi, hq0, hq1, hq2⟩ := info_parts Try.infoR
  obtain ⟨a, c, rfl, hlc, hA⟩ := h
  have HA := Lib.hid hA
  clear hA
  have hd : decide ((500 : Int) < (l.length : Int)) = false := decide_eq_false (by omega)
  go_enter Try.func3, Try.ntmps3
  go_wp2_with (go_at_call 7; refine (new_any _).mono ?_; rintro e w1 ⟨rfl, rfl⟩)
  go_loopw [4, 25] (fun dv iv wr => ∃ (j : Nat) (d : List Inf), iv = .int .i64 (j : Int) ∧ j ≤ l.length ∧ d.length ≤ j ∧ Hid (GdL d) ∧ Hid (wr.ownsRow (w.heap.size + 1) 30 3 dv d.length (flat d)) ∧ Hid (Ln wr w.heap.size d.length (stgL d)) ∧ Hid (Below w.heap.size w wr)) (fun _ iv _ => l.length - (intOf iv).toNat)
  case atStart => exact ⟨0, [], rfl, Nat.zero_le _, Nat.le_refl _, Lib.hid .nil, Lib.hid (World.ownsRow_nil _ _ _ _), Lib.hid (heap_alloc_new w _), Lib.hid ((Below.refl _ _).alloc (Nat.le_refl _) _)⟩
  case round =>
    obtain ⟨j, d, rfl, hj, hdj, HG, HO, HLN, HB⟩ := hrel
    have hsr := HB.out.size
    have hgr : w.heap.size < wr.heap.size := cell_lt HLN.out
    obtain ⟨Av, cv, rfl⟩ := own_slice HO.out
    by_cases hlt : j < l.length
    · obtain ⟨b, o, rfl, hb2, hcells⟩ := HA.out (by omega)
      have hx := List.getElem?_eq_getElem hlt
      obtain ⟨c0, c1⟩ := hcells j _ hx
      generalize l[j] = x at *
      obtain ⟨t, q⟩ := x
      dsimp only at c0 c1
      have c0 := (HB.out.cell (p := ⟨b, o + j * 2, none⟩) hb2).trans c0
      have c1 := (HB.out.cell (p := ⟨b, o + j * 2 + 1, none⟩) hb2).trans c1
      have hbr : b < wr.heap.size := by omega
      have hj0' : (0 : Int) ≤ (j : Int) := by omega
      have hj1' : (j : Int) < (l.length : Int) := by omega
      clear hx hcells
      have HF : Hid (FolR d ((d.length : Int), t, q) ↔ okF (stgL d) t) := Lib.hid ((fol_iff HG.out _).trans ⟨fun h => h.2, fun h => ⟨rfl, h⟩⟩)
      go_upto_region 9 with (fail)
      have hA6 : ((wr.alloc (.cells #[.int .i64 t, .bool q] 28)).alloc (.cells #[.int .i64 (d.length : Int), .int .i64 t, .bool q] 30)).heap[wr.heap.size]? = some (.cells #[.int .i64 t, .bool q] 28 (0, 0)) := heap_alloc_some (heap_alloc_new wr _)
      have hB7 : ((wr.alloc (.cells #[.int .i64 t, .bool q] 28)).alloc (.cells #[.int .i64 (d.length : Int), .int .i64 t, .bool q] 30)).heap[wr.heap.size + 1]? = some (.cells #[.int .i64 (d.length : Int), .int .i64 t, .bool q] 30 (0, 0)) := heap_new_at (by simp)
      have hLW : Ln ((wr.alloc (.cells #[.int .i64 t, .bool q] 28)).alloc (.cells #[.int .i64 (d.length : Int), .int .i64 t, .bool q] 30)) w.heap.size d.length (stgL d) := heap_alloc_some (heap_alloc_some HLN.out)
      have hOW := (HO.out.alloc (.cells #[.int .i64 t, .bool q] 28)).alloc (.cells #[.int .i64 (d.length : Int), .int .i64 t, .bool q] 30)
      have hBW : Below w.heap.size w ((wr.alloc (.cells #[.int .i64 t, .bool q] 28)).alloc (.cells #[.int .i64 (d.length : Int), .int .i64 t, .bool q] 30)) := (HB.out.alloc hsr _).alloc (by simp; omega) _
      have hWs : wr.heap.size < ((wr.alloc (.cells #[.int .i64 t, .bool q] 28)).alloc (.cells #[.int .i64 (d.length : Int), .int .i64 t, .bool q] 30)).heap.size := by simp; omega
      generalize (wr.alloc (.cells #[.int .i64 t, .bool q] 28)).alloc (.cells #[.int .i64 (d.length : Int), .int .i64 t, .bool q] 30) = W at hA6 hB7 hLW hOW hBW hWs ⊢
      have a0 := cell2_0 hA6
      have a1 := cell2_1 hA6
      have HB7 := Lib.hid hB7
      have HLW := Lib.hid hLW
      have HOW := Lib.hid hOW
      have HBW := Lib.hid hBW
      have hlW := cell_lt hLW
      clear hA6 hB7 hLW hOW hBW c0 c1
      have hgu := fun w' => Try.guardI .neq w'
      have hgr' := fun w' => Try.guardR .neq w'
      by_cases hok : okF (stgL d) t
      · have HOK := Lib.hid hok
        have HFR : Hid (FolR d ((d.length : Int), t, q)) := Lib.hid (HF.out.2 hok)
        clear hok
        have HC := Lib.hid (fire_yes w.heap.size d.length (stgL d) t q W HLW.out (by omega) (by omega) HOK.out)
        have hne : ∀ w', (binOp .neq 30 (.agg #[.int .i64 (d.length : Int), .int .i64 t, .bool q]) (.agg #[.int .i64 (d.length : Int), .int .i64 t, .bool q])).run Try.prog w' = .ok (.bool false) w' := fun w' => by rw [Try.neqR]; simp
        go_upto_region 15 with (first
          | (go_at_call 9; (with_reducible refine HC.out.mono ?_); rintro e w2 ⟨rfl, hl2, ho2⟩; have HOL := Lib.hid ho2; have HL2 := Lib.hid hl2; have hB7 := ho2.at HB7.out (by omega); have HB72 := Lib.hid hB7; have b0 := cell3_0 hB7; have b1 := cell3_1 hB7; have b2 := cell3_2 hB7; have hbl := cell_lt hB7; have hOW2 := own_only HOW.out ho2 (by omega); have HOW2 := Lib.hid hOW2; have HFO := Lib.hid (follows_yes _ _ d (d.length : Int) t q (w2.alloc (.cells #[.int .i64 (d.length : Int), .int .i64 t, .bool q] 31)) (IsAt.own (hOW2.alloc _)) (by omega) HFR.out); clear hl2 ho2 hB7 hOW2)
          | (go_at_call 10; (with_reducible refine HFO.out.mono ?_); rintro e w3 ⟨rfl, hb3⟩; have hC8 := (hb3.block w2.heap.size (by simp)).trans (heap_alloc_new w2 _); have hB7 := (hb3.block (wr.heap.size + 1) (by simp; omega)).trans (heap_alloc_some HB72.out); have e0 := cell3_0 hC8; have e1 := cell3_1 hC8; have e2 := cell3_2 hC8; have f0 := cell3_0 hB7; have f1 := cell3_1 hB7; have f2 := cell3_2 hB7; have hz3 := cell_lt hC8; have hz7 := cell_lt hB7; have HB3 := Lib.hid hb3; clear hC8 hB7 hb3))
        have HO3 : Hid (w3.ownsRow (w.heap.size + 1) 30 3 (.slice Av d.length cv) d.length (flat d)) := Lib.hid (own_low (HOW2.out.alloc _) HB3.out)
        have HL3 : Hid (Ln w3 w.heap.size ((d.length : Int) + 1) (stF t q)) := Lib.hid ((HB3.out.block _ (by have := cell_lt HL2.out; simp; omega)).trans (heap_alloc_some HL2.out))
        have HBW3 : Hid (Below w.heap.size w w3) := Lib.hid ((HBW.out.trans (HOL.out.below (Nat.le_refl _) (by omega))).trans (((Below.refl _ w2).alloc (by have := HOL.out.size; omega) _).trans (HB3.out.mono (by have := HOL.out.size; simp; omega))))
        have HN : Hid (GdL (d ++ [((d.length : Int), t, q)]) ∧ stgL (d ++ [((d.length : Int), t, q)]) = stF t q) := Lib.hid ⟨.snoc HG.out ((fol_iff HG.out _).1 HFR.out), stgL_snoc _ _⟩
        have hs3 := HBW3.out.size
        clear HC HOL HL2 HB72 HOW2 HFO HB3 HOW HLW HBW HB7 hne e0 e1 e2 hz3
        go_upto_region 16 with (at_builtin; refine wpList_append_own _ rfl _ _ 26 rfl (w.heap.size + 1) 30 i0 (.agg #[.int .i64 0, .int .i64 0, .bool false]) 3 24 Try.underlying26 hi hq0 hq1 hq2 rfl (by decide) _ _ (flat d) rfl (HO3.out.alloc _) ⟨w3.heap.size, 0, none⟩ 1 1 [.int .i64 (d.length : Int), .int .i64 t, .bool q] rfl rfl (list_one_new _ _ _ _ _ _ rfl) (three_one _ _ _) (by unfold maxLen; omega) (by omega) (by simp <;> omega) ?_; intro v' w7 hown7 hg7 _)
        have hown8 : w7.ownsRow (w.heap.size + 1) 30 3 v' (d ++ [((d.length : Int), t, q)]).length (flat (d ++ [((d.length : Int), t, q)])) := by
          rw [flat_snoc, List.length_append]
          exact hown7
        have HL7 : Hid (Ln w7 w.heap.size ((d.length : Int) + 1) (stF t q)) := Lib.hid (grown_at hg7 (heap_alloc_some HL3.out) fun k hk e => by have := (HO3.out.lt k hk).1; omega)
        have HB7 : Hid (Below w.heap.size w w7) := Lib.hid ((HBW3.out.alloc hs3 _).grown hg7 (by simp; omega) fun k hk => by have := (HO3.out.lt k hk).1; omega)
        have HO8 := Lib.hid hown8
        have HIA := Lib.hid (IsAt.own hown8)
        have hlen : (d ++ [((d.length : Int), t, q)]).length = d.length + 1 := by simp
        have HLEN := Lib.hid hlen
        obtain ⟨A7, c7, hv7⟩ := own_slice hown8
        rw [hlen] at hv7
        subst hv7
        have HNX := Lib.hid (next_any w.heap.size _ _ w7 HL7.out)
        have HST := Lib.hid (stage_any w.heap.size _ _ w7 HL7.out)
        have HRS := Lib.hid (rstage_any _ _ _ w7 HIA.out (by omega) HN.out.1)
        rw [HN.out.2] at HRS
        clear hown7 hown8 hg7 hlen b0 b1 b2 f0 f1 f2
        generalize stF t q = z at *
        go_wp2_with (first
          | (go_at_call 11; (with_reducible refine HNX.out.mono ?_); rintro e wx ⟨rfl, rfl⟩)
          | (go_at_call 12; (with_reducible refine HST.out.mono ?_); rintro e wx ⟨rfl, rfl⟩)
          | (go_at_call 13; (with_reducible refine HRS.out.mono ?_); rintro e wx ⟨rfl, rfl⟩))
        go_roundw
        case rel => exact ⟨j + 1, d ++ [((d.length : Int), t, q)], by go_num, by omega, by have := HLEN.out; omega, Lib.hid HN.out.1, HO8, Lib.hid (by rw [HN.out.2, HLEN.out]; exact HL7.out), HB7⟩
        case measure => simp [intOf]; omega
      · have HOK := Lib.hid hok
        have HFR : Hid (¬ FolR d ((d.length : Int), t, q)) := Lib.hid (fun h => hok (HF.out.1 h))
        clear hok
        have HC := Lib.hid (fire_no w.heap.size d.length (stgL d) t q W HLW.out HOK.out)
        have hne : ∀ w', (binOp .neq 31 (.agg #[.int .i64 0, .int .i64 0, .bool false]) (.agg #[.int .i64 0, .int .i64 0, .bool false])).run Try.prog w' = .ok (.bool false) w' := fun w' => by rw [Try.neqI]; rfl
        go_wp2_with (first
          | (go_at_call 9; (with_reducible refine HC.out.mono ?_); rintro e w2 ⟨rfl, hb2⟩; have HB2 := Lib.hid hb2; have hB7 := (hb2.block _ (cell_lt HB7.out)).trans HB7.out; have HB72 := Lib.hid hB7; have b0 := cell3_0 hB7; have b1 := cell3_1 hB7; have b2 := cell3_2 hB7; have hbl := cell_lt hB7; have hOW2 := own_low HOW.out hb2; have HOW2 := Lib.hid hOW2; have HFO := Lib.hid (follows_no _ _ d (d.length : Int) t q (w2.alloc (.cells #[.int .i64 0, .int .i64 0, .bool false] 31)) (IsAt.own (hOW2.alloc _)) (by omega) HFR.out); clear hb2 hB7 hOW2)
          | (go_at_call 10; (with_reducible refine HFO.out.mono ?_); rintro e w3 ⟨rfl, hb3⟩; have hC8 := (hb3.block w2.heap.size (by simp)).trans (heap_alloc_new w2 _); have e0 := cell3_0 hC8; have e1 := cell3_1 hC8; have e2 := cell3_2 hC8; have hz3 := cell_lt hC8; have HB3 := Lib.hid hb3; clear hC8 hb3))
        go_roundw
        case rel =>
          have hsz := HB2.out.size
          have hBW3 : Below W.heap.size W w3 := (HB2.out.alloc hsz _).trans (HB3.out.mono (by simp; omega))
          exact ⟨j + 1, d, by go_num, by omega, by omega, HG, Lib.hid (own_low HOW.out hBW3), Lib.hid ((hBW3.block _ (cell_lt HLW.out)).trans HLW.out), Lib.hid (HBW.out.trans (hBW3.mono (by omega)))⟩
        case measure => simp [intOf]; omega
    · obtain rfl : j = l.length := by omega
      have HNX := Lib.hid (next_any w.heap.size _ _ wr HLN.out)
      go_wp2_with (first
        | (go_at_call 11; (with_reducible refine HNX.out.mono ?_); rintro e wx ⟨rfl, rfl⟩)
        | (go_at_call 8; refine (awake_any _).mono ?_; rintro e wc ⟨rfl, hbc⟩))
      go_ret
      exact ⟨rfl, HB.out.trans (hbc.mono hsr)⟩

end Go.Proofs.Ytkgomnegeacceaa
