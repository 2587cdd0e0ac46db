/-
The walk of PaneRight.
-/
import Derived.Test.YtkgomnegeacceaaPc
set_option linter.unusedVariables false
namespace Go.Proofs.Ytkgomnegeacceaa
open Go.RowKit

theorem step_append_any {P : Program} {w : World} {ops : Array Oper} {o : Oper} {a : Act} {K : Act → World → Prop} {Q : Exit → Act → World → Prop} {E : Prop} (hgd : o.guard = none) (s x : Operand) (t : TypeId)
    (ho : o.op = .call { callee := .builtin .append, args := #[s, x], argTypes := #[t, t] })
    (base : Nat) (e : TypeId) (i : TypeInfo) (z : Value) (size bytes : Nat) (ht : P.underlying t = some (.slice e)) (hi : P.info? e = some i) (hz : i.zero = some z)
    (hsize : i.size = size) (hby : i.bytes = bytes) (hzs : z.cells.size = size) (hsz : 0 < size)
    (v : Value) (n : Nat) (xs : List Value) (hs : a.eval s = v) (hown : w.ownsRow base e size v n xs)
    (ad : Addr) (m c : Nat) (news : List Value) (hx : a.eval x = .slice (some ad) m c) (hl : news.length = m * size) (hnews : ∀ j u, news[j]? = some u → w.cell? (ad.add j) = some u) (h1 : ∀ u ∈ news, u.oneCell' = true)
    (h63 : n + m ≤ maxLen) (hbytes : (n + m) * bytes ≤ 140737488355328) (hbase : base ≤ w.heap.size)
    (h : ∀ v' w', w'.ownsRow base e size v' (n + m) (xs ++ news) → w.grownBy w' v.ownBlock → (v' = .slice none 0 0 ↔ v = .slice none 0 0 ∧ m = 0) → K (a.put o.dst v') w') :
    if Region.wanted o (yielded ops a.tmps) = true then Oper.wp P o a w K Q else E := by
  have hw : Region.wanted o (yielded ops a.tmps) = true := by simp [Region.wanted, hgd]
  rw [if_pos hw]
  exact wp_append_own w s x t ho base e i z size bytes ht hi hz hsize hby hzs hsz v n xs hs hown ad m c news hx hl hnews h1 h63 hbytes hbase h

theorem flat_append (a b : List Inf) : flat (a ++ b) = flat a ++ flat b := by simp [flat]

theorem flat_take (d : List Inf) (k j : Nat) (u : Value) (h : (flat (d.take k))[j]? = some u) : (flat d)[j]? = some u := by
  have e : flat d = flat (d.take k) ++ flat (d.drop k) := by rw [← flat_append, List.take_append_drop]
  rw [e, List.getElem?_append_left (List.getElem?_eq_some_iff.1 h).1]
  exact h

theorem flat_drop (d : List Inf) (k j : Nat) (u : Value) (hk : k ≤ d.length) (h : (flat (d.drop k))[j]? = some u) : (flat d)[k * 3 + j]? = some u := by
  have e : flat d = flat (d.take k) ++ flat (d.drop k) := by rw [← flat_append, List.take_append_drop]
  have hl : (flat (d.take k)).length = k * 3 := by rw [flat_length, List.length_take, Nat.min_eq_left hk]
  rw [e, List.getElem?_append_right (by omega), hl, Nat.add_sub_cancel_left]
  exact h

theorem drop_cells {w : World} {B e gd cv k : Nat} {d : List Inf} (h : w.ownsRow B e 3 (.slice (some ⟨gd, 0, none⟩) d.length cv) d.length (flat d)) (hk : k ≤ d.length) : ∀ j u, (flat (d.drop k))[j]? = some u → w.cell? ((⟨gd, k * 3, none⟩ : Addr).add j) = some u := fun j u hj => by
  have := h.cells (g := gd) rfl _ u (flat_drop d k j u hk hj)
  rw [addr_add] at this ⊢
  rwa [Nat.zero_add] at this

/-- What is all right, is found so. -/
theorem chk_right {d : List Inf} (h : GdL d) {e : Ending} (he : ChkOut d e) : e = .returned (.tuple #[.int .i64 d.length, .int .i64 0]) := by
  rcases he with ⟨he, _⟩ | ⟨k, x, hx, _, hn, _⟩
  · exact he
  · exact absurd (gd_at h k x hx).2 hn

/-- With one left out in the middle it is found there. -/
theorem chk_less {d : List Inf} (h : GdL d) {k : Nat} (hk : k + 1 < d.length) {e : Ending} (he : ChkOut (d.take k ++ d.drop (k + 1)) e) : e = .returned (.tuple #[.int .i64 (k : Int), .int .i64 90]) := by
  have hlt : (d.take k).length = k := by rw [List.length_take, Nat.min_eq_left (by omega)]
  have hat : (d.take k ++ d.drop (k + 1))[k]? = some d[k + 1] := by
    rw [List.getElem?_append_right (by omega), hlt, Nat.sub_self, List.getElem?_drop]
    exact List.getElem?_eq_getElem hk
  have hix : (d[k + 1]).1 = ((k + 1 : Nat) : Int) := by
    have := (gd_at h (k + 1) _ (List.getElem?_eq_getElem hk)).2.1
    rw [List.length_take, Nat.min_eq_left (by omega)] at this
    exact this
  have hno : ∀ l : List Inf, l.take k ++ [] = l.take k := fun l => List.append_nil _
  have htk : (d.take k ++ d.drop (k + 1)).take k = d.take k := by rw [List.take_append_of_le_length (by omega), List.take_of_length_le (by omega)]
  have hbad : ¬ Fol ((d.take k ++ d.drop (k + 1)).take k) d[k + 1] := fun hf => by
    have := hf.1
    rw [htk, hlt, hix] at this
    omega
  rcases he with ⟨_, hg⟩ | ⟨i, x, hx, hg, hn, he⟩
  · exact absurd (gd_at hg k _ hat).2 hbad
  · rcases Nat.lt_trichotomy i k with hi | hi | hi
    · exfalso
      apply hn
      have hx' : d[i]? = some x := by
        rw [List.getElem?_append_left (by omega), List.getElem?_take_of_lt hi] at hx
        exact hx
      have := (gd_at h i x hx').2
      rw [List.take_append_of_le_length (by omega), List.take_take, Nat.min_eq_left (by omega)]
      exact this
    · subst hi; exact he
    · exfalso
      have hat' : ((d.take k ++ d.drop (k + 1)).take i)[k]? = some d[k + 1] := by rw [List.getElem?_take_of_lt hi]; exact hat
      have := (gd_at hg k _ hat').2
      rw [List.take_take, Nat.min_eq_left (by omega)] at this
      exact hbad this

set_option maxRecDepth 100000 in
set_option maxHeartbeats 2000000 in
theorem right_long (v : Value) (l : List Tr) (n : Int) (w : World) (h : TsAt w v l) (hl : 500 < l.length) (hl2 : l.length ≤ 9223372036854775807) :
    Calls Try.prog 5 #[v, .int .i64 n] w fun e w' => e = .returned (.bool true) ∧ Below w.heap.size w w' := by
  obtain ⟨a, c, rfl, hlc, _⟩ := h
  have hd : decide ((500 : Int) < (l.length : Int)) = true := decide_eq_true (by omega)
  go_enter Try.func5, Try.ntmps5
  go_wp2_with (first
    | (go_at_call 7; refine (new_any _).mono ?_; rintro e w1 ⟨rfl, rfl⟩)
    | (go_at_call 8; refine (awake_any _).mono ?_; rintro e wc ⟨rfl, hbc⟩))
  go_ret
  exact ⟨rfl, ((Below.refl _ w).alloc (Nat.le_refl _) _).trans (hbc.mono (by simp))⟩

set_option maxRecDepth 100000 in
set_option maxHeartbeats 4000000 in
theorem right_short (v : Value) (l : List Tr) (n : Int) (w : World) (h : TsAt w v l) (hl : l.length ≤ 500) (hn1 : -9223372036854775808 ≤ n) (hn2 : n ≤ 9223372036854775807) :
    Calls Try.prog 5 #[v, .int .i64 n] w fun e w' => e = .returned (.bool true) ∧ Below w.heap.size w w' := by
  obtain ⟨i0, hi, hq0, hq1, hq2⟩ := info_parts Try.infoI
  obtain ⟨a, c, rfl, hlc, hA⟩ := h
  have HA := Lib.hid hA
  clear hA
  have hd : decide ((500 : Int) < (l.length : Int)) = false := decide_eq_false (by omega)
  go_enter Try.func5, Try.ntmps5
  go_wp2_with (go_at_call 7; refine (new_any _).mono ?_; rintro e w1 ⟨rfl, rfl⟩)
  go_loopw [6, 31] (fun dv iv wr => ∃ (j : Nat) (d : List Inf), iv = .int .i64 (j : Int) ∧ j ≤ l.length ∧ d.length ≤ j ∧ Hid (GdL d) ∧ Hid (wr.ownsRow (w.heap.size + 1) 31 3 dv d.length (flat d)) ∧ Hid (Ln wr w.heap.size d.length (stgL d)) ∧ Hid (Below w.heap.size w wr)) (fun _ iv _ => l.length - (intOf iv).toNat)
  case atStart => exact ⟨0, [], rfl, Nat.zero_le _, Nat.le_refl _, Lib.hid .nil, Lib.hid (World.ownsRow_nil _ _ _ _), Lib.hid (heap_alloc_new w _), Lib.hid ((Below.refl _ _).alloc (Nat.le_refl _) _)⟩
  case round =>
    obtain ⟨j, d, rfl, hj, hdj, HG, HO, HLN, HB⟩ := hrel
    have hsr := HB.out.size
    have hgr : w.heap.size < wr.heap.size := cell_lt HLN.out
    obtain ⟨Av, cv, rfl⟩ := own_slice HO.out
    by_cases hlt : j < l.length
    · obtain ⟨b, o, rfl, hb2, hcells⟩ := HA.out (by omega)
      have hx := List.getElem?_eq_getElem hlt
      obtain ⟨c0, c1⟩ := hcells j _ hx
      generalize l[j] = x at *
      obtain ⟨t, q⟩ := x
      dsimp only at c0 c1
      have c0 := (HB.out.cell (p := ⟨b, o + j * 2, none⟩) hb2).trans c0
      have c1 := (HB.out.cell (p := ⟨b, o + j * 2 + 1, none⟩) hb2).trans c1
      have hbr : b < wr.heap.size := by omega
      have hj0' : (0 : Int) ≤ (j : Int) := by omega
      have hj1' : (j : Int) < (l.length : Int) := by omega
      clear hx hcells
      go_upto_region 8 with (fail)
      have hA6 : (wr.alloc (.cells #[.int .i64 t, .bool q] 28)).heap[wr.heap.size]? = some (.cells #[.int .i64 t, .bool q] 28 (0, 0)) := heap_alloc_new wr _
      have hLW : Ln (wr.alloc (.cells #[.int .i64 t, .bool q] 28)) w.heap.size d.length (stgL d) := heap_alloc_some HLN.out
      have hOW := HO.out.alloc (.cells #[.int .i64 t, .bool q] 28)
      have hBW : Below w.heap.size w (wr.alloc (.cells #[.int .i64 t, .bool q] 28)) := HB.out.alloc hsr _
      have hWs : wr.heap.size < (wr.alloc (.cells #[.int .i64 t, .bool q] 28)).heap.size := by simp
      generalize wr.alloc (.cells #[.int .i64 t, .bool q] 28) = W at hA6 hLW hOW hBW hWs ⊢
      have a0 := cell2_0 hA6
      have a1 := cell2_1 hA6
      have HLW := Lib.hid hLW
      have HOW := Lib.hid hOW
      have HBW := Lib.hid hBW
      have hlW := cell_lt hLW
      clear hA6 hLW hOW hBW c0 c1
      by_cases hok : okF (stgL d) t
      · have HOK := Lib.hid hok
        have HN : Hid (GdL (d ++ [((d.length : Int), t, q)]) ∧ stgL (d ++ [((d.length : Int), t, q)]) = stF t q) := Lib.hid ⟨.snoc HG.out ⟨rfl, hok⟩, stgL_snoc _ _⟩
        have HC := Lib.hid (fire_yes w.heap.size d.length (stgL d) t q W HLW.out (by omega) (by omega) hok)
        clear hok
        go_wp2_with (first
          | (go_at_call 9; (with_reducible refine HC.out.mono ?_); rintro e w2 ⟨rfl, hl2, ho2⟩; have HOL := Lib.hid ho2; have HL2 := Lib.hid hl2; have hOW2 := own_only HOW.out ho2 (by omega); have HOW2 := Lib.hid hOW2; have hsz2 := ho2.size; have HB2 : Hid (Below w.heap.size w w2) := Lib.hid (HBW.out.trans (ho2.below (Nat.le_refl _) (by omega))); clear hl2 ho2 hOW2)
          | (at_builtin; refine wpList_append_own _ rfl _ _ 39 rfl (w.heap.size + 1) 31 i0 (.agg #[.int .i64 0, .int .i64 0, .bool false]) 3 24 Try.underlying39 hi hq0 hq1 hq2 rfl (by decide) _ _ (flat d) rfl ((HOW2.out.alloc _).alloc _) ⟨w2.heap.size + 1, 0, none⟩ 1 1 [.int .i64 (d.length : Int), .int .i64 t, .bool q] rfl rfl (list_one_new _ _ _ _ _ _ (by simp)) (three_one _ _ _) (by unfold maxLen; omega) (by omega) (by simp <;> omega) ?_; intro v' w7 hown7 hg7 _))
        have hown8 : w7.ownsRow (w.heap.size + 1) 31 3 v' (d ++ [((d.length : Int), t, q)]).length (flat (d ++ [((d.length : Int), t, q)])) := by
          rw [flat_snoc, List.length_append]
          exact hown7
        have HO8 := Lib.hid hown8
        have HL7 : Hid (Ln w7 w.heap.size ((d.length : Int) + 1) (stF t q)) := Lib.hid (grown_at hg7 (heap_alloc_some (heap_alloc_some HL2.out)) fun k hk e => by have := (HOW2.out.lt k hk).1; omega)
        have HB7 : Hid (Below w.heap.size w w7) := Lib.hid (((HB2.out.alloc (by omega) _).alloc (by simp; omega) _).grown hg7 (by simp; omega) fun k hk => by have := (HOW2.out.lt k hk).1; omega)
        have HLEN : Hid ((d ++ [((d.length : Int), t, q)]).length = d.length + 1) := Lib.hid (by simp)
        clear hown7 hown8 hg7
        go_roundw
        case rel => exact ⟨j + 1, d ++ [((d.length : Int), t, q)], by go_num, by omega, by have := HLEN.out; omega, Lib.hid HN.out.1, HO8, Lib.hid (by rw [HN.out.2, HLEN.out]; exact HL7.out), HB7⟩
        case measure => simp [intOf]; omega
      · have HOK := Lib.hid hok
        clear hok
        have HC := Lib.hid (fire_no w.heap.size d.length (stgL d) t q W HLW.out HOK.out)
        go_wp2_with (first
          | (go_at_call 9; (with_reducible refine HC.out.mono ?_); rintro e w2 ⟨rfl, hb2⟩; have HB2 := Lib.hid hb2; clear hb2))
        go_roundw
        case rel =>
          have hsz := HB2.out.size
          exact ⟨j + 1, d, by go_num, by omega, by omega, HG, Lib.hid ((own_low HOW.out HB2.out).alloc _), Lib.hid (heap_alloc_some ((HB2.out.block _ (cell_lt HLW.out)).trans HLW.out)), Lib.hid ((HBW.out.trans (HB2.out.mono (by omega))).alloc (by omega) _)⟩
        case measure => simp [intOf]; omega
    · obtain rfl : j = l.length := by omega
      have HCK := Lib.hid (check_any _ _ d wr (IsAt.own HO.out) (by omega))
      by_cases ho : n < 0 ∨ (d.length : Int) - 1 ≤ n
      · have hw1 : IntKind.i64.wrap ((d.length : Int) - 1) = (d.length : Int) - 1 := IntWalk.i64_in _ (by omega)
        by_cases hn0 : n < 0
        · have d0 : decide (n < 0) = true := decide_eq_true hn0
          clear ho
          go_wp2_with (first
            | (go_at_call 14; (with_reducible refine HCK.out.mono ?_); rintro e w2 ⟨he, hb⟩; obtain rfl := chk_right HG.out he; have HB2 : Hid (Below w.heap.size w w2) := Lib.hid (HB.out.trans (hb.mono hsr)); clear he hb)
            | (go_at_call 8; refine (awake_any _).mono ?_; rintro e wc ⟨rfl, hbc⟩))
          go_ret
          exact ⟨rfl, HB2.out.trans (hbc.mono HB2.out.size)⟩
        · have d0 : decide (n < 0) = false := decide_eq_false hn0
          have d1 : decide ((d.length : Int) - 1 ≤ n) = true := decide_eq_true (by omega)
          clear ho
          go_wp2_with (first
            | (go_at_call 14; (with_reducible refine HCK.out.mono ?_); rintro e w2 ⟨he, hb⟩; obtain rfl := chk_right HG.out he; have HB2 : Hid (Below w.heap.size w w2) := Lib.hid (HB.out.trans (hb.mono hsr)); clear he hb)
            | (go_at_call 8; refine (awake_any _).mono ?_; rintro e wc ⟨rfl, hbc⟩))
          go_ret
          exact ⟨rfl, HB2.out.trans (hbc.mono HB2.out.size)⟩
      · obtain ⟨k, rfl⟩ : ∃ k : Nat, n = (k : Int) := ⟨n.toNat, by omega⟩
        have hk : k + 1 < d.length := by omega
        have hw1 : IntKind.i64.wrap ((d.length : Int) - 1) = (d.length : Int) - 1 := IntWalk.i64_in _ (by omega)
        have hw2 : IntKind.i64.wrap ((k : Int) + 1) = (k : Int) + 1 := IntWalk.i64_in _ (by omega)
        have d0 : decide ((k : Int) < 0) = false := decide_eq_false (by omega)
        have d1 : decide ((d.length : Int) - 1 ≤ (k : Int)) = false := decide_eq_false (by omega)
        obtain ⟨gd, cap, hv, hg0, hg1, hlc2⟩ := own_form HO.out (by omega)
        injection hv with e1 e2 e3
        subst e1; subst e3
        clear ho e2
        go_upto_region 17 with (first
          | (go_at_call 14; (with_reducible refine HCK.out.mono ?_); rintro e w2 ⟨he, hb⟩; obtain rfl := chk_right HG.out he; have HB2 : Hid (Below w.heap.size w w2) := Lib.hid (HB.out.trans (hb.mono hsr)); have HO2 := Lib.hid (own_low HO.out hb); have hsz2 := hb.size; clear he hb))
        have z0 : (0 : Int) ≤ (k : Int) := by omega
        have z1 : (k : Int) ≤ (cv : Int) := by omega
        have z2 : (0 : Int) ≤ (k : Int) + 1 := by omega
        have z3 : (k : Int) + 1 ≤ (d.length : Int) := by omega
        have z4 : (d.length : Int) ≤ (cv : Int) := by omega
        have z5 : ¬ cv = k + 1 := by omega
        have z6 : ¬ cv = k := by omega
        have z7 : k ≤ cv := by omega
        have hs2 := HB2.out.size
        have HNW1 : Hid (∀ j u, (flat (d.take k))[j]? = some u → (w2.alloc (.cells #[] 31)).drew.cell? ((⟨gd, 0, none⟩ : Addr).add j) = some u) := Lib.hid (fun j u hj => cell_drew_some (cell_alloc_some (HO2.out.cells (g := gd) rfl j u (flat_take d k j u hj))))
        have HBA : Hid (Below w.heap.size w (w2.alloc (.cells #[] 31)).drew) := Lib.hid (HB2.out.alloc hs2 _).drew
        have HOA := Lib.hid (HO2.out.alloc (.cells #[] 31)).drew
        have HOE := Lib.hid (World.ownsRow_made (base := w.heap.size + 1) (e := 31) (size := 3) w2 #[] 0 (by omega) (Nat.zero_le _) rfl).drew
        have HNE : Hid (some gd ≠ some w2.heap.size) := Lib.hid (by intro h; injection h; omega)
        go_region_law (first
          | (refine step_append_any (by rfl) _ _ _ (by rfl) (w.heap.size + 1) 31 i0 (.agg #[.int .i64 0, .int .i64 0, .bool false]) 3 24 Try.underlying39 hi hq0 hq1 hq2 rfl (by decide) (.slice A8 k c8) k (flat (d.take k)) (by rfl) HO8.out ⟨gd, (k + 1) * 3, none⟩ (d.length - (k + 1)) (cv - (k + 1)) (flat (d.drop (k + 1))) (by rfl) (by rw [flat_length, List.length_drop]) HNW2.out (flat_one _) (by unfold maxLen; omega) (by omega) HZ8.out ?_; intro v9 w9 hown9 hg9 _; have HO9 := Lib.hid hown9; have HB9 : Hid (Below w.heap.size w w9) := Lib.hid (HB8.out.grown hg9 hs8 (fun kk hkk => Nat.le_of_succ_le (HO8.out.lt kk hkk).1)); clear hown9 hg9)
          | (refine step_append_any (by rfl) _ _ _ (by rfl) (w.heap.size + 1) 31 i0 (.agg #[.int .i64 0, .int .i64 0, .bool false]) 3 24 Try.underlying39 hi hq0 hq1 hq2 rfl (by decide) (.slice (some ⟨w2.heap.size, 0, none⟩) 0 0) 0 [] (by rfl) HOE.out ⟨gd, 0, none⟩ k cv (flat (d.take k)) (by rfl) (by rw [flat_length, List.length_take, Nat.min_eq_left (by omega)]) HNW1.out (flat_one _) (by unfold maxLen; omega) (by omega) (by show w.heap.size + 1 ≤ (w2.alloc _).heap.size; simp; omega) ?_; intro v8 w8 hown8 hg8 _; rw [Nat.zero_add, List.nil_append] at hown8; have HO81 := Lib.hid (HOA.out.kept hg8 (.inr HNE.out)); have HB8 : Hid (Below w.heap.size w w8) := Lib.hid (HBA.out.grown hg8 (by have := HBA.out.size; omega) (fun k hk => by cases hk; omega)); have hs8 := HB8.out.size; have HZ8 : Hid (w.heap.size + 1 ≤ w8.heap.size) := Lib.hid (Nat.le_trans hg0 (Nat.le_of_lt (HO81.out.lt gd rfl).2)); obtain ⟨A8, c8, rfl⟩ := own_slice hown8; have HO8 := Lib.hid hown8; have HNW2 : Hid (∀ j u, (flat (d.drop (k + 1)))[j]? = some u → w8.cell? ((⟨gd, (k + 1) * 3, none⟩ : Addr).add j) = some u) := Lib.hid (drop_cells HO81.out (by omega)); clear hown8 hg8))
        have HLS : Hid (d.take k ++ d.drop (k + 1) = d.take k ++ d.drop (k + 1)) := Lib.hid rfl
        have HO9' : Hid (w9.ownsRow (w.heap.size + 1) 31 3 v9 (d.take k ++ d.drop (k + 1)).length (flat (d.take k ++ d.drop (k + 1)))) := Lib.hid (by
          rw [flat_append, List.length_append, List.length_take, List.length_drop, Nat.min_eq_left (by omega)]
          exact HO9.out)
        have HC9 := Lib.hid (check_any _ _ _ w9 (IsAt.own HO9'.out) (by rw [List.length_append, List.length_take, List.length_drop]; omega))
        go_wp2_with (first
          | (go_at_call 14; (with_reducible refine HC9.out.mono ?_); rintro e w10 ⟨he, hb⟩; obtain rfl := chk_less HG.out hk he; have HB10 : Hid (Below w.heap.size w w10) := Lib.hid (HB9.out.trans (hb.mono HB9.out.size)); clear he hb)
          | (go_at_call 8; refine (awake_any _).mono ?_; rintro e wc ⟨rfl, hbc⟩))
        go_ret
        exact ⟨rfl, HB10.out.trans (hbc.mono HB10.out.size)⟩

end Go.Proofs.Ytkgomnegeacceaa
