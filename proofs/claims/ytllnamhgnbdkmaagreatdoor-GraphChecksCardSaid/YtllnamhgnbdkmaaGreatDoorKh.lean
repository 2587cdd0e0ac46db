/-
The document's answer for package kind: Word, Count, begins. The document's answer for package kind: Right and Show.
-/
import Derived.Test.YtllnamhgnbdkmaaGreatDoorKd
import Derived.Test.YtllnamhgnbdkmaaGreatDoorKt
import Derived.Test.YtllnamhgnbdkmaaGreatDoorOf
import Derived.Test.YtllnamhgnbdkmaaGreatDoorFt
import Derived.Deep.RegionHeld3
import Derived.Deep.QuietTactic
import Derived.BigQuiet
namespace Go.Proofs.YtllnamhgnbdkmaaGreatDoor.Knd
open Go.RowKit

theorem infoRT : (Tryz.prog.info? 45).map (fun i => (i.zero, i.size, i.bytes)) = some (some (.agg #[.int .i64 0, .slice none 0 0]), 2, 32) := by kernel_rfl

def wordStr (k : Int) : ByteArray := ((wordK k).map (·.name)).getD ⟨#[]⟩
def countK (k : Int) : Int := if k = 6 then 2 else if k = 7 then 1 else if k = 9 then 1 else 0

theorem word_cases (k : Int) : (k = 1 ∨ k = 2 ∨ k = 3 ∨ k = 4 ∨ k = 5 ∨ k = 6 ∨ k = 7 ∨ k = 9) ∨ (k ≠ 1 ∧ k ≠ 2 ∧ k ≠ 3 ∧ k ≠ 4 ∧ k ≠ 5 ∧ k ≠ 6 ∧ k ≠ 7 ∧ k ≠ 9) := by omega

theorem wordStr_other {k : Int} (h : k ≠ 1 ∧ k ≠ 2 ∧ k ≠ 3 ∧ k ≠ 4 ∧ k ≠ 5 ∧ k ≠ 6 ∧ k ≠ 7 ∧ k ≠ 9) : wordK k = none := by
  unfold wordK
  rw [List.find?_eq_none]
  intro x hx
  simp only [words, List.mem_cons, List.not_mem_nil, or_false] at hx
  rcases hx with rfl | rfl | rfl | rfl | rfl | rfl | rfl | rfl <;> simp [w1, w2, w3, w4, w5, w6, w7, w9] <;> omega

set_option maxRecDepth 100000 in
set_option maxHeartbeats 400000 in
theorem word_any (k : Int) (w : World) : Calls Tryz.prog 94 #[.int .i64 k] w fun e w' => e = .returned (.string (wordStr k)) ∧ w = w' := by
  rcases word_cases k with (rfl | rfl | rfl | rfl | rfl | rfl | rfl | rfl) | h
  · go_enter Tryz.func94, Tryz.ntmps94; go_wp2_with (fail); go_ret; exact ⟨rfl, rfl⟩
  · go_enter Tryz.func94, Tryz.ntmps94; go_wp2_with (fail); go_ret; exact ⟨rfl, rfl⟩
  · go_enter Tryz.func94, Tryz.ntmps94; go_wp2_with (fail); go_ret; exact ⟨rfl, rfl⟩
  · go_enter Tryz.func94, Tryz.ntmps94; go_wp2_with (fail); go_ret; exact ⟨rfl, rfl⟩
  · go_enter Tryz.func94, Tryz.ntmps94; go_wp2_with (fail); go_ret; exact ⟨rfl, rfl⟩
  · go_enter Tryz.func94, Tryz.ntmps94; go_wp2_with (fail); go_ret; exact ⟨rfl, rfl⟩
  · go_enter Tryz.func94, Tryz.ntmps94; go_wp2_with (fail); go_ret; exact ⟨rfl, rfl⟩
  · go_enter Tryz.func94, Tryz.ntmps94; go_wp2_with (fail); go_ret; exact ⟨rfl, rfl⟩
  · have HW : Hid (wordStr k = ⟨#[]⟩) := by show _ = _; simp only [wordStr, wordStr_other h]; rfl
    obtain ⟨h1, h2, h3, h4, h5, h6, h7, h9⟩ := h
    have g1 : (k == 1) = false := by simp [h1]
    have g2 : (k == 2) = false := by simp [h2]
    have g3 : (k == 3) = false := by simp [h3]
    have g4 : (k == 4) = false := by simp [h4]
    have g5 : (k == 5) = false := by simp [h5]
    have g6 : (k == 6) = false := by simp [h6]
    have g7 : (k == 7) = false := by simp [h7]
    have g9 : (k == 9) = false := by simp [h9]
    clear h1 h2 h3 h4 h5 h6 h7 h9
    go_enter Tryz.func94, Tryz.ntmps94
    go_wp2_with (fail)
    go_ret
    rw [HW.out]
    exact ⟨rfl, rfl⟩

set_option maxRecDepth 100000 in
theorem count_any (k : Int) (w : World) : Calls Tryz.prog 95 #[.int .i64 k] w fun e w' => e = .returned (.int .i64 (countK k)) ∧ w = w' := by
  by_cases h6 : k = 6
  · subst h6
    go_enter Tryz.func95, Tryz.ntmps95; go_wp2_with (fail); go_ret; exact ⟨rfl, rfl⟩
  · by_cases h7 : k = 7
    · subst h7
      go_enter Tryz.func95, Tryz.ntmps95; go_wp2_with (fail); go_ret; exact ⟨rfl, rfl⟩
    · by_cases h9 : k = 9
      · subst h9
        go_enter Tryz.func95, Tryz.ntmps95; go_wp2_with (fail); go_ret; exact ⟨rfl, rfl⟩
      · have HC : Hid (countK k = 0) := by show _ = _; simp only [countK, if_neg h6, if_neg h7, if_neg h9]
        have g6 : (k == 6) = false := by simp [h6]
        have g7 : (k == 7) = false := by simp [h7]
        have g9 : (k == 9) = false := by simp [h9]
        clear h6 h7 h9
        go_enter Tryz.func95, Tryz.ntmps95
        go_wp2_with (fail)
        go_ret
        rw [HC.out]
        exact ⟨rfl, rfl⟩
theorem words_count : ∀ x ∈ words, x.args = countK x.kind := by decide

theorem words_names : ∀ x ∈ words, x.name.toList ≠ [] := by
  intro x hx h
  have h2 := (words_small x hx).1
  have h3 : x.name.toList.length = x.name.size := by rw [Lib.toList_data]; simp
  rw [h] at h3
  simp at h3
  omega

end Go.Proofs.YtllnamhgnbdkmaaGreatDoor.Knd
namespace Go.Proofs.YtllnamhgnbdkmaaGreatDoor.Knd
open Go.RowKit

def okT (r : Nat) (t : Ty) : Bool := (measureT r t).isSome
theorem measureL_ok (f : Ty → Option Nat) : ∀ (l : List Ty) (m : Nat), (measureL f l m).isSome = l.all (fun a => (f a).isSome)
  | [], m => rfl
  | a :: l, m => by
    simp only [measureL, List.all_cons]
    cases f a with
    | none => rfl
    | some q => simpa using measureL_ok f l _
theorem okT_zero (t : Ty) : okT 0 t = false := rfl
theorem okT_none {r : Nat} {t : Ty} (h : wordK t.kind = none) : okT (r + 1) t = false := by simp [okT, measureT, h]
theorem okT_some {r : Nat} {t : Ty} {x : Wd} (h : wordK t.kind = some x) : okT (r + 1) t = (decide ((t.args.length : Int) = x.args) && t.args.all (okT r)) := by
  simp only [okT, measureT, h]
  by_cases hl : (t.args.length : Int) = x.args
  · have := measureL_ok (measureT r) t.args 0
    simp [hl, this]
    rfl
  · simp [hl]

theorem word_q {k : Int} {s : ByteArray} (h : wordStr k = s) (w : World) (n : Nat) : Calls Tryz.prog 94 #[.int .i64 k] (w.drewN n) fun e w'' => e = .returned (.string s) ∧ ∃ m, w'' = w.drewN m := by
  subst h
  exact (word_any k _).mono fun _ _ ⟨he, hm⟩ => ⟨he, n, hm.symm⟩
theorem count_q {k : Int} {s : Int} (h : countK k = s) (w : World) (n : Nat) : Calls Tryz.prog 95 #[.int .i64 k] (w.drewN n) fun e w'' => e = .returned (.int .i64 s) ∧ ∃ m, w'' = w.drewN m := by
  subst h
  exact (count_any k _).mono fun _ _ ⟨he, hm⟩ => ⟨he, n, hm.symm⟩

set_option maxRecDepth 100000 in
set_option maxHeartbeats 1000000 in
theorem rright_any : ∀ (r d n : Nat) (S : Nat → Prop) (v : Value) (t : Ty) (w : World), r ≤ 6 → Nar n t → TyAt w S d v t →
    Calls Tryz.prog 71 #[v, .int .i64 r] w fun e w' => e = .returned (.bool (okT r t)) ∧ Below w.heap.size w w'
  | r, 0, n, S, v, t, w, _, _, hT => hT.elim
  | r, d + 1, 0, S, v, t, w, _, hN, _ => hN.elim
  | 0, d + 1, n + 1, S, v, t, w, _, hN, hT => by
    obtain ⟨A, c, rfl⟩ := hT.form
    rw [okT_zero]
    have hb1 := (Below.refl w.heap.size w).alloc (Nat.le_refl _) (.cells #[.int .i64 t.kind, .slice A t.args.length c] 45)
    clear hN hT
    go_enter Tryz.func71, Tryz.ntmps71
    go_wp2_with (fail)
    go_quiet (fail)
    go_wp2_with (fail)
    go_ret
    exact ⟨rfl, below_drewN hb1 _⟩
  | r + 1, d + 1, n + 1, S, v, t, w, hr6, hN, hT => by
    obtain ⟨hlen, hall⟩ := hN
    have IH := rright_any r d n S
    have HIH := Lib.hid IH
    have HALL := Lib.hid hall
    obtain ⟨A, c, rfl, hlc, hA⟩ := hT
    have HA := Lib.hid hA
    have hb1 := (Below.refl w.heap.size w).alloc (Nat.le_refl _) (.cells #[.int .i64 t.kind, .slice A t.args.length c] 45)
    have hn1 := heap_alloc_new w (.cells #[.int .i64 t.kind, .slice A t.args.length c] 45)
    have hb0 : (((r : Int) + 1) == 0) = false := by simp; omega
    clear hA IH hall
    rw [show ((r + 1 : Nat) : Int) = (r : Int) + 1 by omega]
    cases hw : wordK t.kind with
    | none =>
      have HO : Hid (okT (r + 1) t = false) := okT_none hw
      have HWS : Hid (wordStr t.kind = ⟨#[]⟩) := by show _ = _; simp only [wordStr, hw]; rfl
      clear hw
      go_enter Tryz.func71, Tryz.ntmps71
      go_wp2_with (fail)
      go_quiet ((go_at_call 94; exact word_q HWS.out _ _))
      go_wp2_with (fail)
      go_ret
      rw [HO.out]
      exact ⟨rfl, below_drewN hb1 _⟩
    | some x =>
      have hxw := wordK_mem hw
      have HO : Hid (okT (r + 1) t = (decide ((t.args.length : Int) = x.args) && t.args.all (okT r))) := okT_some hw
      have HWS : Hid (wordStr t.kind = x.name) := by show _ = _; simp only [wordStr, hw]; rfl
      have HXC : Hid (countK t.kind = x.args) := by show _ = _; rw [words_count x hxw.1, hxw.2]
      have hne1 := words_names x hxw.1
      have hne2 : x.name.toList.isEmpty = false := by simpa using hne1
      have hxa := words_args x hxw.1
      clear hw hxw
      by_cases hl : (t.args.length : Int) = x.args
      · have hlb : ((t.args.length : Int) != x.args) = false := by simp [hl]
        go_enter Tryz.func71, Tryz.ntmps71
        go_wp2_with (fail)
        go_quiet ((first | (go_at_call 94; exact word_q HWS.out _ _) | (go_at_call 95; exact count_q HXC.out _ _)))
        go_wp2_with (fail)
        generalize hwN : (w.alloc (.cells #[.int .i64 t.kind, .slice A t.args.length c] 45)).drewN _ = wN
        obtain ⟨hbN, hnN⟩ : Below w.heap.size w wN ∧ wN.heap[w.heap.size]? = some (.cells #[.int .i64 t.kind, .slice A t.args.length c] 45 (0, 0)) := by
          subst hwN
          exact ⟨below_drewN hb1 _, hn1⟩
        have hzN := cell_lt hnN
        have HL := Lib.hid hl
        clear hb1 hn1 hwN hl
        go_loopw [5] (fun i wr => ∃ j : Nat, i = .int .i64 j ∧ j ≤ t.args.length ∧ Hid (t.args.all (okT r) = (t.args.drop j).all (okT r)) ∧ Below w.heap.size w wr ∧ w.heap.size < wr.heap.size ∧ wr.heap[w.heap.size]? = some (.cells #[.int .i64 t.kind, .slice A t.args.length c] 45 (0, 0))) (fun i _ => 6000 - (intOf i).toNat)
        case atStart => exact ⟨0, rfl, by omega, by show _ = _; rw [List.drop_zero], hbN, hzN, hnN⟩
        case round =>
          obtain ⟨j, rfl, hj, HE, hbr, hsz, hy0⟩ := hrel
          have c0 := cell2_0 hy0
          have c1 := cell2_1 hy0
          by_cases hlt : j < t.args.length
          · obtain ⟨b1, o, rfl, hSb, hcells⟩ := HA.out (by omega)
            obtain ⟨B1, k1, h0, h1, h2, hbl⟩ := arg_cells hcells hlt
            have g0 := (hbr.cell (p := ⟨b1, o + j * 2, none⟩) hbl).trans h0
            have g1 := (hbr.cell (p := ⟨b1, o + j * 2 + 1, none⟩) hbl).trans h1
            have hna := HALL.out _ (List.getElem_mem hlt)
            have hd : t.args.drop j = t.args[j] :: t.args.drop (j + 1) := List.drop_eq_getElem_cons hlt
            generalize t.args[j] = x at *
            have HD := Lib.hid hd
            have H2 := Lib.hid (h2.below hbr)
            have HNA := Lib.hid hna
            clear h0 h1 h2 hd hna hcells
            go_wp2_with (fail)
            refine (HIH.out _ x wr (by omega) HNA.out H2.out).mono ?_
            rintro e w3 ⟨rfl, hb3⟩
            have hb4 := hbr.trans (hb3.mono hbr.size)
            have hs3 := hb3.size
            have hy0' := (hb3.block w.heap.size (by omega)).trans hy0
            cases hxy : okT r x with
            | false =>
              have HF2 : Hid (t.args.all (okT r) = false) := by show _ = _; rw [HE.out, HD.out]; simp only [List.all_cons, hxy, Bool.false_and]
              clear hxy
              go_wp2_with (fail)
              go_ret
              rw [HO.out, HF2.out, Bool.and_false]
              exact ⟨rfl, hb4⟩
            | true =>
              have HF2 : Hid (t.args.all (okT r) = (t.args.drop (j + 1)).all (okT r)) := by show _ = _; rw [HE.out, HD.out]; simp only [List.all_cons, hxy, Bool.true_and]
              clear hxy
              go_wp2_with (fail)
              go_roundw
              case rel => exact ⟨j + 1, by go_num, by omega, HF2, hb4, by omega, hy0'⟩
              case measure => simp [intOf]; omega
          · go_wp2_with (fail)
            have HF2 : Hid (t.args.all (okT r) = true) := by
              show _ = _
              rw [HE.out, List.drop_of_length_le (by omega)]
              rfl
            go_ret
            rw [HO.out, HF2.out, Bool.and_true, show decide ((t.args.length : Int) = x.args) = true by simp [HL.out]]
            exact ⟨rfl, hbr⟩
      · have hlb : ((t.args.length : Int) != x.args) = true := by simp [hl]
        go_enter Tryz.func71, Tryz.ntmps71
        go_wp2_with (fail)
        go_quiet ((first | (go_at_call 94; exact word_q HWS.out _ _) | (go_at_call 95; exact count_q HXC.out _ _)))
        go_wp2_with (fail)
        go_ret
        rw [HO.out]
        rw [show decide ((t.args.length : Int) = x.args) = false by simp [hl]]
        exact ⟨rfl, below_drewN hb1 _⟩

/-- The text ahead of Arg j, and what stands ahead of it. -/
def preT (f : Ty → List UInt8) (x : Wd) (l : List Ty) (j : Nat) : List UInt8 := x.name.data.toList ++ (if j = 0 then [40] else textL f (l.take j) 0)

theorem preT_first {f : Ty → List UInt8} {x : Wd} {l : List Ty} {a : Ty} {u : List UInt8} (hd : l.take (0 + 1) = l.take 0 ++ [a]) (hE : u = preT f x l 0) : u ++ f a = preT f x l (0 + 1) := by
  subst hE
  simp at hd
  simp [preT, hd, textL, aheadB]
theorem preT_more {f : Ty → List UInt8} {x : Wd} {l : List Ty} {a : Ty} {j : Nat} {u : List UInt8} (hj : 0 < j) (hl : j ≤ l.length) (hd : l.take (j + 1) = l.take j ++ [a]) (hE : u = preT f x l j) : (u ++ [44]) ++ f a = preT f x l (j + 1) := by
  subst hE
  have h1 : j ≠ 0 := by omega
  have h2 : (l.take j).length = j := by rw [List.length_take]; omega
  simp only [preT, if_neg h1, if_neg (Nat.succ_ne_zero j), hd, textL_snoc, h2, Nat.zero_add, aheadB, List.append_assoc, List.singleton_append]
theorem preT_end {f : Ty → List UInt8} {x : Wd} {l : List Ty} {j : Nat} {u : List UInt8} (hj : 0 < j) (hl : j = l.length) (hE : u = preT f x l j) : u ++ [41] = x.name.data.toList ++ textL f l 0 ++ [41] := by
  subst hE
  have h1 : j ≠ 0 := by omega
  rw [preT, if_neg h1, hl, List.take_length]

set_option maxRecDepth 100000 in
set_option maxHeartbeats 1000000 in
theorem rshow_any : ∀ (r d q : Nat) (S : Nat → Prop) (v : Value) (t : Ty) (w : World), r ≤ 6 → measureT r t = some q → TyAt w S d v t →
    Calls Tryz.prog 80 #[v] w fun e w' => e = .returned (.string ⟨(textT r t).toArray⟩) ∧ Below w.heap.size w w'
  | r, 0, q, S, v, t, w, _, _, hT => hT.elim
  | 0, d + 1, q, S, v, t, w, _, hm, hT => by simp [measureT] at hm
  | r + 1, d + 1, q, S, v, t, w, hr6, hm, hT => by
    obtain ⟨x, hw, hxa, hxw, hall⟩ := measure_right hm
    have hx2 := words_args x hxw
    have hx6 := (words_small x hxw).2
    have hlen : t.args.length ≤ 2 := by omega
    have hws : wordStr t.kind = x.name := by simp only [wordStr, hw]; rfl
    have HWS := Lib.hid hws
    have HTX : Hid (textT (r + 1) t = x.name.data.toList ++ textL (textT r) t.args 0 ++ (if 0 < t.args.length then [41] else [])) := by show _ = _; simp only [textT, hw]; rfl
    have IH := rshow_any r d
    have HIH := Lib.hid IH
    have HALL := Lib.hid hall
    obtain ⟨A, c, rfl, hlc, hA⟩ := hT
    have HA := Lib.hid hA
    have hb1 := (Below.refl w.heap.size w).alloc (Nat.le_refl _) (.cells #[.int .i64 t.kind, .slice A t.args.length c] 45)
    have hn1 := heap_alloc_new w (.cells #[.int .i64 t.kind, .slice A t.args.length c] 45)
    have hz1 := cell_lt hn1
    clear hA IH hall hm hxa hx2 hxw hw hws
    by_cases hl0 : t.args.length = 0
    · go_enter Tryz.func80, Tryz.ntmps80
      go_wp2_with (fail)
      refine (word_any t.kind _).mono ?_
      rw [HWS.out]
      rintro e w2 ⟨rfl, rfl⟩
      go_wp2_with (fail)
      refine bodyPost_ret (v := .string x.name) (by simp [results, Tryz.results80, go_sem]) rfl ?_
      rw [HTX.out, if_neg (by omega), List.length_eq_zero_iff.1 hl0]
      exact ⟨by simp [textL], by rw [hl0] at hb1; exact hb1⟩
    · have hns : ¬ 9223372036854775807 < x.name.size + 1 := by omega
      have hl0b : ((t.args.length : Int) == 0) = false := beq_eq_false_iff_ne.2 (by omega)
      go_enter Tryz.func80, Tryz.ntmps80
      go_wp2_with (fail)
      refine (word_any t.kind _).mono ?_
      rw [HWS.out]
      rintro e w2 ⟨rfl, rfl⟩
      go_wp2_with (fail)
      go_loopw [3, 4] (fun sv i wr => ∃ (j : Nat) (u : ByteArray), i = .int .i64 j ∧ sv = .string u ∧ j ≤ t.args.length ∧ Hid (u.data.toList = preT (textT r) x t.args j) ∧ u.size ≤ 10 + 600 * j ∧ Below w.heap.size w wr ∧ w.heap.size < wr.heap.size ∧ wr.heap[w.heap.size]? = some (.cells #[.int .i64 t.kind, .slice A t.args.length c] 45 (0, 0))) (fun _ i _ => 6000 - (intOf i).toNat)
      case atStart => exact ⟨0, _, rfl, rfl, by omega, by show _ = _; simp [preT], by rw [ByteArray.size_append]; have : (ByteArray.mk #[40]).size = 1 := rfl; omega, hb1, hz1, hn1⟩
      case round =>
        obtain ⟨j, u, rfl, rfl, hj, HE, hub, hbr, hsz, hy0⟩ := hrel
        have c0 := cell2_0 hy0
        have c1 := cell2_1 hy0
        have hn1 : ¬ 9223372036854775807 < u.size + 1 := by omega
        by_cases hlt : j < t.args.length
        · obtain ⟨b1, o, rfl, hSb, hcells⟩ := HA.out (by omega)
          obtain ⟨B1, k1, h0, h1, h2, hbl⟩ := arg_cells hcells hlt
          have g0 := (hbr.cell (p := ⟨b1, o + j * 2, none⟩) hbl).trans h0
          have g1 := (hbr.cell (p := ⟨b1, o + j * 2 + 1, none⟩) hbl).trans h1
          have hd : t.args.take (j + 1) = t.args.take j ++ [t.args[j]] := by rw [List.take_succ_eq_append_getElem hlt]
          have hq := HALL.out _ (List.getElem_mem hlt)
          generalize t.args[j] = x1 at *
          obtain ⟨qx, hqx⟩ := hq
          have hsm := textT_small _ _ _ hqx
          have HQ := Lib.hid hqx
          have HD := Lib.hid hd
          have H2 := Lib.hid (h2.below hbr)
          clear h0 h1 h2 hd hcells hqx
          by_cases hj0 : 0 < j
          · have hdj : decide ((0 : Int) < (j : Int)) = true := by simp; omega
            go_wp2_with (fail)
            have hu2z : (u ++ (⟨#[44]⟩ : ByteArray)).size = u.size + 1 := by rw [ByteArray.size_append]; rfl
            have HU2 : Hid ((u ++ (⟨#[44]⟩ : ByteArray)).data.toList = u.data.toList ++ [44]) := by show _ = _; simp
            generalize u ++ (⟨#[44]⟩ : ByteArray) = u2 at *
            refine (HIH.out _ _ _ x1 wr (by omega) HQ.out H2.out).mono ?_
            obtain ⟨s2, hs2⟩ : ∃ s2 : ByteArray, s2 = ⟨(textT r x1).toArray⟩ := ⟨_, rfl⟩
            have HS2 : Hid (s2.data.toList = textT r x1) := by show _ = _; rw [hs2]
            have hz2 : s2.size ≤ 279 := by
              have h3 : s2.size = (textT r x1).length := by rw [hs2]; rfl
              have h4 : 2 ^ r ≤ 2 ^ 5 := Nat.pow_le_pow_right (by omega) (by omega)
              omega
            rw [← hs2]
            clear hs2
            rintro e w3 ⟨rfl, hb3⟩
            have hb4 := hbr.trans (hb3.mono hbr.size)
            have hs3 := hb3.size
            have hy0' := (hb3.block w.heap.size (by omega)).trans hy0
            have hn3 : ¬ 9223372036854775807 < u2.size + s2.size := by omega
            go_wp2_with (fail)
            go_roundw
            case rel => exact ⟨j + 1, _, by go_num, rfl, by omega, by show _ = _; rw [← preT_more hj0 hj HD.out HE.out, ← HU2.out, ← HS2.out]; simp, by rw [ByteArray.size_append]; omega, hb4, by omega, hy0'⟩
            case measure => simp [intOf]; omega
          · have hdj : decide ((0 : Int) < (j : Int)) = false := by simp; omega
            go_wp2_with (fail)
            refine (HIH.out _ _ _ x1 wr (by omega) HQ.out H2.out).mono ?_
            obtain ⟨s2, hs2⟩ : ∃ s2 : ByteArray, s2 = ⟨(textT r x1).toArray⟩ := ⟨_, rfl⟩
            have HS2 : Hid (s2.data.toList = textT r x1) := by show _ = _; rw [hs2]
            have hz2 : s2.size ≤ 279 := by
              have h3 : s2.size = (textT r x1).length := by rw [hs2]; rfl
              have h4 : 2 ^ r ≤ 2 ^ 5 := Nat.pow_le_pow_right (by omega) (by omega)
              omega
            rw [← hs2]
            clear hs2
            rintro e w3 ⟨rfl, hb3⟩
            have hb4 := hbr.trans (hb3.mono hbr.size)
            have hs3 := hb3.size
            have hy0' := (hb3.block w.heap.size (by omega)).trans hy0
            have hn3 : ¬ 9223372036854775807 < u.size + s2.size := by omega
            go_wp2_with (fail)
            go_roundw
            case rel => exact ⟨j + 1, _, by go_num, rfl, by omega, by
              show _ = _
              have hjz : j = 0 := by omega
              have hD := HD.out
              have hE := HE.out
              rw [hjz] at hD hE ⊢
              rw [← preT_first hD hE, ← HS2.out]; simp, by rw [ByteArray.size_append]; omega, hb4, by omega, hy0'⟩
            case measure => simp [intOf]; omega
        · go_wp2_with (fail)
          refine bodyPost_ret (v := .string (u ++ (⟨#[41]⟩ : ByteArray))) (by simp [results, Tryz.results80, go_sem]) rfl ?_
          have hU : u ++ (⟨#[41]⟩ : ByteArray) = ⟨(textT (r + 1) t).toArray⟩ := by
            rw [HTX.out, if_pos (by omega), ← preT_end (by omega) (by omega) HE.out]
            apply ByteArray.ext
            apply Array.ext'
            simp
          rw [hU]
          exact ⟨rfl, hbr⟩
end Go.Proofs.YtllnamhgnbdkmaaGreatDoor.Knd
