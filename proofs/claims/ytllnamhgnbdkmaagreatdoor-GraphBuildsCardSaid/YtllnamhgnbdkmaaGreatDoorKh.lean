/-
The document's answer for package kind: Right and Show.
-/
import Derived.Test.YtllnamhgnbdkmaaGreatDoorKe
import Derived.Test.YtllnamhgnbdkmaaGreatDoorKt
import Derived.Test.YtllnamhgnbdkmaaGreatDoorOf
import Derived.Deep.RegionHeld3
import Derived.Deep.QuietTactic
import Derived.BigQuiet
namespace Go.Proofs.YtllnamhgnbdkmaaGreatDoor.Knd
open Go.RowKit
def okT (r : Nat) (t : Ty) : Bool := (measureT r t).isSome
theorem measureL_ok (f : Ty → Option Nat) : ∀ (l : List Ty) (m : Nat), (measureL f l m).isSome = l.all (fun a => (f a).isSome)
  | [], m => rfl
  | a :: l, m => by
    simp only [measureL, List.all_cons]
    cases f a with
    | none => rfl
    | some q => simpa using measureL_ok f l _
theorem okT_zero (t : Ty) : okT 0 t = false := rfl
theorem okT_none {r : Nat} {t : Ty} (h : wordK t.kind = none) : okT (r + 1) t = false := by simp [okT, measureT, h]
theorem okT_some {r : Nat} {t : Ty} {x : Wd} (h : wordK t.kind = some x) : okT (r + 1) t = (decide ((t.args.length : Int) = x.args) && t.args.all (okT r)) := by
  simp only [okT, measureT, h]
  by_cases hl : (t.args.length : Int) = x.args
  · have := measureL_ok (measureT r) t.args 0
    simp [hl, this]
    rfl
  · simp [hl]
theorem word_q {k : Int} {s : ByteArray} (h : wordStr k = s) (w : World) (n : Nat) : Calls Tryz.prog 94 #[.int .i64 k] (w.drewN n) fun e w'' => e = .returned (.string s) ∧ ∃ m, w'' = w.drewN m := by
  subst h
  exact (word_any k _).mono fun _ _ ⟨he, hm⟩ => ⟨he, n, hm.symm⟩
theorem count_q {k : Int} {s : Int} (h : countK k = s) (w : World) (n : Nat) : Calls Tryz.prog 95 #[.int .i64 k] (w.drewN n) fun e w'' => e = .returned (.int .i64 s) ∧ ∃ m, w'' = w.drewN m := by
  subst h
  exact (count_any k _).mono fun _ _ ⟨he, hm⟩ => ⟨he, n, hm.symm⟩
set_option maxRecDepth 100000 in
set_option maxHeartbeats 1000000 in
theorem rright_any : ∀ (r d n : Nat) (S : Nat → Prop) (v : Value) (t : Ty) (w : World), r ≤ 6 → Nar n t → TyAt w S d v t →
    Calls Tryz.prog 71 #[v, .int .i64 r] w fun e w' => e = .returned (.bool (okT r t)) ∧ Below w.heap.size w w'
  | r, 0, n, S, v, t, w, _, _, hT => hT.elim
  | r, d + 1, 0, S, v, t, w, _, hN, _ => hN.elim
  | 0, d + 1, n + 1, S, v, t, w, _, hN, hT => by
    obtain ⟨A, c, rfl⟩ := hT.form
    rw [okT_zero]
    have hb1 := (Below.refl w.heap.size w).alloc (Nat.le_refl _) (.cells #[.int .i64 t.kind, .slice A t.args.length c] 45)
    clear hN hT
    go_enter Tryz.func71, Tryz.ntmps71
    go_wp2_with (fail)
    go_quiet (fail)
    go_wp2_with (fail)
    go_ret
    exact ⟨rfl, below_drewN hb1 _⟩
  | r + 1, d + 1, n + 1, S, v, t, w, hr6, hN, hT => by
    obtain ⟨hlen, hall⟩ := hN
    have IH := rright_any r d n S
    have HIH := Lib.hid IH
    have HALL := Lib.hid hall
    obtain ⟨A, c, rfl, hlc, hA⟩ := hT
    have HA := Lib.hid hA
    have hb1 := (Below.refl w.heap.size w).alloc (Nat.le_refl _) (.cells #[.int .i64 t.kind, .slice A t.args.length c] 45)
    have hn1 := heap_alloc_new w (.cells #[.int .i64 t.kind, .slice A t.args.length c] 45)
    have hb0 : (((r : Int) + 1) == 0) = false := by simp; omega
    clear hA IH hall
    rw [show ((r + 1 : Nat) : Int) = (r : Int) + 1 by omega]
    cases hw : wordK t.kind with
    | none =>
      have HO : Hid (okT (r + 1) t = false) := okT_none hw
      have HWS : Hid (wordStr t.kind = ⟨#[]⟩) := by show _ = _; simp only [wordStr, hw]; rfl
      clear hw
      go_enter Tryz.func71, Tryz.ntmps71
      go_wp2_with (fail)
      go_quiet ((go_at_call 94; exact word_q HWS.out _ _))
      go_wp2_with (fail)
      go_ret
      rw [HO.out]
      exact ⟨rfl, below_drewN hb1 _⟩
    | some x =>
      have hxw := wordK_mem hw
      have HO : Hid (okT (r + 1) t = (decide ((t.args.length : Int) = x.args) && t.args.all (okT r))) := okT_some hw
      have HWS : Hid (wordStr t.kind = x.name) := by show _ = _; simp only [wordStr, hw]; rfl
      have HXC : Hid (countK t.kind = x.args) := by show _ = _; rw [words_count x hxw.1, hxw.2]
      have hne1 := words_names x hxw.1
      have hne2 : x.name.toList.isEmpty = false := by simpa using hne1
      have hxa := words_args x hxw.1
      clear hw hxw
      by_cases hl : (t.args.length : Int) = x.args
      · have hlb : ((t.args.length : Int) != x.args) = false := by simp [hl]
        go_enter Tryz.func71, Tryz.ntmps71
        go_wp2_with (fail)
        go_quiet ((first | (go_at_call 94; exact word_q HWS.out _ _) | (go_at_call 95; exact count_q HXC.out _ _)))
        go_wp2_with (fail)
        generalize hwN : (w.alloc (.cells #[.int .i64 t.kind, .slice A t.args.length c] 45)).drewN _ = wN
        obtain ⟨hbN, hnN⟩ : Below w.heap.size w wN ∧ wN.heap[w.heap.size]? = some (.cells #[.int .i64 t.kind, .slice A t.args.length c] 45 (0, 0)) := by
          subst hwN
          exact ⟨below_drewN hb1 _, hn1⟩
        have hzN := cell_lt hnN
        have HL := Lib.hid hl
        clear hb1 hn1 hwN hl
        go_loopw [5] (fun i wr => ∃ j : Nat, i = .int .i64 j ∧ j ≤ t.args.length ∧ Hid (t.args.all (okT r) = (t.args.drop j).all (okT r)) ∧ Below w.heap.size w wr ∧ w.heap.size < wr.heap.size ∧ wr.heap[w.heap.size]? = some (.cells #[.int .i64 t.kind, .slice A t.args.length c] 45 (0, 0))) (fun i _ => 6000 - (intOf i).toNat)
        case atStart => exact ⟨0, rfl, by omega, by show _ = _; rw [List.drop_zero], hbN, hzN, hnN⟩
        case round =>
          obtain ⟨j, rfl, hj, HE, hbr, hsz, hy0⟩ := hrel
          have c0 := cell2_0 hy0
          have c1 := cell2_1 hy0
          by_cases hlt : j < t.args.length
          · obtain ⟨b1, o, rfl, hSb, hcells⟩ := HA.out (by omega)
            obtain ⟨B1, k1, h0, h1, h2, hbl⟩ := arg_cells hcells hlt
            have g0 := (hbr.cell (p := ⟨b1, o + j * 2, none⟩) hbl).trans h0
            have g1 := (hbr.cell (p := ⟨b1, o + j * 2 + 1, none⟩) hbl).trans h1
            have hna := HALL.out _ (List.getElem_mem hlt)
            have hd : t.args.drop j = t.args[j] :: t.args.drop (j + 1) := List.drop_eq_getElem_cons hlt
            generalize t.args[j] = x at *
            have HD := Lib.hid hd
            have H2 := Lib.hid (h2.below hbr)
            have HNA := Lib.hid hna
            clear h0 h1 h2 hd hna hcells
            go_wp2_with (fail)
            refine (HIH.out _ x wr (by omega) HNA.out H2.out).mono ?_
            rintro e w3 ⟨rfl, hb3⟩
            have hb4 := hbr.trans (hb3.mono hbr.size)
            have hs3 := hb3.size
            have hy0' := (hb3.block w.heap.size (by omega)).trans hy0
            cases hxy : okT r x with
            | false =>
              have HF2 : Hid (t.args.all (okT r) = false) := by show _ = _; rw [HE.out, HD.out]; simp only [List.all_cons, hxy, Bool.false_and]
              clear hxy
              go_wp2_with (fail)
              go_ret
              rw [HO.out, HF2.out, Bool.and_false]
              exact ⟨rfl, hb4⟩
            | true =>
              have HF2 : Hid (t.args.all (okT r) = (t.args.drop (j + 1)).all (okT r)) := by show _ = _; rw [HE.out, HD.out]; simp only [List.all_cons, hxy, Bool.true_and]
              clear hxy
              go_wp2_with (fail)
              go_roundw
              case rel => exact ⟨j + 1, by go_num, by omega, HF2, hb4, by omega, hy0'⟩
              case measure => simp [intOf]; omega
          · go_wp2_with (fail)
            have HF2 : Hid (t.args.all (okT r) = true) := by
              show _ = _
              rw [HE.out, List.drop_of_length_le (by omega)]
              rfl
            go_ret
            rw [HO.out, HF2.out, Bool.and_true, show decide ((t.args.length : Int) = x.args) = true by simp [HL.out]]
            exact ⟨rfl, hbr⟩
      · have hlb : ((t.args.length : Int) != x.args) = true := by simp [hl]
        go_enter Tryz.func71, Tryz.ntmps71
        go_wp2_with (fail)
        go_quiet ((first | (go_at_call 94; exact word_q HWS.out _ _) | (go_at_call 95; exact count_q HXC.out _ _)))
        go_wp2_with (fail)
        go_ret
        rw [HO.out]
        rw [show decide ((t.args.length : Int) = x.args) = false by simp [hl]]
        exact ⟨rfl, below_drewN hb1 _⟩
end Go.Proofs.YtllnamhgnbdkmaaGreatDoor.Knd
